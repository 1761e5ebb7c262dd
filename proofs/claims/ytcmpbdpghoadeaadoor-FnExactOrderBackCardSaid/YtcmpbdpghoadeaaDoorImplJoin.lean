/- The program's OrderJoin. -/
import Derived.Test.YtcmpbdpghoadeaaDoorImplLeast
import Derived.Test.YtcmpbdpghoadeaaDoorSpecJoin
namespace Go.Proofs.YtcmpbdpghoadeaaDoor
open Go.RowKit Go.Deep Go.Shelf

theorem Ok.lt200 {rows : List (List Int)} (h : Ok rows) {i k : Nat} (hk : (gridF rows i).testBit k = true) : k < 200 := by
  have := (h.bit_lt hk).2
  have := h.len
  omega

set_option maxHeartbeats 4000000 in
theorem implJoin_any (v : Value) (rows : Rows2) (a b : Int) (w : World) (hv : RowsAt w v rows) (hT : Tab w) (hn : bulk rows ≤ 1048576) :
    Calls Tryd.prog 22 #[.agg #[v], .int .i64 a, .int .i64 b] w (SaysI (joinB rows a b) w) := by
  have hH := Held.start w 27 hv
  have hT1 := hT.below ((Below.refl _ w).alloc (Nat.le_refl _) (.cells #[v] 27))
  have hcall := fun t h => gridOf_t v rows _ hH.2.1 hT1 hn (t := t) h
  have hz := (zero_of_info zeroGrid).1
  obtain ⟨A, C, rfl, _⟩ := hv
  have HH := Lib.hid hH
  have HT := Lib.hid hT1
  clear hH hT hT1
  cases hval : validB rows with
  | false =>
    have hc := hcall false hval
    have e : joinB rows a b = -1 := by unfold joinB hasB; rw [hval]; rfl
    rw [e]
    clear hval hcall e
    go_enter Tryd.func22, Tryd.ntmps22
    go_wp2_with (first | (go_at_call 52; refine hc.mono ?_; clear hc; rintro e w1 ⟨⟨g, hg, rfl⟩, hb1⟩; have HG := Lib.hid hg; have H1 := Lib.hid (HH.out.below hb1); clear hg hb1) | (refine wpList_store_row rfl 54 (.tmp 7) (.tmp 12) rfl w1.heap.size (gridCells g) rfl rfl 54 (gridCells fun _ => 0) (store_new w1).1 (by rw [gridCells_size]; exact sizeGrid) (by rw [gridCells_size, gridCells_size]) (gridCells_one _) ?_))
    go_ret
    exact ⟨rfl, (H1.out.below (newGrid_below g w1)).2.2.1⟩
  | true =>
    have hok := ok_of_valid hval
    have hc := hcall true hval
    by_cases ha : 0 ≤ a ∧ a < rows.length
    · by_cases hb : 0 ≤ b ∧ b < rows.length
      · obtain ⟨an, rfl⟩ : ∃ an : Nat, a = (an : Int) := ⟨a.toNat, by omega⟩
        obtain ⟨bn, rfl⟩ : ∃ bn : Nat, b = (bn : Int) := ⟨b.toNat, by omega⟩
        have ha1 : an < rows.length := by omega
        have hb1 : bn < rows.length := by omega
        have hn2 := hok.len.2
        have e : joinB rows an bn = bottomF (gridF rows) (gridF rows an &&& gridF rows bn) := by
          unfold joinB hasB
          rw [hval, decide_eq_true ha, decide_eq_true hb, Int.toNat_natCast, Int.toNat_natCast]
          exact (if_pos rfl).trans (join_eq hok ha1 hb1)
        rw [e]
        have HA := Lib.hid ha
        have HB := Lib.hid hb
        have HB2 := Lib.hid (fun k (hk : (gridF rows an).testBit k = true) => hok.lt200 hk)
        clear hval hcall hok e ha hb
        go_enter Tryd.func22, Tryd.ntmps22
        go_wp2_with (first | (go_at_call 52; refine hc.mono ?_; clear hc; rintro e w1 ⟨⟨g, hg, rfl⟩, hb1⟩; obtain ⟨hg1, hg2⟩ := hg; obtain rfl := hg2 rfl; clear hg2; have HG := Lib.hid hg1; have H1 := Lib.hid (HH.out.below hb1); have T1 := Lib.hid (HT.out.below hb1); clear hg1 hb1; have H2 := Lib.hid (H1.out.below (newGrid_below (gridF rows) w1)); have T2 := Lib.hid (T1.out.below (newGrid_below (gridF rows) w1)); have G2 := Lib.hid (newGrid_at HG.out w1); have hc2 : (World.setRow (w1.alloc (.cells (gridCells fun _ => 0) 54)) w1.heap.size (gridCells (gridF rows))).cell? ⟨w.heap.size, 0, none⟩ = some (.slice A rows.length C) := H2.out.1) | (refine wpList_store_row rfl 54 (.tmp 7) (.tmp 12) rfl w1.heap.size (gridCells (gridF rows)) rfl rfl 54 (gridCells fun _ => 0) (store_new w1).1 (by rw [gridCells_size]; exact sizeGrid) (by rw [gridCells_size, gridCells_size]) (gridCells_one _) ?_))
        refine (isElement_any _ rows an _ H2.out.2.1).mono ?_
        rw [decide_eq_true HA.out]
        rintro e w3 ⟨rfl, hb3⟩
        have H3 := Lib.hid (H2.out.below hb3)
        have T3 := Lib.hid (T2.out.below hb3)
        have G3 := Lib.hid (G2.out.below hb3 G2.out.lt)
        have hc3 := H3.out.1
        clear hb3 hc2
        go_wp2_with fail
        refine (isElement_any _ rows bn _ H3.out.2.1).mono ?_
        rw [decide_eq_true HB.out]
        rintro e w4 ⟨rfl, hb4⟩
        have H4 := Lib.hid (H3.out.below hb4)
        have T4 := Lib.hid (T3.out.below hb4)
        have G4 := Lib.hid (G3.out.below hb4 G3.out.lt)
        clear hb4 hc3
        go_wp2_with (go_at_call 57; refine (join_any w1.heap.size an bn an bn (gridF rows) _ G4.out T4.out rfl rfl (by omega) (by omega) HB2.out).mono ?_; rintro e w5 ⟨rfl, hb5⟩; have H5 := Lib.hid (H4.out.below hb5); clear hb5)
        go_ret
        exact ⟨rfl, H5.out.2.2.1⟩
      · have e : joinB rows a b = -1 := by unfold joinB hasB; rw [decide_eq_false hb]; simp
        rw [e]
        have HA := Lib.hid ha
        have HB := Lib.hid hb
        clear hval hcall hok e ha hb
        go_enter Tryd.func22, Tryd.ntmps22
        go_wp2_with (first | (go_at_call 52; refine hc.mono ?_; clear hc; rintro e w1 ⟨⟨g, hg, rfl⟩, hb1⟩; have HG := Lib.hid hg; have H1 := Lib.hid (HH.out.below hb1); clear hg hb1; have H2 := Lib.hid (H1.out.below (newGrid_below g w1)); have hc2 : (World.setRow (w1.alloc (.cells (gridCells fun _ => 0) 54)) w1.heap.size (gridCells g)).cell? ⟨w.heap.size, 0, none⟩ = some (.slice A rows.length C) := H2.out.1) | (refine wpList_store_row rfl 54 (.tmp 7) (.tmp 12) rfl w1.heap.size (gridCells g) rfl rfl 54 (gridCells fun _ => 0) (store_new w1).1 (by rw [gridCells_size]; exact sizeGrid) (by rw [gridCells_size, gridCells_size]) (gridCells_one _) ?_))
        refine (isElement_any _ rows a _ H2.out.2.1).mono ?_
        rw [decide_eq_true HA.out]
        rintro e w3 ⟨rfl, hb3⟩
        have H3 := Lib.hid (H2.out.below hb3)
        have hc3 := H3.out.1
        clear hb3 hc2
        go_wp2_with fail
        refine (isElement_any _ rows b _ H3.out.2.1).mono ?_
        rw [decide_eq_false HB.out]
        rintro e w4 ⟨rfl, hb4⟩
        have H4 := Lib.hid (H3.out.below hb4)
        clear hb4 hc3
        go_wp2
        go_ret
        exact ⟨rfl, H4.out.2.2.1⟩
    · have e : joinB rows a b = -1 := by unfold joinB hasB; rw [decide_eq_false ha]; simp
      rw [e]
      have HA := Lib.hid ha
      clear hval hcall hok e ha
      go_enter Tryd.func22, Tryd.ntmps22
      go_wp2_with (first | (go_at_call 52; refine hc.mono ?_; clear hc; rintro e w1 ⟨⟨g, hg, rfl⟩, hb1⟩; have HG := Lib.hid hg; have H1 := Lib.hid (HH.out.below hb1); clear hg hb1; have H2 := Lib.hid (H1.out.below (newGrid_below g w1)); have hc2 : (World.setRow (w1.alloc (.cells (gridCells fun _ => 0) 54)) w1.heap.size (gridCells g)).cell? ⟨w.heap.size, 0, none⟩ = some (.slice A rows.length C) := H2.out.1) | (refine wpList_store_row rfl 54 (.tmp 7) (.tmp 12) rfl w1.heap.size (gridCells g) rfl rfl 54 (gridCells fun _ => 0) (store_new w1).1 (by rw [gridCells_size]; exact sizeGrid) (by rw [gridCells_size, gridCells_size]) (gridCells_one _) ?_))
      refine (isElement_any _ rows a _ H2.out.2.1).mono ?_
      rw [decide_eq_false HA.out]
      rintro e w3 ⟨rfl, hb3⟩
      have H3 := Lib.hid (H2.out.below hb3)
      clear hb3 hc2
      go_wp2
      go_ret
      exact ⟨rfl, H3.out.2.2.1⟩
end Go.Proofs.YtcmpbdpghoadeaaDoor
