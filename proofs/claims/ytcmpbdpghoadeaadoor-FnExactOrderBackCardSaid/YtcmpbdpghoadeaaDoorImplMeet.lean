/- The program's OrderMeet. -/
import Derived.Test.YtcmpbdpghoadeaaDoorImplJoin
import Derived.Test.YtcmpbdpghoadeaaDoorSpecMeet
import Derived.Test.YtcmpbdpghoadeaaDoorBack
namespace Go.Proofs.YtcmpbdpghoadeaaDoor
open Go.RowKit Go.Deep Go.Shelf

theorem backN_rows {rows : List (List Int)} (h : Ok rows) : backN (gridF rows) rows.length = gridF (backRows rows) := by
  funext k
  apply Nat.eq_of_testBit_eq
  intro i
  rw [backN_bit, back_bit h]
  cases hb : (gridF rows i).testBit k with
  | false => simp
  | true => rw [decide_eq_true (h.bit_lt hb).1]; rfl

set_option maxHeartbeats 4000000 in
theorem implMeet_any (v : Value) (rows : Rows2) (a b : Int) (w : World) (hv : RowsAt w v rows) (hT : Tab w) (hn : bulk rows ≤ 1048576) :
    Calls Tryd.prog 24 #[.agg #[v], .int .i64 a, .int .i64 b] w (SaysI (meetB rows a b) w) := by
  have hH := Held.start w 27 hv
  have hT1 := hT.below ((Below.refl _ w).alloc (Nat.le_refl _) (.cells #[v] 27))
  have hcall := fun t h => gridOf_t v rows _ hH.2.1 hT1 hn (t := t) h
  have hz := (zero_of_info zeroGrid).1
  obtain ⟨A, C, rfl, _⟩ := hv
  have HH := Lib.hid hH
  have HT := Lib.hid hT1
  clear hH hT hT1
  cases hval : validB rows with
  | false =>
    have hc := hcall false hval
    have e : meetB rows a b = -1 := by unfold meetB hasB; rw [hval]; rfl
    rw [e]
    clear hval hcall e
    go_enter Tryd.func24, Tryd.ntmps24
    go_wp2_with (first | (go_at_call 52; refine hc.mono ?_; clear hc; rintro e w1 ⟨⟨g, hg, rfl⟩, hb1⟩; have HG := Lib.hid hg; have H1 := Lib.hid (HH.out.below hb1); clear hg hb1) | (refine wpList_store_row rfl 54 (.tmp 7) (.tmp 13) rfl w1.heap.size (gridCells g) rfl rfl 54 (gridCells fun _ => 0) (store_new w1).1 (by rw [gridCells_size]; exact sizeGrid) (by rw [gridCells_size, gridCells_size]) (gridCells_one _) ?_))
    go_ret
    exact ⟨rfl, (H1.out.below (newGrid_below g w1)).2.2.1⟩
  | true =>
    have hok := ok_of_valid hval
    have hc := hcall true hval
    by_cases ha : 0 ≤ a ∧ a < rows.length
    · by_cases hb : 0 ≤ b ∧ b < rows.length
      · obtain ⟨an, rfl⟩ : ∃ an : Nat, a = (an : Int) := ⟨a.toNat, by omega⟩
        obtain ⟨bn, rfl⟩ : ∃ bn : Nat, b = (bn : Int) := ⟨b.toNat, by omega⟩
        have ha1 : an < rows.length := by omega
        have hb1 : bn < rows.length := by omega
        have hn2 := hok.len.2
        have e : meetB rows an bn = bottomF (gridF (backRows rows)) (gridF (backRows rows) an &&& gridF (backRows rows) bn) := by
          unfold meetB hasB
          rw [hval, decide_eq_true ha, decide_eq_true hb, Int.toNat_natCast, Int.toNat_natCast]
          exact (if_pos rfl).trans (join_eq hok.back (by rw [backRows_len]; exact ha1) (by rw [backRows_len]; exact hb1))
        rw [e]
        have HA := Lib.hid ha
        have HB := Lib.hid hb
        have HB2 := Lib.hid (fun k (hk : (gridF (backRows rows) an).testBit k = true) => hok.back.lt200 hk)
        have HN := Lib.hid hok.gridN
        have HBN := Lib.hid (backN_rows hok)
        have HEL := Lib.hid (fun i (_ : i < rows.length) k (hk : k ∈ elems (gridF rows i)) => hok.lt200 ((mem_elems (hok.lt i)).1 hk))
        have HLT := Lib.hid hok.back.lt
        clear hval hcall hok e ha hb
        go_enter Tryd.func24, Tryd.ntmps24
        go_wp2_with (first | (go_at_call 52; refine hc.mono ?_; clear hc; rintro e w1 ⟨⟨g, hg, rfl⟩, hb1⟩; obtain ⟨hg1, hg2⟩ := hg; obtain rfl := hg2 rfl; clear hg2; have HG := Lib.hid hg1; have H1 := Lib.hid (HH.out.below hb1); have T1 := Lib.hid (HT.out.below hb1); clear hg1 hb1; have H2 := Lib.hid (H1.out.below (newGrid_below (gridF rows) w1)); have T2 := Lib.hid (T1.out.below (newGrid_below (gridF rows) w1)); have G2 := Lib.hid (newGrid_at HG.out w1); have hc2 : (World.setRow (w1.alloc (.cells (gridCells fun _ => 0) 54)) w1.heap.size (gridCells (gridF rows))).cell? ⟨w.heap.size, 0, none⟩ = some (.slice A rows.length C) := H2.out.1) | (refine wpList_store_row rfl 54 (.tmp 7) (.tmp 13) rfl w1.heap.size (gridCells (gridF rows)) rfl rfl 54 (gridCells fun _ => 0) (store_new w1).1 (by rw [gridCells_size]; exact sizeGrid) (by rw [gridCells_size, gridCells_size]) (gridCells_one _) ?_))
        refine (isElement_any _ rows an _ H2.out.2.1).mono ?_
        rw [decide_eq_true HA.out]
        rintro e w3 ⟨rfl, hb3⟩
        have H3 := Lib.hid (H2.out.below hb3)
        have T3 := Lib.hid (T2.out.below hb3)
        have G3 := Lib.hid (G2.out.below hb3 G2.out.lt)
        have hc3 := H3.out.1
        clear hb3 hc2
        go_wp2_with fail
        refine (isElement_any _ rows bn _ H3.out.2.1).mono ?_
        rw [decide_eq_true HB.out]
        rintro e w4 ⟨rfl, hb4⟩
        have H4 := Lib.hid (H3.out.below hb4)
        have T4 := Lib.hid (T3.out.below hb4)
        have G4 := Lib.hid (G3.out.below hb4 G3.out.lt)
        clear hb4 hc3
        go_wp2_with fail
        refine (back_any w1.heap.size rows.length (gridF rows) w4 G4.out T4.out HN.out HEL.out).mono ?_
        rintro e w5 ⟨rfl, hb5⟩
        rw [HBN.out]
        have H5 := Lib.hid (H4.out.below hb5)
        have T5 := Lib.hid (T4.out.below hb5)
        have H6 := Lib.hid (H5.out.below (newGrid_below (gridF (backRows rows)) w5))
        have T6 := Lib.hid (T5.out.below (newGrid_below (gridF (backRows rows)) w5))
        have G6 := Lib.hid (newGrid_at HLT.out w5)
        clear hb5
        go_wp2_with (first | (refine wpList_store_row rfl 54 (.tmp 9) (.tmp 29) rfl w5.heap.size (gridCells (gridF (backRows rows))) rfl rfl 54 (gridCells fun _ => 0) (store_new w5).1 (by rw [gridCells_size]; exact sizeGrid) (by rw [gridCells_size, gridCells_size]) (gridCells_one _) ?_) | (go_at_call 57; refine (join_any w5.heap.size an bn an bn (gridF (backRows rows)) _ G6.out T6.out rfl rfl (by omega) (by omega) HB2.out).mono ?_; rintro e w7 ⟨rfl, hb7⟩; have H7 := Lib.hid (H6.out.below hb7); clear hb7))
        go_ret
        exact ⟨rfl, H7.out.2.2.1⟩
      · have e : meetB rows a b = -1 := by unfold meetB hasB; rw [decide_eq_false hb]; simp
        rw [e]
        have HA := Lib.hid ha
        have HB := Lib.hid hb
        clear hval hcall hok e ha hb
        go_enter Tryd.func24, Tryd.ntmps24
        go_wp2_with (first | (go_at_call 52; refine hc.mono ?_; clear hc; rintro e w1 ⟨⟨g, hg, rfl⟩, hb1⟩; have HG := Lib.hid hg; have H1 := Lib.hid (HH.out.below hb1); clear hg hb1; have H2 := Lib.hid (H1.out.below (newGrid_below g w1)); have hc2 : (World.setRow (w1.alloc (.cells (gridCells fun _ => 0) 54)) w1.heap.size (gridCells g)).cell? ⟨w.heap.size, 0, none⟩ = some (.slice A rows.length C) := H2.out.1) | (refine wpList_store_row rfl 54 (.tmp 7) (.tmp 13) rfl w1.heap.size (gridCells g) rfl rfl 54 (gridCells fun _ => 0) (store_new w1).1 (by rw [gridCells_size]; exact sizeGrid) (by rw [gridCells_size, gridCells_size]) (gridCells_one _) ?_))
        refine (isElement_any _ rows a _ H2.out.2.1).mono ?_
        rw [decide_eq_true HA.out]
        rintro e w3 ⟨rfl, hb3⟩
        have H3 := Lib.hid (H2.out.below hb3)
        have hc3 := H3.out.1
        clear hb3 hc2
        go_wp2_with fail
        refine (isElement_any _ rows b _ H3.out.2.1).mono ?_
        rw [decide_eq_false HB.out]
        rintro e w4 ⟨rfl, hb4⟩
        have H4 := Lib.hid (H3.out.below hb4)
        clear hb4 hc3
        go_wp2
        go_ret
        exact ⟨rfl, H4.out.2.2.1⟩
    · have e : meetB rows a b = -1 := by unfold meetB hasB; rw [decide_eq_false ha]; simp
      rw [e]
      have HA := Lib.hid ha
      clear hval hcall hok e ha
      go_enter Tryd.func24, Tryd.ntmps24
      go_wp2_with (first | (go_at_call 52; refine hc.mono ?_; clear hc; rintro e w1 ⟨⟨g, hg, rfl⟩, hb1⟩; have HG := Lib.hid hg; have H1 := Lib.hid (HH.out.below hb1); clear hg hb1; have H2 := Lib.hid (H1.out.below (newGrid_below g w1)); have hc2 : (World.setRow (w1.alloc (.cells (gridCells fun _ => 0) 54)) w1.heap.size (gridCells g)).cell? ⟨w.heap.size, 0, none⟩ = some (.slice A rows.length C) := H2.out.1) | (refine wpList_store_row rfl 54 (.tmp 7) (.tmp 13) rfl w1.heap.size (gridCells g) rfl rfl 54 (gridCells fun _ => 0) (store_new w1).1 (by rw [gridCells_size]; exact sizeGrid) (by rw [gridCells_size, gridCells_size]) (gridCells_one _) ?_))
      refine (isElement_any _ rows a _ H2.out.2.1).mono ?_
      rw [decide_eq_false HA.out]
      rintro e w3 ⟨rfl, hb3⟩
      have H3 := Lib.hid (H2.out.below hb3)
      clear hb3 hc2
      go_wp2
      go_ret
      exact ⟨rfl, H3.out.2.2.1⟩
end Go.Proofs.YtcmpbdpghoadeaaDoor
