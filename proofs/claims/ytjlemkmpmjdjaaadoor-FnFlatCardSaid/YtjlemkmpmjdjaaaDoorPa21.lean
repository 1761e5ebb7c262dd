/- The program's OrderLeast. -/
import Derived.Test.YtjlemkmpmjdjaaaDoorPa16
import Derived.Test.YtjlemkmpmjdjaaaDoorPa20
import Derived.Test.YtjlemkmpmjdjaaaDoorPa13
import Derived.Test.YtjlemkmpmjdjaaaDoorPa8
import Derived.Test.YtjlemkmpmjdjaaaDoorPa15
import Derived.Test.YtjlemkmpmjdjaaaDoorPa19
namespace Go.Proofs.YtjlemkmpmjdjaaaDoor
open Go.RowKit Go.Deep Go.Shelf

set_option maxHeartbeats 2000000 in
theorem implLeast_any (v : Value) (rows : Rows2) (w : World) (hv : RowsAt w v rows) (hT : Tab w) (hn : bulk rows ≤ 1048576) :
    Calls Tryd.prog 25 #[.agg #[v]] w (SaysI (leastB rows) w) := by
  have hH := Held.start w 25 hv
  have hT1 := hT.below ((Below.refl _ w).alloc (Nat.le_refl _) (.cells #[v] 25))
  have hcall := fun t h => gridOf_t v rows _ hH.2.1 hT1 hn (t := t) h
  have hz := (zero_of_info zeroGrid).1
  obtain ⟨A, C, rfl, _⟩ := hv
  have HH := Lib.hid hH
  have HT := Lib.hid hT1
  clear hH hT hT1
  unfold leastB
  cases hval : validB rows with
  | false =>
    have hc := hcall false hval
    rw [if_neg (by simp)]
    clear hval hcall
    go_enter Tryd.func25, Tryd.ntmps25
    go_wp2_with (first | (go_at_call 66; refine hc.mono ?_; clear hc; rintro e w1 ⟨⟨g, hg, rfl⟩, hb1⟩; have HG := Lib.hid hg; have H1 := Lib.hid (HH.out.below hb1); clear hg hb1) | (refine wpList_store_row rfl 60 (.tmp 3) (.tmp 8) rfl w1.heap.size (gridCells g) rfl rfl 60 (gridCells fun _ => 0) (store_new w1).1 (by rw [gridCells_size]; exact sizeGrid) (by rw [gridCells_size, gridCells_size]) (gridCells_one _) ?_))
    go_ret
    exact ⟨rfl, (H1.out.below (newGrid_below g w1)).2.2.1⟩
  | true =>
    have hok := ok_of_valid hval
    have hc := hcall true hval
    have hle := least_eq hok
    have hgn := hok.gridN
    rw [if_pos rfl, hle]
    have HN := Lib.hid hgn
    clear hval hcall hle hgn hok
    go_enter Tryd.func25, Tryd.ntmps25
    go_wp2_with (first | (go_at_call 66; refine hc.mono ?_; clear hc; rintro e w1 ⟨⟨g, hg, rfl⟩, hb1⟩; obtain ⟨hg1, hg2⟩ := hg; obtain rfl := hg2 rfl; clear hg2; have HG := Lib.hid hg1; have H1 := Lib.hid (HH.out.below hb1); have T1 := Lib.hid (HT.out.below hb1); clear hg1 hb1; have H2 := Lib.hid (H1.out.below (newGrid_below (gridF rows) w1)); have T2 := Lib.hid (T1.out.below (newGrid_below (gridF rows) w1)); have G2 := Lib.hid (newGrid_at HG.out w1)) | (refine wpList_store_row rfl 60 (.tmp 3) (.tmp 8) rfl w1.heap.size (gridCells (gridF rows)) rfl rfl 60 (gridCells fun _ => 0) (store_new w1).1 (by rw [gridCells_size]; exact sizeGrid) (by rw [gridCells_size, gridCells_size]) (gridCells_one _) ?_) | (go_at_call 75; refine (least_any w1.heap.size rows.length (gridF rows) _ G2.out T2.out HN.out).mono ?_; rintro e w3 ⟨rfl, hb3⟩; have H3 := Lib.hid (H2.out.below hb3); clear hb3))
    go_ret
    exact ⟨rfl, H3.out.2.2.1⟩
end Go.Proofs.YtjlemkmpmjdjaaaDoor

/- The program's OrderJoin. -/
namespace Go.Proofs.YtjlemkmpmjdjaaaDoor
open Go.RowKit Go.Deep Go.Shelf

set_option maxHeartbeats 4000000 in
theorem implJoin_any (v : Value) (rows : Rows2) (a b : Int) (w : World) (hv : RowsAt w v rows) (hT : Tab w) (hn : bulk rows ≤ 1048576) :
    Calls Tryd.prog 22 #[.agg #[v], .int .i64 a, .int .i64 b] w (SaysI (joinB rows a b) w) := by
  have hH := Held.start w 25 hv
  have hT1 := hT.below ((Below.refl _ w).alloc (Nat.le_refl _) (.cells #[v] 25))
  have hcall := fun t h => gridOf_t v rows _ hH.2.1 hT1 hn (t := t) h
  have hz := (zero_of_info zeroGrid).1
  obtain ⟨A, C, rfl, _⟩ := hv
  have HH := Lib.hid hH
  have HT := Lib.hid hT1
  clear hH hT hT1
  cases hval : validB rows with
  | false =>
    have hc := hcall false hval
    have e : joinB rows a b = -1 := by unfold joinB hasB; rw [hval]; rfl
    rw [e]
    clear hval hcall e
    go_enter Tryd.func22, Tryd.ntmps22
    go_wp2_with (first | (go_at_call 66; refine hc.mono ?_; clear hc; rintro e w1 ⟨⟨g, hg, rfl⟩, hb1⟩; have HG := Lib.hid hg; have H1 := Lib.hid (HH.out.below hb1); clear hg hb1) | (refine wpList_store_row rfl 60 (.tmp 7) (.tmp 12) rfl w1.heap.size (gridCells g) rfl rfl 60 (gridCells fun _ => 0) (store_new w1).1 (by rw [gridCells_size]; exact sizeGrid) (by rw [gridCells_size, gridCells_size]) (gridCells_one _) ?_))
    go_ret
    exact ⟨rfl, (H1.out.below (newGrid_below g w1)).2.2.1⟩
  | true =>
    have hok := ok_of_valid hval
    have hc := hcall true hval
    by_cases ha : 0 ≤ a ∧ a < rows.length
    · by_cases hb : 0 ≤ b ∧ b < rows.length
      · obtain ⟨an, rfl⟩ : ∃ an : Nat, a = (an : Int) := ⟨a.toNat, by omega⟩
        obtain ⟨bn, rfl⟩ : ∃ bn : Nat, b = (bn : Int) := ⟨b.toNat, by omega⟩
        have ha1 : an < rows.length := by omega
        have hb1 : bn < rows.length := by omega
        have hn2 := hok.len.2
        have e : joinB rows an bn = bottomF (gridF rows) (gridF rows an &&& gridF rows bn) := by
          unfold joinB hasB
          rw [hval, decide_eq_true ha, decide_eq_true hb, Int.toNat_natCast, Int.toNat_natCast]
          exact (if_pos rfl).trans (join_eq hok ha1 hb1)
        rw [e]
        have HA := Lib.hid ha
        have HB := Lib.hid hb
        have HB2 := Lib.hid (fun k (hk : (gridF rows an).testBit k = true) => hok.lt200 hk)
        clear hval hcall hok e ha hb
        go_enter Tryd.func22, Tryd.ntmps22
        go_wp2_with (first | (go_at_call 66; refine hc.mono ?_; clear hc; rintro e w1 ⟨⟨g, hg, rfl⟩, hb1⟩; obtain ⟨hg1, hg2⟩ := hg; obtain rfl := hg2 rfl; clear hg2; have HG := Lib.hid hg1; have H1 := Lib.hid (HH.out.below hb1); have T1 := Lib.hid (HT.out.below hb1); clear hg1 hb1; have H2 := Lib.hid (H1.out.below (newGrid_below (gridF rows) w1)); have T2 := Lib.hid (T1.out.below (newGrid_below (gridF rows) w1)); have G2 := Lib.hid (newGrid_at HG.out w1); have hc2 : (World.setRow (w1.alloc (.cells (gridCells fun _ => 0) 60)) w1.heap.size (gridCells (gridF rows))).cell? ⟨w.heap.size, 0, none⟩ = some (.slice A rows.length C) := H2.out.1) | (refine wpList_store_row rfl 60 (.tmp 7) (.tmp 12) rfl w1.heap.size (gridCells (gridF rows)) rfl rfl 60 (gridCells fun _ => 0) (store_new w1).1 (by rw [gridCells_size]; exact sizeGrid) (by rw [gridCells_size, gridCells_size]) (gridCells_one _) ?_))
        refine (isElement_any _ rows an _ H2.out.2.1).mono ?_
        rw [decide_eq_true HA.out]
        rintro e w3 ⟨rfl, hb3⟩
        have H3 := Lib.hid (H2.out.below hb3)
        have T3 := Lib.hid (T2.out.below hb3)
        have G3 := Lib.hid (G2.out.below hb3 G2.out.lt)
        have hc3 := H3.out.1
        clear hb3 hc2
        go_wp2_with fail
        refine (isElement_any _ rows bn _ H3.out.2.1).mono ?_
        rw [decide_eq_true HB.out]
        rintro e w4 ⟨rfl, hb4⟩
        have H4 := Lib.hid (H3.out.below hb4)
        have T4 := Lib.hid (T3.out.below hb4)
        have G4 := Lib.hid (G3.out.below hb4 G3.out.lt)
        clear hb4 hc3
        go_wp2_with (go_at_call 73; refine (join_any w1.heap.size an bn an bn (gridF rows) _ G4.out T4.out rfl rfl (by omega) (by omega) HB2.out).mono ?_; rintro e w5 ⟨rfl, hb5⟩; have H5 := Lib.hid (H4.out.below hb5); clear hb5)
        go_ret
        exact ⟨rfl, H5.out.2.2.1⟩
      · have e : joinB rows a b = -1 := by unfold joinB hasB; rw [decide_eq_false hb]; simp
        rw [e]
        have HA := Lib.hid ha
        have HB := Lib.hid hb
        clear hval hcall hok e ha hb
        go_enter Tryd.func22, Tryd.ntmps22
        go_wp2_with (first | (go_at_call 66; refine hc.mono ?_; clear hc; rintro e w1 ⟨⟨g, hg, rfl⟩, hb1⟩; have HG := Lib.hid hg; have H1 := Lib.hid (HH.out.below hb1); clear hg hb1; have H2 := Lib.hid (H1.out.below (newGrid_below g w1)); have hc2 : (World.setRow (w1.alloc (.cells (gridCells fun _ => 0) 60)) w1.heap.size (gridCells g)).cell? ⟨w.heap.size, 0, none⟩ = some (.slice A rows.length C) := H2.out.1) | (refine wpList_store_row rfl 60 (.tmp 7) (.tmp 12) rfl w1.heap.size (gridCells g) rfl rfl 60 (gridCells fun _ => 0) (store_new w1).1 (by rw [gridCells_size]; exact sizeGrid) (by rw [gridCells_size, gridCells_size]) (gridCells_one _) ?_))
        refine (isElement_any _ rows a _ H2.out.2.1).mono ?_
        rw [decide_eq_true HA.out]
        rintro e w3 ⟨rfl, hb3⟩
        have H3 := Lib.hid (H2.out.below hb3)
        have hc3 := H3.out.1
        clear hb3 hc2
        go_wp2_with fail
        refine (isElement_any _ rows b _ H3.out.2.1).mono ?_
        rw [decide_eq_false HB.out]
        rintro e w4 ⟨rfl, hb4⟩
        have H4 := Lib.hid (H3.out.below hb4)
        clear hb4 hc3
        go_wp2
        go_ret
        exact ⟨rfl, H4.out.2.2.1⟩
    · have e : joinB rows a b = -1 := by unfold joinB hasB; rw [decide_eq_false ha]; simp
      rw [e]
      have HA := Lib.hid ha
      clear hval hcall hok e ha
      go_enter Tryd.func22, Tryd.ntmps22
      go_wp2_with (first | (go_at_call 66; refine hc.mono ?_; clear hc; rintro e w1 ⟨⟨g, hg, rfl⟩, hb1⟩; have HG := Lib.hid hg; have H1 := Lib.hid (HH.out.below hb1); clear hg hb1; have H2 := Lib.hid (H1.out.below (newGrid_below g w1)); have hc2 : (World.setRow (w1.alloc (.cells (gridCells fun _ => 0) 60)) w1.heap.size (gridCells g)).cell? ⟨w.heap.size, 0, none⟩ = some (.slice A rows.length C) := H2.out.1) | (refine wpList_store_row rfl 60 (.tmp 7) (.tmp 12) rfl w1.heap.size (gridCells g) rfl rfl 60 (gridCells fun _ => 0) (store_new w1).1 (by rw [gridCells_size]; exact sizeGrid) (by rw [gridCells_size, gridCells_size]) (gridCells_one _) ?_))
      refine (isElement_any _ rows a _ H2.out.2.1).mono ?_
      rw [decide_eq_false HA.out]
      rintro e w3 ⟨rfl, hb3⟩
      have H3 := Lib.hid (H2.out.below hb3)
      clear hb3 hc2
      go_wp2
      go_ret
      exact ⟨rfl, H3.out.2.2.1⟩
end Go.Proofs.YtjlemkmpmjdjaaaDoor

/- The program's OrderMeet. -/
namespace Go.Proofs.YtjlemkmpmjdjaaaDoor
open Go.RowKit Go.Deep Go.Shelf

set_option maxHeartbeats 4000000 in
theorem implMeet_any (v : Value) (rows : Rows2) (a b : Int) (w : World) (hv : RowsAt w v rows) (hT : Tab w) (hn : bulk rows ≤ 1048576) :
    Calls Tryd.prog 23 #[.agg #[v], .int .i64 a, .int .i64 b] w (SaysI (meetB rows a b) w) := by
  have hH := Held.start w 25 hv
  have hT1 := hT.below ((Below.refl _ w).alloc (Nat.le_refl _) (.cells #[v] 25))
  have hcall := fun t h => gridOf_t v rows _ hH.2.1 hT1 hn (t := t) h
  have hz := (zero_of_info zeroGrid).1
  obtain ⟨A, C, rfl, _⟩ := hv
  have HH := Lib.hid hH
  have HT := Lib.hid hT1
  clear hH hT hT1
  cases hval : validB rows with
  | false =>
    have hc := hcall false hval
    have e : meetB rows a b = -1 := by unfold meetB hasB; rw [hval]; rfl
    rw [e]
    clear hval hcall e
    go_enter Tryd.func23, Tryd.ntmps23
    go_wp2_with (first | (go_at_call 66; refine hc.mono ?_; clear hc; rintro e w1 ⟨⟨g, hg, rfl⟩, hb1⟩; have HG := Lib.hid hg; have H1 := Lib.hid (HH.out.below hb1); clear hg hb1) | (refine wpList_store_row rfl 60 (.tmp 7) (.tmp 13) rfl w1.heap.size (gridCells g) rfl rfl 60 (gridCells fun _ => 0) (store_new w1).1 (by rw [gridCells_size]; exact sizeGrid) (by rw [gridCells_size, gridCells_size]) (gridCells_one _) ?_))
    go_ret
    exact ⟨rfl, (H1.out.below (newGrid_below g w1)).2.2.1⟩
  | true =>
    have hok := ok_of_valid hval
    have hc := hcall true hval
    by_cases ha : 0 ≤ a ∧ a < rows.length
    · by_cases hb : 0 ≤ b ∧ b < rows.length
      · obtain ⟨an, rfl⟩ : ∃ an : Nat, a = (an : Int) := ⟨a.toNat, by omega⟩
        obtain ⟨bn, rfl⟩ : ∃ bn : Nat, b = (bn : Int) := ⟨b.toNat, by omega⟩
        have ha1 : an < rows.length := by omega
        have hb1 : bn < rows.length := by omega
        have hn2 := hok.len.2
        have e : meetB rows an bn = bottomF (gridF (backRows rows)) (gridF (backRows rows) an &&& gridF (backRows rows) bn) := by
          unfold meetB hasB
          rw [hval, decide_eq_true ha, decide_eq_true hb, Int.toNat_natCast, Int.toNat_natCast]
          exact (if_pos rfl).trans (join_eq hok.back (by rw [backRows_len]; exact ha1) (by rw [backRows_len]; exact hb1))
        rw [e]
        have HA := Lib.hid ha
        have HB := Lib.hid hb
        have HB2 := Lib.hid (fun k (hk : (gridF (backRows rows) an).testBit k = true) => hok.back.lt200 hk)
        have HN := Lib.hid hok.gridN
        have HBN := Lib.hid (backN_rows hok)
        have HEL := Lib.hid (fun i (_ : i < rows.length) k (hk : k ∈ elems (gridF rows i)) => hok.lt200 ((mem_elems (hok.lt i)).1 hk))
        have HLT := Lib.hid hok.back.lt
        clear hval hcall hok e ha hb
        go_enter Tryd.func23, Tryd.ntmps23
        go_wp2_with (first | (go_at_call 66; refine hc.mono ?_; clear hc; rintro e w1 ⟨⟨g, hg, rfl⟩, hb1⟩; obtain ⟨hg1, hg2⟩ := hg; obtain rfl := hg2 rfl; clear hg2; have HG := Lib.hid hg1; have H1 := Lib.hid (HH.out.below hb1); have T1 := Lib.hid (HT.out.below hb1); clear hg1 hb1; have H2 := Lib.hid (H1.out.below (newGrid_below (gridF rows) w1)); have T2 := Lib.hid (T1.out.below (newGrid_below (gridF rows) w1)); have G2 := Lib.hid (newGrid_at HG.out w1); have hc2 : (World.setRow (w1.alloc (.cells (gridCells fun _ => 0) 60)) w1.heap.size (gridCells (gridF rows))).cell? ⟨w.heap.size, 0, none⟩ = some (.slice A rows.length C) := H2.out.1) | (refine wpList_store_row rfl 60 (.tmp 7) (.tmp 13) rfl w1.heap.size (gridCells (gridF rows)) rfl rfl 60 (gridCells fun _ => 0) (store_new w1).1 (by rw [gridCells_size]; exact sizeGrid) (by rw [gridCells_size, gridCells_size]) (gridCells_one _) ?_))
        refine (isElement_any _ rows an _ H2.out.2.1).mono ?_
        rw [decide_eq_true HA.out]
        rintro e w3 ⟨rfl, hb3⟩
        have H3 := Lib.hid (H2.out.below hb3)
        have T3 := Lib.hid (T2.out.below hb3)
        have G3 := Lib.hid (G2.out.below hb3 G2.out.lt)
        have hc3 := H3.out.1
        clear hb3 hc2
        go_wp2_with fail
        refine (isElement_any _ rows bn _ H3.out.2.1).mono ?_
        rw [decide_eq_true HB.out]
        rintro e w4 ⟨rfl, hb4⟩
        have H4 := Lib.hid (H3.out.below hb4)
        have T4 := Lib.hid (T3.out.below hb4)
        have G4 := Lib.hid (G3.out.below hb4 G3.out.lt)
        clear hb4 hc3
        go_wp2_with fail
        refine (back_any w1.heap.size rows.length (gridF rows) w4 G4.out T4.out HN.out HEL.out).mono ?_
        rintro e w5 ⟨rfl, hb5⟩
        rw [HBN.out]
        have H5 := Lib.hid (H4.out.below hb5)
        have T5 := Lib.hid (T4.out.below hb5)
        have H6 := Lib.hid (H5.out.below (newGrid_below (gridF (backRows rows)) w5))
        have T6 := Lib.hid (T5.out.below (newGrid_below (gridF (backRows rows)) w5))
        have G6 := Lib.hid (newGrid_at HLT.out w5)
        clear hb5
        go_wp2_with (first | (refine wpList_store_row rfl 60 (.tmp 9) (.tmp 29) rfl w5.heap.size (gridCells (gridF (backRows rows))) rfl rfl 60 (gridCells fun _ => 0) (store_new w5).1 (by rw [gridCells_size]; exact sizeGrid) (by rw [gridCells_size, gridCells_size]) (gridCells_one _) ?_) | (go_at_call 73; refine (join_any w5.heap.size an bn an bn (gridF (backRows rows)) _ G6.out T6.out rfl rfl (by omega) (by omega) HB2.out).mono ?_; rintro e w7 ⟨rfl, hb7⟩; have H7 := Lib.hid (H6.out.below hb7); clear hb7))
        go_ret
        exact ⟨rfl, H7.out.2.2.1⟩
      · have e : meetB rows a b = -1 := by unfold meetB hasB; rw [decide_eq_false hb]; simp
        rw [e]
        have HA := Lib.hid ha
        have HB := Lib.hid hb
        clear hval hcall hok e ha hb
        go_enter Tryd.func23, Tryd.ntmps23
        go_wp2_with (first | (go_at_call 66; refine hc.mono ?_; clear hc; rintro e w1 ⟨⟨g, hg, rfl⟩, hb1⟩; have HG := Lib.hid hg; have H1 := Lib.hid (HH.out.below hb1); clear hg hb1; have H2 := Lib.hid (H1.out.below (newGrid_below g w1)); have hc2 : (World.setRow (w1.alloc (.cells (gridCells fun _ => 0) 60)) w1.heap.size (gridCells g)).cell? ⟨w.heap.size, 0, none⟩ = some (.slice A rows.length C) := H2.out.1) | (refine wpList_store_row rfl 60 (.tmp 7) (.tmp 13) rfl w1.heap.size (gridCells g) rfl rfl 60 (gridCells fun _ => 0) (store_new w1).1 (by rw [gridCells_size]; exact sizeGrid) (by rw [gridCells_size, gridCells_size]) (gridCells_one _) ?_))
        refine (isElement_any _ rows a _ H2.out.2.1).mono ?_
        rw [decide_eq_true HA.out]
        rintro e w3 ⟨rfl, hb3⟩
        have H3 := Lib.hid (H2.out.below hb3)
        have hc3 := H3.out.1
        clear hb3 hc2
        go_wp2_with fail
        refine (isElement_any _ rows b _ H3.out.2.1).mono ?_
        rw [decide_eq_false HB.out]
        rintro e w4 ⟨rfl, hb4⟩
        have H4 := Lib.hid (H3.out.below hb4)
        clear hb4 hc3
        go_wp2
        go_ret
        exact ⟨rfl, H4.out.2.2.1⟩
    · have e : meetB rows a b = -1 := by unfold meetB hasB; rw [decide_eq_false ha]; simp
      rw [e]
      have HA := Lib.hid ha
      clear hval hcall hok e ha
      go_enter Tryd.func23, Tryd.ntmps23
      go_wp2_with (first | (go_at_call 66; refine hc.mono ?_; clear hc; rintro e w1 ⟨⟨g, hg, rfl⟩, hb1⟩; have HG := Lib.hid hg; have H1 := Lib.hid (HH.out.below hb1); clear hg hb1; have H2 := Lib.hid (H1.out.below (newGrid_below g w1)); have hc2 : (World.setRow (w1.alloc (.cells (gridCells fun _ => 0) 60)) w1.heap.size (gridCells g)).cell? ⟨w.heap.size, 0, none⟩ = some (.slice A rows.length C) := H2.out.1) | (refine wpList_store_row rfl 60 (.tmp 7) (.tmp 13) rfl w1.heap.size (gridCells g) rfl rfl 60 (gridCells fun _ => 0) (store_new w1).1 (by rw [gridCells_size]; exact sizeGrid) (by rw [gridCells_size, gridCells_size]) (gridCells_one _) ?_))
      refine (isElement_any _ rows a _ H2.out.2.1).mono ?_
      rw [decide_eq_false HA.out]
      rintro e w3 ⟨rfl, hb3⟩
      have H3 := Lib.hid (H2.out.below hb3)
      clear hb3 hc2
      go_wp2
      go_ret
      exact ⟨rfl, H3.out.2.2.1⟩
end Go.Proofs.YtjlemkmpmjdjaaaDoor

/- OrderBack, of the model and of the program. -/
namespace Go.Proofs.YtjlemkmpmjdjaaaDoor
open Go.RowKit Go.Deep Go.Shelf

/-- What OrderBack answers. -/
noncomputable def backB (rows : Rows2) : Rows2 := if validB rows = true then backRows rows else []

theorem RowsPost.form {n : Nat} {R : Nat → List Int} {w w' : World} {e : Ending} (h : RowsPost n R w e w') : ∃ a C, e = .returned (.agg #[.slice a n C]) ∧ OwnR 3 28 w' (.slice a n C) n R w.heap.size w'.heap.size ∧ Below w.heap.size w w' := by
  obtain ⟨v, rfl, h1, h2⟩ := h
  obtain ⟨a, C, rfl⟩ := h1.form
  exact ⟨a, C, rfl, h1, h2⟩

set_option maxRecDepth 100000 in
set_option maxHeartbeats 4000000 in
theorem implBack_any (v : Value) (rows : Rows2) (w : World) (hv : RowsAt w v rows) (hT : Tab w) (hn : bulk rows ≤ 1048576) :
    Calls Tryd.prog 31 #[.agg #[v]] w (OrderP (backB rows) (validB rows) w) := by
  have hb2 : Below w.heap.size w ((w.alloc (.cells #[v] 25)).alloc (.cells #[.slice none 0 0] 25)) := ((Below.refl _ w).alloc (Nat.le_refl _) _).alloc (by simp) _
  have hH := (Held.start w 25 hv).below ((Below.refl _ _).alloc (Nat.le_refl _) (.cells #[.slice none 0 0] 25))
  have hbx := Boxed.new (w.alloc (.cells #[v] 25)) 25 (.slice none 0 0)
  rw [World.size_alloc] at hbx
  have hT1 := hT.below hb2
  have hcall := fun t h => gridOf_t v rows _ hH.2.1 hT1 hn (t := t) h
  have hz := (zero_of_info zeroGrid).1
  obtain ⟨A, C, rfl, _⟩ := hv
  have HH := Lib.hid hH
  have HT := Lib.hid hT1
  have HBX := Lib.hid hbx
  clear hH hT hT1 hbx hb2
  unfold backB
  cases hval : validB rows with
  | false =>
    have hc := hcall false hval
    rw [if_neg (by simp)]
    clear hval hcall
    go_enter Tryd.func31, Tryd.ntmps31
    go_wp2_with (first | (go_at_call 66; refine hc.mono ?_; clear hc; rintro e w1 ⟨⟨g, hg, rfl⟩, hb1⟩; have HG := Lib.hid hg; have H1 := Lib.hid (HH.out.below hb1); have H2 := Lib.hid (H1.out.below (newGrid_below g w1)); have BX1 : Hid (Boxed (newGrid g w1) (w.heap.size + 1) 25 (.slice none 0 0)) := Lib.hid ((((hb1.trans ((newGrid_below g w1).mono hb1.size)).block _ HBX.out.lt).trans HBX.out)); have hc2 : (World.setRow (w1.alloc (.cells (gridCells fun _ => 0) 60)) w1.heap.size (gridCells g)).cell? ⟨w.heap.size + 1, 0, none⟩ = some (.slice none 0 0) := BX1.out.cell; have hf2 : (World.setRow (w1.alloc (.cells (gridCells fun _ => 0) 60)) w1.heap.size (gridCells g)).frozen? ⟨w.heap.size + 1, 0, none⟩ = false := BX1.out.frozen; clear hg hb1) | (refine wpList_store_row rfl 60 (.tmp 4) (.tmp 10) rfl w1.heap.size (gridCells g) rfl rfl 60 (gridCells fun _ => 0) (store_new w1).1 (by rw [gridCells_size]; exact sizeGrid) (by rw [gridCells_size, gridCells_size]) (gridCells_one _) ?_))
    have hc9 := World.cell?_setCell_same' (World.setRow (w1.alloc (.cells (gridCells fun _ => 0) 60)) w1.heap.size (gridCells g)) ⟨w.heap.size + 1, 0, none⟩ (.slice none 0 0) (by rw [hc2]; rfl)
    refine bodyPost_ret (v := .tuple #[.agg #[.slice none 0 0], .bool false]) (by simp [results, Tryd.results31, go_sem, hc9]) rfl ?_
    exact ⟨_, rfl, OwnR.nil _ _ _ _ _ _, H2.out.2.2.1.setCell (p := ⟨w.heap.size + 1, 0, none⟩) (Nat.le_succ _) _⟩
  | true =>
    have hok := ok_of_valid hval
    have hc := hcall true hval
    have HOK := Lib.hid hok
    have HN := Lib.hid hok.gridN
    have HBN := Lib.hid (backN_rows hok)
    have HEL := Lib.hid (fun i (_ : i < rows.length) k (hk : k ∈ elems (gridF rows i)) => hok.lt200 ((mem_elems (hok.lt i)).1 hk))
    have HLT := Lib.hid hok.back.lt
    have hlen := backRows_len rows
    have hgb := hok.back.gridN
    rw [hlen] at hgb
    have HGB := Lib.hid hgb
    rw [if_pos rfl]
    clear hval hcall hok hgb
    go_enter Tryd.func31, Tryd.ntmps31
    go_wp2_with (first | (go_at_call 66; refine hc.mono ?_; clear hc; rintro e w1 ⟨⟨g, hg, rfl⟩, hb1⟩; obtain ⟨hg1, hg2⟩ := hg; obtain rfl := hg2 rfl; clear hg2; have HG := Lib.hid hg1; have H1 := Lib.hid (HH.out.below hb1); have T1 := Lib.hid (HT.out.below hb1); have H2 := Lib.hid (H1.out.below (newGrid_below (gridF rows) w1)); have T2 := Lib.hid (T1.out.below (newGrid_below (gridF rows) w1)); have G2 := Lib.hid (newGrid_at HG.out w1); have BX1 : Hid (Boxed (newGrid (gridF rows) w1) (w.heap.size + 1) 25 (.slice none 0 0)) := Lib.hid ((((hb1.trans ((newGrid_below (gridF rows) w1).mono hb1.size)).block _ HBX.out.lt).trans HBX.out)); clear hg1 hb1) | (refine wpList_store_row rfl 60 (.tmp 4) (.tmp 10) rfl w1.heap.size (gridCells (gridF rows)) rfl rfl 60 (gridCells fun _ => 0) (store_new w1).1 (by rw [gridCells_size]; exact sizeGrid) (by rw [gridCells_size, gridCells_size]) (gridCells_one _) ?_))
    refine (back_any w1.heap.size rows.length (gridF rows) _ G2.out T2.out HN.out HEL.out).mono ?_
    rintro e w5 ⟨rfl, hb5⟩
    rw [HBN.out]
    have H5 := Lib.hid (H2.out.below hb5)
    have T5 := Lib.hid (T2.out.below hb5)
    have H6 := Lib.hid (H5.out.below (newGrid_below (gridF (backRows rows)) w5))
    have T6 := Lib.hid (T5.out.below (newGrid_below (gridF (backRows rows)) w5))
    have G6 := Lib.hid (newGrid_at HLT.out w5)
    have BX6 : Hid (Boxed (newGrid (gridF (backRows rows)) w5) (w.heap.size + 1) 25 (.slice none 0 0)) := Lib.hid (((hb5.trans ((newGrid_below (gridF (backRows rows)) w5).mono hb5.size)).block _ BX1.out.lt).trans BX1.out)
    clear hb5
    go_wp2_with (refine wpList_store_row rfl 60 (.tmp 6) (.tmp 15) rfl w5.heap.size (gridCells (gridF (backRows rows))) rfl rfl 60 (gridCells fun _ => 0) (store_new w5).1 (by rw [gridCells_size]; exact sizeGrid) (by rw [gridCells_size, gridCells_size]) (gridCells_one _) ?_)
    refine (order_any w5.heap.size rows.length (gridF (backRows rows)) _ G6.out T6.out HGB.out).mono ?_
    rintro e w7 hp
    obtain ⟨a7, C7, rfl, ho, hb7⟩ := hp.form
    have hlt6 := BX6.out.lt
    have hz6 : w.heap.size + 1 < (newGrid (gridF (backRows rows)) w5).heap.size := hlt6
    have BX7 : Hid (Boxed w7 (w.heap.size + 1) 25 (.slice none 0 0)) := Lib.hid ((hb7.block _ hlt6).trans BX6.out)
    have HO := Lib.hid ho
    have HB := Lib.hid (H6.out.2.2.1.trans (hb7.mono (Nat.le_of_lt (Nat.lt_of_le_of_lt (Nat.le_succ _) hz6))))
    have hc2 := BX7.out.cell
    have hf2 := BX7.out.frozen
    clear ho hb7 hp
    go_wp2
    have hc9 := World.cell?_setCell_same' w7 ⟨w.heap.size + 1, 0, none⟩ (.slice a7 rows.length C7) (by rw [hc2]; rfl)
    refine bodyPost_ret (v := .tuple #[.agg #[.slice a7 rows.length C7], .bool true]) (by simp [results, Tryd.results31, go_sem, hc9]) rfl ?_
    refine ⟨_, rfl, ?_, HB.out.setCell (p := ⟨w.heap.size + 1, 0, none⟩) (Nat.le_succ _) _⟩
    rw [hlen, size_setCell]
    refine ((HO.out.kept fun b hb' _ => Below.heap_setCell _ _ _ b (show b ≠ w.heap.size + 1 from fun e => by rw [e] at hb'; exact absurd hz6 (Nat.not_lt.2 hb'))).wider (Nat.le_of_lt (Nat.lt_of_le_of_lt (Nat.le_succ _) hz6)) (Nat.le_refl _)).congr fun j hj => ?_
    have hj' : j < (backRows rows).length := by rw [hlen]; exact hj
    rw [rowsF_lt hj', HOK.out.back.elems hj']
    rfl
end Go.Proofs.YtjlemkmpmjdjaaaDoor

/- The program's OrderCovers. -/
namespace Go.Proofs.YtjlemkmpmjdjaaaDoor
open Go.RowKit Go.Deep Go.Shelf

set_option maxRecDepth 100000 in
set_option maxHeartbeats 4000000 in
theorem implCovers_any (v : Value) (rows : Rows2) (w : World) (hv : RowsAt w v rows) (hT : Tab w) (hn : bulk rows ≤ 1048576) :
    Calls Tryd.prog 33 #[.agg #[v]] w (RowsP (coverB rows) (validB rows) w) := by
  have hH := Held.start w 25 hv
  have hT1 := hT.below ((Below.refl _ w).alloc (Nat.le_refl _) (.cells #[v] 25))
  have hcall := fun t h => gridOf_t v rows _ hH.2.1 hT1 hn (t := t) h
  have hz := (zero_of_info zeroGrid).1
  obtain ⟨A, C, rfl, _⟩ := hv
  have HH := Lib.hid hH
  have HT := Lib.hid hT1
  clear hH hT hT1
  unfold coverB
  cases hval : validB rows with
  | false =>
    have hc := hcall false hval
    rw [if_neg (by simp)]
    clear hval hcall
    go_enter Tryd.func33, Tryd.ntmps33
    go_wp2_with (first | (go_at_call 66; refine hc.mono ?_; clear hc; rintro e w1 ⟨⟨g, hg, rfl⟩, hb1⟩; have HG := Lib.hid hg; have H1 := Lib.hid (HH.out.below hb1); clear hg hb1) | (refine wpList_store_row rfl 60 (.tmp 4) (.tmp 11) rfl w1.heap.size (gridCells g) rfl rfl 60 (gridCells fun _ => 0) (store_new w1).1 (by rw [gridCells_size]; exact sizeGrid) (by rw [gridCells_size, gridCells_size]) (gridCells_one _) ?_))
    go_ret2
    exact ⟨_, rfl, OwnR.nil _ _ _ _ _ _, (H1.out.below (newGrid_below g w1)).2.2.1⟩
  | true =>
    have hok := ok_of_valid hval
    have hc := hcall true hval
    have HOK := Lib.hid hok
    have HN := Lib.hid hok.gridN
    have hn2 : rows.length ≤ 200 := hok.gridN.le
    have HEL : Hid (∀ i k, k ∈ elems (aboveF (gridF rows) i) → k < 200) := Lib.hid (fun i k hk => by
      have h := (mem_elems (above_lt hok i)).1 hk
      rw [testBit_above, Bool.and_eq_true] at h
      exact hok.lt200 h.1)
    have hmk := run_make_row' (P := Tryd.prog) 23 28 (.slice none 0 0) 24 Tryd.underlying23 infoInts rfl .i64 .i64 rows.length (by omega) (by omega)
    rw [if_pos rfl]
    clear hval hcall hok
    go_enter Tryd.func33, Tryd.ntmps33
    go_wp2_with (first | (go_at_call 66; refine hc.mono ?_; clear hc; rintro e w1 ⟨⟨g, hg, rfl⟩, hb1⟩; obtain ⟨hg1, hg2⟩ := hg; obtain rfl := hg2 rfl; clear hg2; have HG := Lib.hid hg1; have H1 := Lib.hid (HH.out.below hb1); have T1 := Lib.hid (HT.out.below hb1); have H2 := Lib.hid (H1.out.below (newGrid_below (gridF rows) w1)); have T2 := Lib.hid (T1.out.below (newGrid_below (gridF rows) w1)); have G2 := Lib.hid (newGrid_at HG.out w1); clear hg1 hb1) | (refine wpList_store_row rfl 60 (.tmp 4) (.tmp 11) rfl w1.heap.size (gridCells (gridF rows)) rfl rfl 60 (gridCells fun _ => 0) (store_new w1).1 (by rw [gridCells_size]; exact sizeGrid) (by rw [gridCells_size, gridCells_size]) (gridCells_one _) ?_) | (go_at_call 80; refine (size_any w1.heap.size rows.length (gridF rows) _ G2.out HN.out.le HN.out.some HN.out.none).mono ?_; rintro e w3 ⟨rfl, hb3⟩; have L3 := Lib.hid (Look.step (⟨G2.out, T2.out, Below.refl _ _, G2.out.lt⟩ : Look w1.heap.size (gridF rows) (newGrid (gridF rows) w1) (newGrid (gridF rows) w1)) hb3); clear hb3))
    clear hmk
    have hz2 := H2.out.2.2.1.size
    have hz3 := L3.out.below.size
    have LA := Lib.hid (L3.out.step ((Below.refl _ w3).alloc (Nat.le_refl _) (.cells (madeCells #[.slice none 0 0] rows.length) 28)))
    have OA := Lib.hid (OwnR.made w3 rows.length w.heap.size (by unfold maxLen; omega) (Nat.le_trans hz2 hz3) (fun i => intsOf (elems (coversF (gridF rows) i))))
    go_loopw [19] (fun iv wr => ∃ i : Nat, i ≤ rows.length ∧ iv = .int .i64 i ∧ OwnR 3 28 wr (.slice (some ⟨w3.heap.size, 0, none⟩) rows.length rows.length) rows.length (upto (fun i => intsOf (elems (coversF (gridF rows) i))) i) w.heap.size wr.heap.size ∧ Look w1.heap.size (gridF rows) (newGrid (gridF rows) w1) wr) (fun iv _ => rows.length - (intOf iv).toNat)
    case atStart => exact ⟨0, Nat.zero_le _, rfl, OA.out, LA.out⟩
    case round =>
      obtain ⟨i, hi, rfl, ho, hL⟩ := hrel
      have HO := Lib.hid ho
      have HL := Lib.hid hL
      clear LA OA ho hL
      by_cases hlt : i < rows.length
      · have hi0 : (0 : Int) ≤ (i : Int) := by omega
        have HCALL := Lib.hid (covers_any w1.heap.size i i (gridF rows) wr HL.out.grid HL.out.tab rfl (by omega) (HEL.out i))
        go_wp2_with fail
        refine HCALL.out.mono ?_
        clear HCALL
        rintro e w4 ⟨rfl, hb4⟩
        have L4 := Lib.hid (HL.out.step hb4)
        have HCALL := Lib.hid (list_any (coversF (gridF rows) i) w4 (covers_lt HOK.out i) L4.out.tab)
        have HB4 := Lib.hid hb4
        clear hb4
        go_wp2_with fail
        refine HCALL.out.mono ?_
        clear HCALL
        rintro e w5 ⟨v', rfl, hv', hb5⟩
        have HB5 := Lib.hid (HB4.out.trans (hb5.mono HB4.out.size))
        have L5 := Lib.hid (L4.out.step hb5)
        obtain ⟨⟨u, hu⟩, hfz, hgl⟩ := HO.out.cellOf hlt
        have hu2 : w5.cell? ⟨w3.heap.size, i, none⟩ = some u := (HB5.out.cell (p := ⟨w3.heap.size, i, none⟩) hgl).trans hu
        have hf2 : w5.frozen? ⟨w3.heap.size, i, none⟩ = false := (HB5.out.frozen (p := ⟨w3.heap.size, i, none⟩) hgl).trans hfz
        have HV := Lib.hid (hv'.wider HB4.out.size (Nat.le_refl _))
        obtain ⟨a', C', rfl⟩ := hv'.form
        clear hv' hb5 hu hfz
        go_wp2
        go_roundw
        case rel =>
          refine ⟨i + 1, by omega, by go_num, ?_, L5.out.set (p := w3.heap.size) hz3 _ _⟩
          rw [← upto_step]
          exact HO.out.fill HB5.out HV.out
        case measure => simp [intOf]; omega
      · obtain rfl : i = rows.length := by omega
        go_wp2
        go_ret2
        refine ⟨_, rfl, ?_, H2.out.2.2.1.trans (HL.out.below.mono hz2)⟩
        have e1 : ((List.range rows.length).map (coversI rows)).length = rows.length := by simp
        rw [e1]
        refine HO.out.congr fun j hj => ?_
        rw [rowsF_lt (by rw [e1]; exact hj)]
        unfold upto
        rw [if_pos hj]
        simp only [List.getElem_map, List.getElem_range]
        exact (covers_eq HOK.out hj).symm
end Go.Proofs.YtjlemkmpmjdjaaaDoor
