/- OrderBack, of the model and of the program. -/
import Derived.Test.YtcmpbdpghoadeaaDoorBackS
import Derived.Test.YtcmpbdpghoadeaaDoorImplMeet
import Derived.Test.YtcmpbdpghoadeaaDoorOrderG
import Derived.Test.YtcmpbdpghoadeaaDoorLw
namespace Go.Proofs.YtcmpbdpghoadeaaDoor
open Go.RowKit Go.Deep Go.Shelf

/-- What OrderBack answers. -/
noncomputable def backB (rows : Rows2) : Rows2 := if validB rows = true then backRows rows else []

theorem RowsPost.form {n : Nat} {R : Nat → List Int} {w w' : World} {e : Ending} (h : RowsPost n R w e w') : ∃ a C, e = .returned (.agg #[.slice a n C]) ∧ OwnR 3 48 w' (.slice a n C) n R w.heap.size w'.heap.size ∧ Below w.heap.size w w' := by
  obtain ⟨v, rfl, h1, h2⟩ := h
  obtain ⟨a, C, rfl⟩ := h1.form
  exact ⟨a, C, rfl, h1, h2⟩

set_option maxRecDepth 100000 in
set_option maxHeartbeats 4000000 in
theorem specBack_any (v : Value) (rows : Rows2) (w : World) (hv : RowsAt w v rows) (hn : bulk rows ≤ 1048576) :
    Calls Tryd.prog 36 #[.agg #[v]] w (OrderP (backB rows) (validB rows) w) := by
  have hH := (Held.start w 27 hv).below ((Below.refl _ _).alloc (Nat.le_refl _) (.cells #[.slice none 0 0] 27))
  have hbx := Boxed.new (w.alloc (.cells #[v] 27)) 27 (.slice none 0 0)
  rw [World.size_alloc] at hbx
  have hcall := specValid_any v rows _ hH.2.1 hn
  obtain ⟨A, C, rfl, _⟩ := hv
  have HH := Lib.hid hH
  have HBX := Lib.hid hbx
  clear hH hbx
  unfold backB
  cases hval : validB rows with
  | false =>
    rw [hval] at hcall
    rw [if_neg (by simp)]
    clear hval
    go_enter Tryd.func36, Tryd.ntmps36
    go_wp2_with (go_at_call 50; refine hcall.mono ?_; clear hcall; rintro e w1 ⟨rfl, hb1⟩; have H1 := Lib.hid (HH.out.below hb1); have hc1 := H1.out.1; have BX1 : Hid (Boxed w1 (w.heap.size + 1) 27 (.slice none 0 0)) := Lib.hid ((hb1.block _ HBX.out.lt).trans HBX.out); have hc2 := BX1.out.cell; have hf2 := BX1.out.frozen; clear hb1)
    have hc9 := World.cell?_setCell_same' w1 ⟨w.heap.size + 1, 0, none⟩ (.slice none 0 0) (by rw [hc2]; rfl)
    refine bodyPost_ret (v := .tuple #[.agg #[.slice none 0 0], .bool false]) (by simp [results, Tryd.results36, go_sem, hc9]) rfl ?_
    exact ⟨_, rfl, OwnR.nil _ _ _ _ _ _, H1.out.2.2.1.setCell (p := ⟨w.heap.size + 1, 0, none⟩) (Nat.le_succ _) _⟩
  | true =>
    rw [hval] at hcall
    rw [if_pos rfl]
    have hok := ok_of_valid hval
    have HOK := Lib.hid hok
    clear hval hok
    go_enter Tryd.func36, Tryd.ntmps36
    go_wp2_with (go_at_call 50; refine hcall.mono ?_; clear hcall; rintro e w1 ⟨rfl, hb1⟩; have H1 := Lib.hid (HH.out.below hb1); have hc1 := H1.out.1; have BX1 : Hid (Boxed w1 (w.heap.size + 1) 27 (.slice none 0 0)) := Lib.hid ((hb1.block _ HBX.out.lt).trans HBX.out); clear hb1)
    refine (l1Back_any _ rows w1 H1.out.2.1 HOK.out).mono ?_
    rintro e w2 ⟨v2, rfl, ho, hb2⟩
    obtain ⟨a2, C2, rfl⟩ := ho.form
    have BX2 : Hid (Boxed w2 (w.heap.size + 1) 27 (.slice none 0 0)) := Lib.hid ((hb2.block _ BX1.out.lt).trans BX1.out)
    have hlt2 := BX1.out.lt
    have HO := Lib.hid ho
    have HB := Lib.hid (H1.out.2.2.1.trans (hb2.mono (by omega)))
    have hc2 := BX2.out.cell
    have hf2 := BX2.out.frozen
    clear ho hb2 hc1
    go_wp2
    have hc9 := World.cell?_setCell_same' w2 ⟨w.heap.size + 1, 0, none⟩ (.slice a2 rows.length C2) (by rw [hc2]; rfl)
    refine bodyPost_ret (v := .tuple #[.agg #[.slice a2 rows.length C2], .bool true]) (by simp [results, Tryd.results36, go_sem, hc9]) rfl ?_
    refine ⟨_, rfl, ?_, HB.out.setCell (p := ⟨w.heap.size + 1, 0, none⟩) (Nat.le_succ _) _⟩
    rw [backRows_len, size_setCell]
    exact (HO.out.kept fun b hb' _ => Below.heap_setCell _ _ _ b (show b ≠ w.heap.size + 1 by omega)).wider (by omega) (Nat.le_refl _)

set_option maxRecDepth 100000 in
set_option maxHeartbeats 4000000 in
theorem implBack_any (v : Value) (rows : Rows2) (w : World) (hv : RowsAt w v rows) (hT : Tab w) (hn : bulk rows ≤ 1048576) :
    Calls Tryd.prog 37 #[.agg #[v]] w (OrderP (backB rows) (validB rows) w) := by
  have hb2 : Below w.heap.size w ((w.alloc (.cells #[v] 27)).alloc (.cells #[.slice none 0 0] 27)) := ((Below.refl _ w).alloc (Nat.le_refl _) _).alloc (by simp) _
  have hH := (Held.start w 27 hv).below ((Below.refl _ _).alloc (Nat.le_refl _) (.cells #[.slice none 0 0] 27))
  have hbx := Boxed.new (w.alloc (.cells #[v] 27)) 27 (.slice none 0 0)
  rw [World.size_alloc] at hbx
  have hT1 := hT.below hb2
  have hcall := fun t h => gridOf_t v rows _ hH.2.1 hT1 hn (t := t) h
  have hz := (zero_of_info zeroGrid).1
  obtain ⟨A, C, rfl, _⟩ := hv
  have HH := Lib.hid hH
  have HT := Lib.hid hT1
  have HBX := Lib.hid hbx
  clear hH hT hT1 hbx hb2
  unfold backB
  cases hval : validB rows with
  | false =>
    have hc := hcall false hval
    rw [if_neg (by simp)]
    clear hval hcall
    go_enter Tryd.func37, Tryd.ntmps37
    go_wp2_with (first | (go_at_call 52; refine hc.mono ?_; clear hc; rintro e w1 ⟨⟨g, hg, rfl⟩, hb1⟩; have HG := Lib.hid hg; have H1 := Lib.hid (HH.out.below hb1); have H2 := Lib.hid (H1.out.below (newGrid_below g w1)); have BX1 : Hid (Boxed (newGrid g w1) (w.heap.size + 1) 27 (.slice none 0 0)) := Lib.hid ((((hb1.trans ((newGrid_below g w1).mono hb1.size)).block _ HBX.out.lt).trans HBX.out)); have hc2 : (World.setRow (w1.alloc (.cells (gridCells fun _ => 0) 54)) w1.heap.size (gridCells g)).cell? ⟨w.heap.size + 1, 0, none⟩ = some (.slice none 0 0) := BX1.out.cell; have hf2 : (World.setRow (w1.alloc (.cells (gridCells fun _ => 0) 54)) w1.heap.size (gridCells g)).frozen? ⟨w.heap.size + 1, 0, none⟩ = false := BX1.out.frozen; clear hg hb1) | (refine wpList_store_row rfl 54 (.tmp 4) (.tmp 10) rfl w1.heap.size (gridCells g) rfl rfl 54 (gridCells fun _ => 0) (store_new w1).1 (by rw [gridCells_size]; exact sizeGrid) (by rw [gridCells_size, gridCells_size]) (gridCells_one _) ?_))
    have hc9 := World.cell?_setCell_same' (World.setRow (w1.alloc (.cells (gridCells fun _ => 0) 54)) w1.heap.size (gridCells g)) ⟨w.heap.size + 1, 0, none⟩ (.slice none 0 0) (by rw [hc2]; rfl)
    refine bodyPost_ret (v := .tuple #[.agg #[.slice none 0 0], .bool false]) (by simp [results, Tryd.results37, go_sem, hc9]) rfl ?_
    exact ⟨_, rfl, OwnR.nil _ _ _ _ _ _, H2.out.2.2.1.setCell (p := ⟨w.heap.size + 1, 0, none⟩) (Nat.le_succ _) _⟩
  | true =>
    have hok := ok_of_valid hval
    have hc := hcall true hval
    have HOK := Lib.hid hok
    have HN := Lib.hid hok.gridN
    have HBN := Lib.hid (backN_rows hok)
    have HEL := Lib.hid (fun i (_ : i < rows.length) k (hk : k ∈ elems (gridF rows i)) => hok.lt200 ((mem_elems (hok.lt i)).1 hk))
    have HLT := Lib.hid hok.back.lt
    have hlen := backRows_len rows
    have hgb := hok.back.gridN
    rw [hlen] at hgb
    have HGB := Lib.hid hgb
    rw [if_pos rfl]
    clear hval hcall hok hgb
    go_enter Tryd.func37, Tryd.ntmps37
    go_wp2_with (first | (go_at_call 52; refine hc.mono ?_; clear hc; rintro e w1 ⟨⟨g, hg, rfl⟩, hb1⟩; obtain ⟨hg1, hg2⟩ := hg; obtain rfl := hg2 rfl; clear hg2; have HG := Lib.hid hg1; have H1 := Lib.hid (HH.out.below hb1); have T1 := Lib.hid (HT.out.below hb1); have H2 := Lib.hid (H1.out.below (newGrid_below (gridF rows) w1)); have T2 := Lib.hid (T1.out.below (newGrid_below (gridF rows) w1)); have G2 := Lib.hid (newGrid_at HG.out w1); have BX1 : Hid (Boxed (newGrid (gridF rows) w1) (w.heap.size + 1) 27 (.slice none 0 0)) := Lib.hid ((((hb1.trans ((newGrid_below (gridF rows) w1).mono hb1.size)).block _ HBX.out.lt).trans HBX.out)); clear hg1 hb1) | (refine wpList_store_row rfl 54 (.tmp 4) (.tmp 10) rfl w1.heap.size (gridCells (gridF rows)) rfl rfl 54 (gridCells fun _ => 0) (store_new w1).1 (by rw [gridCells_size]; exact sizeGrid) (by rw [gridCells_size, gridCells_size]) (gridCells_one _) ?_))
    refine (back_any w1.heap.size rows.length (gridF rows) _ G2.out T2.out HN.out HEL.out).mono ?_
    rintro e w5 ⟨rfl, hb5⟩
    rw [HBN.out]
    have H5 := Lib.hid (H2.out.below hb5)
    have T5 := Lib.hid (T2.out.below hb5)
    have H6 := Lib.hid (H5.out.below (newGrid_below (gridF (backRows rows)) w5))
    have T6 := Lib.hid (T5.out.below (newGrid_below (gridF (backRows rows)) w5))
    have G6 := Lib.hid (newGrid_at HLT.out w5)
    have BX6 : Hid (Boxed (newGrid (gridF (backRows rows)) w5) (w.heap.size + 1) 27 (.slice none 0 0)) := Lib.hid (((hb5.trans ((newGrid_below (gridF (backRows rows)) w5).mono hb5.size)).block _ BX1.out.lt).trans BX1.out)
    clear hb5
    go_wp2_with (refine wpList_store_row rfl 54 (.tmp 6) (.tmp 15) rfl w5.heap.size (gridCells (gridF (backRows rows))) rfl rfl 54 (gridCells fun _ => 0) (store_new w5).1 (by rw [gridCells_size]; exact sizeGrid) (by rw [gridCells_size, gridCells_size]) (gridCells_one _) ?_)
    refine (order_any w5.heap.size rows.length (gridF (backRows rows)) _ G6.out T6.out HGB.out).mono ?_
    rintro e w7 hp
    obtain ⟨a7, C7, rfl, ho, hb7⟩ := hp.form
    have hlt6 := BX6.out.lt
    have hz6 : w.heap.size + 1 < (newGrid (gridF (backRows rows)) w5).heap.size := hlt6
    have BX7 : Hid (Boxed w7 (w.heap.size + 1) 27 (.slice none 0 0)) := Lib.hid ((hb7.block _ hlt6).trans BX6.out)
    have HO := Lib.hid ho
    have HB := Lib.hid (H6.out.2.2.1.trans (hb7.mono (Nat.le_of_lt (Nat.lt_of_le_of_lt (Nat.le_succ _) hz6))))
    have hc2 := BX7.out.cell
    have hf2 := BX7.out.frozen
    clear ho hb7 hp
    go_wp2
    have hc9 := World.cell?_setCell_same' w7 ⟨w.heap.size + 1, 0, none⟩ (.slice a7 rows.length C7) (by rw [hc2]; rfl)
    refine bodyPost_ret (v := .tuple #[.agg #[.slice a7 rows.length C7], .bool true]) (by simp [results, Tryd.results37, go_sem, hc9]) rfl ?_
    refine ⟨_, rfl, ?_, HB.out.setCell (p := ⟨w.heap.size + 1, 0, none⟩) (Nat.le_succ _) _⟩
    rw [hlen, size_setCell]
    refine ((HO.out.kept fun b hb' _ => Below.heap_setCell _ _ _ b (show b ≠ w.heap.size + 1 from fun e => by rw [e] at hb'; exact absurd hz6 (Nat.not_lt.2 hb'))).wider (Nat.le_of_lt (Nat.lt_of_le_of_lt (Nat.le_succ _) hz6)) (Nat.le_refl _)).congr fun j hj => ?_
    have hj' : j < (backRows rows).length := by rw [hlen]; exact hj
    rw [rowsF_lt hj', HOK.out.back.elems hj']
    rfl
end Go.Proofs.YtcmpbdpghoadeaaDoor
