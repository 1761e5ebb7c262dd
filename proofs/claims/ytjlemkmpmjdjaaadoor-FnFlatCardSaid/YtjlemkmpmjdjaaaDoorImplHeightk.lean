/- The program's OrderHeight. -/
import Derived.Test.YtjlemkmpmjdjaaaDoorPa21
import Derived.Test.YtjlemkmpmjdjaaaDoorPa20
import Derived.Test.YtjlemkmpmjdjaaaDoorHeightk
namespace Go.Proofs.YtjlemkmpmjdjaaaDoor
open Go.RowKit Go.Deep Go.Shelf

set_option maxHeartbeats 2000000 in
theorem implHeight_any (v : Value) (rows : Rows2) (w : World) (hv : RowsAt w v rows) (hT : Tab w) (hn : bulk rows ≤ 1048576) :
    Calls Tryd.prog 41 #[.agg #[v]] w (SaysI (heightB rows) w) := by
  have hH := Held.start w 25 hv
  have hT1 := hT.below ((Below.refl _ w).alloc (Nat.le_refl _) (.cells #[v] 25))
  have hcall := fun t h => gridOf_t v rows _ hH.2.1 hT1 hn (t := t) h
  have hz := (zero_of_info zeroGrid).1
  obtain ⟨A, C, rfl, _⟩ := hv
  have HH := Lib.hid hH
  have HT := Lib.hid hT1
  clear hH hT hT1
  unfold heightB
  cases hval : validB rows with
  | false =>
    have hc := hcall false hval
    rw [if_neg (by simp)]
    clear hval hcall
    go_enter Tryd.func41, Tryd.ntmps41
    go_wp2_with (first | (go_at_call 66; refine hc.mono ?_; clear hc; rintro e w1 ⟨⟨g, hg, rfl⟩, hb1⟩; have HG := Lib.hid hg; have H1 := Lib.hid (HH.out.below hb1); clear hg hb1) | (refine wpList_store_row rfl 60 (.tmp 3) (.tmp 8) rfl w1.heap.size (gridCells g) rfl rfl 60 (gridCells fun _ => 0) (store_new w1).1 (by rw [gridCells_size]; exact sizeGrid) (by rw [gridCells_size, gridCells_size]) (gridCells_one _) ?_))
    go_ret
    exact ⟨rfl, (H1.out.below (newGrid_below g w1)).2.2.1⟩
  | true =>
    have hok := ok_of_valid hval
    have hc := hcall true hval
    have HN := Lib.hid hok.gridN
    have HLF := Lib.hid (left_lt hok)
    have HSUB := Lib.hid (fun t k (hk : k ∈ elems (leftF (gridF rows) rows.length t)) => by
      rw [mem_elems (left_lt hok t), left_bit hok, decide_eq_true_iff] at hk
      exact hk.1)
    have HNO := Lib.hid (show ∀ t, t < heightF rows → leftF (gridF rows) rows.length t ≠ 0 from fun t ht e => absurd ((left_zero hok t).1 e) (Nat.not_le_of_lt ht))
    have HZ := Lib.hid ((left_zero hok (heightF rows)).2 (Nat.le_refl _))
    rw [if_pos rfl]
    clear hval hcall hok
    go_enter Tryd.func41, Tryd.ntmps41
    go_wp2_with (first | (go_at_call 66; refine hc.mono ?_; clear hc; rintro e w1 ⟨⟨g, hg, rfl⟩, hb1⟩; obtain ⟨hg1, hg2⟩ := hg; obtain rfl := hg2 rfl; clear hg2; have HG := Lib.hid hg1; have H1 := Lib.hid (HH.out.below hb1); have T1 := Lib.hid (HT.out.below hb1); clear hg1 hb1; have H2 := Lib.hid (H1.out.below (newGrid_below (gridF rows) w1)); have T2 := Lib.hid (T1.out.below (newGrid_below (gridF rows) w1)); have G2 := Lib.hid (newGrid_at HG.out w1)) | (refine wpList_store_row rfl 60 (.tmp 3) (.tmp 8) rfl w1.heap.size (gridCells (gridF rows)) rfl rfl 60 (gridCells fun _ => 0) (store_new w1).1 (by rw [gridCells_size]; exact sizeGrid) (by rw [gridCells_size, gridCells_size]) (gridCells_one _) ?_) | (go_at_call 91; refine (height_any w1.heap.size rows.length (heightF rows) (gridF rows) _ G2.out T2.out HN.out HSUB.out HLF.out (height_le rows) HNO.out HZ.out).mono ?_; rintro e w3 ⟨rfl, hb3⟩; have H3 := Lib.hid (H2.out.below hb3); clear hb3))
    go_ret
    exact ⟨rfl, H3.out.2.2.1⟩
end Go.Proofs.YtjlemkmpmjdjaaaDoor
