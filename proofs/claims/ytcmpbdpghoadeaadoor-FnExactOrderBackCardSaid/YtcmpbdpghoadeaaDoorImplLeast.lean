/- The program's OrderLeast. -/
import Derived.Test.YtcmpbdpghoadeaaDoorTops
import Derived.Test.YtcmpbdpghoadeaaDoorIsEl
import Derived.Test.YtcmpbdpghoadeaaDoorLeastS
namespace Go.Proofs.YtcmpbdpghoadeaaDoor
open Go.RowKit Go.Deep Go.Shelf

theorem Ok.gridN {rows : List (List Int)} (h : Ok rows) : GridN (gridF rows) rows.length :=
  ⟨h.len.2, fun i hi e => by have := h.own i hi; rw [e] at this; simp at this, fun _ => gridF_out rows (Nat.le_refl _)⟩

/-- What gridOf answers, its Boolean being known. -/
def GridT (t : Bool) (rows : Rows2) (w : World) (e : Ending) (w' : World) : Prop :=
  (∃ g : Nat → Nat, ((∀ i, g i < 2 ^ 256) ∧ (t = true → g = gridF rows)) ∧ e = .returned (.tuple #[.agg (gridCells g), .bool t])) ∧ Below w.heap.size w w'
theorem gridOf_t (v : Value) (rows : Rows2) (w : World) (hv : RowsAt w v rows) (hT : Tab w) (hn : bulk rows ≤ 1048576) {t : Bool} (ht : validB rows = t) :
    Calls Tryd.prog 52 #[.agg #[v]] w (GridT t rows w) :=
  (gridOf_any v rows w hv hT hn).mono fun _ _ ⟨⟨g, h1, h2, h3⟩, h4⟩ => ⟨⟨g, ⟨h1, fun h => h2 (by rw [ht]; exact h)⟩, by rw [h3, ht]⟩, h4⟩

set_option maxHeartbeats 2000000 in
theorem implLeast_any (v : Value) (rows : Rows2) (w : World) (hv : RowsAt w v rows) (hT : Tab w) (hn : bulk rows ≤ 1048576) :
    Calls Tryd.prog 19 #[.agg #[v]] w (SaysI (leastB rows) w) := by
  have hH := Held.start w 27 hv
  have hT1 := hT.below ((Below.refl _ w).alloc (Nat.le_refl _) (.cells #[v] 27))
  have hcall := fun t h => gridOf_t v rows _ hH.2.1 hT1 hn (t := t) h
  have hz := (zero_of_info zeroGrid).1
  obtain ⟨A, C, rfl, _⟩ := hv
  have HH := Lib.hid hH
  have HT := Lib.hid hT1
  clear hH hT hT1
  unfold leastB
  cases hval : validB rows with
  | false =>
    have hc := hcall false hval
    rw [if_neg (by simp)]
    clear hval hcall
    go_enter Tryd.func19, Tryd.ntmps19
    go_wp2_with (first | (go_at_call 52; refine hc.mono ?_; clear hc; rintro e w1 ⟨⟨g, hg, rfl⟩, hb1⟩; have HG := Lib.hid hg; have H1 := Lib.hid (HH.out.below hb1); clear hg hb1) | (refine wpList_store_row rfl 54 (.tmp 3) (.tmp 8) rfl w1.heap.size (gridCells g) rfl rfl 54 (gridCells fun _ => 0) (store_new w1).1 (by rw [gridCells_size]; exact sizeGrid) (by rw [gridCells_size, gridCells_size]) (gridCells_one _) ?_))
    go_ret
    exact ⟨rfl, (H1.out.below (newGrid_below g w1)).2.2.1⟩
  | true =>
    have hok := ok_of_valid hval
    have hc := hcall true hval
    have hle := least_eq hok
    have hgn := hok.gridN
    rw [if_pos rfl, hle]
    have HN := Lib.hid hgn
    clear hval hcall hle hgn hok
    go_enter Tryd.func19, Tryd.ntmps19
    go_wp2_with (first | (go_at_call 52; refine hc.mono ?_; clear hc; rintro e w1 ⟨⟨g, hg, rfl⟩, hb1⟩; obtain ⟨hg1, hg2⟩ := hg; obtain rfl := hg2 rfl; clear hg2; have HG := Lib.hid hg1; have H1 := Lib.hid (HH.out.below hb1); have T1 := Lib.hid (HT.out.below hb1); clear hg1 hb1; have H2 := Lib.hid (H1.out.below (newGrid_below (gridF rows) w1)); have T2 := Lib.hid (T1.out.below (newGrid_below (gridF rows) w1)); have G2 := Lib.hid (newGrid_at HG.out w1)) | (refine wpList_store_row rfl 54 (.tmp 3) (.tmp 8) rfl w1.heap.size (gridCells (gridF rows)) rfl rfl 54 (gridCells fun _ => 0) (store_new w1).1 (by rw [gridCells_size]; exact sizeGrid) (by rw [gridCells_size, gridCells_size]) (gridCells_one _) ?_) | (go_at_call 53; refine (least_any w1.heap.size rows.length (gridF rows) _ G2.out T2.out HN.out).mono ?_; rintro e w3 ⟨rfl, hb3⟩; have H3 := Lib.hid (H2.out.below hb3); clear hb3))
    go_ret
    exact ⟨rfl, H3.out.2.2.1⟩
end Go.Proofs.YtcmpbdpghoadeaaDoor
