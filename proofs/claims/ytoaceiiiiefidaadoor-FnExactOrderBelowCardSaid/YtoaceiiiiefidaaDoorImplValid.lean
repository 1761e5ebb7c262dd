/- The program's OrderValid. -/
import Derived.Test.YtoaceiiiiefidaaDoorGridOf
namespace Go.Proofs.YtoaceiiiiefidaaDoor
open Go.RowKit Go.Deep

/-- The answer of OrderValid. -/
theorem implValid_any (v : Value) (rows : Rows2) (w : World) (hv : RowsAt w v rows) (hT : Tab w) (hn : bulk rows ≤ 1048576) :
    Calls Tryd.prog 18 #[.agg #[v]] w (SaysN (validB rows) w) := by
  have b1 : Below w.heap.size w (w.alloc (.cells #[v] 27)) := (Below.refl _ w).alloc (Nat.le_refl _) _
  have hcall := gridOf_any v rows _ (hv.below b1) (hT.below b1) hn
  have hz := (zero_of_info zeroGrid).1
  obtain ⟨A, C, rfl, _⟩ := hv
  clear hT
  go_enter Tryd.func18, Tryd.ntmps18
  go_wp2_with (first | (go_at_call 51; refine hcall.mono ?_; clear hcall; rintro e w1 ⟨⟨g, hg, hgv, rfl⟩, hb1⟩; have HG := Lib.hid hg; have HB1 := Lib.hid (b1.trans (hb1.mono (by simp))); have hG0 : GridAt (w1.alloc (.cells (gridCells fun _ => 0) 52)) w1.heap.size (fun _ => 0) := ⟨heap_alloc_new _ _, fun _ => Nat.two_pow_pos 256⟩; clear hg hgv hb1) | (refine wpList_store_row rfl 52 (.tmp 3) (.tmp 8) rfl w1.heap.size (gridCells g) rfl rfl 52 (gridCells fun _ => 0) hG0.1 (by rw [gridCells_size]; exact sizeGrid) (by rw [gridCells_size, gridCells_size]) (gridCells_one _) ?_))
  go_ret
  exact ⟨rfl, below_setRow' (HB1.out.alloc HB1.out.size _) HB1.out.size _⟩
end Go.Proofs.YtoaceiiiiefidaaDoor
