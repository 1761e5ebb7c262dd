/- The program's isElement; a new variable that holds a grid. -/
import Derived.Test.YtkjncgnclogfeaaDoorGridOf
namespace Go.Proofs.YtkjncgnclogfeaaDoor
open Go.RowKit Go.Deep

theorem isElement_any (v : Value) (rows : Rows2) (a : Int) (w : World) (hv : RowsAt w v rows) : 
    Calls Tryd.prog 62 #[.agg #[v], .int .i64 a] w (SaysN (decide (0 ≤ a ∧ a < rows.length)) w) := by
  have b1 : Below w.heap.size w (w.alloc (.cells #[v] 26)) := (Below.refl _ w).alloc (Nat.le_refl _) _
  obtain ⟨A, C, rfl, _⟩ := hv
  have HB := Lib.hid b1
  clear b1
  by_cases h1 : 0 ≤ a
  · by_cases h2 : a < rows.length
    · rw [decide_eq_true ⟨h1, h2⟩]
      go_enter Tryd.func62, Tryd.ntmps62
      go_wp2
      go_ret
      exact ⟨rfl, HB.out⟩
    · rw [decide_eq_false (fun h => h2 h.2)]
      go_enter Tryd.func62, Tryd.ntmps62
      go_wp2
      go_ret
      exact ⟨rfl, HB.out⟩
  · rw [decide_eq_false (fun h => h1 h.1)]
    go_enter Tryd.func62, Tryd.ntmps62
    go_wp2
    go_ret
    exact ⟨rfl, HB.out⟩

/-- A new variable that holds a grid, laid behind w1. -/
def newGrid (g : Nat → Nat) (w1 : World) : World := (w1.alloc (.cells (gridCells fun _ => 0) 83)).setRow w1.heap.size (gridCells g)
theorem newGrid_at {g : Nat → Nat} (hg : ∀ i, g i < 2 ^ 256) (w1 : World) : GridAt (newGrid g w1) w1.heap.size g :=
  GridAt.setRow (g := fun _ => 0) ⟨heap_alloc_new _ _, fun _ => Nat.two_pow_pos 256⟩ hg
theorem newGrid_below (g : Nat → Nat) (w1 : World) : Below w1.heap.size w1 (newGrid g w1) := below_setRow' ((Below.refl _ w1).alloc (Nat.le_refl _) _) (Nat.le_refl _) _

theorem store_new (w1 : World) : GridAt (w1.alloc (.cells (gridCells fun _ => 0) 83)) w1.heap.size (fun _ => 0) := ⟨heap_alloc_new _ _, fun _ => Nat.two_pow_pos 256⟩
end Go.Proofs.YtkjncgnclogfeaaDoor
