/- The program's isElement; a new variable that holds a grid. -/
import Derived.Test.YtkhhbpeheikmfaaDoorGridOf
namespace Go.Proofs.YtkhhbpeheikmfaaDoor
open Go.RowKit Go.Deep

/-- A new variable that holds a grid, laid behind w1. -/
def newGrid (g : Nat → Nat) (w1 : World) : World := (w1.alloc (.cells (gridCells fun _ => 0) 94)).setRow w1.heap.size (gridCells g)
theorem newGrid_at {g : Nat → Nat} (hg : ∀ i, g i < 2 ^ 256) (w1 : World) : GridAt (newGrid g w1) w1.heap.size g :=
  GridAt.setRow (g := fun _ => 0) ⟨heap_alloc_new _ _, fun _ => Nat.two_pow_pos 256⟩ hg
theorem newGrid_below (g : Nat → Nat) (w1 : World) : Below w1.heap.size w1 (newGrid g w1) := below_setRow' ((Below.refl _ w1).alloc (Nat.le_refl _) _) (Nat.le_refl _) _

theorem store_new (w1 : World) : GridAt (w1.alloc (.cells (gridCells fun _ => 0) 94)) w1.heap.size (fun _ => 0) := ⟨heap_alloc_new _ _, fun _ => Nat.two_pow_pos 256⟩
end Go.Proofs.YtkhhbpeheikmfaaDoor
