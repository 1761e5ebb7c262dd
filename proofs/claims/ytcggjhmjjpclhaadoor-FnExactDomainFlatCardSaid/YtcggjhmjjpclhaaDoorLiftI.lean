/- The program's lift of a domain, unbuilt: how many elements it has, and what is below what. -/
import Derived.Test.YtcggjhmjjpclhaaDoorIsMono
import Derived.Test.YtcggjhmjjpclhaaDoorImplFun
namespace Go.Proofs.YtcggjhmjjpclhaaDoor
open Go.RowKit Go.Deep Go.Shelf

theorem one_new (W : World) (a : Value) (t : TypeId) : (W.alloc (.cells #[a] t)).cell? ⟨W.heap.size, 0, none⟩ = some a := by
  rw [cell_of_row _ W.heap.size 0 _ _ _ (heap_alloc_new _ _)]; rfl

/-- Is a below b in the lift? -/
def liftB (g : Nat → Nat) (a b : Nat) : Bool := decide (a = 0) || (decide (0 < b) && (g (a - 1)).testBit (b - 1))

end Go.Proofs.YtcggjhmjjpclhaaDoor
