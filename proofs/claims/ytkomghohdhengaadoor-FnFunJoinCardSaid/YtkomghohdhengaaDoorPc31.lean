/- Flat domains and chains: the program's and the model's functions. -/
import Derived.Test.YtkomghohdhengaaDoorPc28
import Derived.Test.YtkomghohdhengaaDoorPc29
import Derived.Test.YtkomghohdhengaaDoorPc22
import Derived.Test.YtkomghohdhengaaDoorPc13
import Derived.Test.YtkomghohdhengaaDoorPc19
import Derived.Test.YtkomghohdhengaaDoorPc8
import Derived.Deep.RegionLaw
import Derived.Deep.AppendLies
import Derived.Test.YtkomghohdhengaaDoorPc27
namespace Go.Proofs.YtkomghohdhengaaDoor
open Go.RowKit Go.Deep Go.Shelf

def chainOk (z : Int) : Bool := decide (1 ≤ z ∧ z ≤ 200)
def chainL (z : Int) : Rows2 := if chainOk z = true then madeL chainB z.toNat else []

theorem orderP_zero {t : Bool} {xs : Rows2} {w W : World} (hx : xs = []) (ht : t = false) (hb : Below w.heap.size w W) : OrderP xs t w (.returned (.tuple #[.agg #[.slice none 0 0], .bool false])) W := by
  subst hx ht
  exact ⟨_, rfl, OwnR.nil _ _ _ _ _ _, hb⟩
theorem orderP_made {B : Nat → Nat → Bool} {N : Nat} {t : Bool} {xs : Rows2} {w W : World} {b : Nat} {u : Value} (hx : xs = madeL B N) (ht : t = true) (ho : OwnR 3 26 W u N (fun q => bRow B q N) (w.heap.size + 1) W.heap.size) (hb : Below w.heap.size w W) (he : b = w.heap.size) :
    OrderP xs t w (.returned (.tuple #[.agg #[u], .bool true])) (W.setCell ⟨b, 0, none⟩ u) := by
  subst hx ht he
  refine ⟨_, rfl, ?_, hb.setCell (p := ⟨w.heap.size, 0, none⟩) (Nat.le_refl _) _⟩
  rw [madeL_len, size_setCell]
  refine ((ho.kept fun b hb _ => Below.heap_setCell _ _ _ b (show b ≠ w.heap.size by omega)).wider (Nat.le_succ _) (Nat.le_refl _)).congr fun q hq => ?_
  rw [rowsF_lt (by rw [madeL_len]; exact hq), madeL_at]

end Go.Proofs.YtkomghohdhengaaDoor

/- Draws of one order: the form that the laws use. -/
namespace Go.Proofs.YtkomghohdhengaaDoor
open Go.RowKit Go.Deep Go.Shelf

end Go.Proofs.YtkomghohdhengaaDoor

/- Lists drawn from a code (DrawOrderFrom). -/
namespace Go.Proofs.YtkomghohdhengaaDoor
open Go.RowKit Go.Deep Go.Shelf

end Go.Proofs.YtkomghohdhengaaDoor
