/- The program's check of a monotone function (isMonotone). -/
import Derived.Test.YtcjcfnldehimpaaImplMono
import Derived.Test.YtcjcfnldehimpaaBottom
import Derived.Lib.QuietBelow
import Derived.BigQuiet
namespace Go.Proofs.Ytcjcfnldehimpaa
open Go.RowKit Go.Deep Go.Shelf

/-- The list f is a monotone function of the n rows g to the n' rows g'. -/
def MonoG (g g' : Nat → Nat) (n n' : Nat) (f : List Int) : Prop :=
  f.length = n ∧ (∀ x ∈ f, outN n' x = false) ∧ ∀ a b : Nat, a < n → b < n → (g a).testBit b = true → (g' (f.getD a 0).toNat).testBit (f.getD b 0).toNat = true

end Go.Proofs.Ytcjcfnldehimpaa
