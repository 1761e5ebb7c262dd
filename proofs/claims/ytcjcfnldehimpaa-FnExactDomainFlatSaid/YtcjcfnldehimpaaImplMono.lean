/- The program's look at a monotone function (isMonotone). -/
import Derived.Test.YtcjcfnldehimpaaMonoS
import Derived.Test.YtcjcfnldehimpaaGrid
import Derived.Test.YtcjcfnldehimpaaGridPure
import Derived.Test.YtcjcfnldehimpaaFits
import Derived.Test.YtcjcfnldehimpaaBottom
namespace Go.Proofs.Ytcjcfnldehimpaa
open Go.RowKit Go.Deep Go.Shelf

/-- A number that is no element. -/
def outN (n : Nat) (k : Int) : Bool := decide (k < 0) || decide ((n : Int) ≤ k)

/-- Where the first number that is no element stands, or -1. -/
def IdxPost (f : List Int) (n : Nat) (w : World) (e : Ending) (w' : World) : Prop :=
  (∃ r : Int, e = .returned (.int .i64 r) ∧ (0 ≤ r ↔ ∃ x ∈ f, outN n x = true)) ∧ w' = w

end Go.Proofs.Ytcjcfnldehimpaa
