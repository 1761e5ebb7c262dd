/- The program's check of all elements (isOrder). -/
import Derived.Test.YtcggjhmjjpclhaaDoorFits
namespace Go.Proofs.YtcggjhmjjpclhaaDoor
open Go.RowKit Go.Deep

/-- All rows are covered, or one is bad. -/
def OrderPost (g : Nat → Nat) (n : Nat) (w : World) (e : Ending) (w' : World) : Prop :=
  (∃ t : Bool, (t = true → ∀ i, i < n → CovAll g i) ∧ (t = false → ∃ i, i < n ∧ BadBit g i) ∧ e = .returned (.bool t)) ∧ Below w.heap.size w w'

end Go.Proofs.YtcggjhmjjpclhaaDoor
