/- The program's look at a monotone function (isMonotone). -/
import Derived.Test.YtcggjhmjjpclhaaDoorMonoS
import Derived.Test.YtcggjhmjjpclhaaDoorGrid
import Derived.Test.YtcggjhmjjpclhaaDoorGridPure
import Derived.Test.YtcggjhmjjpclhaaDoorFits
import Derived.Test.YtcggjhmjjpclhaaDoorBottom
namespace Go.Proofs.YtcggjhmjjpclhaaDoor
open Go.RowKit Go.Deep Go.Shelf

theorem gbelow_any (b : Nat) (g : Nat → Nat) (x y : Int) (i j : Nat) (w : World) (hg : GridAt w b g) (hx : x = i) (hi : i < 200) (hy : y = j) (hj : j < 256) :
    Calls Tryd.prog 52 #[.pointer (some ⟨b, 0, none⟩), .int .i64 x, .int .i64 y] w (SaysN ((g i).testBit j) w) := by
  subst hx hy
  obtain ⟨c0, c1, c2, c3⟩ := hg.row i hi
  have hi0 : (0 : Int) ≤ (i : Int) := by omega
  have hi1 : (i : Int) < 200 := by omega
  go_enter Tryd.func52, Tryd.ntmps52
  go_wp2_with (go_at_call 54; refine (has_any (g i) j j w rfl hj).mono ?_; rintro e w1 ⟨rfl, hb1⟩)
  go_ret
  exact ⟨rfl, hb1⟩

/-- A number that is no element. -/
def outN (n : Nat) (k : Int) : Bool := decide (k < 0) || decide ((n : Int) ≤ k)

/-- Where the first number that is no element stands, or -1. -/
def IdxPost (f : List Int) (n : Nat) (w : World) (e : Ending) (w' : World) : Prop :=
  (∃ r : Int, e = .returned (.int .i64 r) ∧ (0 ≤ r ↔ ∃ x ∈ f, outN n x = true)) ∧ w' = w

end Go.Proofs.YtcggjhmjjpclhaaDoor
