/- The program's check of a monotone function (isMonotone). -/
import Derived.Test.YtcggjhmjjpclhaaDoorImplMono
import Derived.Test.YtcggjhmjjpclhaaDoorBottom
import Derived.Lib.QuietBelow
import Derived.BigQuiet
namespace Go.Proofs.YtcggjhmjjpclhaaDoor
open Go.RowKit Go.Deep Go.Shelf

theorem run_size (m b : Nat) (w : World) : (Go.method (m + 1) 42 (.pointer (some ⟨b, 0, none⟩)) "loop.example/scottdomains/impl.size").run Tryd.prog w = .ok (25, .pointer (some ⟨b, 0, none⟩)) w := by kernel_rfl
theorem run_below (m b : Nat) (w : World) : (Go.method (m + 1) 42 (.pointer (some ⟨b, 0, none⟩)) "loop.example/scottdomains/impl.below").run Tryd.prog w = .ok (52, .pointer (some ⟨b, 0, none⟩)) w := by kernel_rfl

theorem run_nilAhead (m b : Nat) (w : World) : (Go.nilAhead (m + 1) 42 (.pointer (some ⟨b, 0, none⟩)) "loop.example/scottdomains/impl.below").run Tryd.prog w = .ok (some false) w := by kernel_rfl

/-- The list f is a monotone function of the n rows g to the n' rows g'. -/
def MonoG (g g' : Nat → Nat) (n n' : Nat) (f : List Int) : Prop :=
  f.length = n ∧ (∀ x ∈ f, outN n' x = false) ∧ ∀ a b : Nat, a < n → b < n → (g a).testBit b = true → (g' (f.getD a 0).toNat).testBit (f.getD b 0).toNat = true

/-- Two grids and a list. -/
structure MG (w : World) (b b' : Nat) (g g' : Nat → Nat) (vf : Value) (f : List Int) (W : World) : Prop where
  g0 : GridAt W b g
  g1 : GridAt W b' g'
  f : IntsAt W vf f
  below : Below w.heap.size w W
theorem MG.step {w : World} {b b' : Nat} {g g' : Nat → Nat} {vf : Value} {f : List Int} {W W' : World} (h : MG w b b' g g' vf f W) (hb : Below W.heap.size W W') : MG w b b' g g' vf f W' :=
  ⟨h.g0.below hb h.g0.lt, h.g1.below hb h.g1.lt, h.f.below hb, h.below.trans (hb.mono h.below.size)⟩
theorem MG.drew {w : World} {b b' : Nat} {g g' : Nat → Nat} {vf : Value} {f : List Int} {W : World} (h : MG w b b' g g' vf f W) : MG w b b' g g' vf f W.drew := h.step ⟨rfl, rfl, rfl, Nat.le_refl _, fun _ _ => rfl⟩

end Go.Proofs.YtcggjhmjjpclhaaDoor
