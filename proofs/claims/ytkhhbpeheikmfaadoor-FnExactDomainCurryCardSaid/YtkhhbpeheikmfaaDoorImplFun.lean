/- The program's domainOf and funTypeOf. -/
import Derived.Test.YtkhhbpeheikmfaaDoorIsMono
import Derived.Test.YtkhhbpeheikmfaaDoorDomOf
import Derived.Test.YtkhhbpeheikmfaaDoorIsEl
namespace Go.Proofs.YtkhhbpeheikmfaaDoor
open Go.RowKit Go.Deep Go.Shelf

theorem upB_grid {rows : Rows2} (h : Ok rows) {a b : Nat} (ha : a < rows.length) : (gridF rows a).testBit b = upB rows a b := (h.up ha b).symm
theorem mono_grid {rows rows' : Rows2} (h : Ok rows) (h' : Ok rows') (f : List Int) : monoI rows rows' f = true ↔ MonoG (gridF rows) (gridF rows') rows.length rows'.length f := by
  classical
  unfold monoI
  rw [decide_eq_true_iff]
  have e : ∀ x ∈ f, outN rows'.length x = false ↔ (0 ≤ x ∧ x < rows'.length) := fun x _ => by
    unfold outN
    rw [Bool.or_eq_false_iff, decide_eq_false_iff_not, decide_eq_false_iff_not]
    omega
  constructor
  · rintro ⟨h1, h2, h3⟩
    refine ⟨h1, fun x hx => (e x hx).2 (h2 x hx), fun a b ha hb hab => ?_⟩
    rw [upB_grid h ha] at hab
    have h4 := h3 a b ha hb hab
    have hfa := h2 _ (getD_lt 0 (h1 ▸ ha) ▸ List.getElem_mem (h1 ▸ ha))
    have hfb := h2 _ (getD_lt 0 (h1 ▸ hb) ▸ List.getElem_mem (h1 ▸ hb))
    rw [upB_grid h' (by omega), Int.toNat_of_nonneg hfb.1]
    exact h4
  · rintro ⟨h1, h2, h3⟩
    refine ⟨h1, fun x hx => (e x hx).1 (h2 x hx), fun a b ha hb hab => ?_⟩
    rw [← upB_grid h ha] at hab
    have h4 := h3 a b ha hb hab
    have ma : f.getD a 0 ∈ f := getD_lt 0 (h1 ▸ ha) ▸ List.getElem_mem (h1 ▸ ha)
    have mb : f.getD b 0 ∈ f := getD_lt 0 (h1 ▸ hb) ▸ List.getElem_mem (h1 ▸ hb)
    have hfa := (e _ ma).1 (h2 _ ma)
    have hfb := (e _ mb).1 (h2 _ mb)
    rw [upB_grid h' (by omega), Int.toNat_of_nonneg hfb.1] at h4
    exact h4

end Go.Proofs.YtkhhbpeheikmfaaDoor
