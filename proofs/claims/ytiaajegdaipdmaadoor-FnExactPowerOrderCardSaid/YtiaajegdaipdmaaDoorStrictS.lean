/- The model's FunStrict. -/
import Derived.Test.YtiaajegdaipdmaaDoorMonoS
import Derived.Lib.QuietBelow
import Derived.BigQuiet
namespace Go.Proofs.YtiaajegdaipdmaaDoor
open Go.RowKit Go.Deep

theorem leastI_nat {rows : Rows2} (h : 0 ≤ leastI rows) : ∃ m : Nat, m < rows.length ∧ leastI rows = m := by
  unfold leastI at h ⊢
  cases e : (List.range rows.length).find? (fun i => (rows.getD i []).length == rows.length) with
  | none => rw [e] at h; exact absurd h (by decide)
  | some m => exact ⟨m, List.mem_range.1 (List.mem_of_find?_eq_some e), rfl⟩
theorem dom_least {rows : Rows2} (h : domB rows = true) : ∃ m : Nat, m < rows.length ∧ leastI rows = m := by
  unfold domB domI at h
  rw [Bool.and_eq_true, Bool.and_eq_true, decide_eq_true_iff] at h
  exact leastI_nat h.2.1
theorem monoB_parts {rows rows' : Rows2} {f : List Int} (h : monoB rows rows' f = true) : domB rows = true ∧ domB rows' = true ∧ Mono rows rows' f := by
  classical
  unfold monoB monoI at h
  rw [Bool.and_eq_true, Bool.and_eq_true, decide_eq_true_iff] at h
  exact ⟨h.1.1, h.1.2, h.2⟩

/-- A monotone function that has the least element for the least one. -/
noncomputable def strictB (rows rows' : Rows2) (f : List Int) : Bool := monoB rows rows' f && decide (f.getD (leastI rows).toNat 0 = leastI rows')

end Go.Proofs.YtiaajegdaipdmaaDoor
