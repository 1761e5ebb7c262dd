/- The model's DomainIs. -/
import Derived.Test.YtcggjhmjjpclhaaDoorJoinS
import Derived.Test.YtcggjhmjjpclhaaDoorLeastS
import Derived.StillTailTactics
namespace Go.Proofs.YtcggjhmjjpclhaaDoor
open Go.RowKit Go.Deep

/-- Two elements that are bounded and have no join. -/
def badB (rows : Rows2) (a b : Nat) : Bool := boundedI rows a b && decide (joinI rows a b < 0)
def domI (rows : Rows2) : Bool := decide (0 ≤ leastI rows) && (List.range rows.length).all fun a => (List.range a).all fun b => !badB rows a b
theorem domI_least {rows : Rows2} (h : leastI rows < 0) : domI rows = false := by
  unfold domI
  rw [decide_eq_false (by omega)]
  rfl
theorem domI_bad {rows : Rows2} {a b : Nat} (ha : a < rows.length) (hb : b < a) (h : badB rows a b = true) : domI rows = false := by
  unfold domI
  rw [Bool.and_eq_false_iff]
  right
  rw [List.all_eq_false]
  refine ⟨a, List.mem_range.2 ha, ?_⟩
  rw [Bool.not_eq_true, List.all_eq_false]
  exact ⟨b, List.mem_range.2 hb, by rw [h]; simp⟩
theorem domI_yes {rows : Rows2} (h : 0 ≤ leastI rows) (hall : ∀ a, a < rows.length → ∀ b, b < a → badB rows a b = false) : domI rows = true := by
  unfold domI
  rw [decide_eq_true h, Bool.true_and, List.all_eq_true]
  intro a ha
  rw [List.all_eq_true]
  intro b hb
  rw [hall a (List.mem_range.1 ha) b (List.mem_range.1 hb)]
  rfl
/-- What DomainIs answers. -/
noncomputable def domB (rows : Rows2) : Bool := validB rows && domI rows

theorem bounded_yes {rows : Rows2} {i j k : Nat} (hi : i < rows.length) (hk : k < rows[i].length) (h : upB rows j rows[i][k] = true) : boundedI rows i j = true := by
  unfold boundedI
  rw [getD_at [] hi, List.any_eq_true]
  exact ⟨_, List.getElem_mem hk, h⟩
theorem bounded_no {rows : Rows2} {i j : Nat} (hi : i < rows.length) (h : ∀ k (hk : k < rows[i].length), upB rows j rows[i][k] = false) : boundedI rows i j = false := by
  unfold boundedI
  rw [getD_at [] hi, List.any_eq_false]
  intro c hc
  obtain ⟨k, hk, rfl⟩ := List.getElem_of_mem hc
  rw [h k hk]
  simp

end Go.Proofs.YtcggjhmjjpclhaaDoor
