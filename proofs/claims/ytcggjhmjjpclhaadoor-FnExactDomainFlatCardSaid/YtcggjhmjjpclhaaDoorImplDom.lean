/- The program's DomainIs. -/
import Derived.Test.YtcggjhmjjpclhaaDoorDomS
import Derived.Test.YtcggjhmjjpclhaaDoorOkG
import Derived.Test.YtcggjhmjjpclhaaDoorTops
import Derived.Test.YtcggjhmjjpclhaaDoorIsEl
import Derived.Test.YtcggjhmjjpclhaaDoorFits
namespace Go.Proofs.YtcggjhmjjpclhaaDoor
open Go.RowKit Go.Deep Go.Shelf

/-- Two elements that have a common upper bound, and no least one. -/
def badF (g : Nat → Nat) (a b : Nat) : Bool := !decide (g a &&& g b = 0) && decide (bottomF g (g a &&& g b) < 0)
def isDomF (g : Nat → Nat) (n : Nat) : Bool := decide (0 ≤ bottomF g (allF n)) && (List.range n).all fun a => (List.range a).all fun b => !badF g a b
theorem badF_eq {rows : List (List Int)} (h : Ok rows) {a b : Nat} (ha : a < rows.length) (hb : b < rows.length) : badF (gridF rows) a b = badB rows a b := by
  unfold badF badB
  rw [bounded_eq h ha hb, join_eq h ha hb]
theorem isDomF_eq {rows : List (List Int)} (h : Ok rows) : isDomF (gridF rows) rows.length = domI rows := by
  unfold isDomF domI
  rw [least_eq h]
  congr 1
  rw [Bool.eq_iff_iff, List.all_eq_true, List.all_eq_true]
  constructor
  · intro hall a ha
    have h2 := hall a ha
    rw [List.all_eq_true] at h2 ⊢
    intro b hb
    have h3 := h2 b hb
    rw [List.mem_range] at ha hb
    rwa [badF_eq h ha (by omega)] at h3
  · intro hall a ha
    have h2 := hall a ha
    rw [List.all_eq_true] at h2 ⊢
    intro b hb
    have h3 := h2 b hb
    rw [List.mem_range] at ha hb
    rwa [badF_eq h ha (by omega)]
theorem isDomF_least {g : Nat → Nat} {n : Nat} (h : bottomF g (allF n) < 0) : isDomF g n = false := by
  unfold isDomF
  rw [decide_eq_false (by omega)]
  rfl
theorem isDomF_bad {g : Nat → Nat} {n a b : Nat} (ha : a < n) (hb : b < a) (h : badF g a b = true) : isDomF g n = false := by
  unfold isDomF
  rw [Bool.and_eq_false_iff]
  right
  rw [List.all_eq_false]
  refine ⟨a, List.mem_range.2 ha, ?_⟩
  rw [Bool.not_eq_true, List.all_eq_false]
  exact ⟨b, List.mem_range.2 hb, by rw [h]; simp⟩
theorem isDomF_yes {g : Nat → Nat} {n : Nat} (h : 0 ≤ bottomF g (allF n)) (hall : ∀ a, a < n → ∀ b, b < a → badF g a b = false) : isDomF g n = true := by
  unfold isDomF
  rw [decide_eq_true h, Bool.true_and, List.all_eq_true]
  intro a ha
  rw [List.all_eq_true]
  intro b hb
  rw [hall a (List.mem_range.1 ha) b (List.mem_range.1 hb)]
  rfl

theorem common_lt {g : Nat → Nat} (hg : ∀ i, g i < 2 ^ 256) (a b : Nat) : g a &&& g b < 2 ^ 256 := by rw [Nat.and_comm]; exact Nat.and_lt_two_pow _ (hg a)

end Go.Proofs.YtcggjhmjjpclhaaDoor
