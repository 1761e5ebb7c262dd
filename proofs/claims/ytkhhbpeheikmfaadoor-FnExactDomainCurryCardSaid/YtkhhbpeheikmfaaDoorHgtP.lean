/- Heights of orders: plain facts. -/
import Derived.Test.YtkhhbpeheikmfaaDoorElemP
namespace Go.Proofs.YtkhhbpeheikmfaaDoor
open Go

/-! ### Heights -/
/-- The greatest of some numbers, or 0. -/
def maxL (f : Nat → Nat) (ks : List Nat) : Nat := ks.foldl (fun b k => max b (f k)) 0
theorem maxL_from (f : Nat → Nat) : ∀ (ks : List Nat) (b : Nat), ks.foldl (fun b k => max b (f k)) b = max b (maxL f ks)
  | [], b => by simp [maxL]
  | k :: ks, b => by
    unfold maxL
    rw [List.foldl_cons, List.foldl_cons, maxL_from f ks, maxL_from f ks]
    simp only [Nat.zero_max]
    omega
theorem maxL_cons (f : Nat → Nat) (k : Nat) (ks : List Nat) : maxL f (k :: ks) = max (f k) (maxL f ks) := by
  show (k :: ks).foldl _ 0 = _
  rw [List.foldl_cons, maxL_from, Nat.zero_max]
theorem maxL_snoc (f : Nat → Nat) (ks : List Nat) (k : Nat) : maxL f (ks ++ [k]) = max (maxL f ks) (f k) := by
  unfold maxL; rw [List.foldl_append]; rfl
theorem lt_maxL {f : Nat → Nat} {t : Nat} : ∀ {ks : List Nat}, t < maxL f ks ↔ ∃ k ∈ ks, t < f k
  | [] => by simp [maxL]
  | k :: ks => by
    have e : t < max (f k) (maxL f ks) ↔ t < f k ∨ t < maxL f ks := by omega
    rw [maxL_cons, e, lt_maxL (ks := ks)]
    simp
theorem maxL_congr {f h : Nat → Nat} {ks : List Nat} (e : ∀ k ∈ ks, f k = h k) : maxL f ks = maxL h ks := by
  induction ks with
  | nil => rfl
  | cons k ks ih => rw [maxL_cons, maxL_cons, e k (by simp), ih fun x hx => e x (by simp [hx])]
/-- The elements above i, without i. -/
def strictL (g : Nat → Nat) (i : Nat) : List Nat := (elems (g i)).filter fun k => !decide (k = i)
/-- The longest chain from i on, at most so long. -/
def rankN (g : Nat → Nat) : Nat → Nat → Nat
  | 0, _ => 0
  | f + 1, i => maxL (rankN g f) (strictL g i) + 1
def rankF (g : Nat → Nat) (i : Nat) : Nat := rankN g 256 i
theorem elems_length_le (r : Nat) : (elems r).length ≤ 256 := by
  unfold elems
  have := List.length_filter_le (fun b => r.testBit b) (List.range 256)
  simpa using this
theorem strict_iff {rows : List (List Int)} (h : Ok rows) {i k : Nat} : k ∈ strictL (gridF rows) i ↔ (gridF rows i).testBit k = true ∧ k ≠ i := by
  unfold strictL
  rw [List.mem_filter, mem_elems (h.lt i), Bool.not_eq_true', decide_eq_false_iff_not]
theorem strict_less {rows : List (List Int)} (h : Ok rows) {i k : Nat} (hk : k ∈ strictL (gridF rows) i) : (elems (gridF rows k)).length < (elems (gridF rows i)).length := by
  rw [strict_iff h] at hk
  have hil := (h.bit_lt hk.1).1
  have hsub : elems (gridF rows k) = (elems (gridF rows i)).filter (fun m => (gridF rows k).testBit m) :=
    sorted_ext (elems_pairwise _) (List.Pairwise.filter _ (elems_pairwise _)) fun x => by
      rw [mem_elems (h.lt k), List.mem_filter, mem_elems (h.lt i)]
      exact ⟨fun hx => ⟨h.trans i k hil hk.1 x hx, hx⟩, fun hx => hx.2⟩
  rw [hsub]
  have hle := List.length_filter_le (fun m => (gridF rows k).testBit m) (elems (gridF rows i))
  by_cases e : ((elems (gridF rows i)).filter (fun m => (gridF rows k).testBit m)).length = (elems (gridF rows i)).length
  · have := (List.length_filter_eq_length_iff).1 e i ((mem_elems (h.lt i)).2 (h.own i hil))
    rw [h.anti i k hil hk.1 hk.2] at this
    cases this
  · omega
theorem rankN_stable {rows : List (List Int)} (h : Ok rows) : ∀ (f f' i : Nat), (elems (gridF rows i)).length ≤ f → (elems (gridF rows i)).length ≤ f' → i < rows.length → rankN (gridF rows) f i = rankN (gridF rows) f' i := by
  intro f
  induction f with
  | zero =>
    intro f' i h1 _ hi
    have := (mem_elems (h.lt i)).2 (h.own i hi)
    have := List.length_pos_of_mem this
    omega
  | succ f ih =>
    intro f' i h1 h2 hi
    cases f' with
    | zero =>
      have := (mem_elems (h.lt i)).2 (h.own i hi)
      have := List.length_pos_of_mem this
      omega
    | succ f' =>
      unfold rankN
      congr 1
      refine maxL_congr fun k hk => ?_
      have := strict_less h hk
      exact ih f' k (by omega) (by omega) (h.bit_lt ((strict_iff h).1 hk).1).2
theorem rank_eq {rows : List (List Int)} (h : Ok rows) {i : Nat} (hi : i < rows.length) : rankF (gridF rows) i = maxL (rankF (gridF rows)) (strictL (gridF rows) i) + 1 := by
  unfold rankF
  rw [rankN_stable h 256 257 i (elems_length_le _) (by have := elems_length_le (gridF rows i); omega) hi]
  rfl
/-- The elements of a set above which nothing of it stands. -/
def topsOf (g : Nat → Nat) (s : Nat) (ks : List Nat) : Nat := ks.foldl (fun t i => if g i &&& s = 2 ^ i then put t i else t) 0
theorem topsOf_snoc (g : Nat → Nat) (s : Nat) (ks : List Nat) (k : Nat) : topsOf g s (ks ++ [k]) = if g k &&& s = 2 ^ k then put (topsOf g s ks) k else topsOf g s ks := by
  unfold topsOf; rw [List.foldl_append]; rfl
theorem testBit_topsFrom (g : Nat → Nat) (s j : Nat) : ∀ (ks : List Nat) (t : Nat), (ks.foldl (fun t i => if g i &&& s = 2 ^ i then put t i else t) t).testBit j = (t.testBit j || decide (j ∈ ks ∧ g j &&& s = 2 ^ j))
  | [], t => by simp
  | k :: ks, t => by
    rw [List.foldl_cons, testBit_topsFrom g s j ks]
    by_cases hk : g k &&& s = 2 ^ k
    · rw [if_pos hk, testBit_put, Bool.or_assoc]
      congr 1
      rw [Bool.eq_iff_iff]
      simp only [Bool.or_eq_true, decide_eq_true_eq, List.mem_cons]
      constructor
      · rintro (rfl | ⟨a, b⟩)
        · exact ⟨.inl rfl, hk⟩
        · exact ⟨.inr a, b⟩
      · rintro ⟨rfl | a, b⟩
        · exact .inl rfl
        · exact .inr ⟨a, b⟩
    · rw [if_neg hk]
      congr 1
      rw [decide_eq_decide, List.mem_cons]
      constructor
      · rintro ⟨a, b⟩; exact ⟨.inr a, b⟩
      · rintro ⟨rfl | a, b⟩
        · exact absurd b hk
        · exact ⟨a, b⟩
theorem topsOf_lt {g : Nat → Nat} {s : Nat} {ks : List Nat} (h : ∀ k ∈ ks, k < 256) : topsOf g s ks < 2 ^ 256 := by
  unfold topsOf
  have : ∀ (ks : List Nat) (t : Nat), (∀ k ∈ ks, k < 256) → t < 2 ^ 256 → ks.foldl (fun t i => if g i &&& s = 2 ^ i then put t i else t) t < 2 ^ 256 := by
    intro ks
    induction ks with
    | nil => exact fun t _ ht => ht
    | cons k ks ih =>
      intro t hk ht
      rw [List.foldl_cons]
      refine ih _ (fun x hx => hk x (by simp [hx])) ?_
      split
      · exact put_lt ht (hk k (by simp))
      · exact ht
  exact this ks 0 h (Nat.two_pow_pos 256)
/-- What is left when the tops have been taken away t times. -/
def leftF (g : Nat → Nat) (n : Nat) : Nat → Nat
  | 0 => allF n
  | t + 1 => diff (leftF g n t) (topsOf g (leftF g n t) (elems (leftF g n t)))
theorem left_lt {rows : List (List Int)} (h : Ok rows) (t : Nat) : leftF (gridF rows) rows.length t < 2 ^ 256 := by
  induction t with
  | zero => exact allF_lt (by have := h.len; omega)
  | succ t ih => exact diff_lt _ ih
theorem left_bit {rows : List (List Int)} (h : Ok rows) : ∀ (t i : Nat), (leftF (gridF rows) rows.length t).testBit i = decide (i < rows.length ∧ t < rankF (gridF rows) i) := by
  intro t
  induction t with
  | zero =>
    intro i
    unfold leftF
    rw [testBit_allF, decide_eq_decide]
    exact ⟨fun hi => ⟨hi, by rw [rank_eq h hi]; omega⟩, fun hi => hi.1⟩
  | succ t ih =>
    intro i
    have hl := left_lt h t
    unfold leftF
    rw [testBit_diff]
    unfold topsOf
    rw [testBit_topsFrom, Nat.zero_testBit, Bool.false_or, Bool.eq_iff_iff, Bool.and_eq_true, Bool.not_eq_true', decide_eq_false_iff_not, decide_eq_true_iff, mem_elems hl, ih i, decide_eq_true_iff]
    constructor
    · rintro ⟨⟨hi, hr⟩, hnot⟩
      refine ⟨hi, ?_⟩
      rw [rank_eq h hi]
      have hne : gridF rows i &&& leftF (gridF rows) rows.length t ≠ 2 ^ i := fun e => hnot ⟨⟨hi, hr⟩, e⟩
      have : ∃ k, (gridF rows i &&& leftF (gridF rows) rows.length t).testBit k = true ∧ k ≠ i := by
        apply Classical.byContradiction
        intro hno
        apply hne
        apply Nat.eq_of_testBit_eq
        intro k
        rw [Nat.testBit_two_pow]
        by_cases e : i = k
        · subst e
          rw [Nat.testBit_and, h.own i hi, ih i]
          simp [hi, hr]
        · rw [decide_eq_false e]
          cases hb : (gridF rows i &&& leftF (gridF rows) rows.length t).testBit k with
          | false => rfl
          | true => exact absurd ⟨k, hb, fun e2 => e e2.symm⟩ hno
      obtain ⟨k, hk, hki⟩ := this
      rw [Nat.testBit_and, Bool.and_eq_true, ih k, decide_eq_true_iff] at hk
      have := lt_maxL.2 ⟨k, (strict_iff h).2 ⟨hk.1, hki⟩, hk.2.2⟩
      omega
    · rintro ⟨hi, hr⟩
      rw [rank_eq h hi] at hr ⊢
      obtain ⟨k, hk, hkr⟩ := lt_maxL.1 (show t < maxL (rankF (gridF rows)) (strictL (gridF rows) i) by omega)
      rw [strict_iff h] at hk
      refine ⟨⟨hi, by omega⟩, ?_⟩
      rintro ⟨_, e⟩
      have hb : (gridF rows i &&& leftF (gridF rows) rows.length t).testBit k = true := by
        rw [Nat.testBit_and, hk.1, ih k]
        simp only [Bool.true_and, decide_eq_true_eq]
        exact ⟨(h.bit_lt hk.1).2, hkr⟩
      rw [e, Nat.testBit_two_pow, decide_eq_true_iff] at hb
      exact hk.2 hb.symm
/-- The height of an order. -/
def heightF (rows : List (List Int)) : Nat := maxL (rankF (gridF rows)) (List.range rows.length)
theorem left_zero {rows : List (List Int)} (h : Ok rows) (t : Nat) : leftF (gridF rows) rows.length t = 0 ↔ heightF rows ≤ t := by
  have hz : leftF (gridF rows) rows.length t = 0 ↔ ∀ i, (leftF (gridF rows) rows.length t).testBit i = false := by
    constructor
    · intro e i; rw [e]; simp
    · intro hall
      apply Nat.eq_of_testBit_eq
      intro i
      rw [hall i]; simp
  rw [hz, ← Nat.not_lt]
  unfold heightF
  rw [lt_maxL]
  constructor
  · rintro hall ⟨k, hk, hlt⟩
    have := hall k
    rw [left_bit h, decide_eq_false_iff_not] at this
    exact this ⟨by simpa using hk, hlt⟩
  · intro hno i
    rw [left_bit h, decide_eq_false_iff_not]
    rintro ⟨hi, hlt⟩
    exact hno ⟨i, by simpa using hi, hlt⟩
theorem rankN_le {g : Nat → Nat} : ∀ (f i : Nat), rankN g f i ≤ f
  | 0, _ => Nat.le_refl _
  | f + 1, i => by
    unfold rankN
    have : ¬ f < maxL (rankN g f) (strictL g i) := by
      rw [lt_maxL]
      rintro ⟨k, _, hk⟩
      have := rankN_le (g := g) f k
      omega
    omega
theorem rank_le (g : Nat → Nat) (i : Nat) : rankF g i ≤ 256 := rankN_le 256 i
theorem height_le (rows : List (List Int)) : heightF rows ≤ 256 := by
  apply Nat.le_of_not_lt
  unfold heightF
  rw [lt_maxL]
  rintro ⟨k, _, hk⟩
  have := rank_le (gridF rows) k
  omega
end Go.Proofs.YtkhhbpeheikmfaaDoor
