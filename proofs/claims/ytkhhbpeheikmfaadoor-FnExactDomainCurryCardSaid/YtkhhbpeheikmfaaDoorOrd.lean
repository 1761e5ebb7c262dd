/- Orders as lists of lists of integers: what the document asks of them, as plain functions and facts. No program is named here. -/
namespace Go.Proofs.YtkhhbpeheikmfaaDoor

/-- A list that ascends strictly. -/
def Asc (l : List Int) : Prop := ∀ i j (_ : i < j) (hj : j < l.length), l[i] < l[j]
/-- A list that ascends strictly from 'last' on, its numbers less than n. -/
def ascFrom (last n : Int) : List Int → Bool
  | [] => true
  | k :: t => decide (last < k) && decide (k < n) && ascFrom k n t
def ascB (n : Nat) (l : List Int) : Bool := ascFrom (-1) n l

theorem ascFrom_iff (n : Int) : ∀ (l : List Int) (last : Int), ascFrom last n l = true ↔ (Asc l ∧ (∀ x ∈ l, last < x ∧ x < n))
  | [], last => by simp [ascFrom, Asc]
  | k :: t, last => by
    have ih := ascFrom_iff n t k
    simp only [ascFrom, Bool.and_eq_true, decide_eq_true_eq]
    rw [ih]
    constructor
    · rintro ⟨⟨h1, h2⟩, h3, h4⟩
      refine ⟨fun i j hij hj => ?_, fun x hx => ?_⟩
      · cases j with
        | zero => omega
        | succ j =>
          simp only [List.length_cons] at hj
          cases i with
          | zero => simpa using (h4 _ (List.getElem_mem (by omega : j < t.length))).1
          | succ i => simpa using h3 i j (by omega) (by omega)
      · rcases List.mem_cons.1 hx with rfl | hx
        · exact ⟨h1, h2⟩
        · have := h4 x hx; omega
    · rintro ⟨h1, h2⟩
      have hk := h2 k (by simp)
      refine ⟨⟨hk.1, hk.2⟩, fun i j hij hj => ?_, fun x hx => ⟨?_, (h2 x (by simp [hx])).2⟩⟩
      · exact h1 (i + 1) (j + 1) (by omega) (by simpa using hj)
      · obtain ⟨i, hi, rfl⟩ := List.getElem_of_mem hx
        exact h1 0 (i + 1) (by omega) (by simpa using hi)

theorem ascB_iff (n : Nat) (l : List Int) : ascB n l = true ↔ (Asc l ∧ ∀ x ∈ l, 0 ≤ x ∧ x < n) := by
  unfold ascB
  rw [ascFrom_iff]
  constructor
  · rintro ⟨h1, h2⟩; exact ⟨h1, fun x hx => by have := h2 x hx; omega⟩
  · rintro ⟨h1, h2⟩; exact ⟨h1, fun x hx => by have := h2 x hx; omega⟩

/-- Where a search by halves has come to an end. -/
theorem search_done {l : List Int} {b : Int} {k : Nat} (ha : Asc l) (h1 : ∀ j (h : j < l.length), j < k → l[j] < b) (h2 : ∀ j (h : j < l.length), k ≤ j → b ≤ l[j]) (hk : k ≤ l.length) :
    (∃ h : k < l.length, l[k] = b) ↔ b ∈ l := by
  constructor
  · rintro ⟨h, rfl⟩; exact List.getElem_mem h
  · intro hb
    obtain ⟨i, hi, rfl⟩ := List.getElem_of_mem hb
    by_cases hik : i < k
    · have := h1 i hi hik; omega
    · by_cases e : i = k
      · subst e; exact ⟨hi, rfl⟩
      · have := ha k i (by omega) hi
        have := h2 k (by omega) (Nat.le_refl _)
        omega

/-- The first k numbers of a list are in their range, each above the one ahead. -/
def AscPre (n : Int) (l : List Int) (k : Nat) : Prop := ∀ j (hj : j < l.length), j < k → 0 ≤ l[j] ∧ l[j] ≤ n - 1 ∧ ∀ (_ : 0 < j), l[j - 1]'(by omega) < l[j]
theorem AscPre.zero (n : Int) (l : List Int) : AscPre n l 0 := fun _ _ h => absurd h (Nat.not_lt_zero _)
theorem AscPre.succ {n : Int} {l : List Int} {k : Nat} (h : AscPre n l k) (hk : k < l.length) (h0 : 0 ≤ l[k]) (h1 : l[k] ≤ n - 1) (h2 : ∀ (_ : 0 < k), l[k - 1]'(by omega) < l[k]) : AscPre n l (k + 1) := fun j hj hlt => by
  by_cases e : j = k
  · subst e; exact ⟨h0, h1, h2⟩
  · exact h j hj (by omega)
theorem AscPre.done {n : Nat} {l : List Int} (h : AscPre n l l.length) : ascB n l = true := by
  rw [ascB_iff]
  refine ⟨fun i j hij hj => ?_, fun x hx => ?_⟩
  · induction j with
    | zero => omega
    | succ j ih =>
      have h2 := (h (j + 1) hj hj).2.2 (by omega)
      simp only [Nat.add_sub_cancel] at h2
      by_cases e : i = j
      · subst e; exact h2
      · have := ih (by omega) (by omega); omega
  · obtain ⟨i, hi, rfl⟩ := List.getElem_of_mem hx
    have := h i hi hi
    omega
theorem ascB_no_range {n : Nat} {l : List Int} {k : Nat} (hk : k < l.length) (h : ¬ (0 ≤ l[k] ∧ l[k] ≤ (n : Int) - 1)) : ascB n l = false := by
  rw [Bool.eq_false_iff]
  intro e
  have := (ascB_iff n l).1 e |>.2 l[k] (List.getElem_mem hk)
  omega
theorem ascB_no_step {n : Nat} {l : List Int} {k : Nat} (hk : k < l.length) (h0 : 0 < k) (h : l[k] ≤ l[k - 1]'(by omega)) : ascB n l = false := by
  rw [Bool.eq_false_iff]
  intro e
  have := (ascB_iff n l).1 e |>.1 (k - 1) k (by omega) hk
  omega

/-- The orders of the document: each list ascends, and holds elements alone; there are 1 to 200 of them. -/
def listsB (rows : List (List Int)) : Bool := rows.all (ascB rows.length) && (decide (1 ≤ rows.length) && decide (rows.length ≤ 200))
theorem listsB_no {rows : List (List Int)} {i : Nat} (hi : i < rows.length) (h : ascB rows.length rows[i] = false) : listsB rows = false := by
  unfold listsB
  rw [Bool.and_eq_false_iff]
  left
  rw [List.all_eq_false]
  exact ⟨_, List.getElem_mem hi, by rw [h]; simp⟩
theorem listsB_all {rows : List (List Int)} (h : ∀ i (hi : i < rows.length), ascB rows.length rows[i] = true) : listsB rows = (decide ((1 : Int) ≤ rows.length) && decide ((rows.length : Int) ≤ 200)) := by
  unfold listsB
  have e : rows.all (ascB rows.length) = true := by
    rw [List.all_eq_true]
    intro x hx
    obtain ⟨i, hi, rfl⟩ := List.getElem_of_mem hx
    exact h i hi
  rw [e, Bool.true_and]
  congr 1 <;> (rw [decide_eq_decide]; omega)
/-- Is element j above element i? -/
def upB (rows : List (List Int)) (i : Nat) (j : Int) : Bool := decide (j ∈ rows.getD i [])

/-- What the document asks of element i. -/
def GoodAt (rows : List (List Int)) (i : Nat) : Prop :=
  (i : Int) ∈ rows.getD i [] ∧ ∀ j ∈ rows.getD i [], (j ≠ i → (i : Int) ∉ rows.getD j.toNat []) ∧ ∀ m ∈ rows.getD j.toNat [], m ∈ rows.getD i []
def ValidP (rows : List (List Int)) : Prop := listsB rows = true ∧ ∀ i, i < rows.length → GoodAt rows i
open Classical in
/-- Is it an order? -/
noncomputable def validB (rows : List (List Int)) : Bool := decide (ValidP rows)

theorem lists_at {rows : List (List Int)} (h : listsB rows = true) (i : Nat) (hi : i < rows.length) : Asc rows[i] ∧ ∀ x ∈ rows[i], 0 ≤ x ∧ x < rows.length := by
  unfold listsB at h
  rw [Bool.and_eq_true, List.all_eq_true] at h
  exact (ascB_iff _ _).1 (h.1 _ (List.getElem_mem hi))
theorem lists_len {rows : List (List Int)} (h : listsB rows = true) : 1 ≤ rows.length ∧ rows.length ≤ 200 := by
  unfold listsB at h
  simp only [Bool.and_eq_true, decide_eq_true_eq] at h
  exact h.2
theorem getD_at {α : Type} {l : List α} {i : Nat} (d : α) (h : i < l.length) : l.getD i d = l[i] := by
  rw [List.getD_eq_getElem?_getD, List.getElem?_eq_getElem h]; rfl
theorem upB_iff {rows : List (List Int)} {i : Nat} {j : Int} (hi : i < rows.length) : upB rows i j = true ↔ j ∈ rows[i] := by
  unfold upB
  rw [decide_eq_true_iff, getD_at [] hi]
theorem upB_no {rows : List (List Int)} {i : Nat} {j : Int} (hi : i < rows.length) : upB rows i j = false ↔ j ∉ rows[i] := by
  unfold upB
  rw [decide_eq_false_iff_not, getD_at [] hi]

/-- What the document asks of element i and one that is above it. -/
def GoodPair (rows : List (List Int)) (i : Nat) (j : Int) : Prop :=
  (j ≠ i → upB rows j.toNat i = false) ∧ ∀ m ∈ rows.getD j.toNat [], upB rows i m = true
theorem goodAt_iff {rows : List (List Int)} {i : Nat} (hi : i < rows.length) : GoodAt rows i ↔ upB rows i i = true ∧ ∀ k (hk : k < rows[i].length), GoodPair rows i rows[i][k] := by
  unfold GoodAt GoodPair
  rw [upB_iff hi, getD_at [] hi]
  constructor
  · rintro ⟨h1, h2⟩
    refine ⟨h1, fun k hk => ?_⟩
    obtain ⟨a, b⟩ := h2 _ (List.getElem_mem hk)
    exact ⟨fun e => by unfold upB; exact decide_eq_false (a e), fun m hm => (upB_iff hi).2 (b m hm)⟩
  · rintro ⟨h1, h2⟩
    refine ⟨h1, fun j hj => ?_⟩
    obtain ⟨k, hk, rfl⟩ := List.getElem_of_mem hj
    obtain ⟨a, b⟩ := h2 k hk
    exact ⟨fun e => by have := a e; unfold upB at this; exact of_decide_eq_false this, fun m hm => (upB_iff hi).1 (b m hm)⟩

theorem valid_no_lists {rows : List (List Int)} (h : listsB rows = false) : validB rows = false := by
  unfold validB
  rw [decide_eq_false_iff_not]
  rintro ⟨h1, _⟩
  rw [h] at h1
  cases h1
theorem valid_no {rows : List (List Int)} {i : Nat} (hi : i < rows.length) (h : ¬ GoodAt rows i) : validB rows = false := by
  unfold validB
  rw [decide_eq_false_iff_not]
  rintro ⟨_, h2⟩
  exact h (h2 i hi)
theorem valid_no_own {rows : List (List Int)} {i : Nat} (hi : i < rows.length) (h : upB rows i i = false) : validB rows = false :=
  valid_no hi fun g => by have := ((goodAt_iff hi).1 g).1; rw [h] at this; cases this
theorem valid_no_pair {rows : List (List Int)} {i k : Nat} (hi : i < rows.length) (hk : k < rows[i].length) (h : ¬ GoodPair rows i rows[i][k]) : validB rows = false :=
  valid_no hi fun g => h (((goodAt_iff hi).1 g).2 k hk)
theorem valid_yes {rows : List (List Int)} (hl : listsB rows = true) (h : ∀ i, i < rows.length → GoodAt rows i) : validB rows = true := by
  classical
  unfold validB
  exact decide_eq_true ⟨hl, h⟩
theorem valid_lists {rows : List (List Int)} (h : validB rows = true) : listsB rows = true := by
  cases hl : listsB rows with
  | true => rfl
  | false => rw [valid_no_lists hl] at h; cases h
end Go.Proofs.YtkhhbpeheikmfaaDoor
