/- The rows of bits of an order: what they say of it. Plain facts. -/
import Derived.Test.YtkhhbpeheikmfaaDoorFits
import Derived.Test.YtkhhbpeheikmfaaDoorOrd
namespace Go.Proofs.YtkhhbpeheikmfaaDoor

/-- A list of numbers as a number of bits. -/
def bitsOf (l : List Int) : Nat := l.foldl (fun r k => put r k.toNat) 0
theorem bitsOf_snoc (l : List Int) (k : Int) : bitsOf (l ++ [k]) = put (bitsOf l) k.toNat := by
  unfold bitsOf
  rw [List.foldl_append]
  rfl
theorem testBit_foldl (j : Nat) : ∀ (l : List Int) (r : Nat), (l.foldl (fun r k => put r k.toNat) r).testBit j = (r.testBit j || decide (∃ k ∈ l, k.toNat = j))
  | [], r => by simp
  | k :: l, r => by
    rw [List.foldl_cons, testBit_foldl j l, testBit_put, Bool.or_assoc]
    congr 1
    rw [Bool.eq_iff_iff]
    simp
theorem testBit_bitsOf {l : List Int} (h : ∀ x ∈ l, 0 ≤ x) (j : Nat) : (bitsOf l).testBit j = decide ((j : Int) ∈ l) := by
  unfold bitsOf
  rw [testBit_foldl, Nat.zero_testBit, Bool.false_or, decide_eq_decide]
  constructor
  · rintro ⟨k, hk, rfl⟩
    rwa [Int.toNat_of_nonneg (h k hk)]
  · intro hj
    exact ⟨_, hj, Int.toNat_natCast j⟩
theorem bitsOf_lt_foldl : ∀ (l : List Int) (r : Nat), r < 2 ^ 256 → (∀ x ∈ l, x < 256) → (l.foldl (fun r k => put r k.toNat) r) < 2 ^ 256
  | [], _, hr, _ => hr
  | k :: l, r, hr, h => by
    rw [List.foldl_cons]
    exact bitsOf_lt_foldl l _ (put_lt hr (by have := h k (by simp); omega)) (fun x hx => h x (by simp [hx]))
theorem bitsOf_lt {l : List Int} (h : ∀ x ∈ l, x < 256) : bitsOf l < 2 ^ 256 := bitsOf_lt_foldl l 0 (Nat.two_pow_pos 256) h

/-- The grid of an order. -/
def gridF (rows : List (List Int)) (i : Nat) : Nat := bitsOf (rows.getD i [])

/-- A covered row holds the rows of all its elements. -/
theorem cover_good {g : Nat → Nat} {n : Nat} (hown : ∀ k, k < n → (g k).testBit k = true) (hbits : ∀ k j, k < n → (g k).testBit j = true → j < n) (hc : ∀ i, i < n → CovAll g i) :
    ∀ (N i : Nat), g i ≤ N → i < n → ∀ j, (g i).testBit j = true → j ≠ i → (g j).testBit i = false ∧ ∀ m, (g j).testBit m = true → (g i).testBit m = true := by
  intro N
  induction N with
  | zero =>
    intro i hN hi j hj _
    have h0 : g i = 0 := by omega
    rw [h0] at hj
    simp at hj
  | succ N ih =>
    intro i hN hi j hj hne
    obtain ⟨k, hk, hki, hik, hsub, hkj⟩ := hc i hi j hj hne
    by_cases e : j = k
    · subst e; exact ⟨hik, hsub⟩
    · have hlt : g k < g i := lt_of_sub hsub (hown i hi) hik
      obtain ⟨_, h2⟩ := ih k (by omega) (hbits i k hi hk) j hkj e
      refine ⟨?_, fun m hm => hsub m (h2 m hm)⟩
      cases hji : (g j).testBit i with
      | false => rfl
      | true => have := h2 i hji; rw [hik] at this; cases this

theorem grid_bit {rows : List (List Int)} {i : Nat} (hi : i < rows.length) (ha : ascB rows.length rows[i] = true) (j : Nat) : (gridF rows i).testBit j = decide ((j : Int) ∈ rows[i]) := by
  unfold gridF
  rw [getD_at [] hi]
  exact testBit_bitsOf (fun x hx => ((ascB_iff _ _).1 ha).2 x hx |>.1) j

/-- All rows covered: an order. -/
theorem valid_of_cover {rows : List (List Int)} (hl : listsB rows = true) (hasc : ∀ i (hi : i < rows.length), ascB rows.length rows[i] = true)
    (hown : ∀ k, k < rows.length → (gridF rows k).testBit k = true) (hbits : ∀ k j, k < rows.length → (gridF rows k).testBit j = true → j < rows.length) (hc : ∀ i, i < rows.length → CovAll (gridF rows) i) : validB rows = true := by
  refine valid_yes hl fun i hi => (goodAt_iff hi).2 ⟨?_, fun k hk => ?_⟩
  · have := hown i hi
    rw [grid_bit hi (hasc i hi)] at this
    exact (upB_iff hi).2 (of_decide_eq_true this)
  · have hr := (lists_at hl i hi).2 _ (List.getElem_mem hk)
    obtain ⟨j, hj⟩ : ∃ j : Nat, rows[i][k] = (j : Int) := ⟨rows[i][k].toNat, by omega⟩
    have hjn : j < rows.length := by omega
    have hbit : (gridF rows i).testBit j = true := by
      rw [grid_bit hi (hasc i hi)]
      exact decide_eq_true (by rw [← hj]; exact List.getElem_mem hk)
    by_cases e : j = i
    · subst e
      refine ⟨fun h => absurd hj h, fun m hm => ?_⟩
      rw [hj, Int.toNat_natCast, getD_at [] hi] at hm
      exact (upB_iff hi).2 hm
    · obtain ⟨h1, h2⟩ := cover_good hown hbits hc _ i (Nat.le_refl _) hi j hbit e
      refine ⟨fun _ => ?_, fun m hm => ?_⟩
      · rw [hj, Int.toNat_natCast]
        rw [grid_bit hjn (hasc j hjn)] at h1
        exact (upB_no hjn).2 (of_decide_eq_false h1)
      · rw [hj, Int.toNat_natCast, getD_at [] hjn] at hm
        have hm0 := (lists_at hl j hjn).2 _ hm
        have h3 := h2 m.toNat (by rw [grid_bit hjn (hasc j hjn), Int.toNat_of_nonneg hm0.1]; exact decide_eq_true hm)
        rw [grid_bit hi (hasc i hi), Int.toNat_of_nonneg hm0.1] at h3
        exact (upB_iff hi).2 (of_decide_eq_true h3)

/-- A bad row: no order. -/
theorem valid_of_bad {rows : List (List Int)} (hasc : ∀ i (hi : i < rows.length), ascB rows.length rows[i] = true)
    (hbits : ∀ k j, k < rows.length → (gridF rows k).testBit j = true → j < rows.length) {i : Nat} (hi : i < rows.length) (hb : BadBit (gridF rows) i) : validB rows = false := by
  obtain ⟨k, hk, hki, h⟩ := hb
  have hkn := hbits i k hi hk
  rw [grid_bit hi (hasc i hi)] at hk
  obtain ⟨q, hq, hqk⟩ := List.getElem_of_mem (of_decide_eq_true hk)
  refine valid_no_pair hi hq fun g => ?_
  rw [hqk] at g
  unfold GoodPair at g
  rw [Int.toNat_natCast] at g
  rcases h with h | ⟨m, h1, h2⟩
  · rw [grid_bit hkn (hasc k hkn)] at h
    have := g.1 (by omega)
    rw [(upB_iff hkn).2 (of_decide_eq_true h)] at this
    cases this
  · rw [grid_bit hkn (hasc k hkn)] at h1
    rw [grid_bit hi (hasc i hi)] at h2
    have := g.2 m (by rw [getD_at [] hkn]; exact of_decide_eq_true h1)
    rw [(upB_no hi).2 (of_decide_eq_false h2)] at this
    cases this

/-- The grid while row i is being laid, k of its numbers being in. -/
def gpart (rows : List (List Int)) (i k : Nat) (i' : Nat) : Nat := if i' < i then gridF rows i' else if i' = i then bitsOf ((rows.getD i []).take k) else 0
theorem gpart_zero (rows : List (List Int)) (i' : Nat) : gpart rows 0 0 i' = 0 := by
  unfold gpart
  rw [if_neg (by omega), List.take_zero]
  split <;> rfl
theorem gpart_next (rows : List (List Int)) (i : Nat) : gpart rows i (rows.getD i []).length = gpart rows (i + 1) 0 := by
  funext i'
  unfold gpart gridF
  rw [List.take_length, List.take_zero]
  by_cases h1 : i' < i
  · rw [if_pos h1, if_pos (by omega)]
  · rw [if_neg h1]
    by_cases h2 : i' = i
    · subst h2; rw [if_pos rfl, if_pos (by omega)]
    · rw [if_neg h2, if_neg (by omega)]
      split <;> rfl
theorem gpart_done (rows : List (List Int)) : gpart rows rows.length 0 = gridF rows := by
  funext i'
  unfold gpart gridF
  by_cases h1 : i' < rows.length
  · rw [if_pos h1]
  · rw [if_neg h1, List.take_zero, List.getD_eq_getElem?_getD, List.getElem?_eq_none (by omega)]
    split <;> rfl
theorem gpart_step {rows : List (List Int)} {i k : Nat} (hi : i < rows.length) (hk : k < rows[i].length) (i' : Nat) :
    gpart rows i (k + 1) i' = if i' = i then put (gpart rows i k i) rows[i][k].toNat else gpart rows i k i' := by
  unfold gpart
  rw [getD_at [] hi, List.take_succ_eq_append_getElem hk, bitsOf_snoc]
  by_cases h : i' = i
  · subst h
    rw [if_neg (by omega), if_pos rfl, if_pos rfl, if_neg (by omega), if_pos rfl]
  · simp only [if_neg h]
theorem gpart_lt {rows : List (List Int)} {i k : Nat} (h : ∀ j (hj : j < rows.length), j ≤ i → ∀ x ∈ rows[j], x < 256) (i' : Nat) : gpart rows i k i' < 2 ^ 256 := by
  unfold gpart gridF
  have hz : (0 : Nat) < 2 ^ 256 := Nat.two_pow_pos 256
  have hat : ∀ j, j ≤ i → ∀ x ∈ rows.getD j [], x < 256 := fun j hj x hx => by
    by_cases hl : j < rows.length
    · rw [getD_at [] hl] at hx; exact h j hl hj x hx
    · rw [List.getD_eq_getElem?_getD, List.getElem?_eq_none (by omega)] at hx; cases hx
  by_cases h1 : i' < i
  · rw [if_pos h1]; exact bitsOf_lt (hat i' (by omega))
  · rw [if_neg h1]
    by_cases h2 : i' = i
    · rw [if_pos h2]; exact bitsOf_lt (fun x hx => hat i (Nat.le_refl _) x (List.mem_of_mem_take hx))
    · rw [if_neg h2]; exact hz
theorem gridF_out (rows : List (List Int)) {i : Nat} (hi : rows.length ≤ i) : gridF rows i = 0 := by
  unfold gridF
  rw [List.getD_eq_getElem?_getD, List.getElem?_eq_none hi]
  rfl
end Go.Proofs.YtkhhbpeheikmfaaDoor
