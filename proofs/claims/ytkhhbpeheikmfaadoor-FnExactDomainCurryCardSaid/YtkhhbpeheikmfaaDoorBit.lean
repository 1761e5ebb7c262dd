/- Sets of small numbers as numbers of 256 bits, and as four words of 64 bits: plain facts. -/
import Derived.Laws.BitsAllLaws
namespace Go.Proofs.YtkhhbpeheikmfaaDoor

/-- Word j of a number of 256 bits. -/
def word (r j : Nat) : Nat := (r >>> (64 * j)) % 2 ^ 64
theorem word_lt (r j : Nat) : word r j < 18446744073709551616 := Nat.mod_lt _ (by decide)
theorem word_lt64 (r j : Nat) : word r j < 2 ^ 64 := Nat.mod_lt _ (by decide)
theorem testBit_word (r j b : Nat) : (word r j).testBit b = (decide (b < 64) && r.testBit (64 * j + b)) := by
  unfold word
  rw [Nat.testBit_mod_two_pow, Nat.testBit_shiftRight]

/-- Four words make one number. -/
theorem of_words {r s : Nat} (hr : r < 2 ^ 256) (hs : s < 2 ^ 256) (h : ∀ j, j < 4 → word r j = word s j) : r = s := by
  apply Nat.eq_of_testBit_eq
  intro i
  by_cases hi : i < 256
  · have h2 := congrArg (fun x => x.testBit (i % 64)) (h (i / 64) (by omega))
    simp only [testBit_word] at h2
    have h3 : i % 64 < 64 := Nat.mod_lt _ (by decide)
    have h4 : 64 * (i / 64) + i % 64 = i := by omega
    simpa [h3, h4] using h2
  · rw [Nat.testBit_lt_two_pow (Nat.lt_of_lt_of_le hr (Nat.pow_le_pow_right (by decide) (by omega))), Nat.testBit_lt_two_pow (Nat.lt_of_lt_of_le hs (Nat.pow_le_pow_right (by decide) (by omega)))]

/-- What of a is not in b. -/
def diff (a b : Nat) : Nat := a ^^^ (a &&& b)
theorem testBit_diff (a b i : Nat) : (diff a b).testBit i = (a.testBit i && !b.testBit i) := by
  unfold diff
  rw [Nat.testBit_xor, Nat.testBit_and]
  cases a.testBit i <;> cases b.testBit i <;> rfl

theorem word_and (a b j : Nat) : word (a &&& b) j = word a j &&& word b j := by
  apply Nat.eq_of_testBit_eq
  intro i
  rw [Nat.testBit_and, testBit_word, testBit_word, testBit_word, Nat.testBit_and]
  cases decide (i < 64) <;> simp
theorem word_or (a b j : Nat) : word (a ||| b) j = word a j ||| word b j := by
  apply Nat.eq_of_testBit_eq
  intro i
  rw [Nat.testBit_or, testBit_word, testBit_word, testBit_word, Nat.testBit_or]
  cases decide (i < 64) <;> simp
theorem word_diff (a b j : Nat) : word (diff a b) j = word a j &&& (18446744073709551615 - word b j) := by
  apply Nat.eq_of_testBit_eq
  intro i
  have h64 : (18446744073709551615 : Nat) = 2 ^ 64 - 1 := by decide
  rw [h64, show 2 ^ 64 - 1 - word b j = 2 ^ 64 - (word b j + 1) by omega, Nat.testBit_and, Nat.testBit_two_pow_sub_succ (by have := word_lt b j; omega), testBit_word, testBit_word, testBit_word, testBit_diff]
  cases decide (i < 64) <;> simp

/-- A number with k put in. -/
def put (r k : Nat) : Nat := r ||| 2 ^ k
theorem testBit_put (r k i : Nat) : (put r k).testBit i = (r.testBit i || decide (k = i)) := by
  unfold put
  rw [Nat.testBit_or, Nat.testBit_two_pow]
theorem word_two_pow (k j : Nat) : word (2 ^ k) j = if k / 64 = j then 2 ^ (k % 64) else 0 := by
  apply Nat.eq_of_testBit_eq
  intro i
  rw [testBit_word, Nat.testBit_two_pow]
  by_cases h : k / 64 = j
  · rw [if_pos h, Nat.testBit_two_pow]
    by_cases hi : i < 64
    · simp only [hi, decide_true, Bool.true_and]
      rw [decide_eq_decide]; omega
    · have : ¬ k % 64 = i := by have := Nat.mod_lt k (show 64 > 0 by decide); omega
      simp [hi, this]
  · rw [if_neg h]
    by_cases hi : i < 64
    · have : ¬ k = 64 * j + i := by omega
      simp [hi, this]
    · simp [hi]
theorem word_put (r k j : Nat) : word (put r k) j = if k / 64 = j then word r j ||| 2 ^ (k % 64) else word r j := by
  unfold put
  rw [word_or, word_two_pow]
  split <;> simp
theorem put_lt {r k : Nat} (hr : r < 2 ^ 256) (hk : k < 256) : put r k < 2 ^ 256 := Nat.or_lt_two_pow hr (Nat.pow_lt_pow_right (by decide) hk)
theorem diff_lt {a : Nat} (b : Nat) (ha : a < 2 ^ 256) : diff a b < 2 ^ 256 := Nat.xor_lt_two_pow ha (by rw [Nat.and_comm]; exact Nat.and_lt_two_pow _ ha)

/-- The bit that 'has' asks for. -/
theorem has_bit (r k : Nat) : ((word r (k / 64) / 2 ^ (k % 64)) % 2 == 1) = r.testBit k := by
  have h := testBit_word r (k / 64) (k % 64)
  have h3 : k % 64 < 64 := Nat.mod_lt _ (by decide)
  have h4 : 64 * (k / 64) + k % 64 = k := by omega
  rw [h4] at h
  simp only [h3, decide_true, Bool.true_and] at h
  rw [← h, Nat.testBit_eq_decide_div_mod_eq]
  rfl
end Go.Proofs.YtkhhbpeheikmfaaDoor
