/- The least number in a row (first), by the library's look-up of trailing zeros. -/
import Derived.Test.YtcjcfnldehimpaaRow
import Derived.Lib.TrailingZeros
import Derived.Shelf.Spec.TrailingZeros
namespace Go.Proofs.Ytcjcfnldehimpaa
open Go.RowKit Go.Deep

/-- The lowest bit of a number. -/
theorem ctz_low (x : Nat) (hx0 : x ≠ 0) (hx : x < 2 ^ 64) : x.testBit (Lib.ctz 64 x) = true ∧ (∀ j, j < Lib.ctz 64 x → x.testBit j = false) ∧ Lib.ctz 64 x < 64 := by
  obtain ⟨m, hm, hlt⟩ := Lib.ctzFrom_spec 64 x (by omega) hx
  have e : Lib.ctz 64 x = Lib.ctzFrom 64 x := by unfold Lib.ctz; rw [if_neg hx0]
  rw [e]
  generalize Lib.ctzFrom 64 x = k at hm hlt
  refine ⟨?_, fun j hj => ?_, hlt⟩
  · rw [hm, Nat.testBit_eq_decide_div_mod_eq, Nat.mul_div_cancel_left _ (Nat.two_pow_pos _), decide_eq_true_iff]
    omega
  · rw [hm, Nat.mul_comm, Nat.testBit_mul_two_pow]
    simp; omega

/-- Number k is the least one in r. -/
def Least (r k : Nat) : Prop := r.testBit k = true ∧ ∀ j, j < k → r.testBit j = false

theorem least_of_word {r j : Nat} (h : ∀ i, i < j → word r i = 0) (h0 : word r j ≠ 0) : Least r (64 * j + Lib.ctz 64 (word r j)) := by
  obtain ⟨h1, h2, h3⟩ := ctz_low (word r j) h0 (word_lt64 r j)
  rw [testBit_word] at h1
  simp only [h3, decide_true, Bool.true_and] at h1
  refine ⟨h1, fun i hi => ?_⟩
  by_cases hij : i / 64 < j
  · have h4 := testBit_word r (i / 64) (i % 64)
    rw [h _ hij, show 64 * (i / 64) + i % 64 = i by omega] at h4
    have h5 : i % 64 < 64 := Nat.mod_lt _ (by decide)
    simpa [h5] using h4.symm
  · have h4 := testBit_word r j (i - 64 * j)
    rw [h2 _ (by omega), show 64 * j + (i - 64 * j) = i by omega] at h4
    have h5 : i - 64 * j < 64 := by omega
    simpa [h5] using h4.symm

/-- The least number of a row that is not empty. -/
def FirstPost (r : Nat) (w : World) (e : Ending) (w' : World) : Prop := ∃ k, Least r k ∧ e = .returned (.int .i64 (k : Nat)) ∧ Below w.heap.size w w'

end Go.Proofs.Ytcjcfnldehimpaa
