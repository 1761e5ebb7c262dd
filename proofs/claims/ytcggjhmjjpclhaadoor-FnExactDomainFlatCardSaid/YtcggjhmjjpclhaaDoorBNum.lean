/- A row that a relation makes, as a number. Plain facts: no function is walked here. -/
import Derived.Test.YtcggjhmjjpclhaaDoorElemP
namespace Go.Proofs.YtcggjhmjjpclhaaDoor
open Go.RowKit Go.Deep

/-- Row a of the rows that a relation makes, when b elements have been looked at. -/
def bNum (B : Nat → Nat → Bool) (a : Nat) : Nat → Nat
  | 0 => 0
  | b + 1 => if B a b then put (bNum B a b) b else bNum B a b
theorem bNum_bit (B : Nat → Nat → Bool) (a k : Nat) : ∀ n, (bNum B a n).testBit k = (decide (k < n) && B a k)
  | 0 => by simp [bNum]
  | n + 1 => by
    have ih := bNum_bit B a k n
    unfold bNum
    by_cases h : B a n = true
    · rw [if_pos h, testBit_put, ih]
      by_cases e : n = k
      · subst e; simp [h]
      · rw [decide_eq_false e, Bool.or_false]
        congr 1
        rw [decide_eq_decide]; omega
    · rw [if_neg h, ih]
      by_cases e : k = n
      · subst e; simp [h]
      · congr 1
        rw [decide_eq_decide]; omega
theorem bNum_lt (B : Nat → Nat → Bool) (a : Nat) : ∀ n, n ≤ 256 → bNum B a n < 2 ^ 256
  | 0, _ => Nat.two_pow_pos 256
  | n + 1, h => by
    have ih := bNum_lt B a n (by omega)
    unfold bNum
    split
    · exact put_lt ih (by omega)
    · exact ih
end Go.Proofs.YtcggjhmjjpclhaaDoor
