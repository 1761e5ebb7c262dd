/- Sets of few numbers as ints: bit operations on them, unions. Plain facts: no function is walked here. -/
import Derived.Test.YtjmeclddogdfhaaDoorBit
import Derived.Test.YtjmeclddogdfhaaDoorMem
import Derived.Laws.BitsLemmas
namespace Go.Proofs.YtjmeclddogdfhaaDoor
open Go.RowKit Go.Deep

theorem wraps_i62 (n : Int) (h₀ : 0 ≤ n) (h₁ : n < 2 ^ 62) : IntKind.i64.wrap n = n := by
  have : (2 : Int) ^ 62 = 4611686018427387904 := by decide
  rw [IntKind.wrap_i64]; omega
theorem bits_and {a b : Nat} (ha : a < 2 ^ 62) (hb : b < 2 ^ 62) : bits .and .i64 (a : Int) (b : Int) = ((a &&& b : Nat) : Int) := (bits_nat .i64 62 (by decide) wraps_i62 a b ha hb).1
theorem bits_or {a b : Nat} (ha : a < 2 ^ 62) (hb : b < 2 ^ 62) : bits .or .i64 (a : Int) (b : Int) = ((a ||| b : Nat) : Int) := (bits_nat .i64 62 (by decide) wraps_i62 a b ha hb).2
theorem bit_test {s : Nat} (k : Nat) (hs : s < 2 ^ 62) : (bits .and .i64 ((s : Int) / 2 ^ k) 1 == 1) = s.testBit k := by
  have h1 : ((s : Int) / 2 ^ k) = ((s / 2 ^ k : Nat) : Int) := by simp
  have h2 : s / 2 ^ k < 2 ^ 62 := Nat.lt_of_le_of_lt (Nat.div_le_self _ _) hs
  have h3 : (1 : Int) = ((1 : Nat) : Int) := rfl
  have h4 : s.testBit k = (s / 2 ^ k % 2 == 1) := by
    rw [Nat.testBit_eq_decide_div_mod_eq]
    rfl
  rw [h4, h1, h3, bits_and h2 (by decide), nat_mask1, Bool.eq_iff_iff]
  simp only [beq_iff_eq]
  omega
theorem bits_diff {a b : Nat} (ha : a < 2 ^ 62) (hb : b < 2 ^ 62) : bits .andNot .i64 (a : Int) (b : Int) = ((diff a b : Nat) : Int) := by
  have e : bits .andNot .i64 (a : Int) (b : Int) = IntKind.i64.wrap ((diff a b : Nat) : Int) := by
    have ha' : a % 2 ^ 64 = a := Nat.mod_eq_of_lt (Nat.lt_of_lt_of_le ha (by decide))
    have hb' : b % 2 ^ 64 = b := Nat.mod_eq_of_lt (Nat.lt_of_lt_of_le hb (by decide))
    have hn : (BitVec.ofNat 64 a &&& ~~~BitVec.ofNat 64 b).toNat = diff a b := by
      rw [BitVec.toNat_and, BitVec.toNat_not, BitVec.toNat_ofNat, BitVec.toNat_ofNat, ha', hb']
      apply Nat.eq_of_testBit_eq
      intro i
      rw [show 2 ^ 64 - 1 - b = 2 ^ 64 - (b + 1) by omega, Nat.testBit_and, Nat.testBit_two_pow_sub_succ (Nat.lt_of_lt_of_le hb (by decide)), testBit_diff]
      by_cases hi : i < 64
      · simp [hi]
      · have h1 : a.testBit i = false := Nat.testBit_lt_two_pow (Nat.lt_of_lt_of_le ha (Nat.pow_le_pow_right (by decide) (by omega)))
        simp [h1]
    simp only [bits, BitVec.ofInt_natCast]
    rw [← hn]
    rfl
  rw [e]
  exact wraps_i62 _ (Int.natCast_nonneg _) (by
    have : diff a b < 2 ^ 62 := Nat.xor_lt_two_pow ha (by rw [Nat.and_comm]; exact Nat.and_lt_two_pow _ ha)
    exact_mod_cast this)

/-- The union of the sets g k of all k below m that are in s. -/
def unionF (g : Nat → Nat) (s : Nat) : Nat → Nat
  | 0 => 0
  | m + 1 => if s.testBit m = true then unionF g s m ||| g m else unionF g s m
theorem unionF_bit (g : Nat → Nat) (s i : Nat) : ∀ m, (unionF g s m).testBit i = (List.range m).any fun k => s.testBit k && (g k).testBit i
  | 0 => by simp [unionF]
  | m + 1 => by
    unfold unionF
    rw [List.range_succ, List.any_append]
    cases h : s.testBit m with
    | true => rw [if_pos rfl, Nat.testBit_or, unionF_bit g s i m]; simp [h]
    | false => rw [if_neg (by simp), unionF_bit g s i m]; simp [h]
theorem unionF_lt {g : Nat → Nat} {s b : Nat} : ∀ {m}, (∀ k, k < m → g k < 2 ^ b) → unionF g s m < 2 ^ b
  | 0, _ => Nat.two_pow_pos b
  | m + 1, h => by
    unfold unionF
    have h1 := unionF_lt (g := g) (s := s) (b := b) (m := m) fun k hk => h k (by omega)
    split
    · exact Nat.or_lt_two_pow h1 (h m (Nat.lt_succ_self m))
    · exact h1
theorem small_lt {a b : Nat} (h : a < 2 ^ b) (hb : b ≤ 62) : a < 2 ^ 62 := Nat.lt_of_lt_of_le h (Nat.pow_le_pow_right (by decide) hb)
end Go.Proofs.YtjmeclddogdfhaaDoor
