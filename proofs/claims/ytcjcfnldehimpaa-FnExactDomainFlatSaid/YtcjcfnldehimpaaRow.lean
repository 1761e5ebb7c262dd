/- Rows of 256 bits: the program's operations on them (has, empty, without, and, or, rowOf, add, first, count). -/
import Derived.Test.YtcjcfnldehimpaaProg
import Derived.Test.YtcjcfnldehimpaaEq
import Derived.Test.YtcjcfnldehimpaaBit
import Derived.Test.YtcjcfnldehimpaaArr
import Derived.Laws.ShiftsVar
import Derived.Laws.ShiftsVarLaws
namespace Go.Proofs.Ytcjcfnldehimpaa
open Go.RowKit Go.Deep

/-- Word j of a row, as a cell. -/
def wordV (r j : Nat) : Value := .int .u64 ((word r j : Nat) : Int)
/-- A row as a value. -/
abbrev rowV (r : Nat) : Value := .agg #[.int .u64 ((word r 0 : Nat) : Int), .int .u64 ((word r 1 : Nat) : Int), .int .u64 ((word r 2 : Nat) : Int), .int .u64 ((word r 3 : Nat) : Int)]

theorem row_cell (w : World) (r j : Nat) (t : TypeId) (hj : j < 4) :
    (w.alloc (.cells #[.int .u64 ((word r 0 : Nat) : Int), .int .u64 ((word r 1 : Nat) : Int), .int .u64 ((word r 2 : Nat) : Int), .int .u64 ((word r 3 : Nat) : Int)] t)).cell? ⟨w.heap.size, j, none⟩ = some (.int .u64 ((word r j : Nat) : Int)) := by
  obtain rfl | rfl | rfl | rfl : j = 0 ∨ j = 1 ∨ j = 2 ∨ j = 3 := by omega
  all_goals exact (World.rowIs_alloc w _ t (fun j => .int .u64 ((word r j : Nat) : Int)) (fun i hi => by
    simp at hi
    obtain rfl | rfl | rfl | rfl : i = 0 ∨ i = 1 ∨ i = 2 ∨ i = 3 := by omega
    all_goals rfl)).cell (by simp)

theorem has_eq (r k : Nat) : (bits BinOp.and IntKind.u64 (((word r (k / 64) : Nat) : Int) / 2 ^ (k % 64)) 1 == 1) = r.testBit k := by
  have h1 : (((word r (k / 64) : Nat) : Int) / 2 ^ (k % 64)) = ((word r (k / 64) / 2 ^ (k % 64) : Nat) : Int) := by simp
  have h2 : word r (k / 64) / 2 ^ (k % 64) < 18446744073709551616 := Nat.lt_of_le_of_lt (Nat.div_le_self _ _) (word_lt _ _)
  have h3 : (1 : Int) = ((1 : Nat) : Int) := rfl
  rw [← has_bit, h1, h3, u64_and_nat _ _ h2 (by decide), nat_mask1, Bool.eq_iff_iff]
  simp only [beq_iff_eq]
  omega

theorem row_zero {r : Nat} (hr : r < 2 ^ 256) : ((((word r 0 : Nat) : Int) == 0) && ((((word r 1 : Nat) : Int) == 0) && ((((word r 2 : Nat) : Int) == 0) && (((word r 3 : Nat) : Int) == 0)))) = decide (r = 0) := by
  rw [Bool.eq_iff_iff]
  simp only [Bool.and_eq_true, beq_iff_eq, decide_eq_true_eq]
  constructor
  · rintro ⟨h0, h1, h2, h3⟩
    have z : ∀ j, word 0 j = 0 := fun j => by simp [word]
    exact of_words hr (by decide) (fun j hj => by
      rw [z]
      obtain rfl | rfl | rfl | rfl : j = 0 ∨ j = 1 ∨ j = 2 ∨ j = 3 := by omega
      all_goals omega)
  · rintro rfl
    simp [word]

/-- The row r, and a world in which nothing that was there has turned. -/
def SaysR (r : Nat) (w : World) (e : Ending) (w' : World) : Prop := e = .returned (rowV r) ∧ Below w.heap.size w w'

theorem andNot_word (r s j : Nat) : bits BinOp.andNot IntKind.u64 ((word r j : Nat) : Int) ((word s j : Nat) : Int) = ((word (diff r s) j : Nat) : Int) := by
  rw [u64_andNot_nat _ _ (word_lt _ _) (word_lt _ _), word_diff]
theorem and_word (r s j : Nat) : bits BinOp.and IntKind.u64 ((word r j : Nat) : Int) ((word s j : Nat) : Int) = ((word (r &&& s) j : Nat) : Int) := by
  rw [u64_and_nat _ _ (word_lt _ _) (word_lt _ _), word_and]
theorem or_word (r s j : Nat) : bits BinOp.or IntKind.u64 ((word r j : Nat) : Int) ((word s j : Nat) : Int) = ((word (r ||| s) j : Nat) : Int) := by
  rw [u64_or_nat _ _ (word_lt _ _) (word_lt _ _), word_or]

/-- Nothing but one cell has turned. -/
def Puts (a : Addr) (v : Value) (w : World) (e : Ending) (w' : World) : Prop := e = .returned (.tuple #[]) ∧ ∃ n, w' = (w.drewN n).setCell a v

theorem shl_one (k : Nat) : IntKind.u64.wrap (2 ^ (k % 64)) = ((2 ^ (k % 64) : Nat) : Int) := by
  have h : 2 ^ (k % 64) < 2 ^ 64 := Nat.pow_lt_pow_right (by decide) (Nat.mod_lt _ (by decide))
  generalize he : k % 64 = m at h
  have e : (2 : Int) ^ m = ((2 ^ m : Nat) : Int) := by simp
  rw [IntKind.wrap_u64, e]
  generalize 2 ^ m = z at h
  omega
theorem put_bit (x k : Nat) (hx : x < 18446744073709551616) : bits BinOp.or IntKind.u64 (x : Int) (IntKind.u64.wrap (2 ^ (k % 64))) = ((x ||| 2 ^ (k % 64) : Nat) : Int) := by
  rw [shl_one, u64_or_nat _ _ hx (Nat.pow_lt_pow_right (by decide) (Nat.mod_lt _ (by decide) : k % 64 < 64))]

/-- What rowOf makes. -/
theorem word_zero (j : Nat) : word 0 j = 0 := by simp [word]

end Go.Proofs.Ytcjcfnldehimpaa
