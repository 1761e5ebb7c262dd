/- Rows of 256 bits: the program's operations on them (has, empty, without, and, or, rowOf, add, first, count). -/
import Derived.Test.YtkomghohdhengaaDoorProg
import Derived.Test.YtkomghohdhengaaDoorPc1
import Derived.Laws.ShiftsVar
import Derived.Laws.ShiftsVarLaws
namespace Go.Proofs.YtkomghohdhengaaDoor
open Go.RowKit Go.Deep

/-- Word j of a row, as a cell. -/
def wordV (r j : Nat) : Value := .int .u64 ((word r j : Nat) : Int)
/-- A row as a value. -/
abbrev rowV (r : Nat) : Value := .agg #[.int .u64 ((word r 0 : Nat) : Int), .int .u64 ((word r 1 : Nat) : Int), .int .u64 ((word r 2 : Nat) : Int), .int .u64 ((word r 3 : Nat) : Int)]

theorem row_cell (w : World) (r j : Nat) (t : TypeId) (hj : j < 4) :
    (w.alloc (.cells #[.int .u64 ((word r 0 : Nat) : Int), .int .u64 ((word r 1 : Nat) : Int), .int .u64 ((word r 2 : Nat) : Int), .int .u64 ((word r 3 : Nat) : Int)] t)).cell? ⟨w.heap.size, j, none⟩ = some (.int .u64 ((word r j : Nat) : Int)) := by
  obtain rfl | rfl | rfl | rfl : j = 0 ∨ j = 1 ∨ j = 2 ∨ j = 3 := by omega
  all_goals exact (World.rowIs_alloc w _ t (fun j => .int .u64 ((word r j : Nat) : Int)) (fun i hi => by
    simp at hi
    obtain rfl | rfl | rfl | rfl : i = 0 ∨ i = 1 ∨ i = 2 ∨ i = 3 := by omega
    all_goals rfl)).cell (by simp)

theorem has_eq (r k : Nat) : (bits BinOp.and IntKind.u64 (((word r (k / 64) : Nat) : Int) / 2 ^ (k % 64)) 1 == 1) = r.testBit k := by
  have h1 : (((word r (k / 64) : Nat) : Int) / 2 ^ (k % 64)) = ((word r (k / 64) / 2 ^ (k % 64) : Nat) : Int) := by simp
  have h2 : word r (k / 64) / 2 ^ (k % 64) < 18446744073709551616 := Nat.lt_of_le_of_lt (Nat.div_le_self _ _) (word_lt _ _)
  have h3 : (1 : Int) = ((1 : Nat) : Int) := rfl
  rw [← has_bit, h1, h3, u64_and_nat _ _ h2 (by decide), nat_mask1, Bool.eq_iff_iff]
  simp only [beq_iff_eq]
  omega

set_option maxHeartbeats 1000000 in
theorem has_any (r : Nat) (a : Int) (k : Nat) (w : World) (ha : a = k) (hk : k < 256) :
    Calls Tryd.prog 89 #[rowV r, .int .i64 a] w (SaysN (r.testBit k) w) := by
  subst ha
  have hc := row_cell w r (k / 64) 91 (by omega)
  have hq : k / 64 < 4 := by omega
  have hm : k % 64 < 64 := Nat.mod_lt _ (by decide)
  go_enter Tryd.func89, Tryd.ntmps89
  go_wp2
  go_ret
  exact ⟨by rw [← has_eq]; rfl, (Below.refl _ w).alloc (Nat.le_refl _) _⟩

/-- '==' on two arrays of four words. -/
theorem run_eq4 (d : Nat) (a0 a1 a2 a3 b0 b1 b2 b3 : Int) (w : World) :
    (Op.equalIn (d + 2) 91 (.agg #[.int .u64 a0, .int .u64 a1, .int .u64 a2, .int .u64 a3]) (.agg #[.int .u64 b0, .int .u64 b1, .int .u64 b2, .int .u64 b3])).run Tryd.prog w = .ok (a0 == b0 && (a1 == b1 && (a2 == b2 && a3 == b3))) w := by
  have hz : ∀ w, (sizeOf 89).run Tryd.prog w = .ok 1 w := fun w => by kernel_rfl
  have hp : ∀ (cs : Array Value) (j : Nat) (v : Value), cs[j * 1]? = some v → ∀ w, (part 89 cs (j * 1)).run Tryd.prog w = .ok v w := fun cs j v h w => by
    have ha : (isAgg 89).run Tryd.prog w = .ok false w := by kernel_rfl
    simp only [part, Sem.run_bind, ha, Result.andThen_ok, h]
    rfl
  have key := run_eq_array (P := Tryd.prog) (d + 1) 4 1 91 89 #[.int .u64 a0, .int .u64 a1, .int .u64 a2, .int .u64 a3] #[.int .u64 b0, .int .u64 b1, .int .u64 b2, .int .u64 b3]
    (fun j => match j with | 0 => a0 == b0 | 1 => a1 == b1 | 2 => a2 == b2 | _ => a3 == b3) Tryd.underlying91 hz (fun i hi => by
      obtain rfl | rfl | rfl | rfl : i = 0 ∨ i = 1 ∨ i = 2 ∨ i = 3 := by omega
      all_goals exact ⟨_, _, hp _ _ _ rfl, hp _ _ _ rfl, fun w => run_equalIn_int w d 89 .u64 .u64 _ _ Tryd.underlying89⟩) w
  rw [key]
  simp [List.range_succ]

theorem row_zero {r : Nat} (hr : r < 2 ^ 256) : ((((word r 0 : Nat) : Int) == 0) && ((((word r 1 : Nat) : Int) == 0) && ((((word r 2 : Nat) : Int) == 0) && (((word r 3 : Nat) : Int) == 0)))) = decide (r = 0) := by
  rw [Bool.eq_iff_iff]
  simp only [Bool.and_eq_true, beq_iff_eq, decide_eq_true_eq]
  constructor
  · rintro ⟨h0, h1, h2, h3⟩
    have z : ∀ j, word 0 j = 0 := fun j => by simp [word]
    exact of_words hr (by decide) (fun j hj => by
      rw [z]
      obtain rfl | rfl | rfl | rfl : j = 0 ∨ j = 1 ∨ j = 2 ∨ j = 3 := by omega
      all_goals omega)
  · rintro rfl
    simp [word]

set_option maxHeartbeats 1000000 in
theorem empty_any (r : Nat) (w : World) (hr : r < 2 ^ 256) :
    Calls Tryd.prog 142 #[rowV r] w (SaysN (decide (r = 0)) w) := by
  have hz := row_zero hr
  have heq := fun b0 b1 b2 b3 (w : World) => run_eq4 9998 ((word r 0 : Nat) : Int) ((word r 1 : Nat) : Int) ((word r 2 : Nat) : Int) ((word r 3 : Nat) : Int) b0 b1 b2 b3 w
  have HZ := Lib.hid hz
  clear hr hz
  go_enter Tryd.func142, Tryd.ntmps142
  go_wp2
  go_ret
  exact ⟨by rw [← HZ.out]; rfl, (Below.refl _ w).alloc (Nat.le_refl _) _⟩

theorem ix0 (x0 x1 x2 x3 : Value) (w : World) : (Instr.index 91 (.agg #[x0, x1, x2, x3]) (.int .i64 0)).run Tryd.prog w = .ok x0 w := by kernel_rfl
theorem ix1 (x0 x1 x2 x3 : Value) (w : World) : (Instr.index 91 (.agg #[x0, x1, x2, x3]) (.int .i64 1)).run Tryd.prog w = .ok x1 w := by kernel_rfl
theorem ix2 (x0 x1 x2 x3 : Value) (w : World) : (Instr.index 91 (.agg #[x0, x1, x2, x3]) (.int .i64 2)).run Tryd.prog w = .ok x2 w := by kernel_rfl
theorem ix3 (x0 x1 x2 x3 : Value) (w : World) : (Instr.index 91 (.agg #[x0, x1, x2, x3]) (.int .i64 3)).run Tryd.prog w = .ok x3 w := by kernel_rfl

/-- The row r, and a world in which nothing that was there has turned. -/
def SaysR (r : Nat) (w : World) (e : Ending) (w' : World) : Prop := e = .returned (rowV r) ∧ Below w.heap.size w w'

theorem andNot_word (r s j : Nat) : bits BinOp.andNot IntKind.u64 ((word r j : Nat) : Int) ((word s j : Nat) : Int) = ((word (diff r s) j : Nat) : Int) := by
  rw [u64_andNot_nat _ _ (word_lt _ _) (word_lt _ _), word_diff]
theorem and_word (r s j : Nat) : bits BinOp.and IntKind.u64 ((word r j : Nat) : Int) ((word s j : Nat) : Int) = ((word (r &&& s) j : Nat) : Int) := by
  rw [u64_and_nat _ _ (word_lt _ _) (word_lt _ _), word_and]
theorem or_word (r s j : Nat) : bits BinOp.or IntKind.u64 ((word r j : Nat) : Int) ((word s j : Nat) : Int) = ((word (r ||| s) j : Nat) : Int) := by
  rw [u64_or_nat _ _ (word_lt _ _) (word_lt _ _), word_or]

set_option maxHeartbeats 2000000 in
theorem without_any (r s : Nat) (w : World) : Calls Tryd.prog 146 #[rowV r, rowV s] w (SaysR (diff r s) w) := by
  have i0 := ix0
  have i1 := ix1
  have i2 := ix2
  have i3 := ix3
  go_enter Tryd.func146, Tryd.ntmps146
  go_wp2
  refine wp_loop_rounds 5 ?_
  iterate 5 (rw [rounds_succ]; go_wp2)
  refine bodyPost_ret (v := rowV (diff r s)) (by simp [results, Tryd.results146, go_sem, andNot_word]) rfl ?_
  exact ⟨rfl, (((Below.refl _ w).alloc (Nat.le_refl _) _).alloc (by simp) _).alloc (by simp; omega) _⟩

set_option maxHeartbeats 2000000 in
theorem and_any (r s : Nat) (w : World) : Calls Tryd.prog 131 #[rowV r, rowV s] w (SaysR (r &&& s) w) := by
  have i0 := ix0
  have i1 := ix1
  have i2 := ix2
  have i3 := ix3
  go_enter Tryd.func131, Tryd.ntmps131
  go_wp2
  refine wp_loop_rounds 5 ?_
  iterate 5 (rw [rounds_succ]; go_wp2)
  refine bodyPost_ret (v := rowV (r &&& s)) (by simp [results, Tryd.results131, go_sem, and_word]) rfl ?_
  exact ⟨rfl, (((Below.refl _ w).alloc (Nat.le_refl _) _).alloc (by simp) _).alloc (by simp; omega) _⟩

set_option maxHeartbeats 2000000 in
theorem or_any (r s : Nat) (w : World) : Calls Tryd.prog 154 #[rowV r, rowV s] w (SaysR (r ||| s) w) := by
  have i0 := ix0
  have i1 := ix1
  have i2 := ix2
  have i3 := ix3
  go_enter Tryd.func154, Tryd.ntmps154
  go_wp2
  refine wp_loop_rounds 5 ?_
  iterate 5 (rw [rounds_succ]; go_wp2)
  refine bodyPost_ret (v := rowV (r ||| s)) (by simp [results, Tryd.results154, go_sem, or_word]) rfl ?_
  exact ⟨rfl, (((Below.refl _ w).alloc (Nat.le_refl _) _).alloc (by simp) _).alloc (by simp; omega) _⟩

/-- Nothing but one cell has turned. -/
def Puts (a : Addr) (v : Value) (w : World) (e : Ending) (w' : World) : Prop := e = .returned (.tuple #[]) ∧ ∃ n, w' = (w.drewN n).setCell a v

theorem shl_one (k : Nat) : IntKind.u64.wrap (2 ^ (k % 64)) = ((2 ^ (k % 64) : Nat) : Int) := by
  have h : 2 ^ (k % 64) < 2 ^ 64 := Nat.pow_lt_pow_right (by decide) (Nat.mod_lt _ (by decide))
  generalize he : k % 64 = m at h
  have e : (2 : Int) ^ m = ((2 ^ m : Nat) : Int) := by simp
  rw [IntKind.wrap_u64, e]
  generalize 2 ^ m = z at h
  omega
theorem put_bit (x k : Nat) (hx : x < 18446744073709551616) : bits BinOp.or IntKind.u64 (x : Int) (IntKind.u64.wrap (2 ^ (k % 64))) = ((x ||| 2 ^ (k % 64) : Nat) : Int) := by
  rw [shl_one, u64_or_nat _ _ hx (Nat.pow_lt_pow_right (by decide) (Nat.mod_lt _ (by decide) : k % 64 < 64))]

set_option maxHeartbeats 2000000 in
theorem add_any (b o : Nat) (a : Int) (k x : Nat) (w : World) (ha : a = k) (hk : k < 256) (hx : x < 18446744073709551616) (hc : w.cell? ⟨b, o + k / 64, none⟩ = some (.int .u64 (x : Int))) (hf : w.frozen? ⟨b, o + k / 64, none⟩ = false) :
    Calls Tryd.prog 119 #[.pointer (some ⟨b, o, none⟩), .int .i64 a] w (Puts ⟨b, o + k / 64, none⟩ (.int .u64 ((x ||| 2 ^ (k % 64) : Nat) : Int)) w) := by
  subst ha
  have hq : k / 64 < 4 := by omega
  have hm : k % 64 < 64 := Nat.mod_lt _ (by decide)
  have HX := Lib.hid hx
  clear hx
  go_enter Tryd.func119, Tryd.ntmps119
  go_wp2
  go_region
  go_wp2
  go_end0
  rw [put_bit x k HX.out]
  exact ⟨rfl, 1, rfl⟩

/-- What rowOf makes. -/
theorem word_zero (j : Nat) : word 0 j = 0 := by simp [word]

set_option maxHeartbeats 4000000 in
theorem rowOf_any (a : Int) (k : Nat) (w : World) (ha : a = k) (hk : k < 256) : Calls Tryd.prog 147 #[.int .i64 a] w (SaysR (2 ^ k) w) := by
  subst ha
  have b2 : Below w.heap.size w ((w.alloc (.cells #[.int .u64 0, .int .u64 0, .int .u64 0, .int .u64 0] 91)).alloc (.cells #[.int .u64 0, .int .u64 0, .int .u64 0, .int .u64 0] 91)) :=
    ((Below.refl _ w).alloc (Nat.le_refl _) _).alloc (by simp) _
  have hrow := World.rowIs_alloc (w.alloc (.cells #[.int .u64 0, .int .u64 0, .int .u64 0, .int .u64 0] 91)) #[.int .u64 0, .int .u64 0, .int .u64 0, .int .u64 0] 91 (fun _ => .int .u64 ((0 : Nat) : Int)) (fun i hi => by
    simp at hi
    obtain rfl | rfl | rfl | rfl : i = 0 ∨ i = 1 ∨ i = 2 ∨ i = 3 := by omega
    all_goals rfl)
  rw [World.size_alloc] at hrow
  have hcall := add_any (w.heap.size + 1) 0 k k 0 _ rfl hk (by decide) (hrow.cell (i := 0 + k / 64) (by simp; omega)) (hrow.frozen _)
  simp only [Nat.zero_or, Nat.zero_add] at hcall
  have h4 : k / 64 = 0 ∨ k / 64 = 1 ∨ k / 64 = 2 ∨ k / 64 = 3 := by omega
  have hw0 := word_two_pow k 0
  have hw1 := word_two_pow k 1
  have hw2 := word_two_pow k 2
  have hw3 := word_two_pow k 3
  rcases h4 with h | h | h | h
  all_goals
    rw [h] at hcall hw0 hw1 hw2 hw3
    simp at hw0 hw1 hw2 hw3
    have HW := Lib.hid (And.intro hw0 (And.intro hw1 (And.intro hw2 hw3)))
    have HB := Lib.hid b2
    clear hrow h hw0 hw1 hw2 hw3 b2
    go_enter Tryd.func147, Tryd.ntmps147
    go_wp2_with (go_at_call 119; refine hcall.mono ?_; clear hcall; rintro e w' ⟨rfl, n, rfl⟩)
    refine bodyPost_ret (v := rowV (2 ^ k)) (by simp [results, Tryd.results147, go_sem, HW.out.1, HW.out.2.1, HW.out.2.2.1, HW.out.2.2.2]) rfl ?_
    exact ⟨rfl, (((((HB.out.trans (below_drewN' _ n _)).setCell (Nat.le_succ _) _).setCell (Nat.le_refl _) _).setCell (Nat.le_refl _) _).setCell (Nat.le_refl _) _).setCell (Nat.le_refl _) _⟩
end Go.Proofs.YtkomghohdhengaaDoor


