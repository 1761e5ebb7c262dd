/- The number of bits of a word (OnesCount64): some number that is not large; what more it is, nobody asks here. -/
import Derived.Test.YtiaajegdaipdmaaDoorRow
import Derived.IntWalk
namespace Go.Proofs.YtiaajegdaipdmaaDoor
open Go.RowKit Go.Deep

/-- A number that is not large, and the same world. -/
def SmallN (m : Nat) (w : World) (e : Ending) (w' : World) : Prop := (∃ c : Nat, c ≤ m ∧ e = .returned (.int .i64 (c : Nat))) ∧ w = w'

theorem and127 (y : Int) : ∃ c : Nat, c ≤ 127 ∧ Ending.returned (.int .i64 (bits BinOp.and IntKind.i64 y 127)) = .returned (.int .i64 (c : Nat)) := by
  have h1 : (BitVec.ofInt 64 (127 : Int)).toNat = 127 := by decide
  have h2 : (BitVec.ofInt 64 y &&& BitVec.ofInt 64 127).toNat = (BitVec.ofInt 64 y).toNat % 128 := by rw [BitVec.toNat_and, h1, nat_mask7]
  have h3 : bits BinOp.and IntKind.i64 y 127 = (((BitVec.ofInt 64 y).toNat % 128 : Nat) : Int) := by
    show IntKind.i64.wrap ((BitVec.ofInt 64 y &&& BitVec.ofInt 64 127).toNat : Int) = _
    rw [h2]
    exact IntWalk.i64_in _ (by omega)
  exact ⟨(BitVec.ofInt 64 y).toNat % 128, by omega, by rw [h3]⟩

set_option maxRecDepth 100000 in
set_option maxHeartbeats 4000000 in
theorem ones_any (x : Nat) (w : World) : Calls Tryd.prog 75 #[.int .u64 x] w (SmallN 127 w) := by
  go_enter Tryd.func75, Tryd.ntmps75
  go_wp2
  go_ret
  exact ⟨and127 _, rfl⟩

/-- A number that is not large; nothing that was there has turned. -/
def SmallB (m : Nat) (w : World) (e : Ending) (w' : World) : Prop := (∃ c : Nat, c ≤ m ∧ e = .returned (.int .i64 (c : Nat))) ∧ Below w.heap.size w w'

set_option maxRecDepth 100000 in
set_option maxHeartbeats 4000000 in
theorem count_any (r : Nat) (w : World) : Calls Tryd.prog 69 #[rowV r] w (SmallB 1000 w) := by
  have i0 := ix0
  have i1 := ix1
  have i2 := ix2
  have i3 := ix3
  have HB : Hid (Below w.heap.size w (w.alloc (.cells #[.int .u64 ((word r 0 : Nat) : Int), .int .u64 ((word r 1 : Nat) : Int), .int .u64 ((word r 2 : Nat) : Int), .int .u64 ((word r 3 : Nat) : Int)] 73))) := Lib.hid ((Below.refl _ w).alloc (Nat.le_refl _) _)
  go_enter Tryd.func69, Tryd.ntmps69
  go_wp2
  refine wp_loop_rounds 5 ?_
  rw [rounds_succ]
  go_wp2_with fail
  refine (ones_any _ _).mono ?_
  rintro e w' ⟨⟨a0, h0, rfl⟩, rfl⟩
  go_wp2
  rw [rounds_succ]
  go_wp2_with fail
  refine (ones_any _ _).mono ?_
  rintro e w' ⟨⟨a1, h1, rfl⟩, rfl⟩
  go_wp2
  rw [rounds_succ]
  go_wp2_with fail
  refine (ones_any _ _).mono ?_
  rintro e w' ⟨⟨a2, h2, rfl⟩, rfl⟩
  go_wp2
  rw [rounds_succ]
  go_wp2_with fail
  refine (ones_any _ _).mono ?_
  rintro e w' ⟨⟨a3, h3, rfl⟩, rfl⟩
  go_wp2
  rw [rounds_succ]
  go_wp2
  go_ret
  exact ⟨⟨a0 + a1 + a2 + a3, by omega, by simp⟩, HB.out⟩
end Go.Proofs.YtiaajegdaipdmaaDoor
