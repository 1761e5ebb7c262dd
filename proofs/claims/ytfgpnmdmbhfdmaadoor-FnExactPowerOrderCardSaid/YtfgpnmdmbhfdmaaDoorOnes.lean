/- The number of bits of a word (OnesCount64): some number that is not large; what more it is, nobody asks here. -/
import Derived.Test.YtfgpnmdmbhfdmaaDoorRow
import Derived.IntWalk
namespace Go.Proofs.YtfgpnmdmbhfdmaaDoor
open Go.RowKit Go.Deep

/-- A number that is not large, and the same world. -/
def SmallN (m : Nat) (w : World) (e : Ending) (w' : World) : Prop := (∃ c : Nat, c ≤ m ∧ e = .returned (.int .i64 (c : Nat))) ∧ w = w'

theorem and127 (y : Int) : ∃ c : Nat, c ≤ 127 ∧ Ending.returned (.int .i64 (bits BinOp.and IntKind.i64 y 127)) = .returned (.int .i64 (c : Nat)) := by
  have h1 : (BitVec.ofInt 64 (127 : Int)).toNat = 127 := by decide
  have h2 : (BitVec.ofInt 64 y &&& BitVec.ofInt 64 127).toNat = (BitVec.ofInt 64 y).toNat % 128 := by rw [BitVec.toNat_and, h1, nat_mask7]
  have h3 : bits BinOp.and IntKind.i64 y 127 = (((BitVec.ofInt 64 y).toNat % 128 : Nat) : Int) := by
    show IntKind.i64.wrap ((BitVec.ofInt 64 y &&& BitVec.ofInt 64 127).toNat : Int) = _
    rw [h2]
    exact IntWalk.i64_in _ (by omega)
  exact ⟨(BitVec.ofInt 64 y).toNat % 128, by omega, by rw [h3]⟩

/-- A number that is not large; nothing that was there has turned. -/
def SmallB (m : Nat) (w : World) (e : Ending) (w' : World) : Prop := (∃ c : Nat, c ≤ m ∧ e = .returned (.int .i64 (c : Nat))) ∧ Below w.heap.size w w'

end Go.Proofs.YtfgpnmdmbhfdmaaDoor
