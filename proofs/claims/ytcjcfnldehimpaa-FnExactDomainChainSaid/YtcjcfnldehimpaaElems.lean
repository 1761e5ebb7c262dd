/- The program's iterator over the elements of a row (row.elements): it gives all of them, ascending. -/
import Derived.Test.YtcjcfnldehimpaaElemP
import Derived.RangeFuncNested
import Derived.RangeFuncBound
import Derived.RangeFuncCalls
import Derived.RangeFuncLeaves
import Derived.RangeFuncBox
import Derived.Shelf.Abstract
import Derived.Shelf.RegionOpen
import Derived.OwnWalkIn
import Derived.TacticsInMore
import Derived.LoopNIn
import Derived.LoopIn
namespace Go.Proofs.Ytcjcfnldehimpaa
open Go.RowKit Go.Deep Go.Shelf
attribute [local go_sem] Oper.semAt_some

/-- An element of a row. -/
abbrev Bt (r : Nat) : Type := { k : Nat // k ∈ elems r }
def eList (r : Nat) : List (Bt r) := (elems r).attach
def encBt {r : Nat} (x : Bt r) : Array Value := #[.int .i64 ((x.1 : Nat) : Int)]
def natsOf {r : Nat} (l : List (Bt r)) : List Nat := l.map (·.1)
theorem natsOf_all (r : Nat) : natsOf (eList r) = elems r := by simp [natsOf, eList]
theorem natsOf_snoc {r : Nat} (l : List (Bt r)) (x : Bt r) : natsOf (l ++ [x]) = natsOf l ++ [x.1] := by simp [natsOf]

theorem clear_word (x : Nat) (h0 : x ≠ 0) (hx : x < 18446744073709551616) : bits BinOp.and IntKind.u64 (x : Int) ((x : Int) - 1) = ((x &&& (x - 1) : Nat) : Int) := by
  have e : (x : Int) - 1 = ((x - 1 : Nat) : Int) := by omega
  rw [e, u64_and_nat _ _ hx (by omega)]

end Go.Proofs.Ytcjcfnldehimpaa
