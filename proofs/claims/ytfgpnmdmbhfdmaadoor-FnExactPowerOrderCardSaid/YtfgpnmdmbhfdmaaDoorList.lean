/- The program's list of the elements of a row (row.list), in memory of its own. -/
import Derived.Test.YtfgpnmdmbhfdmaaDoorElems
import Derived.Test.YtfgpnmdmbhfdmaaDoorOnes
import Derived.Test.YtfgpnmdmbhfdmaaDoorOwnA
import Derived.Test.YtfgpnmdmbhfdmaaDoorTo
import Derived.Test.YtfgpnmdmbhfdmaaDoorMarks
import Derived.Maps.AppendAt
import Derived.Laws.MakeOwn
namespace Go.Proofs.YtfgpnmdmbhfdmaaDoor
open Go.RowKit Go.Deep Go.Shelf
attribute [local go_sem] Oper.semAt_some

/-- Numbers as integers. -/
def intsOf (l : List Nat) : List Int := l.map fun k : Nat => (k : Int)
theorem intsOf_wf {l : List Nat} (h : ∀ k ∈ l, k ≤ 1048576) : ∀ x ∈ intsOf l, (Lit.int .i64 x).wf = true := by
  intro x hx
  obtain ⟨k, hk, rfl⟩ := List.mem_map.1 hx
  have := h k hk
  have e1 : IntKind.i64.min = -9223372036854775808 := rfl
  have e2 : IntKind.i64.max = 9223372036854775807 := rfl
  simp [Lit.wf, e1, e2]
  omega
theorem elems_lt256 {r k : Nat} (h : k ∈ elems r) : k < 256 := by
  unfold elems at h
  exact List.mem_range.1 (List.mem_filter.1 h).1

/-- The numbers xs, in memory of their own. -/
def ListPost (xs : List Int) (w : World) (e : Ending) (w' : World) : Prop :=
  ∃ v, e = .returned v ∧ OwnI 3 w' v xs w.heap.size w'.heap.size ∧ Below w.heap.size w w'
theorem box_ne : (26 : TypeId) ≠ 3 := by decide

end Go.Proofs.YtfgpnmdmbhfdmaaDoor
