/- The laws' own copies of an argument (toIntS, toIntSS, toOrder): new memory that reads as the argument. -/
import Derived.Test.YtcggjhmjjpclhaaDoorProg
import Derived.Test.YtcggjhmjjpclhaaDoorMem
import Derived.LoopTactic
import Derived.RegionTactic
import Derived.Outline
namespace Go.Proofs.YtcggjhmjjpclhaaDoor
open Go.RowKit Go.Deep

theorem infoInt : (Tryd.prog.info? 3).map (fun i => (i.zero, i.size, i.bytes)) = some (some (.int .i64 0), 1, 8) := by kernel_rfl
theorem infoInts : (Tryd.prog.info? 37).map (fun i => (i.zero, i.size, i.bytes)) = some (some (.slice none 0 0), 1, 24) := by kernel_rfl

/-- A copy of xs lies in new memory. -/
def ToInts (xs : List Int) (w : World) (e : Ending) (w' : World) : Prop :=
  e = .returned (whole w.heap.size xs.length) ∧ OwnInts 3 w' w.heap.size xs ∧ w'.heap.size = w.heap.size + 1 ∧ Below w.heap.size w w'

/-- What the new block holds when k elements have been copied. -/
def someInts (xs : List Int) (k i : Nat) : Value := if i < k then intCell xs i else .int .i64 0

/-- What the outer block holds when k rows have been copied. -/
def someRows (B : Nat) (rows : Rows2) (k i : Nat) : Value := if i < k then rowCell (fun j => B + 1 + j) rows i else .slice none 0 0

/-- A copy of the rows lies in new memory. -/
def ToRows (rows : Rows2) (w : World) (w' : World) : Prop :=
  OwnRows 3 37 w' w.heap.size w'.heap.size (fun j => w.heap.size + 1 + j) rows ∧ Below w.heap.size w w'
def ToIntss (rows : Rows2) (w : World) (e : Ending) (w' : World) : Prop :=
  e = .returned (whole w.heap.size rows.length) ∧ ToRows rows w w'

/-- A copy of an order lies in new memory. -/
def ToOrder (rows : Rows2) (w : World) (e : Ending) (w' : World) : Prop :=
  ∃ g G, e = .returned (.agg #[whole g rows.length]) ∧ w.heap.size ≤ g ∧ OwnRows 3 37 w' g w'.heap.size G rows ∧ Below w.heap.size w w'

end Go.Proofs.YtcggjhmjjpclhaaDoor
