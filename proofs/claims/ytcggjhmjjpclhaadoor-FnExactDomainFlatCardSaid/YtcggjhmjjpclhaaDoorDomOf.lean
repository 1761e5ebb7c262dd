/- The program's domainOf. -/
import Derived.Test.YtcggjhmjjpclhaaDoorImplDom
import Derived.Test.YtcggjhmjjpclhaaDoorIsEl
namespace Go.Proofs.YtcggjhmjjpclhaaDoor
open Go.RowKit Go.Deep Go.Shelf

/-- What domainOf answers: the grid of a domain, in memory of its own. -/
def DomNo (w : World) (e : Ending) (w' : World) : Prop := e = .returned (.tuple #[.pointer none, .bool false]) ∧ Below w.heap.size w w'
def DomYes (rows : Rows2) (w : World) (e : Ending) (w' : World) : Prop :=
  (∃ p : Nat, e = .returned (.tuple #[.pointer (some ⟨p, 0, none⟩), .bool true]) ∧ w.heap.size ≤ p ∧ GridAt w' p (gridF rows)) ∧ Below w.heap.size w w'

end Go.Proofs.YtcggjhmjjpclhaaDoor
