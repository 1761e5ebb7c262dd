/- The program's rows of an order (ascendsBelow, isOrder, gridOf), and its OrderValid. -/
import Derived.Test.YtcjcfnldehimpaaIsOrder
import Derived.Test.YtcjcfnldehimpaaGridPure
import Derived.Test.YtcjcfnldehimpaaGridK
import Derived.Test.YtcjcfnldehimpaaLe
import Derived.Deep.WholeRow
import Derived.Deep.RegionHeld3
namespace Go.Proofs.Ytcjcfnldehimpaa
open Go.RowKit Go.Deep

theorem ascFrom_cons (last n : Int) (l : List Int) (k : Nat) (hk : k < l.length) : ascFrom last n (l.drop k) = (decide (last < l[k]) && decide (l[k] < n) && ascFrom l[k] n (l.drop (k + 1))) := by
  rw [List.drop_eq_getElem_cons hk]
  rfl

/-- What gridOf answers. -/
def GridPost (rows : Rows2) (w : World) (e : Ending) (w' : World) : Prop :=
  (∃ g : Nat → Nat, (∀ i, g i < 2 ^ 256) ∧ (validB rows = true → g = gridF rows) ∧ e = .returned (.tuple #[.agg (gridCells g), .bool (validB rows)])) ∧ Below w.heap.size w w'
theorem GridPost.no {rows : Rows2} {w w' : World} (h : validB rows = false) (hb : Below w.heap.size w w') : GridPost rows w (.returned (.tuple #[.agg (gridCells fun _ => 0), .bool false])) w' :=
  ⟨⟨fun _ => 0, fun _ => Nat.two_pow_pos 256, fun h2 => (by rw [h] at h2; cases h2), by rw [h]⟩, hb⟩

theorem GridPost.yes {rows : Rows2} {w w' : World} {v : Value} (hv : v = .tuple #[.agg (gridCells (gridF rows)), .bool (validB rows)]) (hg : ∀ i, gridF rows i < 2 ^ 256) (hb : Below w.heap.size w w') : GridPost rows w (.returned v) w' :=
  ⟨⟨gridF rows, hg, fun _ => rfl, by rw [hv]⟩, hb⟩

theorem below_cells {B b : Nat} {a : World} (hb : B ≤ b) : ∀ (vs : List Value) (o : Nat) (W : World), Below B a W → Below B a (W.setCells b o vs)
  | [], _, _, h => h
  | v :: r, o, _, h => below_cells hb r (o + 1) _ (h.setCell (p := ⟨b, o, none⟩) hb v)


end Go.Proofs.Ytcjcfnldehimpaa
