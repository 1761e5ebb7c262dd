/- A grid by value: its zero value, loaded and stored whole. -/
import Derived.Test.YtcjcfnldehimpaaGrid
import Derived.Deep.WholeRow
import Derived.Laws.CopyOwn
namespace Go.Proofs.Ytcjcfnldehimpaa
open Go.RowKit Go.Deep

theorem gridCells_one (g : Nat → Nat) : (gridCells g).all (·.oneCell') = true := by
  rw [Array.all_eq_true]
  intro i hi
  have h0 := hi
  rw [gridCells_size] at h0
  have h1 := gridCells_at g (i / 4) (i % 4) (by omega) (by omega)
  rw [show 4 * (i / 4) + i % 4 = i by omega, Array.getElem?_eq_getElem hi] at h1
  rw [Option.some.inj h1]
  rfl
theorem below_setRow' {B b : Nat} {w W : World} (hb : Below B w W) (h : B ≤ b) (cs : Array Value) : Below B w (W.setRow b cs) :=
  hb.trans ⟨rfl, rfl, rfl, by simp, fun k hk => setRow_other W b k cs (by omega)⟩

end Go.Proofs.Ytcjcfnldehimpaa
