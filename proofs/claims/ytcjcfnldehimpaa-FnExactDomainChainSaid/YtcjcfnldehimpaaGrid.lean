/- Grids: 200 rows of 256 bits in one block; the program's look at them (size, fitsAt, isOrder). -/
import Derived.Test.YtcjcfnldehimpaaFirst
import Derived.Laws.Rows
import Derived.Laws.Tables
import Derived.Deep.MidRow
namespace Go.Proofs.Ytcjcfnldehimpaa
open Go.RowKit Go.Deep

/-- The cells of a grid. -/
def gridCells (g : Nat → Nat) : Array Value := Array.ofFn (n := 800) fun k => .int .u64 ((word (g (k.val / 4)) (k.val % 4) : Nat) : Int)
theorem gridCells_size (g : Nat → Nat) : (gridCells g).size = 800 := by unfold gridCells; simp
theorem gridCells_at (g : Nat → Nat) (i j : Nat) (hi : i < 200) (hj : j < 4) : (gridCells g)[4 * i + j]? = some (.int .u64 ((word (g i) j : Nat) : Int)) := by
  unfold gridCells
  rw [Array.getElem?_ofFn, dif_pos (by omega)]
  have h1 : (4 * i + j) / 4 = i := by omega
  have h2 : (4 * i + j) % 4 = j := by omega
  simp only [h1, h2]
theorem gridCells_ext {g : Nat → Nat} {cs : Array Value} (hs : cs.size = 800) (h : ∀ i j, i < 200 → j < 4 → cs[4 * i + j]? = some (.int .u64 ((word (g i) j : Nat) : Int))) : cs = gridCells g := by
  apply Array.ext_getElem?
  intro k
  by_cases hk : k < 800
  · have h1 := h (k / 4) (k % 4) (by omega) (by omega)
    have h2 := gridCells_at g (k / 4) (k % 4) (by omega) (by omega)
    rw [show 4 * (k / 4) + k % 4 = k by omega] at h1 h2
    rw [h1, h2]
  · rw [Array.getElem?_eq_none (by omega), Array.getElem?_eq_none (by rw [gridCells_size]; omega)]

/-- The number n, and a world in which nothing that was there has turned. -/
def SaysI (n : Int) (w : World) (e : Ending) (w' : World) : Prop := e = .returned (.int .i64 n) ∧ Below w.heap.size w w'

end Go.Proofs.Ytcjcfnldehimpaa
