/- A grid by value: its zero value, loaded and stored whole. -/
import Derived.Test.YtkomghohdhengaaDoorPc4
import Derived.Deep.WholeRow
import Derived.Laws.CopyOwn
namespace Go.Proofs.YtkomghohdhengaaDoor
open Go.RowKit Go.Deep

/-- The zero value of a grid. -/
theorem zeroGrid : (Tryd.prog.info? 93).map (fun i => (i.zero, i.size)) = some (some (.agg (gridCells fun _ => 0)), 800) := by kernel_rfl
theorem sizeGrid : (Tryd.prog.info? 93).map (·.size) = some 800 := (zero_of_info zeroGrid).2
theorem builtGrid : Tryd.prog.built 93 [] = some (gridCells fun _ => 0) := by kernel_rfl
theorem gridCells_one (g : Nat → Nat) : (gridCells g).all (·.oneCell') = true := by
  rw [Array.all_eq_true]
  intro i hi
  have h0 := hi
  rw [gridCells_size] at h0
  have h1 := gridCells_at g (i / 4) (i % 4) (by omega) (by omega)
  rw [show 4 * (i / 4) + i % 4 = i by omega, Array.getElem?_eq_getElem hi] at h1
  rw [Option.some.inj h1]
  rfl
theorem loadVarGrid {W : World} {b : Nat} {g : Nat → Nat} (h : GridAt W b g) : (loadVar 93 ⟨b, 0, none⟩).run Tryd.prog W = .ok (.agg (gridCells g)) W :=
  run_loadVar_row W b 93 93 (gridCells g) (0, 0) _ h.1 Tryd.underlying93 rfl (by rw [gridCells_size]; exact sizeGrid)
theorem loadGrid {W : World} {b : Nat} {g : Nat → Nat} (h : GridAt W b g) : (Instr.loadAt 93 (.pointer (some ⟨b, 0, none⟩))).run Tryd.prog W = .ok (.agg (gridCells g)) W := by
  simp only [Instr.loadAt, Instr.sureAddr, Sem.run_bind, Sem.run_pure, Result.andThen]
  exact loadVarGrid h
theorem storeGrid {W : World} {b : Nat} {g : Nat → Nat} (h : GridAt W b g) (g' : Nat → Nat) : (Instr.storeAt 93 (.pointer (some ⟨b, 0, none⟩)) (.agg (gridCells g'))).run Tryd.prog W = .ok () (W.setRow b (gridCells g')) := by
  simp only [Instr.storeAt, Instr.sureAddr, Sem.run_bind, Sem.run_pure, Result.andThen]
  exact run_storeVar_row W b 93 93 (gridCells g) (gridCells g') h.1 (by rw [gridCells_size]; exact sizeGrid) (by rw [gridCells_size, gridCells_size]) (gridCells_one g')
theorem GridAt.setRow {W : World} {b : Nat} {g g' : Nat → Nat} (h : GridAt W b g) (hg' : ∀ i, g' i < 2 ^ 256) : GridAt (W.setRow b (gridCells g')) b g' :=
  ⟨setRow_heap W b _ _ _ _ h.1, hg'⟩
theorem below_setRow' {B b : Nat} {w W : World} (hb : Below B w W) (h : B ≤ b) (cs : Array Value) : Below B w (W.setRow b cs) :=
  hb.trans ⟨rfl, rfl, rfl, by simp, fun k hk => setRow_other W b k cs (by omega)⟩

end Go.Proofs.YtkomghohdhengaaDoor


