/- A thing made after stores into older things is made before them. -/
import Derived.Test.YtkomghohdhengaaDoorDrUk
namespace Go.Proofs.YtkomghohdhengaaDoor
open Go.RowKit Go.Deep Go.Shelf

theorem alloc_set1 {W : World} {p : Addr} {x : Value} {o : Obj} (h : p.block < W.heap.size) : (W.setCell p x).alloc o = (W.alloc o).setCell p x := by
  unfold World.setCell World.alloc
  simp only
  congr 1
  apply Array.ext_getElem?
  intro i
  simp only [Array.getElem?_push, Array.getElem?_modify, Array.size_modify]
  by_cases hi : i = W.heap.size
  · subst hi
    have hne : ¬ p.block = W.heap.size := by omega
    simp [hne]
  · simp [hi]
theorem alloc_set2 {W : World} {p p' : Addr} {x x' : Value} {o : Obj} (h : p.block < W.heap.size) (h' : p'.block < W.heap.size) : ((W.setCell p x).setCell p' x').alloc o = ((W.alloc o).setCell p x).setCell p' x' := by
  rw [alloc_set1 (by rw [size_setCell]; exact h'), alloc_set1 h]
theorem alloc_set3 {W : World} {p p' q : Addr} {x x' y : Value} {o : Obj} (h : p.block < W.heap.size) (h' : p'.block < W.heap.size) (hq : q.block < W.heap.size) : (((W.setCell p x).setCell p' x').setCell q y).alloc o = (((W.alloc o).setCell p x).setCell p' x').setCell q y := by
  rw [alloc_set1 (by rw [size_setCell, size_setCell]; exact hq), alloc_set2 h h']
end Go.Proofs.YtkomghohdhengaaDoor
