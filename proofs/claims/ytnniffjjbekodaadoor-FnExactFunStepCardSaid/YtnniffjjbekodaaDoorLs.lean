/- What a law holds while it looks at an answer that is a list, made from two orders: the arguments, the model's answer, the two copies, the program's answer, all in memory of their own. Plain facts on worlds. -/
import Derived.Test.YtnniffjjbekodaaDoorMono
import Derived.Test.YtnniffjjbekodaaDoorLw
namespace Go.Proofs.YtnniffjjbekodaaDoor
open Go.RowKit Go.Deep

theorem OwnI.still {t : TypeId} {W W' : World} {v : Value} {xs : List Int} {lo hi : Nat} (h : OwnI t W v xs lo hi) (hb : ∀ b, lo ≤ b → b < hi → W'.heap[b]? = W.heap[b]?) : OwnI t W' v xs lo hi :=
  h.kept fun b e => hb b (h.block b e).1 (h.block b e).2.1

/-- The places of the answers and of the copies. -/
structure Places4 where
  lo1 : Nat
  hi1 : Nat
  lo2 : Nat
  hi2 : Nat
  lo3 : Nat
  hi3 : Nat
  lo4 : Nat
  hi4 : Nat

structure Ls (w : World) (v v' : Value) (rows rows' : Rows2) (xs : List Int) (p : Places4) (u1 x0 x1 u4 : Value) (R2 R3 : Nat → List Int) (ys : List Int) (W : World) : Prop where
  base : RowsAt w v rows
  base' : RowsAt w v' rows'
  tab0 : Tab w
  c0 : W.cell? ⟨w.heap.size, 0, none⟩ = some v
  c1 : W.cell? ⟨w.heap.size + 1, 0, none⟩ = some v'
  below : Below w.heap.size w W
  o1 : OwnI 3 W u1 xs p.lo1 p.hi1
  b2 : Boxed W p.hi2 28 x0
  o2 : OwnR 3 25 W x0 rows.length R2 p.lo2 p.hi2
  b3 : Boxed W p.hi3 28 x1
  o3 : OwnR 3 25 W x1 rows'.length R3 p.lo3 p.hi3
  o4 : OwnI 3 W u4 ys p.lo4 p.hi4
  ord : w.heap.size + 1 < p.lo1 ∧ p.lo1 ≤ p.hi1 ∧ p.hi1 ≤ p.lo2 ∧ p.lo2 ≤ p.hi2 ∧ p.hi2 < p.lo3 ∧ p.lo3 ≤ p.hi3 ∧ p.hi3 < p.lo4 ∧ p.lo4 ≤ p.hi4 ∧ p.hi4 ≤ W.heap.size

section
variable {w : World} {v v' u1 x0 x1 u4 : Value} {rows rows' : Rows2} {xs ys : List Int} {p : Places4} {R2 R3 : Nat → List Int} {W W' : World}
theorem Ls.r0 (h : Ls w v v' rows rows' xs p u1 x0 x1 u4 R2 R3 ys W) : RowsAt W v rows := h.base.below h.below
theorem Ls.r1 (h : Ls w v v' rows rows' xs p u1 x0 x1 u4 R2 R3 ys W) : RowsAt W v' rows' := h.base'.below h.below
theorem Ls.tab (h : Ls w v v' rows rows' xs p u1 x0 x1 u4 R2 R3 ys W) : Tab W := h.tab0.below h.below
theorem Ls.step (h : Ls w v v' rows rows' xs p u1 x0 x1 u4 R2 R3 ys W) (hb : Below W.heap.size W W') : Ls w v v' rows rows' xs p u1 x0 x1 u4 R2 R3 ys W' := by
  have ho := h.ord
  have hz := hb.size
  exact ⟨h.base, h.base', h.tab0, (hb.cell (p := ⟨w.heap.size, 0, none⟩) (cell_lt h.c0)).trans h.c0, (hb.cell (p := ⟨w.heap.size + 1, 0, none⟩) (cell_lt h.c1)).trans h.c1, h.below.trans (hb.mono h.below.size),
    h.o1.still fun b _ hb' => hb.block b (by omega), (hb.block _ h.b2.lt).trans h.b2, h.o2.below hb (by omega), (hb.block _ h.b3.lt).trans h.b3, h.o3.below hb (by omega), h.o4.still fun b _ hb' => hb.block b (by omega), by omega⟩
/-- The first copy has been marked. -/
theorem Ls.mark2 {R2' : Nat → List Int} (h : Ls w v v' rows rows' xs p u1 x0 x1 u4 R2 R3 ys W) (ht : Turned p.lo2 p.hi2 W W') (ho : OwnR 3 25 W' x0 rows.length R2' p.lo2 p.hi2) : Ls w v v' rows rows' xs p u1 x0 x1 u4 R2' R3 ys W' := by
  have hd := h.ord
  have hz := ht.below.size
  have hbl : ∀ b, b < p.lo2 → W'.heap[b]? = W.heap[b]? := fun b hb => ht.below.block b hb
  have hab : ∀ b, p.hi2 ≤ b → b < W.heap.size → W'.heap[b]? = W.heap[b]? := ht.above
  exact ⟨h.base, h.base', h.tab0, (World.cell?_of_block (hbl w.heap.size (by omega))).trans h.c0, (World.cell?_of_block (hbl (w.heap.size + 1) (by omega))).trans h.c1, h.below.trans (ht.below.mono (by omega)),
    h.o1.still fun b _ hb => hbl b (by omega), (hab _ (Nat.le_refl _) h.b2.lt).trans h.b2, ho, (hab _ (by omega) h.b3.lt).trans h.b3, h.o3.kept fun b hb hb' => hab b (by omega) (by omega), h.o4.still fun b hb hb' => hab b (by omega) (by omega), by omega⟩
/-- The second copy has been marked. -/
theorem Ls.mark3 {R3' : Nat → List Int} (h : Ls w v v' rows rows' xs p u1 x0 x1 u4 R2 R3 ys W) (ht : Turned p.lo3 p.hi3 W W') (ho : OwnR 3 25 W' x1 rows'.length R3' p.lo3 p.hi3) : Ls w v v' rows rows' xs p u1 x0 x1 u4 R2 R3' ys W' := by
  have hd := h.ord
  have hz := ht.below.size
  have hbl : ∀ b, b < p.lo3 → W'.heap[b]? = W.heap[b]? := fun b hb => ht.below.block b hb
  have hab : ∀ b, p.hi3 ≤ b → b < W.heap.size → W'.heap[b]? = W.heap[b]? := ht.above
  exact ⟨h.base, h.base', h.tab0, (World.cell?_of_block (hbl w.heap.size (by omega))).trans h.c0, (World.cell?_of_block (hbl (w.heap.size + 1) (by omega))).trans h.c1, h.below.trans (ht.below.mono (by omega)),
    h.o1.still fun b _ hb => hbl b (by omega), (hbl _ (by omega)).trans h.b2, h.o2.kept fun b _ hb => hbl b (by omega), (hab _ (Nat.le_refl _) h.b3.lt).trans h.b3, ho, h.o4.still fun b hb hb' => hab b (by omega) (by omega), by omega⟩
/-- The program's answer has been marked. -/
theorem Ls.mark4 {ys' : List Int} (h : Ls w v v' rows rows' xs p u1 x0 x1 u4 R2 R3 ys W) (hg : W.grownBy W' u4.ownBlock) (ho : OwnI 3 W' u4 ys' p.lo4 p.hi4) : Ls w v v' rows rows' xs p u1 x0 x1 u4 R2 R3 ys' W' := by
  have hd := h.ord
  have ht : Turned p.lo4 p.hi4 W W' := Turned.of_grownBy hg (by omega) fun b e => ⟨(h.o4.block b e).1, (h.o4.block b e).2.1⟩
  have hz := ht.below.size
  have hbl : ∀ b, b < p.lo4 → W'.heap[b]? = W.heap[b]? := fun b hb => ht.below.block b hb
  exact ⟨h.base, h.base', h.tab0, (World.cell?_of_block (hbl w.heap.size (by omega))).trans h.c0, (World.cell?_of_block (hbl (w.heap.size + 1) (by omega))).trans h.c1, h.below.trans (ht.below.mono (by omega)),
    h.o1.still fun b _ hb => hbl b (by omega), (hbl _ (by omega)).trans h.b2, h.o2.kept fun b _ hb => hbl b (by omega), (hbl _ (by omega)).trans h.b3, h.o3.kept fun b _ hb => hbl b (by omega), ho, by omega⟩
end
end Go.Proofs.YtnniffjjbekodaaDoor
