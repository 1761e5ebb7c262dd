/- The program's rows of an order (ascendsBelow, isOrder, gridOf), and its OrderValid. -/
import Derived.Test.YtcggjhmjjpclhaaDoorIsOrder
import Derived.Test.YtcggjhmjjpclhaaDoorGridPure
import Derived.Test.YtcggjhmjjpclhaaDoorGridK
import Derived.Test.YtcggjhmjjpclhaaDoorLe
import Derived.Deep.WholeRow
import Derived.Deep.RegionHeld3
namespace Go.Proofs.YtcggjhmjjpclhaaDoor
open Go.RowKit Go.Deep

theorem ascFrom_cons (last n : Int) (l : List Int) (k : Nat) (hk : k < l.length) : ascFrom last n (l.drop k) = (decide (last < l[k]) && decide (l[k] < n) && ascFrom l[k] n (l.drop (k + 1))) := by
  rw [List.drop_eq_getElem_cons hk]
  rfl

/-- What gridOf answers. -/
def GridPost (rows : Rows2) (w : World) (e : Ending) (w' : World) : Prop :=
  (∃ g : Nat → Nat, (∀ i, g i < 2 ^ 256) ∧ (validB rows = true → g = gridF rows) ∧ e = .returned (.tuple #[.agg (gridCells g), .bool (validB rows)])) ∧ Below w.heap.size w w'
theorem GridPost.no {rows : Rows2} {w w' : World} (h : validB rows = false) (hb : Below w.heap.size w w') : GridPost rows w (.returned (.tuple #[.agg (gridCells fun _ => 0), .bool false])) w' :=
  ⟨⟨fun _ => 0, fun _ => Nat.two_pow_pos 256, fun h2 => (by rw [h] at h2; cases h2), by rw [h]⟩, hb⟩

theorem GridPost.yes {rows : Rows2} {w w' : World} {v : Value} (hv : v = .tuple #[.agg (gridCells (gridF rows)), .bool (validB rows)]) (hg : ∀ i, gridF rows i < 2 ^ 256) (hb : Below w.heap.size w w') : GridPost rows w (.returned v) w' :=
  ⟨⟨gridF rows, hg, fun _ => rfl, by rw [hv]⟩, hb⟩

/-- What holds while the grid is laid. -/
structure Laid (w : World) (v : Value) (g : Nat → Nat) (W : World) : Prop where
  cell : W.cell? ⟨w.heap.size, 0, none⟩ = some v
  res : GridAt W (w.heap.size + 1) (fun _ => 0)
  grid : GridAt W (w.heap.size + 2) g
  below : Below w.heap.size w W

theorem Laid.step {w : World} {v : Value} {g : Nat → Nat} {W W' : World} (h : Laid w v g W) (hb : Below W.heap.size W W') : Laid w v g W' :=
  ⟨by rw [hb.cell (p := ⟨w.heap.size, 0, none⟩) (cell_lt h.cell)]; exact h.cell, h.res.below hb h.res.lt, h.grid.below hb h.grid.lt, h.below.trans (hb.mono h.below.size)⟩

theorem Laid.start (w : World) (v : Value) (t : TypeId) : Laid w v (fun _ => 0) (((w.alloc (.cells #[v] t)).alloc (.cells (gridCells fun _ => 0) 53)).alloc (.cells (gridCells fun _ => 0) 53)) := by
  have z : ∀ i : Nat, (fun _ : Nat => (0 : Nat)) i < 2 ^ 256 := fun _ => Nat.two_pow_pos 256
  have s1 : (w.alloc (.cells #[v] t)).heap.size = w.heap.size + 1 := World.size_alloc _ _
  have s2 : ((w.alloc (.cells #[v] t)).alloc (.cells (gridCells fun _ => 0) 53)).heap.size = w.heap.size + 2 := by rw [World.size_alloc, s1]
  have g1 : GridAt ((w.alloc (.cells #[v] t)).alloc (.cells (gridCells fun _ => 0) 53)) (w.heap.size + 1) (fun _ => 0) := ⟨by rw [← s1]; exact heap_alloc_new _ _, z⟩
  have c0 : (w.alloc (.cells #[v] t)).cell? ⟨w.heap.size, 0, none⟩ = some v := (World.rowIs_alloc w #[v] t (fun _ => v) (fun i hi => by simp at hi; subst hi; rfl)).cell (by simp)
  refine ⟨cell_alloc_any (cell_alloc_any c0 _) _, g1.below ((Below.refl _ _).alloc (Nat.le_refl _) _) g1.lt, ⟨by rw [← s2]; exact heap_alloc_new _ _, z⟩, (((Below.refl _ w).alloc (Nat.le_refl _) _).alloc (by rw [s1]; omega) _).alloc (by rw [s2]; omega) _⟩

/-- One number more in row i. -/
theorem Laid.put {w : World} {v : Value} {rows : Rows2} {i k kn : Nat} {W : World} (h : Laid w v (gpart rows i k) W) (hi : i < rows.length) (hi2 : i < 200) (hk : k < rows[i].length) (hkn : rows[i][k] = (kn : Int)) (hlt : kn < 200)
    (hg' : ∀ i', gpart rows i (k + 1) i' < 2 ^ 256) (m : Nat) :
    Laid w v (gpart rows i (k + 1)) ((W.drewN m).setCell ⟨w.heap.size + 2, i * 4 + kn / 64, none⟩ (.int .u64 ((word (gpart rows i k i) (kn / 64) ||| 2 ^ (kn % 64) : Nat) : Int))) := by
  have hW : Laid w v (gpart rows i k) (W.drewN m) := h.step (below_drewN' _ _ _)
  have hset := hW.grid.set (g' := gpart rows i (k + 1)) i (kn / 64) hi2 (by omega) (word (gpart rows i k i) (kn / 64) ||| 2 ^ (kn % 64)) hg' (fun i' j' _ _ => by
    rw [gpart_step hi hk, hkn, Int.toNat_natCast]
    by_cases e : i' = i
    · subst e
      rw [if_pos rfl, word_put]
      by_cases e2 : kn / 64 = j'
      · subst e2; rw [if_pos rfl, if_pos ⟨rfl, rfl⟩]
      · rw [if_neg e2, if_neg (fun h => e2 h.2.symm)]
    · rw [if_neg e, if_neg (fun h => e h.1)])
  rw [Nat.mul_comm] at hset
  refine ⟨?_, hW.res.setOther (by show w.heap.size + 1 ≠ w.heap.size + 2; omega) _, hset, hW.below.setCell (p := ⟨w.heap.size + 2, _, none⟩) (by show w.heap.size ≤ w.heap.size + 2; omega) _⟩
  rw [World.cell?_of_block (w := W.drewN m) (heap_setCell_other _ ⟨w.heap.size + 2, _, none⟩ w.heap.size _ (by show w.heap.size ≠ w.heap.size + 2; omega))]
  exact hW.cell

theorem gridRange {W : World} {b : Nat} {g : Nat → Nat} (h : GridAt W b g) : W.rangeAt b 0 (gridCells g).toList := fun j v hv => by
  rw [Nat.zero_add, cell_of_row W b _ _ _ _ h.1]
  simpa using hv
theorem gridThere {W : World} {b : Nat} {g : Nat → Nat} (h : GridAt W b g) : W.there b 0 800 := fun j hj => by
  refine ⟨?_, h.frozen _⟩
  rw [Nat.zero_add, cell_of_row W b _ _ _ _ h.1, Array.getElem?_eq_getElem (by rw [gridCells_size]; exact hj)]
  rfl
theorem below_cells {B b : Nat} {a : World} (hb : B ≤ b) : ∀ (vs : List Value) (o : Nat) (W : World), Below B a W → Below B a (W.setCells b o vs)
  | [], _, _, h => h
  | v :: r, o, _, h => below_cells hb r (o + 1) _ (h.setCell (p := ⟨b, o, none⟩) hb v)


end Go.Proofs.YtcggjhmjjpclhaaDoor
