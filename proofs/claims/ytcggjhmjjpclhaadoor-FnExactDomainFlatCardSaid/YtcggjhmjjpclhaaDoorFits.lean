/- The program's check of one element (fitsAt), and of all (isOrder). -/
import Derived.Test.YtcggjhmjjpclhaaDoorGrid
import Derived.StillTailTactics
import Derived.Deep.RegionWith
import Derived.Deep.RegionHeld3
import Derived.Deep.DeepCutAuto
import Derived.Deep.LoopGhost
namespace Go.Proofs.YtcggjhmjjpclhaaDoor
open Go.RowKit Go.Deep

/-- The row r lies in a variable of its own, at block p. -/
def RowIn (W : World) (p r : Nat) : Prop := W.heap[p]? = some (.cells #[.int .u64 ((word r 0 : Nat) : Int), .int .u64 ((word r 1 : Nat) : Int), .int .u64 ((word r 2 : Nat) : Int), .int .u64 ((word r 3 : Nat) : Int)] 51 (0, 0)) ∧ r < 2 ^ 256
theorem RowIn.cells {W : World} {p r : Nat} (h : RowIn W p r) : W.cell? ⟨p, 0, none⟩ = some (.int .u64 ((word r 0 : Nat) : Int)) ∧ W.cell? ⟨p, 1, none⟩ = some (.int .u64 ((word r 1 : Nat) : Int)) ∧
    W.cell? ⟨p, 2, none⟩ = some (.int .u64 ((word r 2 : Nat) : Int)) ∧ W.cell? ⟨p, 3, none⟩ = some (.int .u64 ((word r 3 : Nat) : Int)) := by
  refine ⟨?_, ?_, ?_, ?_⟩ <;> (rw [cell_of_row W p _ _ _ _ h.1]; rfl)
theorem RowIn.frozen {W : World} {p r : Nat} (h : RowIn W p r) (o : Nat) : W.frozen? ⟨p, o, none⟩ = false := frozen_of_row W p o _ _ h.1
theorem RowIn.lt {W : World} {p r : Nat} (h : RowIn W p r) : p < W.heap.size := by
  obtain ⟨hlt, _⟩ := Array.getElem?_eq_some_iff.1 h.1
  exact hlt
theorem RowIn.below {W W' : World} {p r B : Nat} (h : RowIn W p r) (hb : Below B W W') (hB : p < B) : RowIn W' p r := ⟨by rw [hb.block p hB]; exact h.1, h.2⟩

theorem RowIn.alloc (W : World) {r : Nat} (hr : r < 2 ^ 256) : RowIn (W.alloc (.cells #[.int .u64 ((word r 0 : Nat) : Int), .int .u64 ((word r 1 : Nat) : Int), .int .u64 ((word r 2 : Nat) : Int), .int .u64 ((word r 3 : Nat) : Int)] 51)) W.heap.size r :=
  ⟨heap_alloc_new W _, hr⟩
theorem RowIn.set4 {W : World} {p r : Nat} {z0 z1 z2 z3 : Value} (h : W.heap[p]? = some (.cells #[z0, z1, z2, z3] 51 (0, 0))) (hr : r < 2 ^ 256) :
    RowIn ((((W.setCell ⟨p, 0, none⟩ (.int .u64 ((word r 0 : Nat) : Int))).setCell ⟨p, 1, none⟩ (.int .u64 ((word r 1 : Nat) : Int))).setCell ⟨p, 2, none⟩ (.int .u64 ((word r 2 : Nat) : Int))).setCell ⟨p, 3, none⟩ (.int .u64 ((word r 3 : Nat) : Int))) p r := by
  refine ⟨?_, hr⟩
  rw [heap_setCell_same _ p 3 _ _ _ (heap_setCell_same _ p 2 _ _ _ (heap_setCell_same _ p 1 _ _ _ (heap_setCell_same _ p 0 _ _ _ h)))]
  rfl

/-- What holds while one element is looked at: the grid, the table, and nothing old has turned. -/
structure Look (b : Nat) (g : Nat → Nat) (w W : World) : Prop where
  grid : GridAt W b g
  tab : Tab W
  below : Below w.heap.size w W
  lt : b < w.heap.size

theorem Look.step {b : Nat} {g : Nat → Nat} {w W W' : World} (h : Look b g w W) (hb : Below W.heap.size W W') : Look b g w W' :=
  ⟨h.grid.below hb h.grid.lt, h.tab.below hb, h.below.trans (hb.mono h.below.size), h.lt⟩

theorem Look.set {b : Nat} {g : Nat → Nat} {w W : World} (h : Look b g w W) {p : Nat} (hp : w.heap.size ≤ p) (o : Nat) (v : Value) : Look b g w (W.setCell ⟨p, o, none⟩ v) := by
  have hlt := h.lt
  refine ⟨h.grid.setOther (by show b ≠ p; omega) v, fun j hj => ?_, h.below.setCell (p := ⟨p, o, none⟩) hp v, hlt⟩
  have h0 := h.tab j hj
  have hb : (W.setCell ⟨p, o, none⟩ v).cell? ⟨0, j, none⟩ = W.cell? ⟨0, j, none⟩ :=
    World.cell?_of_block (w := W) (heap_setCell_other W ⟨p, o, none⟩ 0 v (by show 0 ≠ p; omega))
  rw [hb]; exact h0

theorem keep4 {b i : Nat} {r : Nat} {W W' : World} (h : W.cell? ⟨b, i * 4, none⟩ = some (.int .u64 ((word r 0 : Nat) : Int)) ∧ W.cell? ⟨b, i * 4 + 1, none⟩ = some (.int .u64 ((word r 1 : Nat) : Int)) ∧ W.cell? ⟨b, i * 4 + 2, none⟩ = some (.int .u64 ((word r 2 : Nat) : Int)) ∧ W.cell? ⟨b, i * 4 + 3, none⟩ = some (.int .u64 ((word r 3 : Nat) : Int)))
    (hb : Below W.heap.size W W') : W'.cell? ⟨b, i * 4, none⟩ = some (.int .u64 ((word r 0 : Nat) : Int)) ∧ W'.cell? ⟨b, i * 4 + 1, none⟩ = some (.int .u64 ((word r 1 : Nat) : Int)) ∧ W'.cell? ⟨b, i * 4 + 2, none⟩ = some (.int .u64 ((word r 2 : Nat) : Int)) ∧ W'.cell? ⟨b, i * 4 + 3, none⟩ = some (.int .u64 ((word r 3 : Nat) : Int)) := by
  obtain ⟨h0, h1, h2, h3⟩ := h
  exact ⟨(hb.cell (cell_lt h0)).trans h0, (hb.cell (cell_lt h1)).trans h1, (hb.cell (cell_lt h2)).trans h2, (hb.cell (cell_lt h3)).trans h3⟩

/-- Element j of row i is met through an element k of the row whose own row lies within. -/
def Cov (g : Nat → Nat) (i j : Nat) : Prop := ∃ k, (g i).testBit k = true ∧ k ≠ i ∧ (g k).testBit i = false ∧ (∀ m, (g k).testBit m = true → (g i).testBit m = true) ∧ (g k).testBit j = true
def CovAll (g : Nat → Nat) (i : Nat) : Prop := ∀ j, (g i).testBit j = true → j ≠ i → Cov g i j
/-- Some element of row i has a row that holds i, or does not lie within. -/
def BadBit (g : Nat → Nat) (i : Nat) : Prop := ∃ k, (g i).testBit k = true ∧ k ≠ i ∧ ((g k).testBit i = true ∨ ∃ m, (g k).testBit m = true ∧ (g i).testBit m = false)
def FitsPost (g : Nat → Nat) (i : Nat) (w : World) (e : Ending) (w' : World) : Prop :=
  (∃ t : Bool, (t = true → CovAll g i) ∧ (t = false → BadBit g i) ∧ e = .returned (.bool t)) ∧ Below w.heap.size w w'
/-- What is left in r is of row i without i; what has gone is covered. -/
def Left (g : Nat → Nat) (i r : Nat) : Prop := (∀ j, r.testBit j = true → (g i).testBit j = true ∧ j ≠ i) ∧ ∀ j, (g i).testBit j = true → j ≠ i → r.testBit j = true ∨ Cov g i j

theorem Left.start (g : Nat → Nat) (i : Nat) : Left g i (diff (g i) (2 ^ i)) := by
  refine ⟨fun j hj => ?_, fun j hj hne => .inl ?_⟩
  · rw [testBit_diff, Nat.testBit_two_pow, Bool.and_eq_true, Bool.not_eq_true', decide_eq_false_iff_not] at hj
    exact ⟨hj.1, fun e => hj.2 e.symm⟩
  · rw [testBit_diff, Nat.testBit_two_pow, hj, Bool.true_and, Bool.not_eq_true', decide_eq_false_iff_not]
    exact fun e => hne e.symm
theorem Left.done {g : Nat → Nat} {i : Nat} (h : Left g i 0) : CovAll g i := fun j hj hne => by
  rcases h.2 j hj hne with h1 | h1
  · simp at h1
  · exact h1
theorem within_of_diff {a b : Nat} (h : diff a b = 0) : ∀ m, a.testBit m = true → b.testBit m = true := fun m hm => by
  have h2 := testBit_diff a b m
  rw [h, hm] at h2
  simpa using h2.symm
theorem not_within_of_diff {a b : Nat} (h : diff a b ≠ 0) : ∃ m, a.testBit m = true ∧ b.testBit m = false := by
  obtain ⟨m, hm⟩ := Nat.exists_testBit_of_ne_zero h
  rw [testBit_diff, Bool.and_eq_true, Bool.not_eq_true'] at hm
  exact ⟨m, hm⟩
theorem Left.step {g : Nat → Nat} {i r k : Nat} (h : Left g i r) (hk : r.testBit k = true) (h1 : (g k).testBit i = false) (h2 : diff (g k) (g i) = 0) : Left g i (diff r (g k)) := by
  refine ⟨fun j hj => ?_, fun j hj hne => ?_⟩
  · rw [testBit_diff, Bool.and_eq_true] at hj
    exact h.1 j hj.1
  · rcases h.2 j hj hne with h3 | h3
    · cases hkj : (g k).testBit j with
      | true => exact .inr ⟨k, (h.1 k hk).1, (h.1 k hk).2, h1, within_of_diff h2, hkj⟩
      | false => left; rw [testBit_diff, h3, hkj]; rfl
    · exact .inr h3
theorem lt_of_sub {a b k : Nat} (hs : ∀ m, a.testBit m = true → b.testBit m = true) (h1 : b.testBit k = true) (h2 : a.testBit k = false) : a < b := by
  have h : a ||| b = b := by
    apply Nat.eq_of_testBit_eq
    intro i
    rw [Nat.testBit_or]
    cases ha : a.testBit i with
    | false => simp
    | true => rw [hs i ha]; rfl
  have hle : a ≤ b := by rw [← h]; exact Nat.left_le_or
  have hne : a ≠ b := fun e => by rw [e, h1] at h2; cases h2
  omega
theorem diff_less {r s k : Nat} (hr : r.testBit k = true) (hs : s.testBit k = true) : diff r s < r :=
  lt_of_sub (k := k) (fun m hm => by rw [testBit_diff, Bool.and_eq_true] at hm; exact hm.1) hr (by rw [testBit_diff, hr, hs]; rfl)

theorem cell_alloc_any {w : World} {a : Addr} {v : Value} (h : w.cell? a = some v) : ∀ X, (w.alloc X).cell? a = some v := fun X =>
  (Below.cell ((Below.refl _ w).alloc (Nat.le_refl _) X) (p := a) (cell_lt h)).trans h

end Go.Proofs.YtcggjhmjjpclhaaDoor
