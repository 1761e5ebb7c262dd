/- The program's order of a grid (grid.order), in memory of its own. -/
import Derived.Test.YtppjogkednclcaaDoorList
import Derived.Test.YtppjogkednclcaaDoorBottom
import Derived.Test.YtppjogkednclcaaDoorGrid
namespace Go.Proofs.YtppjogkednclcaaDoor
open Go.RowKit Go.Deep Go.Shelf

theorem ints_ne : (3 : TypeId) ≠ 33 := by decide

/-- Rows in memory of their own, as an order. -/
def RowsPost (n : Nat) (R : Nat → List Int) (w : World) (e : Ending) (w' : World) : Prop :=
  ∃ v, e = .returned (.agg #[v]) ∧ OwnR 3 33 w' v n R w.heap.size w'.heap.size ∧ Below w.heap.size w w'

/-- A list is stored into row i of rows that are being filled. -/
theorem OwnR.fill {W W2 : World} {g n i lo : Nat} {R : Nat → List Int} {v' : Value} {xs : List Int} (h : OwnR 3 33 W (.slice (some ⟨g, 0, none⟩) n n) n R lo W.heap.size)
    (hb : Below W.heap.size W W2) (hn : OwnI 3 W2 v' xs W.heap.size W2.heap.size) :
    OwnR 3 33 (W2.setCell ⟨g, i, none⟩ v') (.slice (some ⟨g, 0, none⟩) n n) n (fun q => if q = i then xs else R q) lo (W2.setCell ⟨g, i, none⟩ v').heap.size := by
  obtain hnil | ⟨g1, C1, f, e, h1, h2, h3, h4, h5, h6, h7⟩ := h
  · cases hnil.1
  cases e
  rw [size_setCell]
  exact OwnR.stored ints_ne h1 h2 h3 h5 h6 h7 hb hn
theorem OwnR.cellOf {W : World} {g n i lo hi : Nat} {R : Nat → List Int} (h : OwnR 3 33 W (.slice (some ⟨g, 0, none⟩) n n) n R lo hi) (hlt : i < n) : (∃ u, W.cell? ⟨g, i, none⟩ = some u) ∧ W.frozen? ⟨g, i, none⟩ = false ∧ g < W.heap.size := by
  obtain hnil | ⟨g1, C1, f, e, h1, h2, h3, h4, h5, h6, h7⟩ := h
  · cases hnil.1
  cases e
  exact ⟨⟨_, h5.cell hlt⟩, h5.frozen i, h5.lt⟩
/-- What row j holds when i rows have been filled. -/
def upto (R : Nat → List Int) (i j : Nat) : List Int := if j < i then R j else []
theorem upto_step (R : Nat → List Int) (i : Nat) : (fun q => if q = i then R i else upto R i q) = upto R (i + 1) := by
  funext q
  unfold upto
  by_cases e : q = i
  · subst e; rw [if_pos rfl, if_pos (by omega)]
  · rw [if_neg e]
    by_cases h : q < i
    · rw [if_pos h, if_pos (by omega)]
    · rw [if_neg h, if_neg (by omega)]
theorem OwnR.made (W : World) (n lo : Nat) (hn : n ≤ maxLen) (hlo : lo ≤ W.heap.size) (R : Nat → List Int) :
    OwnR 3 33 (W.alloc (.cells (madeCells #[.slice none 0 0] n) 33)) (.slice (some ⟨W.heap.size, 0, none⟩) n n) n (upto R 0) lo (W.alloc (.cells (madeCells #[.slice none 0 0] n) 33)).heap.size :=
  .inr ⟨W.heap.size, n, _, rfl, Nat.le_refl _, hn, hlo, by simp, World.rowIs_made W (.slice none 0 0) n 33, fun j _ => by unfold upto; rw [if_neg (Nat.not_lt_zero _)]; exact OwnI.nil _ _ _ _, fun _ _ _ _ => .inl rfl⟩

end Go.Proofs.YtppjogkednclcaaDoor
