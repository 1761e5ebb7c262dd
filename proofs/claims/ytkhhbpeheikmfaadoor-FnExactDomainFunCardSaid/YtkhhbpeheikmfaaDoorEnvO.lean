/- An answer that is an order in a variable whose place is drawn: the box and the rows as one thing in memory. Plain facts on worlds. -/
import Derived.Test.YtkhhbpeheikmfaaDoorEnv
namespace Go.Proofs.YtkhhbpeheikmfaaDoor
open Go.RowKit Go.Deep

/-- A variable that holds an order, and the order's rows, between the blocks lo and hi. -/
def ItO (b : Nat) (u : Value) (n : Nat) (R : Nat → List Int) (lo hi : Nat) : It :=
  ⟨lo, hi, fun W => (lo ≤ b ∧ b < hi) ∧ Boxed W b 26 u ∧ OwnR 3 37 W u n R lo hi, fun _ _ h k => ⟨k.1, (h b k.1.1 k.1.2).trans k.2.1, k.2.2.kept h⟩⟩

theorem Holds.split {W : World} : ∀ {a b : List It} {n : Nat}, Holds W n (a ++ b) → ∃ m, (∀ it : It, m ≤ it.lo → it.lo ≤ it.hi → it.hi ≤ W.heap.size → it.P W → Holds W n (a ++ [it])) ∧ Holds W m b
  | [], _, n, h => ⟨n, fun _ h1 h2 h3 h4 => ⟨h1, h2, h4, h3⟩, h⟩
  | i :: a, b, n, h => by
    obtain ⟨m, hm, hb⟩ := Holds.split (a := a) h.2.2.2
    exact ⟨m, fun it h1 h2 h3 h4 => ⟨h.1, h.2.1, h.2.2.1, hm it h1 h2 h3 h4⟩, hb⟩

section
variable {w : World} {is : List It} {W W' : World}
theorem St.boxed {b : Nat} {t : TypeId} {v : Value} (h : St w is W) (k : Nat) (e : is[k]? = some (ItB b t v)) : Boxed W b t v := (h.holds.get k e).2.2.2
theorem St.cellO {b n lo hi : Nat} {u : Value} {R : Nat → List Int} (h : St w is W) (k : Nat) (e : is[k]? = some (ItO b u n R lo hi)) : W.cell? ⟨b, 0, none⟩ = some u := Boxed.cell (h.holds.get k e).2.2.2.2.1
theorem St.rowsO {b lo hi : Nat} {u : Value} {rows : Rows2} (h : St w is W) (k : Nat) (e : is[k]? = some (ItO b u rows.length (rowsF rows) lo hi)) : RowsAt W u rows := (h.holds.get k e).2.2.2.2.2.at
/-- A store into a variable. -/
theorem St.setB {b : Nat} {t : TypeId} {v : Value} (h : St w is W) (k : Nat) (e : is[k]? = some (ItB b t v)) (v' : Value) : St w (is.set k (ItB b t v')) (W.setCell ⟨b, 0, none⟩ v') := by
  have hb := h.boxed k e
  refine h.turn (it' := ItB b t v') k e rfl rfl ⟨(Below.refl b W).setCell (p := ⟨b, 0, none⟩) (Nat.le_refl _) _, fun x hx _ => ?_⟩ (hb.set v')
  exact Below.heap_setCell _ _ _ x (fun e2 => by
    subst e2
    exact absurd hx (Nat.not_le.2 (Nat.lt_succ_self _)))
theorem St.packO {b n lo hi : Nat} {u : Value} {R : Nat → List Int} (h : St w is W) (k i j : Nat) (hi' : k ≤ i) (hj' : k ≤ j) (e1 : is[i]? = some (ItB b 26 u)) (e2 : is[j]? = some (ItR u n R lo hi)) :
    ∃ lo' hi', St w (is.take k ++ [ItO b u n R lo' hi']) W := by
  have hs := h.holds
  rw [← List.take_append_drop k is] at hs
  obtain ⟨m, hm, hb⟩ := Holds.split hs
  have f1 : (is.drop k)[i - k]? = some (ItB b 26 u) := by rw [List.getElem?_drop, show k + (i - k) = i by omega]; exact e1
  have f2 : (is.drop k)[j - k]? = some (ItR u n R lo hi) := by rw [List.getElem?_drop, show k + (j - k) = j by omega]; exact e2
  have g1 : m ≤ b ∧ b ≤ b + 1 ∧ b + 1 ≤ W.heap.size ∧ Boxed W b 26 u := Holds.get _ f1 hb
  have g2 : m ≤ lo ∧ lo ≤ hi ∧ hi ≤ W.heap.size ∧ OwnR 3 37 W u n R lo hi := Holds.get _ f2 hb
  have hmn : min b lo ≤ b ∧ min b lo ≤ lo ∧ b + 1 ≤ max (b + 1) hi ∧ hi ≤ max (b + 1) hi := ⟨Nat.min_le_left _ _, Nat.min_le_right _ _, Nat.le_max_left _ _, Nat.le_max_right _ _⟩
  refine ⟨min b lo, max (b + 1) hi, h.below, hm _ (Nat.le_min.2 ⟨g1.1, g2.1⟩) (show min b lo ≤ max (b + 1) hi by omega) (Nat.max_le.2 ⟨g1.2.2.1, g2.2.2.1⟩) ?_⟩
  exact ⟨⟨hmn.1, by omega⟩, g1.2.2.2, g2.2.2.2.wider hmn.2.1 hmn.2.2.2⟩
theorem St.name (h : St w is W) : ∃ IS, IS = is ∧ St w IS W := ⟨is, rfl, h⟩
end
end Go.Proofs.YtkhhbpeheikmfaaDoor
