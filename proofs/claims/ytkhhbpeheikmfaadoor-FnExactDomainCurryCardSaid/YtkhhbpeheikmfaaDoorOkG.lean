/- Orders as grids: what holds of their rows and their size; gridOf with its Boolean known. -/
import Derived.Test.YtkhhbpeheikmfaaDoorGridOf
import Derived.Test.YtkhhbpeheikmfaaDoorBottom
import Derived.Test.YtkhhbpeheikmfaaDoorBack
import Derived.Test.YtkhhbpeheikmfaaDoorBackS
import Derived.Test.YtkhhbpeheikmfaaDoorHgtP
namespace Go.Proofs.YtkhhbpeheikmfaaDoor
open Go.RowKit Go.Deep Go.Shelf

theorem Ok.gridN {rows : List (List Int)} (h : Ok rows) : GridN (gridF rows) rows.length :=
  ⟨h.len.2, fun i hi e => by have := h.own i hi; rw [e] at this; simp at this, fun _ => gridF_out rows (Nat.le_refl _)⟩

/-- What gridOf answers, its Boolean being known. -/
def GridT (t : Bool) (rows : Rows2) (w : World) (e : Ending) (w' : World) : Prop :=
  (∃ g : Nat → Nat, ((∀ i, g i < 2 ^ 256) ∧ (t = true → g = gridF rows)) ∧ e = .returned (.tuple #[.agg (gridCells g), .bool t])) ∧ Below w.heap.size w w'
theorem gridOf_t (v : Value) (rows : Rows2) (w : World) (hv : RowsAt w v rows) (hT : Tab w) (hn : bulk rows ≤ 1048576) {t : Bool} (ht : validB rows = t) :
    Calls Tryd.prog 67 #[.agg #[v]] w (GridT t rows w) :=
  (gridOf_any v rows w hv hT hn).mono fun _ _ ⟨⟨g, h1, h2, h3⟩, h4⟩ => ⟨⟨g, ⟨h1, fun h => h2 (by rw [ht]; exact h)⟩, by rw [h3, ht]⟩, h4⟩

theorem Ok.lt200 {rows : List (List Int)} (h : Ok rows) {i k : Nat} (hk : (gridF rows i).testBit k = true) : k < 200 := by
  have := (h.bit_lt hk).2
  have := h.len
  omega

theorem backN_rows {rows : List (List Int)} (h : Ok rows) : backN (gridF rows) rows.length = gridF (backRows rows) := by
  funext k
  apply Nat.eq_of_testBit_eq
  intro i
  rw [backN_bit, back_bit h]
  cases hb : (gridF rows i).testBit k with
  | false => simp
  | true => rw [decide_eq_true (h.bit_lt hb).1]; rfl

theorem sum_le {m : Nat} : ∀ l : List Nat, (∀ x ∈ l, x ≤ m) → l.sum ≤ l.length * m
  | [], _ => by simp
  | x :: l, h => by
    have h1 := sum_le l fun y hy => h y (by simp [hy])
    have h2 := h x (by simp)
    rw [List.sum_cons, List.length_cons, Nat.succ_mul]
    omega
/-- An order is not large. -/
theorem Ok.bulk {rows : Rows2} (h : Ok rows) : bulk rows ≤ 1048576 := by
  unfold Go.Proofs.YtkhhbpeheikmfaaDoor.bulk
  have h1 := sum_le (m := 256) (rows.map List.length) fun x hx => by
    obtain ⟨r, hr, rfl⟩ := List.mem_map.1 hx
    obtain ⟨i, hi, rfl⟩ := List.getElem_of_mem hr
    rw [h.elems hi, List.length_map]
    exact elems_length_le _
  rw [List.length_map] at h1
  have h2 := h.len.2
  have h3 := Nat.mul_le_mul_right 256 h2
  omega

end Go.Proofs.YtkhhbpeheikmfaaDoor
