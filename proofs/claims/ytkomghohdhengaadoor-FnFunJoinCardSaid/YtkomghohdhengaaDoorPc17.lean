/- The model's elements that cover one (l1Covers), and its OrderCovers. -/
import Derived.Test.YtkomghohdhengaaDoorPc10
import Derived.Test.YtkomghohdhengaaDoorPc8
import Derived.Test.YtkomghohdhengaaDoorPc1
import Derived.Maps.AppendAt
namespace Go.Proofs.YtkomghohdhengaaDoor
open Go.RowKit Go.Deep

/-- Does e stand between i and j? -/
def hitB (rows : Rows2) (i j : Nat) (e : Int) : Bool := !decide (e = (i : Int)) && (!decide (e = (j : Int)) && upB rows e.toNat j)
theorem cover_no {rows : Rows2} {i j q : Nat} (hi : i < rows.length) (hq : q < rows[i].length) (h : hitB rows i j rows[i][q] = true) : coverTest rows i j = false := by
  unfold coverTest
  rw [Bool.and_eq_false_iff]
  right
  rw [Bool.not_eq_false', List.any_eq_true, getD_at [] hi]
  exact ⟨_, List.getElem_mem hq, h⟩
theorem cover_own (rows : Rows2) (i : Nat) : coverTest rows i i = false := by unfold coverTest; simp
theorem cover_yes {rows : Rows2} {i j : Nat} (hi : i < rows.length) (hne : j ≠ i) (h : ∀ q (hq : q < rows[i].length), hitB rows i j rows[i][q] = false) : coverTest rows i j = true := by
  unfold coverTest
  rw [Bool.and_eq_true, Bool.not_eq_true', Bool.not_eq_true', decide_eq_false_iff_not, List.any_eq_false, getD_at [] hi]
  refine ⟨by omega, fun e he => ?_⟩
  obtain ⟨q, hq, rfl⟩ := List.getElem_of_mem he
  rw [show (!decide (rows[i][q] = (i : Int)) && (!decide (rows[i][q] = (j : Int)) && upB rows rows[i][q].toNat j)) = hitB rows i j rows[i][q] from rfl, h q hq]
  simp

/-- What has been collected of row i when k elements have been looked at. -/
def covN (rows : Rows2) (i k : Nat) : List Int := ((rows.getD i []).take k).filter (coverTest rows i)
theorem covN_step {rows : Rows2} {i k : Nat} (hi : i < rows.length) (hk : k < rows[i].length) : covN rows i (k + 1) = if coverTest rows i rows[i][k] = true then covN rows i k ++ [rows[i][k]] else covN rows i k := by
  unfold covN
  rw [getD_at [] hi, List.take_succ_eq_append_getElem hk, List.filter_append, List.filter_cons, List.filter_nil]
  split
  · rfl
  · simp
theorem covN_done {rows : Rows2} {i : Nat} (hi : i < rows.length) : covN rows i rows[i].length = coversI rows i := by
  unfold covN coversI
  rw [getD_at [] hi, List.take_length]
theorem covN_le (rows : Rows2) (i k : Nat) : (covN rows i k).length ≤ k := by
  unfold covN
  have h1 := List.length_filter_le (coverTest rows i) ((rows.getD i []).take k)
  have h2 := List.length_take_le k (rows.getD i [])
  omega

theorem World.ownsRow.weaken' {W : World} {lo lo' n : Nat} {t : TypeId} {v : Value} {xs : List Value} (h : W.ownsRow lo t 1 v n xs) (hl : lo' ≤ lo) : W.ownsRow lo' t 1 v n xs := by
  obtain ⟨h1, h2 | ⟨g, c, cur, rfl, h3, h4⟩⟩ := h
  · exact ⟨h1, .inl h2⟩
  · exact ⟨h1, .inr ⟨g, c, cur, rfl, by omega, h4⟩⟩
/-- The numbers xs, in memory of their own. -/
def OwnPost (xs : List Int) (w : World) (e : Ending) (w' : World) : Prop :=
  ∃ v, e = .returned v ∧ OwnI 3 w' v xs w.heap.size w'.heap.size ∧ Below w.heap.size w w'

end Go.Proofs.YtkomghohdhengaaDoor


