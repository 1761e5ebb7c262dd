/- The model's joins (l1Join). -/
import Derived.Test.YtcggjhmjjpclhaaDoorElemP
import Derived.Test.YtcggjhmjjpclhaaDoorValid
namespace Go.Proofs.YtcggjhmjjpclhaaDoor
open Go.RowKit Go.Deep

theorem joinI_at {rows : Rows2} {i j k : Nat} (hi : i < rows.length) (hk : k < rows[i].length) (h : joinTest rows i j rows[i][k] = true) (hq : ∀ q (hq : q < rows[i].length), q < k → joinTest rows i j rows[i][q] = false) : joinI rows i j = rows[i][k] := by
  unfold joinI
  rw [getD_at [] hi]
  have e : rows[i].find? (joinTest rows i j) = some rows[i][k] := by
    rw [List.find?_eq_some_iff_getElem]
    exact ⟨h, k, hk, rfl, fun q hlt => by rw [hq q (by omega) hlt]; rfl⟩
  rw [e]
theorem joinI_none {rows : Rows2} {i j : Nat} (hi : i < rows.length) (hq : ∀ q (hq : q < rows[i].length), joinTest rows i j rows[i][q] = false) : joinI rows i j = -1 := by
  unfold joinI
  rw [getD_at [] hi]
  have e : rows[i].find? (joinTest rows i j) = none := by
    rw [List.find?_eq_none]
    intro c hc
    obtain ⟨q, hq', rfl⟩ := List.getElem_of_mem hc
    rw [hq q hq']
    simp
  rw [e]
/-- One element of row i: below c, if it is above j. -/
def leastAt (rows : Rows2) (j c : Nat) (e : Int) : Bool := !upB rows j e || upB rows c e
theorem joinTest_no {rows : Rows2} {i j c : Nat} (h : upB rows j c = false) : joinTest rows i j c = false := by unfold joinTest; rw [h]; rfl
theorem joinTest_yes {rows : Rows2} {i j c : Nat} (hi : i < rows.length) (h : upB rows j c = true) (ha : ∀ q (hq : q < rows[i].length), leastAt rows j c rows[i][q] = true) : joinTest rows i j c = true := by
  unfold joinTest
  rw [h, Bool.true_and, getD_at [] hi, List.all_eq_true]
  intro e he
  obtain ⟨q, hq, rfl⟩ := List.getElem_of_mem he
  exact ha q hq
theorem joinTest_bad {rows : Rows2} {i j c q : Nat} (hi : i < rows.length) (hq : q < rows[i].length) (h : leastAt rows j c rows[i][q] = false) : joinTest rows i j c = false := by
  unfold joinTest
  rw [Bool.and_eq_false_iff]
  right
  rw [List.all_eq_false, getD_at [] hi]
  exact ⟨_, List.getElem_mem hq, by rw [show (!upB rows j rows[i][q] || upB rows (c : Int).toNat rows[i][q]) = leastAt rows j c rows[i][q] from rfl, h]; simp⟩

/-- A row of rows that read. -/
theorem RowsAt.row {W : World} {b0 o0 C : Nat} {rows : Rows2} (h : RowsAt W (.slice (some ⟨b0, o0, none⟩) rows.length C) rows) {i : Nat} (hi : i < rows.length) :
    ∃ A1 C1, rows[i].length ≤ C1 ∧ C1 ≤ maxLen ∧ W.cell? ⟨b0, o0 + i, none⟩ = some (.slice A1 rows[i].length C1) ∧ ∀ k (hk : k < rows[i].length), ∃ b1 o1, A1 = some ⟨b1, o1, none⟩ ∧ W.cell? ⟨b1, o1 + k, none⟩ = some (.int .i64 rows[i][k]) := by
  obtain ⟨a, C', e, _, _, hx⟩ := h
  cases e
  obtain ⟨_, _, u, e1, hc, hu⟩ := hx i hi
  cases e1
  obtain ⟨A1, C1, rfl, h1, h2, _, hy⟩ := hu
  exact ⟨A1, C1, h1, h2, hc, hy⟩

end Go.Proofs.YtcggjhmjjpclhaaDoor
