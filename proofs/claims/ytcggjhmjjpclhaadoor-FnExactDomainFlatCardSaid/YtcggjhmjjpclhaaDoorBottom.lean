/- The program's set of all elements (grid.all), and the element of a set that is below all others of it (grid.bottom, grid.least, grid.join). -/
import Derived.Test.YtcggjhmjjpclhaaDoorElems
namespace Go.Proofs.YtcggjhmjjpclhaaDoor
open Go.RowKit Go.Deep Go.Shelf
attribute [local go_sem] Oper.semAt_some

/-- An element is put into a row that lies in a variable. -/
theorem RowIn.put {W : World} {p r k : Nat} (h : RowIn W p r) (hk : k < 256) (m : Nat) :
    RowIn ((W.drewN m).setCell ⟨p, k / 64, none⟩ (.int .u64 ((word r (k / 64) ||| 2 ^ (k % 64) : Nat) : Int))) p (put r k) := by
  refine ⟨?_, put_lt h.2 hk⟩
  have h0 : (W.drewN m).heap[p]? = _ := h.1
  rw [heap_setCell_same _ p _ _ _ _ h0, word_put, word_put, word_put, word_put]
  have h4 : k / 64 = 0 ∨ k / 64 = 1 ∨ k / 64 = 2 ∨ k / 64 = 3 := by omega
  rcases h4 with h | h | h | h <;> rw [h] <;> simp

theorem RowIn.apart {W : World} {p r q : Nat} (h : RowIn W p r) (m : Nat) (hq : p ≠ q) (o : Nat) (v : Value) : RowIn ((W.drewN m).setCell ⟨q, o, none⟩ v) p r :=
  ⟨by rw [heap_setCell_other _ ⟨q, o, none⟩ p v hq]; exact h.1, h.2⟩
theorem RowIn.cellAt {W : World} {p r j : Nat} (h : RowIn W p r) (hj : j < 4) : W.cell? ⟨p, j, none⟩ = some (.int .u64 ((word r j : Nat) : Int)) := by
  obtain ⟨h0, h1, h2, h3⟩ := h.cells
  obtain rfl | rfl | rfl | rfl : j = 0 ∨ j = 1 ∨ j = 2 ∨ j = 3 := by omega
  all_goals assumption

theorem sizeRow : (Tryd.prog.info? 51).map (·.size) = some 4 := by kernel_rfl
/-- A row is read out of its variable. -/
theorem loadRow {W : World} {p r : Nat} (h : RowIn W p r) : (loadVar 51 ⟨p, 0, none⟩).run Tryd.prog W = .ok (rowV r) W :=
  run_loadVar_row W p 51 51 _ (0, 0) _ h.1 Tryd.underlying51 rfl sizeRow

theorem row_eq {r s : Nat} (hr : r < 2 ^ 256) (hs : s < 2 ^ 256) :
    ((((word r 0 : Nat) : Int) == ((word s 0 : Nat) : Int)) && ((((word r 1 : Nat) : Int) == ((word s 1 : Nat) : Int)) && ((((word r 2 : Nat) : Int) == ((word s 2 : Nat) : Int)) && (((word r 3 : Nat) : Int) == ((word s 3 : Nat) : Int))))) = decide (r = s) := by
  rw [Bool.eq_iff_iff]
  simp only [Bool.and_eq_true, beq_iff_eq, decide_eq_true_eq]
  constructor
  · rintro ⟨h0, h1, h2, h3⟩
    exact of_words hr hs (fun j hj => by
      obtain rfl | rfl | rfl | rfl : j = 0 ∨ j = 1 ∨ j = 2 ∨ j = 3 := by omega
      all_goals omega)
  · rintro rfl
    simp

/-- What must be known of a grid: it is that of n elements. -/
structure GridN (g : Nat → Nat) (n : Nat) : Prop where
  le : n ≤ 200
  some : ∀ i, i < n → g i ≠ 0
  none : n < 200 → g n = 0

/-- A block of cells stays where blocks that are no cells turn. -/
theorem blk_kept {W W' : World} {row : Option Nat} {p : Nat} {c : Array Value} {t : TypeId} {fz : Nat × Nat} (h : W.heap[p]? = some (.cells c t fz)) (hg : W.grownBy W' row) (hr : ∀ r, row = some r → ∃ o : Obj, W.heap[r]? = some o ∧ o.isCells = false) :
    W'.heap[p]? = some (.cells c t fz) := by
  rw [hg.block p (Array.getElem?_eq_some_iff.1 h).1 (fun e => by
    obtain ⟨o, ho, hc⟩ := hr p e.symm
    rw [h] at ho
    cases ho
    cases hc)]
  exact h
theorem RowIn.kept {W W' : World} {row : Option Nat} {p r : Nat} (h : RowIn W p r) (hg : W.grownBy W' row) (hr : ∀ r, row = some r → ∃ o : Obj, W.heap[r]? = some o ∧ o.isCells = false) : RowIn W' p r := ⟨blk_kept h.1 hg hr, h.2⟩

/-- What bottom finds: none so far has the row s. -/
def NoneYet (g : Nat → Nat) (s : Nat) (pre : List (Bt s)) : Prop := ∀ y ∈ pre, g y.1 ≠ s
theorem find_aux {g : Nat → Nat} {s v : Nat} {A B : List Nat} (h : elems s = A ++ v :: B) (hA : ∀ k ∈ A, g k ≠ s) (hv : g v = s) : bottomF g s = (v : Nat) := by
  unfold bottomF
  have hn : A.find? (fun k => g k == s) = none := by
    rw [List.find?_eq_none]
    intro k hk
    simpa using hA k hk
  rw [h, List.find?_append, hn, Option.none_or, List.find?_cons, show (g v == s) = true by simpa using hv]
theorem find_found {g : Nat → Nat} {s : Nat} {pre rest : List (Bt s)} {y : Bt s} (hall : eList s = (pre ++ [y]) ++ rest) (hp : NoneYet g s pre) (hy : g y.1 = s) : bottomF g s = (y.1 : Nat) := by
  have e : natsOf (eList s) = natsOf pre ++ y.1 :: natsOf rest := by rw [hall]; simp [natsOf]
  refine find_aux ((natsOf_all s).symm.trans e) (fun k hk => ?_) hy
  obtain ⟨z, hz, rfl⟩ := List.mem_map.1 hk
  exact hp z hz
theorem find_none {g : Nat → Nat} {s : Nat} (hp : NoneYet g s (eList s)) : bottomF g s = -1 := by
  unfold bottomF
  have hn : (elems s).find? (fun k => g k == s) = none := by
    rw [List.find?_eq_none, ← natsOf_all]
    intro k hk
    obtain ⟨z, hz, rfl⟩ := List.mem_map.1 hk
    simpa using hp z hz
  rw [hn]

end Go.Proofs.YtcggjhmjjpclhaaDoor
