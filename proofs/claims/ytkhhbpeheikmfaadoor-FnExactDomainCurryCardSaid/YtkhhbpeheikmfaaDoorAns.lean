/- Answers in memory of their own: slices of integers and slices of such slices, each in blocks that nobody else holds; what is kept when they are written. Plain facts on worlds: no function is walked here. -/
import Derived.Test.YtkhhbpeheikmfaaDoorMem
import Derived.Laws.AppendOwn
namespace Go.Proofs.YtkhhbpeheikmfaaDoor
open Go.RowKit Go.Deep

/-- The slice v has the numbers xs, in a block of its own from lo on and below hi; or it is nil, and there are none. -/
def OwnI (t : TypeId) (W : World) (v : Value) (xs : List Int) (lo hi : Nat) : Prop :=
  (∀ x ∈ xs, (Lit.int .i64 x).wf = true) ∧
  ((v = .slice none 0 0 ∧ xs = []) ∨ ∃ g C f, v = .slice (some ⟨g, 0, none⟩) xs.length C ∧ xs.length ≤ C ∧ C ≤ maxLen ∧ lo ≤ g ∧ g < hi ∧ W.rowIs g t C f ∧ ∀ i (h : i < xs.length), f i = .int .i64 xs[i])

theorem OwnI.nil (t : TypeId) (W : World) (lo hi : Nat) : OwnI t W (.slice none 0 0) [] lo hi := ⟨fun _ h => (by cases h), .inl ⟨rfl, rfl⟩⟩
theorem OwnI.at {t : TypeId} {W : World} {v : Value} {xs : List Int} {lo hi : Nat} (h : OwnI t W v xs lo hi) : IntsAt W v xs := by
  obtain ⟨hw, ⟨rfl, rfl⟩ | ⟨g, C, f, rfl, h1, h2, h3, h4, h5, h6⟩⟩ := h
  · exact ⟨none, 0, rfl, Nat.le_refl _, Nat.zero_le _, hw, fun i hi => absurd hi (Nat.not_lt_zero _)⟩
  · exact ⟨_, C, rfl, h1, h2, hw, fun i hi => ⟨g, 0, rfl, by rw [Nat.zero_add, h5.cell (by omega), h6 i hi]⟩⟩
theorem OwnI.block {t : TypeId} {W : World} {v : Value} {xs : List Int} {lo hi : Nat} (h : OwnI t W v xs lo hi) : ∀ b, v.ownBlock = some b → lo ≤ b ∧ b < hi ∧ ∃ c, W.heap[b]? = some (.cells c t (0, 0)) := by
  intro b hb
  obtain ⟨_, ⟨rfl, _⟩ | ⟨g, C, f, rfl, _, _, h3, h4, ⟨c, h5, _⟩, _⟩⟩ := h
  · simp [Value.ownBlock] at hb
  · simp [Value.ownBlock] at hb; subst hb; exact ⟨h3, h4, c, h5⟩
theorem OwnI.kept {t : TypeId} {W W' : World} {v : Value} {xs : List Int} {lo hi : Nat} (h : OwnI t W v xs lo hi) (hb : ∀ b, v.ownBlock = some b → W'.heap[b]? = W.heap[b]?) : OwnI t W' v xs lo hi := by
  obtain ⟨hw, h | ⟨g, C, f, rfl, h1, h2, h3, h4, h5, h6⟩⟩ := h
  · exact ⟨hw, .inl h⟩
  · exact ⟨hw, .inr ⟨g, C, f, rfl, h1, h2, h3, h4, h5.of_block (hb g rfl), h6⟩⟩
theorem OwnI.wider {t : TypeId} {W : World} {v : Value} {xs : List Int} {lo hi lo' hi' : Nat} (h : OwnI t W v xs lo hi) (hl : lo' ≤ lo) (hh : hi ≤ hi') : OwnI t W v xs lo' hi' := by
  obtain ⟨hw, h | ⟨g, C, f, rfl, h1, h2, h3, h4, h5, h6⟩⟩ := h
  · exact ⟨hw, .inl h⟩
  · exact ⟨hw, .inr ⟨g, C, f, rfl, h1, h2, by omega, by omega, h5, h6⟩⟩
theorem OwnI.form {t : TypeId} {W : World} {v : Value} {xs : List Int} {lo hi : Nat} (h : OwnI t W v xs lo hi) : ∃ a C, v = .slice a xs.length C := by
  obtain ⟨_, ⟨rfl, rfl⟩ | ⟨g, C, f, rfl, _⟩⟩ := h
  · exact ⟨none, 0, rfl⟩
  · exact ⟨_, C, rfl⟩

/-- A slice v of n rows, row j having the numbers R j, each in blocks of its own from lo on and below hi. -/
def OwnR (t u : TypeId) (W : World) (v : Value) (n : Nat) (R : Nat → List Int) (lo hi : Nat) : Prop :=
  (v = .slice none 0 0 ∧ n = 0) ∨ ∃ g C f, v = .slice (some ⟨g, 0, none⟩) n C ∧ n ≤ C ∧ C ≤ maxLen ∧ lo ≤ g ∧ g < hi ∧ W.rowIs g u C f ∧
    (∀ j, j < n → OwnI t W (f j) (R j) lo hi) ∧ ∀ i j, i < j → j < n → (f i).ownBlock = none ∨ (f i).ownBlock ≠ (f j).ownBlock

/-- The rows of a list. -/
def rowsF (rows : Rows2) (j : Nat) : List Int := rows.getD j []
theorem rowsF_lt {rows : Rows2} {j : Nat} (h : j < rows.length) : rowsF rows j = rows[j] := getD_lt [] h

theorem OwnR.nil (t u : TypeId) (W : World) (R : Nat → List Int) (lo hi : Nat) : OwnR t u W (.slice none 0 0) 0 R lo hi := .inl ⟨rfl, rfl⟩
theorem OwnR.form {t u : TypeId} {W : World} {v : Value} {n : Nat} {R : Nat → List Int} {lo hi : Nat} (h : OwnR t u W v n R lo hi) : ∃ a C, v = .slice a n C := by
  obtain ⟨rfl, rfl⟩ | ⟨g, C, f, rfl, _⟩ := h
  · exact ⟨none, 0, rfl⟩
  · exact ⟨_, C, rfl⟩
theorem OwnR.at {t u : TypeId} {W : World} {v : Value} {rows : Rows2} {lo hi : Nat} (h : OwnR t u W v rows.length (rowsF rows) lo hi) : RowsAt W v rows := by
  obtain ⟨rfl, h0⟩ | ⟨g, C, f, rfl, h1, h2, h3, h4, h5, h6, _⟩ := h
  · obtain rfl : rows = [] := List.length_eq_zero_iff.1 h0
    exact ⟨none, 0, rfl, Nat.le_refl _, Nat.zero_le _, fun i hi => absurd hi (Nat.not_lt_zero _)⟩
  · exact ⟨_, C, rfl, h1, h2, fun i hi => ⟨g, 0, f i, rfl, by rw [Nat.zero_add, h5.cell (by omega)], by rw [← rowsF_lt hi]; exact (h6 i hi).at⟩⟩
theorem OwnR.congr {t u : TypeId} {W : World} {v : Value} {n : Nat} {R R' : Nat → List Int} {lo hi : Nat} (h : OwnR t u W v n R lo hi) (e : ∀ j, j < n → R j = R' j) : OwnR t u W v n R' lo hi := by
  obtain h | ⟨g, C, f, rfl, h1, h2, h3, h4, h5, h6, h7⟩ := h
  · exact .inl h
  · exact .inr ⟨g, C, f, rfl, h1, h2, h3, h4, h5, fun j hj => by rw [← e j hj]; exact h6 j hj, h7⟩
/-- It stays where all blocks between lo and hi lie as they lay. -/
theorem OwnR.kept {t u : TypeId} {W W' : World} {v : Value} {n : Nat} {R : Nat → List Int} {lo hi : Nat} (h : OwnR t u W v n R lo hi) (hb : ∀ b, lo ≤ b → b < hi → W'.heap[b]? = W.heap[b]?) : OwnR t u W' v n R lo hi := by
  obtain h | ⟨g, C, f, rfl, h1, h2, h3, h4, h5, h6, h7⟩ := h
  · exact .inl h
  · exact .inr ⟨g, C, f, rfl, h1, h2, h3, h4, h5.of_block (hb g h3 h4), fun j hj => (h6 j hj).kept fun b hb' => by
      obtain ⟨a, c, _⟩ := (h6 j hj).block b hb'
      exact hb b a c, h7⟩
theorem OwnR.below {t u : TypeId} {W W' : World} {v : Value} {n : Nat} {R : Nat → List Int} {lo hi B : Nat} (h : OwnR t u W v n R lo hi) (hb : Below B W W') (hB : hi ≤ B) : OwnR t u W' v n R lo hi :=
  h.kept fun b _ hb' => hb.block b (by omega)
theorem OwnR.wider {t u : TypeId} {W : World} {v : Value} {n : Nat} {R : Nat → List Int} {lo hi lo' hi' : Nat} (h : OwnR t u W v n R lo hi) (hl : lo' ≤ lo) (hh : hi ≤ hi') : OwnR t u W v n R lo' hi' := by
  obtain h | ⟨g, C, f, rfl, h1, h2, h3, h4, h5, h6, h7⟩ := h
  · exact .inl h
  · exact .inr ⟨g, C, f, rfl, h1, h2, by omega, by omega, h5, fun j hj => (h6 j hj).wider hl hh, h7⟩
/-- What the laws' own copies are. -/
theorem OwnRows.ownR {t u : TypeId} {W : World} {g T : Nat} {G : Nat → Nat} {rows : Rows2} (h : OwnRows t u W g T G rows) (hn : bulk rows ≤ maxLen) : OwnR t u W (whole g rows.length) rows.length (rowsF rows) g T := by
  obtain ⟨h1, h0, h2, h3⟩ := h
  have hl : rows.length ≤ maxLen := by unfold bulk at hn; omega
  refine .inr ⟨g, _, _, rfl, Nat.le_refl _, hl, Nat.le_refl _, h0, h1, fun j hj => ?_, fun i j hij hj => .inr ?_⟩
  · obtain ⟨a, b, c, d⟩ := h2 j hj
    have hr := bulk_row hj
    unfold rowCell rowsF
    have e := getD_lt [] hj
    rw [e] at c d ⊢
    exact ⟨d, .inr ⟨G j, _, _, rfl, Nat.le_refl _, by omega, by omega, b, c, fun i hi => intCell_lt hi⟩⟩
  · have := h3 i j hij hj
    simp [rowCell, Value.ownBlock]
    omega

/-- Between lo and hi blocks may have turned, and new ones have come; all others lie as they lay. -/
structure Turned (lo hi : Nat) (w w' : World) : Prop where
  below : Below lo w w'
  above : ∀ b, hi ≤ b → b < w.heap.size → w'.heap[b]? = w.heap[b]?
theorem Turned.refl (lo hi : Nat) (w : World) : Turned lo hi w w := ⟨Below.refl _ _, fun _ _ _ => rfl⟩
theorem Turned.trans {lo hi : Nat} {a b c : World} (h : Turned lo hi a b) (k : Turned lo hi b c) : Turned lo hi a c :=
  ⟨h.below.trans k.below, fun x hx hs => (k.above x hx (Nat.lt_of_lt_of_le hs h.below.size)).trans (h.above x hx hs)⟩
theorem Turned.of_below {lo hi : Nat} {w w' : World} (h : Below w.heap.size w w') (hl : lo ≤ w.heap.size) : Turned lo hi w w' := ⟨h.mono hl, fun b _ hb => h.block b hb⟩
theorem Turned.of_grownBy {lo hi : Nat} {w w' : World} {row : Option Nat} (h : w.grownBy w' row) (hl : lo ≤ w.heap.size) (hr : ∀ b, row = some b → lo ≤ b ∧ b < hi) : Turned lo hi w w' :=
  ⟨(Below.refl lo w).grown h hl fun k e => (hr k e).1, fun b hb hs => h.block b hs fun e => by have := hr b e.symm; omega⟩

/-- The numbers from k on. -/
def marks (k : Int) (n : Nat) : List Int := (List.range n).map fun i : Nat => k + (i : Int)
theorem marks_length (k : Int) (n : Nat) : (marks k n).length = n := by simp [marks]
theorem marks_at (k : Int) (n i : Nat) (h : i < (marks k n).length) : (marks k n)[i] = k + (i : Int) := by simp [marks]
theorem marks_wf {k : Int} {n : Nat} (h0 : 0 ≤ k) (h1 : k + n ≤ 1099511627776) : ∀ x ∈ marks k n, (Lit.int .i64 x).wf = true := by
  intro x hx
  obtain ⟨i, hi, rfl⟩ := List.mem_map.1 hx
  rw [List.mem_range] at hi
  have e1 : IntKind.i64.min = -9223372036854775808 := rfl
  have e2 : IntKind.i64.max = 9223372036854775807 := rfl
  simp [Lit.wf, e1, e2]
  omega
/-- Row j, once all rows ahead of row k have been marked from m on. -/
def marked (m : Int) (rows : Rows2) (k j : Nat) : List Int := if j < k then marks (m + (lens rows j : Nat)) (rowsF rows j).length else rowsF rows j
end Go.Proofs.YtkhhbpeheikmfaaDoor
