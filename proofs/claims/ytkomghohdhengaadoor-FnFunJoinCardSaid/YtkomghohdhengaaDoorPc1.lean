/- What memory holds: a slice of integers, a slice of such slices, told of a world; carried to worlds that keep what lay there. Plain facts on worlds: no function is walked here. -/
import Derived.WalkKit
import Derived.ProofKit
import Derived.Deep.OwnRows
import Derived.Deep.Matrix
import Derived.Carry
import Derived.Lib.Hide
import Derived.Laws.AppendOwn
import Derived.Test.YtkomghohdhengaaDoorProg
import Derived.LoopTactic
import Derived.RegionTactic
import Derived.Outline
import Derived.Deep.QuietTactic
import Derived.BigQuiet
import Derived.StillTailTactics
import Derived.Laws.BitsAllLaws
import Derived.Laws.StructEq
import Derived.RangeFuncNested
import Derived.RangeFuncBound
import Derived.RangeFuncCalls
import Derived.RangeFuncLeaves
import Derived.RangeFuncBox
import Derived.Shelf.Abstract
import Derived.Laws.Rows
import Derived.Laws.Tables
import Derived.TacticsIn
import Derived.Deep.AppendLies
namespace Go.Proofs.YtkomghohdhengaaDoor
open Go.RowKit Go.Deep

abbrev Rows2 := List (List Int)

/-- A slice value that reads as a list of integers. -/
def IntsAt (W : World) (v : Value) (xs : List Int) : Prop :=
  ∃ (a : Option Addr) (C : Nat), v = .slice a xs.length C ∧ xs.length ≤ C ∧ C ≤ maxLen ∧ (∀ x ∈ xs, (Lit.int .i64 x).wf = true) ∧
    ∀ i (hi : i < xs.length), ∃ b o, a = some ⟨b, o, none⟩ ∧ W.cell? ⟨b, o + i, none⟩ = some (.int .i64 xs[i])

/-- A slice value that reads as a list of lists of integers. -/
def RowsAt (W : World) (v : Value) (rows : Rows2) : Prop :=
  ∃ (a : Option Addr) (C : Nat), v = .slice a rows.length C ∧ rows.length ≤ C ∧ C ≤ maxLen ∧
    ∀ i (hi : i < rows.length), ∃ b o u, a = some ⟨b, o, none⟩ ∧ W.cell? ⟨b, o + i, none⟩ = some u ∧ IntsAt W u rows[i]

theorem bcell {W w1 : World} (hb : Below W.heap.size W w1) : (∀ b o, b < W.heap.size → w1.cell? ⟨b, o, none⟩ = W.cell? ⟨b, o, none⟩) ∧ (∀ b o, b < W.heap.size → w1.frozen? ⟨b, o, none⟩ = W.frozen? ⟨b, o, none⟩) :=
  ⟨fun b o h => hb.cell (p := ⟨b, o, none⟩) h, fun b o h => hb.frozen (p := ⟨b, o, none⟩) h⟩

theorem bsize {W w1 : World} (hb : Below W.heap.size W w1) : ∀ x, x < W.heap.size → x < w1.heap.size := fun _ h => Nat.lt_of_lt_of_le h hb.size

theorem cell_lt {w : World} {a : Addr} {v : Value} (h : w.cell? a = some v) : a.block < w.heap.size := by
  by_cases hlt : a.block < w.heap.size
  · exact hlt
  · have hn : w.heap[a.block]? = none := by simp; omega
    simp [World.cell?, hn] at h

theorem IntsAt.below {W W' : World} {v : Value} {xs : List Int} (h : IntsAt W v xs) (hb : Below W.heap.size W W') : IntsAt W' v xs := by
  obtain ⟨a, C, h1, h2, h3, h4, h5⟩ := h
  refine ⟨a, C, h1, h2, h3, h4, fun i hi => ?_⟩
  obtain ⟨b, o, ha, hc⟩ := h5 i hi
  exact ⟨b, o, ha, by rw [hb.cell (p := ⟨b, o + i, none⟩) (cell_lt hc)]; exact hc⟩

theorem RowsAt.below {W W' : World} {v : Value} {rows : Rows2} (h : RowsAt W v rows) (hb : Below W.heap.size W W') : RowsAt W' v rows := by
  obtain ⟨a, C, h1, h2, h3, h5⟩ := h
  refine ⟨a, C, h1, h2, h3, fun i hi => ?_⟩
  obtain ⟨b, o, u, ha, hc, hu⟩ := h5 i hi
  exact ⟨b, o, u, ha, by rw [hb.cell (p := ⟨b, o + i, none⟩) (cell_lt hc)]; exact hc, hu.below hb⟩

/-- How many values the rows hold, the rows among them. -/
def bulk (rows : Rows2) : Nat := rows.length + (rows.map List.length).sum

theorem bulk_le_sum : ∀ (l : List Nat) (x : Nat), x ∈ l → x ≤ l.sum
  | [], _, h => by cases h
  | y :: l, x, h => by
    rw [List.sum_cons]
    rcases List.mem_cons.1 h with rfl | h
    · omega
    · have := bulk_le_sum l x h
      omega

theorem bulk_row {rows : Rows2} {i : Nat} (hi : i < rows.length) : rows.length + rows[i].length ≤ bulk rows := by
  unfold bulk
  have h : rows[i].length ∈ rows.map List.length := List.mem_map.2 ⟨_, List.getElem_mem hi, rfl⟩
  have := bulk_le_sum _ _ h
  omega

/-- The lengths of the first k rows. -/
def lens (rows : Rows2) (k : Nat) : Nat := ((rows.take k).map List.length).sum
theorem lens_zero (rows : Rows2) : lens rows 0 = 0 := rfl
theorem lens_succ {rows : Rows2} {k : Nat} (hk : k < rows.length) : lens rows (k + 1) = lens rows k + rows[k].length := by
  unfold lens
  rw [List.take_succ_eq_append_getElem hk, List.map_append, List.sum_append]
  rfl
theorem lens_all (rows : Rows2) : rows.length + lens rows rows.length = bulk rows := by
  unfold lens bulk
  rw [List.take_length]

/-- The value of a slice over the whole of block g. -/
abbrev whole (g n : Nat) : Value := .slice (some ⟨g, 0, none⟩) n n
/-- Element i of a list of integers, as a cell. -/
def intCell (xs : List Int) (i : Nat) : Value := .int .i64 (xs.getD i 0)
theorem intCell_lt {xs : List Int} {i : Nat} (hi : i < xs.length) : intCell xs i = .int .i64 xs[i] := by
  unfold intCell; rw [List.getD_eq_getElem?_getD, List.getElem?_eq_getElem hi]; rfl

/-- A list of integers that lies in a block of its own, from its head on. -/
def OwnInts (t : TypeId) (W : World) (g : Nat) (xs : List Int) : Prop :=
  W.rowIs g t xs.length (intCell xs) ∧ (∀ x ∈ xs, (Lit.int .i64 x).wf = true)

theorem OwnInts.at {t : TypeId} {W : World} {g : Nat} {xs : List Int} (h : OwnInts t W g xs) (hn : xs.length ≤ maxLen) : IntsAt W (whole g xs.length) xs :=
  ⟨_, _, rfl, Nat.le_refl _, hn, h.2, fun i hi => ⟨g, 0, rfl, by rw [Nat.zero_add, h.1.cell hi, intCell_lt hi]⟩⟩

theorem rowIs_below {W W' : World} {g : Nat} {t : TypeId} {n : Nat} {f : Nat → Value} {B : Nat} (h : W.rowIs g t n f) (hb : Below B W W') (hg : g < B) : W'.rowIs g t n f :=
  h.of_block (hb.block g hg)

theorem OwnInts.below {t : TypeId} {W W' : World} {g : Nat} {xs : List Int} {B : Nat} (h : OwnInts t W g xs) (hb : Below B W W') (hg : g < B) : OwnInts t W' g xs :=
  ⟨rowIs_below h.1 hb hg, h.2⟩

/-- What row j of a list of rows is, as a cell: a slice over block G j. -/
def rowCell (G : Nat → Nat) (rows : Rows2) (j : Nat) : Value := whole (G j) (rows.getD j []).length

/-- Rows that lie in blocks of their own, one behind the other, from block g on, all below block T. -/
def OwnRows (t u : TypeId) (W : World) (g T : Nat) (G : Nat → Nat) (rows : Rows2) : Prop :=
  W.rowIs g u rows.length (rowCell G rows) ∧ g < T ∧
    (∀ j, j < rows.length → g < G j ∧ G j < T ∧ OwnInts t W (G j) (rows.getD j [])) ∧ (∀ i j, i < j → j < rows.length → G i < G j)

theorem getD_lt {α : Type} {l : List α} {i : Nat} (d : α) (h : i < l.length) : l.getD i d = l[i] := by
  rw [List.getD_eq_getElem?_getD, List.getElem?_eq_getElem h]; rfl

theorem OwnRows.at {t u : TypeId} {W : World} {g T : Nat} {G : Nat → Nat} {rows : Rows2} (h : OwnRows t u W g T G rows) (hn : bulk rows ≤ maxLen) : RowsAt W (whole g rows.length) rows := by
  obtain ⟨h1, _, h2, _⟩ := h
  have hl : rows.length ≤ maxLen := by unfold bulk at hn; omega
  refine ⟨_, _, rfl, Nat.le_refl _, hl, fun i hi => ⟨g, 0, rowCell G rows i, rfl, by rw [Nat.zero_add, h1.cell hi], ?_⟩⟩
  obtain ⟨_, _, h5⟩ := h2 i hi
  have e := getD_lt [] hi
  have hr := bulk_row hi
  unfold rowCell
  rw [e] at h5 ⊢
  exact h5.at (by omega)

theorem OwnInts.setOther {t : TypeId} {W : World} {g : Nat} {xs : List Int} (h : OwnInts t W g xs) {a : Addr} (ha : g ≠ a.block) (v : Value) : OwnInts t (W.setCell a v) g xs :=
  ⟨h.1.setOther ha v, h.2⟩

theorem size_setCell (w : World) (a : Addr) (v : Value) : (w.setCell a v).heap.size = w.heap.size := by simp [World.setCell]

/-- A store ahead of the first block turns nothing. -/
theorem OwnRows.setLow {t u : TypeId} {W : World} {g T : Nat} {G : Nat → Nat} {rows : Rows2} (h : OwnRows t u W g T G rows) {a : Addr} (ha : a.block < g) (v : Value) : OwnRows t u (W.setCell a v) g T G rows := by
  obtain ⟨h1, h0, h2, h3⟩ := h
  refine ⟨h1.setOther (by omega) v, h0, fun j hj => ?_, h3⟩
  obtain ⟨b, c, d⟩ := h2 j hj
  exact ⟨b, c, d.setOther (by omega) v⟩

theorem OwnRows.below {t u : TypeId} {W W' : World} {g T : Nat} {G : Nat → Nat} {rows : Rows2} {B : Nat} (h : OwnRows t u W g T G rows) (hb : Below B W W') (hT : T ≤ B) : OwnRows t u W' g T G rows := by
  obtain ⟨h1, h0, h2, h3⟩ := h
  refine ⟨rowIs_below h1 hb (by omega), h0, fun j hj => ?_, h3⟩
  obtain ⟨a, b, c⟩ := h2 j hj
  exact ⟨a, b, c.below hb (by omega)⟩
end Go.Proofs.YtkomghohdhengaaDoor

/- Answers in memory of their own: slices of integers and slices of such slices, each in blocks that nobody else holds; what is kept when they are written. Plain facts on worlds: no function is walked here. -/
namespace Go.Proofs.YtkomghohdhengaaDoor
open Go.RowKit Go.Deep

/-- The slice v has the numbers xs, in a block of its own from lo on and below hi; or it is nil, and there are none. -/
def OwnI (t : TypeId) (W : World) (v : Value) (xs : List Int) (lo hi : Nat) : Prop :=
  (∀ x ∈ xs, (Lit.int .i64 x).wf = true) ∧
  ((v = .slice none 0 0 ∧ xs = []) ∨ ∃ g C f, v = .slice (some ⟨g, 0, none⟩) xs.length C ∧ xs.length ≤ C ∧ C ≤ maxLen ∧ lo ≤ g ∧ g < hi ∧ W.rowIs g t C f ∧ ∀ i (h : i < xs.length), f i = .int .i64 xs[i])

theorem OwnI.nil (t : TypeId) (W : World) (lo hi : Nat) : OwnI t W (.slice none 0 0) [] lo hi := ⟨fun _ h => (by cases h), .inl ⟨rfl, rfl⟩⟩
theorem OwnI.at {t : TypeId} {W : World} {v : Value} {xs : List Int} {lo hi : Nat} (h : OwnI t W v xs lo hi) : IntsAt W v xs := by
  obtain ⟨hw, ⟨rfl, rfl⟩ | ⟨g, C, f, rfl, h1, h2, h3, h4, h5, h6⟩⟩ := h
  · exact ⟨none, 0, rfl, Nat.le_refl _, Nat.zero_le _, hw, fun i hi => absurd hi (Nat.not_lt_zero _)⟩
  · exact ⟨_, C, rfl, h1, h2, hw, fun i hi => ⟨g, 0, rfl, by rw [Nat.zero_add, h5.cell (by omega), h6 i hi]⟩⟩
theorem OwnI.block {t : TypeId} {W : World} {v : Value} {xs : List Int} {lo hi : Nat} (h : OwnI t W v xs lo hi) : ∀ b, v.ownBlock = some b → lo ≤ b ∧ b < hi ∧ ∃ c, W.heap[b]? = some (.cells c t (0, 0)) := by
  intro b hb
  obtain ⟨_, ⟨rfl, _⟩ | ⟨g, C, f, rfl, _, _, h3, h4, ⟨c, h5, _⟩, _⟩⟩ := h
  · simp [Value.ownBlock] at hb
  · simp [Value.ownBlock] at hb; subst hb; exact ⟨h3, h4, c, h5⟩
theorem OwnI.kept {t : TypeId} {W W' : World} {v : Value} {xs : List Int} {lo hi : Nat} (h : OwnI t W v xs lo hi) (hb : ∀ b, v.ownBlock = some b → W'.heap[b]? = W.heap[b]?) : OwnI t W' v xs lo hi := by
  obtain ⟨hw, h | ⟨g, C, f, rfl, h1, h2, h3, h4, h5, h6⟩⟩ := h
  · exact ⟨hw, .inl h⟩
  · exact ⟨hw, .inr ⟨g, C, f, rfl, h1, h2, h3, h4, h5.of_block (hb g rfl), h6⟩⟩
theorem OwnI.wider {t : TypeId} {W : World} {v : Value} {xs : List Int} {lo hi lo' hi' : Nat} (h : OwnI t W v xs lo hi) (hl : lo' ≤ lo) (hh : hi ≤ hi') : OwnI t W v xs lo' hi' := by
  obtain ⟨hw, h | ⟨g, C, f, rfl, h1, h2, h3, h4, h5, h6⟩⟩ := h
  · exact ⟨hw, .inl h⟩
  · exact ⟨hw, .inr ⟨g, C, f, rfl, h1, h2, by omega, by omega, h5, h6⟩⟩
theorem OwnI.form {t : TypeId} {W : World} {v : Value} {xs : List Int} {lo hi : Nat} (h : OwnI t W v xs lo hi) : ∃ a C, v = .slice a xs.length C := by
  obtain ⟨_, ⟨rfl, rfl⟩ | ⟨g, C, f, rfl, _⟩⟩ := h
  · exact ⟨none, 0, rfl⟩
  · exact ⟨_, C, rfl⟩

/-- A slice v of n rows, row j having the numbers R j, each in blocks of its own from lo on and below hi. -/
def OwnR (t u : TypeId) (W : World) (v : Value) (n : Nat) (R : Nat → List Int) (lo hi : Nat) : Prop :=
  (v = .slice none 0 0 ∧ n = 0) ∨ ∃ g C f, v = .slice (some ⟨g, 0, none⟩) n C ∧ n ≤ C ∧ C ≤ maxLen ∧ lo ≤ g ∧ g < hi ∧ W.rowIs g u C f ∧
    (∀ j, j < n → OwnI t W (f j) (R j) lo hi) ∧ ∀ i j, i < j → j < n → (f i).ownBlock = none ∨ (f i).ownBlock ≠ (f j).ownBlock

/-- The rows of a list. -/
def rowsF (rows : Rows2) (j : Nat) : List Int := rows.getD j []
theorem rowsF_lt {rows : Rows2} {j : Nat} (h : j < rows.length) : rowsF rows j = rows[j] := getD_lt [] h

theorem OwnR.nil (t u : TypeId) (W : World) (R : Nat → List Int) (lo hi : Nat) : OwnR t u W (.slice none 0 0) 0 R lo hi := .inl ⟨rfl, rfl⟩
theorem OwnR.form {t u : TypeId} {W : World} {v : Value} {n : Nat} {R : Nat → List Int} {lo hi : Nat} (h : OwnR t u W v n R lo hi) : ∃ a C, v = .slice a n C := by
  obtain ⟨rfl, rfl⟩ | ⟨g, C, f, rfl, _⟩ := h
  · exact ⟨none, 0, rfl⟩
  · exact ⟨_, C, rfl⟩
theorem OwnR.at {t u : TypeId} {W : World} {v : Value} {rows : Rows2} {lo hi : Nat} (h : OwnR t u W v rows.length (rowsF rows) lo hi) : RowsAt W v rows := by
  obtain ⟨rfl, h0⟩ | ⟨g, C, f, rfl, h1, h2, h3, h4, h5, h6, _⟩ := h
  · obtain rfl : rows = [] := List.length_eq_zero_iff.1 h0
    exact ⟨none, 0, rfl, Nat.le_refl _, Nat.zero_le _, fun i hi => absurd hi (Nat.not_lt_zero _)⟩
  · exact ⟨_, C, rfl, h1, h2, fun i hi => ⟨g, 0, f i, rfl, by rw [Nat.zero_add, h5.cell (by omega)], by rw [← rowsF_lt hi]; exact (h6 i hi).at⟩⟩
theorem OwnR.congr {t u : TypeId} {W : World} {v : Value} {n : Nat} {R R' : Nat → List Int} {lo hi : Nat} (h : OwnR t u W v n R lo hi) (e : ∀ j, j < n → R j = R' j) : OwnR t u W v n R' lo hi := by
  obtain h | ⟨g, C, f, rfl, h1, h2, h3, h4, h5, h6, h7⟩ := h
  · exact .inl h
  · exact .inr ⟨g, C, f, rfl, h1, h2, h3, h4, h5, fun j hj => by rw [← e j hj]; exact h6 j hj, h7⟩
/-- It stays where all blocks between lo and hi lie as they lay. -/
theorem OwnR.kept {t u : TypeId} {W W' : World} {v : Value} {n : Nat} {R : Nat → List Int} {lo hi : Nat} (h : OwnR t u W v n R lo hi) (hb : ∀ b, lo ≤ b → b < hi → W'.heap[b]? = W.heap[b]?) : OwnR t u W' v n R lo hi := by
  obtain h | ⟨g, C, f, rfl, h1, h2, h3, h4, h5, h6, h7⟩ := h
  · exact .inl h
  · exact .inr ⟨g, C, f, rfl, h1, h2, h3, h4, h5.of_block (hb g h3 h4), fun j hj => (h6 j hj).kept fun b hb' => by
      obtain ⟨a, c, _⟩ := (h6 j hj).block b hb'
      exact hb b a c, h7⟩
theorem OwnR.below {t u : TypeId} {W W' : World} {v : Value} {n : Nat} {R : Nat → List Int} {lo hi B : Nat} (h : OwnR t u W v n R lo hi) (hb : Below B W W') (hB : hi ≤ B) : OwnR t u W' v n R lo hi :=
  h.kept fun b _ hb' => hb.block b (by omega)
theorem OwnR.wider {t u : TypeId} {W : World} {v : Value} {n : Nat} {R : Nat → List Int} {lo hi lo' hi' : Nat} (h : OwnR t u W v n R lo hi) (hl : lo' ≤ lo) (hh : hi ≤ hi') : OwnR t u W v n R lo' hi' := by
  obtain h | ⟨g, C, f, rfl, h1, h2, h3, h4, h5, h6, h7⟩ := h
  · exact .inl h
  · exact .inr ⟨g, C, f, rfl, h1, h2, by omega, by omega, h5, fun j hj => (h6 j hj).wider hl hh, h7⟩
/-- What the laws' own copies are. -/
theorem OwnRows.ownR {t u : TypeId} {W : World} {g T : Nat} {G : Nat → Nat} {rows : Rows2} (h : OwnRows t u W g T G rows) (hn : bulk rows ≤ maxLen) : OwnR t u W (whole g rows.length) rows.length (rowsF rows) g T := by
  obtain ⟨h1, h0, h2, h3⟩ := h
  have hl : rows.length ≤ maxLen := by unfold bulk at hn; omega
  refine .inr ⟨g, _, _, rfl, Nat.le_refl _, hl, Nat.le_refl _, h0, h1, fun j hj => ?_, fun i j hij hj => .inr ?_⟩
  · obtain ⟨a, b, c, d⟩ := h2 j hj
    have hr := bulk_row hj
    unfold rowCell rowsF
    have e := getD_lt [] hj
    rw [e] at c d ⊢
    exact ⟨d, .inr ⟨G j, _, _, rfl, Nat.le_refl _, by omega, by omega, b, c, fun i hi => intCell_lt hi⟩⟩
  · have := h3 i j hij hj
    simp [rowCell, Value.ownBlock]
    omega

/-- Between lo and hi blocks may have turned, and new ones have come; all others lie as they lay. -/
structure Turned (lo hi : Nat) (w w' : World) : Prop where
  below : Below lo w w'
  above : ∀ b, hi ≤ b → b < w.heap.size → w'.heap[b]? = w.heap[b]?
theorem Turned.refl (lo hi : Nat) (w : World) : Turned lo hi w w := ⟨Below.refl _ _, fun _ _ _ => rfl⟩
theorem Turned.trans {lo hi : Nat} {a b c : World} (h : Turned lo hi a b) (k : Turned lo hi b c) : Turned lo hi a c :=
  ⟨h.below.trans k.below, fun x hx hs => (k.above x hx (Nat.lt_of_lt_of_le hs h.below.size)).trans (h.above x hx hs)⟩
theorem Turned.of_below {lo hi : Nat} {w w' : World} (h : Below w.heap.size w w') (hl : lo ≤ w.heap.size) : Turned lo hi w w' := ⟨h.mono hl, fun b _ hb => h.block b hb⟩
theorem Turned.of_grownBy {lo hi : Nat} {w w' : World} {row : Option Nat} (h : w.grownBy w' row) (hl : lo ≤ w.heap.size) (hr : ∀ b, row = some b → lo ≤ b ∧ b < hi) : Turned lo hi w w' :=
  ⟨(Below.refl lo w).grown h hl fun k e => (hr k e).1, fun b hb hs => h.block b hs fun e => by have := hr b e.symm; omega⟩

/-- The numbers from k on. -/
def marks (k : Int) (n : Nat) : List Int := (List.range n).map fun i : Nat => k + (i : Int)
theorem marks_length (k : Int) (n : Nat) : (marks k n).length = n := by simp [marks]
theorem marks_at (k : Int) (n i : Nat) (h : i < (marks k n).length) : (marks k n)[i] = k + (i : Int) := by simp [marks]
theorem marks_wf {k : Int} {n : Nat} (h0 : 0 ≤ k) (h1 : k + n ≤ 1099511627776) : ∀ x ∈ marks k n, (Lit.int .i64 x).wf = true := by
  intro x hx
  obtain ⟨i, hi, rfl⟩ := List.mem_map.1 hx
  rw [List.mem_range] at hi
  have e1 : IntKind.i64.min = -9223372036854775808 := rfl
  have e2 : IntKind.i64.max = 9223372036854775807 := rfl
  simp [Lit.wf, e1, e2]
  omega
/-- Row j, once all rows ahead of row k have been marked from m on. -/
def marked (m : Int) (rows : Rows2) (k j : Nat) : List Int := if j < k then marks (m + (lens rows j : Nat)) (rowsF rows j).length else rowsF rows j
end Go.Proofs.YtkomghohdhengaaDoor

/- The laws' own comparisons (eqIntS, eqIntSS, eqOrder): equal lists, and nothing else. -/
namespace Go.Proofs.YtkomghohdhengaaDoor
open Go.RowKit Go.Deep

/-- The answer b, and a world that parts from w in draws alone. -/
def SaysB (b : Bool) (w : World) (e : Ending) (w' : World) : Prop := e = .returned (.bool b) ∧ ∃ n, w' = w.drewN n

/-- The answer b, and a world in which nothing that was there has turned. -/
def SaysN (b : Bool) (w : World) (e : Ending) (w' : World) : Prop := e = .returned (.bool b) ∧ Below w.heap.size w w'

theorem below_drewN' (w : World) (n B : Nat) : Below B w (w.drewN n) := ⟨rfl, rfl, rfl, Nat.le_refl _, fun _ _ => rfl⟩

end Go.Proofs.YtkomghohdhengaaDoor

/- The laws' own copies of an argument (toIntS, toIntSS, toOrder): new memory that reads as the argument. -/
namespace Go.Proofs.YtkomghohdhengaaDoor
open Go.RowKit Go.Deep

theorem infoInt : (Tryd.prog.info? 3).map (fun i => (i.zero, i.size, i.bytes)) = some (some (.int .i64 0), 1, 8) := by kernel_rfl
theorem infoInts : (Tryd.prog.info? 26).map (fun i => (i.zero, i.size, i.bytes)) = some (some (.slice none 0 0), 1, 24) := by kernel_rfl

/-- A copy of xs lies in new memory. -/
def ToInts (xs : List Int) (w : World) (e : Ending) (w' : World) : Prop :=
  e = .returned (whole w.heap.size xs.length) ∧ OwnInts 3 w' w.heap.size xs ∧ w'.heap.size = w.heap.size + 1 ∧ Below w.heap.size w w'

/-- What the new block holds when k elements have been copied. -/
def someInts (xs : List Int) (k i : Nat) : Value := if i < k then intCell xs i else .int .i64 0

/-- What the outer block holds when k rows have been copied. -/
def someRows (B : Nat) (rows : Rows2) (k i : Nat) : Value := if i < k then rowCell (fun j => B + 1 + j) rows i else .slice none 0 0

/-- A copy of the rows lies in new memory. -/
def ToRows (rows : Rows2) (w : World) (w' : World) : Prop :=
  OwnRows 3 26 w' w.heap.size w'.heap.size (fun j => w.heap.size + 1 + j) rows ∧ Below w.heap.size w w'
def ToIntss (rows : Rows2) (w : World) (e : Ending) (w' : World) : Prop :=
  e = .returned (whole w.heap.size rows.length) ∧ ToRows rows w w'

/-- A copy of an order lies in new memory. -/
def ToOrder (rows : Rows2) (w : World) (e : Ending) (w' : World) : Prop :=
  ∃ g G, e = .returned (.agg #[whole g rows.length]) ∧ w.heap.size ≤ g ∧ OwnRows 3 26 w' g w'.heap.size G rows ∧ Below w.heap.size w w'

end Go.Proofs.YtkomghohdhengaaDoor

/- The laws' own marks: an answer is written full of numbers, and looked at again (markIntS, markIntSS, markOrder, heldIntS, heldIntSS, heldOrder). -/
namespace Go.Proofs.YtkomghohdhengaaDoor
open Go.RowKit Go.Deep

theorem grownBy_trans {a b c : World} {row : Option Nat} (h : a.grownBy b row) (k : b.grownBy c row) : a.grownBy c row :=
  ⟨k.os.trans h.os, k.tape.trans h.tape, k.output.trans h.output, Nat.le_trans h.size k.size, fun i hi hr => (k.block i (Nat.lt_of_lt_of_le hi h.size) hr).trans (h.block i hi hr)⟩
theorem grownBy_set (W : World) (g o : Nat) (v : Value) : W.grownBy (W.setCell ⟨g, o, none⟩ v) (some g) :=
  ⟨rfl, rfl, rfl, by simp [World.setCell], fun k _ hk => Below.heap_setCell _ _ _ k (fun e => hk (by rw [e]))⟩

/-- The slice v has been marked from k on. -/
def MarkI (v : Value) (xs : List Int) (k : Int) (lo hi : Nat) (w : World) (e : Ending) (w' : World) : Prop :=
  e = .returned (.int .i64 (k + xs.length)) ∧ OwnI 3 w' v (marks k xs.length) lo hi ∧ w.grownBy w' v.ownBlock

/-- The number k, and a world that parts from w in draws alone. -/
def SaysK (k : Int) (w : World) (e : Ending) (w' : World) : Prop := e = .returned (.int .i64 k) ∧ ∃ n, w' = w.drewN n

theorem type_ne : (3 : TypeId) ≠ 26 := by decide

/-- The rows of the slice v have been marked from m on. -/
def MarkR (v : Value) (rows : Rows2) (m : Int) (lo hi : Nat) (w : World) (e : Ending) (w' : World) : Prop :=
  e = .returned (.int .i64 (m + (lens rows rows.length : Nat))) ∧ OwnR 3 26 w' v rows.length (marked m rows rows.length) lo hi ∧ Turned lo hi w w'

theorem marked_zero (m : Int) (rows : Rows2) (j : Nat) : marked m rows 0 j = rowsF rows j := by unfold marked; rw [if_neg (by omega)]
theorem lens_mono {rows : Rows2} {i : Nat} : ∀ {j : Nat}, i ≤ j → j ≤ rows.length → lens rows i ≤ lens rows j
  | 0, h, _ => by obtain rfl : i = 0 := (by omega); exact Nat.le_refl _
  | j + 1, h, hj => by
    by_cases e : i = j + 1
    · subst e; exact Nat.le_refl _
    · have := lens_mono (rows := rows) (i := i) (j := j) (by omega) (by omega)
      rw [lens_succ (by omega)]; omega

/-- The number k, and a world in which nothing that was there has turned. -/
def SaysJ (k : Int) (w : World) (e : Ending) (w' : World) : Prop := e = .returned (.int .i64 k) ∧ Below w.heap.size w w'

theorem turned_alloc (lo hi : Nat) (w : World) (o : Obj) (h : lo ≤ w.heap.size) : Turned lo hi w (w.alloc o) := ⟨(Below.refl _ w).alloc h o, fun _ _ hb => Below.heap_alloc _ _ _ hb⟩

end Go.Proofs.YtkomghohdhengaaDoor

/- Orders as lists of lists of integers: what the document asks of them, as plain functions and facts. No program is named here. -/
namespace Go.Proofs.YtkomghohdhengaaDoor

/-- A list that ascends strictly. -/
def Asc (l : List Int) : Prop := ∀ i j (_ : i < j) (hj : j < l.length), l[i] < l[j]
/-- A list that ascends strictly from 'last' on, its numbers less than n. -/
def ascFrom (last n : Int) : List Int → Bool
  | [] => true
  | k :: t => decide (last < k) && decide (k < n) && ascFrom k n t
def ascB (n : Nat) (l : List Int) : Bool := ascFrom (-1) n l

theorem ascFrom_iff (n : Int) : ∀ (l : List Int) (last : Int), ascFrom last n l = true ↔ (Asc l ∧ (∀ x ∈ l, last < x ∧ x < n))
  | [], last => by simp [ascFrom, Asc]
  | k :: t, last => by
    have ih := ascFrom_iff n t k
    simp only [ascFrom, Bool.and_eq_true, decide_eq_true_eq]
    rw [ih]
    constructor
    · rintro ⟨⟨h1, h2⟩, h3, h4⟩
      refine ⟨fun i j hij hj => ?_, fun x hx => ?_⟩
      · cases j with
        | zero => omega
        | succ j =>
          simp only [List.length_cons] at hj
          cases i with
          | zero => simpa using (h4 _ (List.getElem_mem (by omega : j < t.length))).1
          | succ i => simpa using h3 i j (by omega) (by omega)
      · rcases List.mem_cons.1 hx with rfl | hx
        · exact ⟨h1, h2⟩
        · have := h4 x hx; omega
    · rintro ⟨h1, h2⟩
      have hk := h2 k (by simp)
      refine ⟨⟨hk.1, hk.2⟩, fun i j hij hj => ?_, fun x hx => ⟨?_, (h2 x (by simp [hx])).2⟩⟩
      · exact h1 (i + 1) (j + 1) (by omega) (by simpa using hj)
      · obtain ⟨i, hi, rfl⟩ := List.getElem_of_mem hx
        exact h1 0 (i + 1) (by omega) (by simpa using hi)

theorem ascB_iff (n : Nat) (l : List Int) : ascB n l = true ↔ (Asc l ∧ ∀ x ∈ l, 0 ≤ x ∧ x < n) := by
  unfold ascB
  rw [ascFrom_iff]
  constructor
  · rintro ⟨h1, h2⟩; exact ⟨h1, fun x hx => by have := h2 x hx; omega⟩
  · rintro ⟨h1, h2⟩; exact ⟨h1, fun x hx => by have := h2 x hx; omega⟩

/-- Where a search by halves has come to an end. -/
theorem search_done {l : List Int} {b : Int} {k : Nat} (ha : Asc l) (h1 : ∀ j (h : j < l.length), j < k → l[j] < b) (h2 : ∀ j (h : j < l.length), k ≤ j → b ≤ l[j]) (hk : k ≤ l.length) :
    (∃ h : k < l.length, l[k] = b) ↔ b ∈ l := by
  constructor
  · rintro ⟨h, rfl⟩; exact List.getElem_mem h
  · intro hb
    obtain ⟨i, hi, rfl⟩ := List.getElem_of_mem hb
    by_cases hik : i < k
    · have := h1 i hi hik; omega
    · by_cases e : i = k
      · subst e; exact ⟨hi, rfl⟩
      · have := ha k i (by omega) hi
        have := h2 k (by omega) (Nat.le_refl _)
        omega

/-- The first k numbers of a list are in their range, each above the one ahead. -/
def AscPre (n : Int) (l : List Int) (k : Nat) : Prop := ∀ j (hj : j < l.length), j < k → 0 ≤ l[j] ∧ l[j] ≤ n - 1 ∧ ∀ (_ : 0 < j), l[j - 1]'(by omega) < l[j]
theorem AscPre.zero (n : Int) (l : List Int) : AscPre n l 0 := fun _ _ h => absurd h (Nat.not_lt_zero _)
theorem AscPre.succ {n : Int} {l : List Int} {k : Nat} (h : AscPre n l k) (hk : k < l.length) (h0 : 0 ≤ l[k]) (h1 : l[k] ≤ n - 1) (h2 : ∀ (_ : 0 < k), l[k - 1]'(by omega) < l[k]) : AscPre n l (k + 1) := fun j hj hlt => by
  by_cases e : j = k
  · subst e; exact ⟨h0, h1, h2⟩
  · exact h j hj (by omega)
theorem AscPre.done {n : Nat} {l : List Int} (h : AscPre n l l.length) : ascB n l = true := by
  rw [ascB_iff]
  refine ⟨fun i j hij hj => ?_, fun x hx => ?_⟩
  · induction j with
    | zero => omega
    | succ j ih =>
      have h2 := (h (j + 1) hj hj).2.2 (by omega)
      simp only [Nat.add_sub_cancel] at h2
      by_cases e : i = j
      · subst e; exact h2
      · have := ih (by omega) (by omega); omega
  · obtain ⟨i, hi, rfl⟩ := List.getElem_of_mem hx
    have := h i hi hi
    omega
theorem ascB_no_range {n : Nat} {l : List Int} {k : Nat} (hk : k < l.length) (h : ¬ (0 ≤ l[k] ∧ l[k] ≤ (n : Int) - 1)) : ascB n l = false := by
  rw [Bool.eq_false_iff]
  intro e
  have := (ascB_iff n l).1 e |>.2 l[k] (List.getElem_mem hk)
  omega
theorem ascB_no_step {n : Nat} {l : List Int} {k : Nat} (hk : k < l.length) (h0 : 0 < k) (h : l[k] ≤ l[k - 1]'(by omega)) : ascB n l = false := by
  rw [Bool.eq_false_iff]
  intro e
  have := (ascB_iff n l).1 e |>.1 (k - 1) k (by omega) hk
  omega

/-- The orders of the document: each list ascends, and holds elements alone; there are 1 to 200 of them. -/
def listsB (rows : List (List Int)) : Bool := rows.all (ascB rows.length) && (decide (1 ≤ rows.length) && decide (rows.length ≤ 200))
theorem listsB_no {rows : List (List Int)} {i : Nat} (hi : i < rows.length) (h : ascB rows.length rows[i] = false) : listsB rows = false := by
  unfold listsB
  rw [Bool.and_eq_false_iff]
  left
  rw [List.all_eq_false]
  exact ⟨_, List.getElem_mem hi, by rw [h]; simp⟩
theorem listsB_all {rows : List (List Int)} (h : ∀ i (hi : i < rows.length), ascB rows.length rows[i] = true) : listsB rows = (decide ((1 : Int) ≤ rows.length) && decide ((rows.length : Int) ≤ 200)) := by
  unfold listsB
  have e : rows.all (ascB rows.length) = true := by
    rw [List.all_eq_true]
    intro x hx
    obtain ⟨i, hi, rfl⟩ := List.getElem_of_mem hx
    exact h i hi
  rw [e, Bool.true_and]
  congr 1 <;> (rw [decide_eq_decide]; omega)
/-- Is element j above element i? -/
def upB (rows : List (List Int)) (i : Nat) (j : Int) : Bool := decide (j ∈ rows.getD i [])

/-- What the document asks of element i. -/
def GoodAt (rows : List (List Int)) (i : Nat) : Prop :=
  (i : Int) ∈ rows.getD i [] ∧ ∀ j ∈ rows.getD i [], (j ≠ i → (i : Int) ∉ rows.getD j.toNat []) ∧ ∀ m ∈ rows.getD j.toNat [], m ∈ rows.getD i []
def ValidP (rows : List (List Int)) : Prop := listsB rows = true ∧ ∀ i, i < rows.length → GoodAt rows i
open Classical in
/-- Is it an order? -/
noncomputable def validB (rows : List (List Int)) : Bool := decide (ValidP rows)

theorem lists_at {rows : List (List Int)} (h : listsB rows = true) (i : Nat) (hi : i < rows.length) : Asc rows[i] ∧ ∀ x ∈ rows[i], 0 ≤ x ∧ x < rows.length := by
  unfold listsB at h
  rw [Bool.and_eq_true, List.all_eq_true] at h
  exact (ascB_iff _ _).1 (h.1 _ (List.getElem_mem hi))
theorem lists_len {rows : List (List Int)} (h : listsB rows = true) : 1 ≤ rows.length ∧ rows.length ≤ 200 := by
  unfold listsB at h
  simp only [Bool.and_eq_true, decide_eq_true_eq] at h
  exact h.2
theorem getD_at {α : Type} {l : List α} {i : Nat} (d : α) (h : i < l.length) : l.getD i d = l[i] := by
  rw [List.getD_eq_getElem?_getD, List.getElem?_eq_getElem h]; rfl
theorem upB_iff {rows : List (List Int)} {i : Nat} {j : Int} (hi : i < rows.length) : upB rows i j = true ↔ j ∈ rows[i] := by
  unfold upB
  rw [decide_eq_true_iff, getD_at [] hi]
theorem upB_no {rows : List (List Int)} {i : Nat} {j : Int} (hi : i < rows.length) : upB rows i j = false ↔ j ∉ rows[i] := by
  unfold upB
  rw [decide_eq_false_iff_not, getD_at [] hi]

/-- What the document asks of element i and one that is above it. -/
def GoodPair (rows : List (List Int)) (i : Nat) (j : Int) : Prop :=
  (j ≠ i → upB rows j.toNat i = false) ∧ ∀ m ∈ rows.getD j.toNat [], upB rows i m = true
theorem goodAt_iff {rows : List (List Int)} {i : Nat} (hi : i < rows.length) : GoodAt rows i ↔ upB rows i i = true ∧ ∀ k (hk : k < rows[i].length), GoodPair rows i rows[i][k] := by
  unfold GoodAt GoodPair
  rw [upB_iff hi, getD_at [] hi]
  constructor
  · rintro ⟨h1, h2⟩
    refine ⟨h1, fun k hk => ?_⟩
    obtain ⟨a, b⟩ := h2 _ (List.getElem_mem hk)
    exact ⟨fun e => by unfold upB; exact decide_eq_false (a e), fun m hm => (upB_iff hi).2 (b m hm)⟩
  · rintro ⟨h1, h2⟩
    refine ⟨h1, fun j hj => ?_⟩
    obtain ⟨k, hk, rfl⟩ := List.getElem_of_mem hj
    obtain ⟨a, b⟩ := h2 k hk
    exact ⟨fun e => by have := a e; unfold upB at this; exact of_decide_eq_false this, fun m hm => (upB_iff hi).1 (b m hm)⟩

theorem valid_no_lists {rows : List (List Int)} (h : listsB rows = false) : validB rows = false := by
  unfold validB
  rw [decide_eq_false_iff_not]
  rintro ⟨h1, _⟩
  rw [h] at h1
  cases h1
theorem valid_no {rows : List (List Int)} {i : Nat} (hi : i < rows.length) (h : ¬ GoodAt rows i) : validB rows = false := by
  unfold validB
  rw [decide_eq_false_iff_not]
  rintro ⟨_, h2⟩
  exact h (h2 i hi)
theorem valid_no_own {rows : List (List Int)} {i : Nat} (hi : i < rows.length) (h : upB rows i i = false) : validB rows = false :=
  valid_no hi fun g => by have := ((goodAt_iff hi).1 g).1; rw [h] at this; cases this
theorem valid_no_pair {rows : List (List Int)} {i k : Nat} (hi : i < rows.length) (hk : k < rows[i].length) (h : ¬ GoodPair rows i rows[i][k]) : validB rows = false :=
  valid_no hi fun g => h (((goodAt_iff hi).1 g).2 k hk)
theorem valid_yes {rows : List (List Int)} (hl : listsB rows = true) (h : ∀ i, i < rows.length → GoodAt rows i) : validB rows = true := by
  classical
  unfold validB
  exact decide_eq_true ⟨hl, h⟩
theorem valid_lists {rows : List (List Int)} (h : validB rows = true) : listsB rows = true := by
  cases hl : listsB rows with
  | true => rfl
  | false => rw [valid_no_lists hl] at h; cases h
end Go.Proofs.YtkomghohdhengaaDoor

/- The laws' own measures of an argument's size (szIntS, szIntSS, szOrder): what is left, or less than 0. -/
namespace Go.Proofs.YtkomghohdhengaaDoor
open Go.RowKit Go.Deep

/-- What is left of 'left' when the rows are taken off, or -1 where they are too many. -/
def SzPost (rows : Rows2) (left : Int) (P : World → Prop) (e : Ending) (w' : World) : Prop :=
  (∃ r : Int, (r = -1 ∨ (0 ≤ r ∧ r ≤ left ∧ bulk rows ≤ left)) ∧ e = .returned (.int .i64 r)) ∧ P w'
theorem SzPost.no {rows : Rows2} {left : Int} {P : World → Prop} {w' : World} (h : P w') : SzPost rows left P (.returned (.int .i64 (-1))) w' := ⟨⟨-1, .inl rfl, rfl⟩, h⟩
theorem SzPost.yes {rows : Rows2} {left r : Int} {P : World → Prop} {w' : World} (h0 : 0 ≤ r) (h1 : r ≤ left) (h2 : bulk rows ≤ left) (h : P w') : SzPost rows left P (.returned (.int .i64 r)) w' := ⟨⟨r, .inr ⟨h0, h1, h2⟩, rfl⟩, h⟩

theorem below_drew (w : World) (B : Nat) : Below B w w.drew := ⟨rfl, rfl, rfl, Nat.le_refl _, fun _ _ => rfl⟩
theorem maxLen_ge {n : Nat} (h : n ≤ 1048576) : n ≤ maxLen := by unfold maxLen; omega
end Go.Proofs.YtkomghohdhengaaDoor

/- Sets of small numbers as numbers of 256 bits, and as four words of 64 bits: plain facts. -/
namespace Go.Proofs.YtkomghohdhengaaDoor

/-- Word j of a number of 256 bits. -/
def word (r j : Nat) : Nat := (r >>> (64 * j)) % 2 ^ 64
theorem word_lt (r j : Nat) : word r j < 18446744073709551616 := Nat.mod_lt _ (by decide)
theorem word_lt64 (r j : Nat) : word r j < 2 ^ 64 := Nat.mod_lt _ (by decide)
theorem testBit_word (r j b : Nat) : (word r j).testBit b = (decide (b < 64) && r.testBit (64 * j + b)) := by
  unfold word
  rw [Nat.testBit_mod_two_pow, Nat.testBit_shiftRight]

/-- Four words make one number. -/
theorem of_words {r s : Nat} (hr : r < 2 ^ 256) (hs : s < 2 ^ 256) (h : ∀ j, j < 4 → word r j = word s j) : r = s := by
  apply Nat.eq_of_testBit_eq
  intro i
  by_cases hi : i < 256
  · have h2 := congrArg (fun x => x.testBit (i % 64)) (h (i / 64) (by omega))
    simp only [testBit_word] at h2
    have h3 : i % 64 < 64 := Nat.mod_lt _ (by decide)
    have h4 : 64 * (i / 64) + i % 64 = i := by omega
    simpa [h3, h4] using h2
  · rw [Nat.testBit_lt_two_pow (Nat.lt_of_lt_of_le hr (Nat.pow_le_pow_right (by decide) (by omega))), Nat.testBit_lt_two_pow (Nat.lt_of_lt_of_le hs (Nat.pow_le_pow_right (by decide) (by omega)))]

/-- What of a is not in b. -/
def diff (a b : Nat) : Nat := a ^^^ (a &&& b)
theorem testBit_diff (a b i : Nat) : (diff a b).testBit i = (a.testBit i && !b.testBit i) := by
  unfold diff
  rw [Nat.testBit_xor, Nat.testBit_and]
  cases a.testBit i <;> cases b.testBit i <;> rfl

theorem word_and (a b j : Nat) : word (a &&& b) j = word a j &&& word b j := by
  apply Nat.eq_of_testBit_eq
  intro i
  rw [Nat.testBit_and, testBit_word, testBit_word, testBit_word, Nat.testBit_and]
  cases decide (i < 64) <;> simp
theorem word_or (a b j : Nat) : word (a ||| b) j = word a j ||| word b j := by
  apply Nat.eq_of_testBit_eq
  intro i
  rw [Nat.testBit_or, testBit_word, testBit_word, testBit_word, Nat.testBit_or]
  cases decide (i < 64) <;> simp
theorem word_diff (a b j : Nat) : word (diff a b) j = word a j &&& (18446744073709551615 - word b j) := by
  apply Nat.eq_of_testBit_eq
  intro i
  have h64 : (18446744073709551615 : Nat) = 2 ^ 64 - 1 := by decide
  rw [h64, show 2 ^ 64 - 1 - word b j = 2 ^ 64 - (word b j + 1) by omega, Nat.testBit_and, Nat.testBit_two_pow_sub_succ (by have := word_lt b j; omega), testBit_word, testBit_word, testBit_word, testBit_diff]
  cases decide (i < 64) <;> simp

/-- A number with k put in. -/
def put (r k : Nat) : Nat := r ||| 2 ^ k
theorem testBit_put (r k i : Nat) : (put r k).testBit i = (r.testBit i || decide (k = i)) := by
  unfold put
  rw [Nat.testBit_or, Nat.testBit_two_pow]
theorem word_two_pow (k j : Nat) : word (2 ^ k) j = if k / 64 = j then 2 ^ (k % 64) else 0 := by
  apply Nat.eq_of_testBit_eq
  intro i
  rw [testBit_word, Nat.testBit_two_pow]
  by_cases h : k / 64 = j
  · rw [if_pos h, Nat.testBit_two_pow]
    by_cases hi : i < 64
    · simp only [hi, decide_true, Bool.true_and]
      rw [decide_eq_decide]; omega
    · have : ¬ k % 64 = i := by have := Nat.mod_lt k (show 64 > 0 by decide); omega
      simp [hi, this]
  · rw [if_neg h]
    by_cases hi : i < 64
    · have : ¬ k = 64 * j + i := by omega
      simp [hi, this]
    · simp [hi]
theorem word_put (r k j : Nat) : word (put r k) j = if k / 64 = j then word r j ||| 2 ^ (k % 64) else word r j := by
  unfold put
  rw [word_or, word_two_pow]
  split <;> simp
theorem put_lt {r k : Nat} (hr : r < 2 ^ 256) (hk : k < 256) : put r k < 2 ^ 256 := Nat.or_lt_two_pow hr (Nat.pow_lt_pow_right (by decide) hk)
theorem diff_lt {a : Nat} (b : Nat) (ha : a < 2 ^ 256) : diff a b < 2 ^ 256 := Nat.xor_lt_two_pow ha (by rw [Nat.and_comm]; exact Nat.and_lt_two_pow _ ha)

/-- The bit that 'has' asks for. -/
theorem has_bit (r k : Nat) : ((word r (k / 64) / 2 ^ (k % 64)) % 2 == 1) = r.testBit k := by
  have h := testBit_word r (k / 64) (k % 64)
  have h3 : k % 64 < 64 := Nat.mod_lt _ (by decide)
  have h4 : 64 * (k / 64) + k % 64 = k := by omega
  rw [h4] at h
  simp only [h3, decide_true, Bool.true_and] at h
  rw [← h, Nat.testBit_eq_decide_div_mod_eq]
  rfl
end Go.Proofs.YtkomghohdhengaaDoor

/- '==' on two arrays, whatever their elements: all pairs of elements are equal. A law over any program. -/
namespace Go.Proofs.YtkomghohdhengaaDoor
open Go

section
variable {P : Program}

theorem run_eq_rounds (d : Nat) (e : TypeId) (m : Nat) (xs ys : Array Value) (F : Nat → Bool) : ∀ (l : List Nat)
    (_ : ∀ i ∈ l, ∃ a b, (∀ w, (part e xs (i * m)).run P w = .ok a w) ∧ (∀ w, (part e ys (i * m)).run P w = .ok b w) ∧ ∀ w, (Op.equalIn d e a b).run P w = .ok (F i) w) (w : World),
    (forIn l ((none : Option Bool), ()) (fun i _ => do
      let a ← part e xs (i * m)
      let b ← part e ys (i * m)
      let c ← Op.equalIn d e a b
      if (!c) = true then pure (ForInStep.done (some false, ())) else pure (ForInStep.yield ((none : Option Bool), ())))).run P w = .ok (if l.all F then none else some false, ()) w
  | [], _, w => by simp
  | i :: l, h, w => by
    obtain ⟨a, b, h1, h2, h3⟩ := h i (by simp)
    have ih := run_eq_rounds d e m xs ys F l (fun j hj => h j (by simp [hj])) w
    cases hF : F i with
    | false =>
      rw [hF] at h3
      simp [List.forIn_cons, Sem.run_bind, h1, h2, h3, hF]
    | true =>
      rw [hF] at h3
      simpa [List.forIn_cons, Sem.run_bind, h1, h2, h3, hF] using ih

theorem run_eq_array (d n m : Nat) (t e : TypeId) (xs ys : Array Value) (F : Nat → Bool) (ht : P.underlying t = some (.array n e)) (hs : ∀ w, (sizeOf e).run P w = .ok m w)
    (h : ∀ i, i < n → ∃ a b, (∀ w, (part e xs (i * m)).run P w = .ok a w) ∧ (∀ w, (part e ys (i * m)).run P w = .ok b w) ∧ ∀ w, (Op.equalIn d e a b).run P w = .ok (F i) w) (w : World) :
    (Op.equalIn (d + 1) t (.agg xs) (.agg ys)).run P w = .ok ((List.range n).all F) w := by
  have key := run_eq_rounds (P := P) d e m xs ys F (List.range n) (fun i hi => h i (List.mem_range.1 hi)) w
  unfold Op.equalIn
  simp only [Sem.run_bind, run_underlying ht, Result.andThen_ok, hs]
  rw [Std.Legacy.Range.forIn_eq_forIn_range']
  simp only [Std.Legacy.Range.size, Nat.sub_zero, Nat.add_sub_cancel, Nat.div_one, ← List.range_eq_range']
  rw [key]
  cases (List.range n).all F <;> simp
end
end Go.Proofs.YtkomghohdhengaaDoor

/- Loops over iterators within a plain loop: each leaves a mark among the deferred calls; what a body that ends behind them owes. Plain facts: no function is walked here. -/
namespace Go.Proofs.YtkomghohdhengaaDoor
open Go Go.RowKit

/-- The marks of loops that have ended, as deferred calls. -/
def marksOf (Ds : List Nat) : List Deferred := Ds.map fun D => { target := .collected D, args := #[] }
theorem marksOf_cons (D : Nat) (Ds : List Nat) : marksOf (D :: Ds) = { target := .collected D, args := #[] } :: marksOf Ds := rfl

/-- The marks' blocks: all different, at or beyond block n₀, none taken yet. -/
structure MarksAt (n₀ : Nat) (Ds : List Nat) (W : World) : Prop where
  nodup : Ds.Nodup
  at_ : ∀ D ∈ Ds, n₀ ≤ D ∧ W.heap[D]? = some (.deferred (some []))

theorem MarksAt.nil (n₀ : Nat) (W : World) : MarksAt n₀ [] W := ⟨List.nodup_nil, fun _ h => by cases h⟩
theorem MarksAt.lt {n₀ : Nat} {Ds : List Nat} {W : World} (h : MarksAt n₀ Ds W) {D : Nat} (hD : D ∈ Ds) : D < W.heap.size := (Array.getElem?_eq_some_iff.1 (h.at_ D hD).2).1
theorem MarksAt.keeps {n₀ : Nat} {Ds : List Nat} {W W' : World} (h : MarksAt n₀ Ds W) (k : KeepsOthers W W') : MarksAt n₀ Ds W' :=
  ⟨h.nodup, fun D hD => ⟨(h.at_ D hD).1, k.same D _ (h.at_ D hD).2 rfl⟩⟩
theorem MarksAt.below {n₀ : Nat} {Ds : List Nat} {W W' : World} (h : MarksAt n₀ Ds W) (k : Below W.heap.size W W') : MarksAt n₀ Ds W' :=
  ⟨h.nodup, fun D hD => ⟨(h.at_ D hD).1, (k.block D (h.lt hD)).trans (h.at_ D hD).2⟩⟩
theorem MarksAt.cons {n₀ : Nat} {Ds : List Nat} {W : World} (h : MarksAt n₀ Ds W) {D : Nat} (hD : ∀ E ∈ Ds, E < D) (hn : n₀ ≤ D) (hK : W.heap[D]? = some (.deferred (some []))) : MarksAt n₀ (D :: Ds) W :=
  ⟨List.nodup_cons.2 ⟨fun hm => absurd (hD D hm) (Nat.lt_irrefl _), h.nodup⟩, fun E hE => by
    rcases List.mem_cons.1 hE with rfl | hE
    · exact ⟨hn, hK⟩
    · exact h.at_ E hE⟩
theorem MarksAt.own {β : Type} {n₀ : Nat} {Ds : List Nat} {B : Nat} (hB : ∀ D ∈ Ds, D < B) : OwnFrom B (fun (_ : β) W => MarksAt n₀ Ds W) := fun _ W W' row hs hg hr =>
  ⟨hs.nodup, fun D hD => ⟨(hs.at_ D hD).1, (hg.block D (hs.lt hD) (fun e => by have := (hr D e.symm).1; have := hB D hD; omega)).trans (hs.at_ D hD).2⟩⟩

/-- A body that ends behind such loops: the marks are taken, and the results are read. -/
theorem leaves_marks {F : Fence} {n : Nat} {P : Program} {fn : Func} {tmps : Array Value} {R : Ending → World → Prop} {n₀ : Nat} {K : World → Prop}
    (hK : ∀ (W : World) (D : Nat), K W → n₀ ≤ D → W.heap[D]? = some (.deferred (some [])) → K (W.putObj D (.deferred none)))
    (hend : ∀ W, K W → ∃ v, (results fn tmps).run P W = .ok v W ∧ R (.returned v) W) :
    ∀ (Ds : List Nat) (W : World), MarksAt n₀ Ds W → K W → LeavesInM F n P fn tmps R (marksOf Ds) .returning W
  | [], W, _, hk => hend W hk
  | D :: Ds, W, h, hk => by
    obtain ⟨h1, h2⟩ := h.at_ D (by simp)
    refine ⟨by simp, .inl ⟨D, _, rfl, run_takeDeferred h2, ?_⟩⟩
    refine leaves_marks hK hend Ds _ ⟨(List.nodup_cons.1 h.nodup).2, fun E hE => ⟨(h.at_ E (by simp [hE])).1, ?_⟩⟩ (hK W D hk h1 h2)
    have hne : E ≠ D := fun e => (List.nodup_cons.1 h.nodup).1 (by rw [← e]; exact hE)
    rw [World.putObj_heap_other hne]
    exact (h.at_ E (by simp [hE])).2

/-- Whatever it asks; and that it does not panic. -/
def NoPanic (Q : Exit → Act → World → Prop) : Exit → Act → World → Prop
  | .panic _, _, _ => False
  | .normal, a, w => Q .normal a w
  | .ret, a, w => Q .ret a w
  | .exit id, a, w => Q (.exit id) a w
  | .goto t, a, w => Q (.goto t) a w
  | .outgrown, a, w => Q .outgrown a w
theorem NoPanic.le {Q : Exit → Act → World → Prop} : ∀ (e : Exit) (a : Act) (w : World), NoPanic Q e a w → Q e a w
  | .panic _, _, _, h => h.elim
  | .normal, _, _, h => h
  | .ret, _, _, h => h
  | .exit _, _, _, h => h
  | .goto _, _, _, h => h
  | .outgrown, _, _, h => h
end Go.Proofs.YtkomghohdhengaaDoor

/- A whole row loaded and stored, inside a fence. -/
namespace Go.Proofs.YtkomghohdhengaaDoor
open Go
variable {P : Program} {F : Fence} {n : Nat}

theorem wpListIn_load_row {ops : Array Oper} {rest : List Oper} {o : Oper} {a : Act} {w : World} {Q : Exit → Act → World → Prop} (hgd : o.guard = none) (hr : F.round = none) (ty : TypeId) (x : Operand) (ho : o.op = .load ty x)
    (g : Nat) (hx : a.eval x = .pointer (some ⟨g, 0, none⟩)) (t : TypeId) (cs : Array Value) (fr : Nat × Nat) (d : TypeDesc) (hg : w.heap[g]? = some (.cells cs t fr))
    (hu : P.underlying ty = some d) (hd : (match d with | .struct _ | .array _ _ => true | _ => false) = true) (hi : (P.info? ty).map (·.size) = some cs.size)
    (h : wpListIn F n P ops Q rest (a.put o.dst (.agg cs)) w) : wpListIn F n P ops Q (o :: rest) a w :=
  wpListIn_plain hgd fun K hK => by
    have hk := hK _ _ h
    unfold Oper.wpIn
    simp only [ho, hx, hr, Oper.semAt, execOp, Instr.loadAt, Instr.sureAddr, Sem.run_bind, Sem.run_pure, Result.andThen_ok, run_loadVar_row w g t ty cs fr d hg hu hd hi]
    exact ⟨fun f hf => by simp [Oper.about, ho] at hf, hk⟩

theorem wpListIn_store_row {ops : Array Oper} {rest : List Oper} {o : Oper} {a : Act} {w : World} {Q : Exit → Act → World → Prop} (hgd : o.guard = none) (hr : F.round = none) (ty : TypeId) (x y : Operand) (ho : o.op = .store ty x y)
    (g : Nat) (cells : Array Value) (hx : a.eval x = .pointer (some ⟨g, 0, none⟩)) (hy : a.eval y = .agg cells)
    (t : TypeId) (old : Array Value) (hg : w.heap[g]? = some (.cells old t (0, 0))) (hi : (P.info? ty).map (·.size) = some cells.size)
    (hold : old.size = cells.size) (h1 : cells.all (·.oneCell') = true)
    (h : wpListIn F n P ops Q rest (a.put o.dst undef) (w.setRow g cells)) : wpListIn F n P ops Q (o :: rest) a w :=
  wpListIn_plain hgd fun K hK => by
    have hk := hK _ _ h
    unfold Oper.wpIn
    simp only [ho, hx, hy, hr, Oper.semAt, execOp, Instr.storeAt, Instr.sureAddr, Sem.run_bind, Sem.run_pure, Result.andThen_ok, run_storeVar_row w g t ty old cells hg hi hold h1]
    exact ⟨fun f hf => by simp [Oper.about, ho] at hf, hk⟩
end Go.Proofs.YtkomghohdhengaaDoor

/- Slices of slices in memory of their own: a row is appended to, a row is put in, a row is added behind. Plain facts on worlds: no function is walked here. -/
namespace Go.Proofs.YtkomghohdhengaaDoor
open Go.RowKit Go.Deep

/-- A list of integers as cells. -/
abbrev cellsI (xs : List Int) : List Value := xs.map (Value.int .i64)

theorem OwnI.owns {t : TypeId} {W : World} {v : Value} {xs : List Int} {lo hi : Nat} (h : OwnI t W v xs lo hi) : W.ownsRow lo t 1 v xs.length (cellsI xs) := by
  refine ⟨by simp, ?_⟩
  obtain ⟨_, ⟨rfl, rfl⟩ | ⟨g, C, f, rfl, h1, h2, h3, h4, ⟨c, h5, h6, h7⟩, h8⟩⟩ := h
  · exact .inl ⟨rfl, rfl⟩
  · refine .inr ⟨g, C, c, rfl, h3, h5, h1, h2, by omega, ?_⟩
    apply List.ext_getElem?
    intro i
    rw [List.getElem?_take, Nat.mul_one]
    by_cases hi : i < xs.length
    · rw [if_pos hi, Array.getElem?_toList, h7 i (by omega), h8 i hi]
      simp [hi]
    · rw [if_neg hi]
      simp [List.getElem?_eq_none (by omega : xs.length ≤ i)]
theorem OwnI.of_owns {t : TypeId} {W : World} {v : Value} {xs : List Int} {lo hi : Nat} (h : W.ownsRow lo t 1 v xs.length (cellsI xs)) (hw : ∀ x ∈ xs, (Lit.int .i64 x).wf = true) (hb : ∀ b, v.ownBlock = some b → b < hi) : OwnI t W v xs lo hi := by
  refine ⟨hw, ?_⟩
  obtain ⟨_, ⟨rfl, h0⟩ | ⟨g, C, c, rfl, h3, h5, h1, h2, h6, h7⟩⟩ := h
  · exact .inl ⟨rfl, List.length_eq_zero_iff.1 h0⟩
  · refine .inr ⟨g, C, fun i => c[i]?.getD (.int .i64 0), rfl, h1, h2, h3, hb g rfl, ⟨c, h5, by omega, fun i hi => ?_⟩, fun i hi => ?_⟩
    · dsimp only
      rw [Array.getElem?_eq_getElem (by omega)]
      rfl
    · have h8 := congrArg (fun l => l[i]?) h7
      rw [List.getElem?_take, Nat.mul_one, if_pos hi, Array.getElem?_toList] at h8
      dsimp only
      rw [h8]
      simp [hi]

/-- What an append of one number to row j, and the store of it, do to rows. -/
theorem OwnR.appended {t u : TypeId} {W W1 W2 : World} {g C n : Nat} {f : Nat → Value} {R : Nat → List Int} {lo j g' cap' : Nat} {x : Int}
    (htu : t ≠ u) (hC : n ≤ C) (hm : C ≤ maxLen) (hlo : lo ≤ g) (hr : W.rowIs g u C f) (hI : ∀ q, q < n → OwnI t W (f q) (R q) lo W.heap.size) (hD : ∀ p q, p < q → q < n → (f p).ownBlock = none ∨ (f p).ownBlock ≠ (f q).ownBlock) (hj : j < n)
    (hx : (Lit.int .i64 x).wf = true) (hz : W.heap.size ≤ W1.heap.size) (hb1 : ∀ b, b < W.heap.size → W1.heap[b]? = W.heap[b]?)
    (hown : W2.ownsRow lo t 1 (.slice (some ⟨g', 0, none⟩) ((R j).length + 1) cap') ((R j).length + 1) (cellsI (R j) ++ [.int .i64 x])) (hgrow : W1.grownBy W2 (f j).ownBlock) (hat : (f j).ownBlock = some g' ∨ W.heap.size ≤ g') (hlt : g' < W2.heap.size) :
    OwnR t u (W2.setCell ⟨g, j, none⟩ (.slice (some ⟨g', 0, none⟩) ((R j).length + 1) cap')) (.slice (some ⟨g, 0, none⟩) n C) n (fun q => if q = j then R j ++ [x] else R q) lo W2.heap.size := by
  have hgt : g < W.heap.size := hr.lt
  have hsz : W.heap.size ≤ W2.heap.size := Nat.le_trans hz hgrow.size
  have hfb : ∀ q, q < n → ∀ b, (f q).ownBlock = some b → lo ≤ b ∧ b < W.heap.size ∧ b ≠ g := fun q hq b hb => by
    obtain ⟨h1, h2, c, h3⟩ := (hI q hq).block b hb
    refine ⟨h1, h2, fun e => ?_⟩
    obtain ⟨c0, h4, _⟩ := hr
    rw [e, h4] at h3
    injection h3 with h3
    injection h3 with _ h5
    exact htu h5.symm
  have hg'g : g' ≠ g := by
    rcases hat with h | h
    · exact (hfb j hj _ h).2.2
    · omega
  have hkeep : ∀ b, b < W.heap.size → (f j).ownBlock ≠ some b → W2.heap[b]? = W.heap[b]? := fun b hb hne => (hgrow.block b (by omega) (fun e => hne e.symm)).trans (hb1 b hb)
  have hset : ∀ b, b ≠ g → (W2.setCell ⟨g, j, none⟩ (.slice (some ⟨g', 0, none⟩) ((R j).length + 1) cap')).heap[b]? = W2.heap[b]? := fun b hb => Below.heap_setCell _ _ _ b hb
  have hr2 : W2.rowIs g u C f := hr.of_block (hkeep g hgt (fun e => (hfb j hj g e).2.2 rfl))
  refine .inr ⟨g, C, _, rfl, hC, hm, hlo, by omega, hr2.set j _, fun q hq => ?_, fun p q hpq hq => ?_⟩
  · dsimp only
    by_cases e : q = j
    · subst e
      rw [if_pos rfl, if_pos rfl]
      have h1 : W2.ownsRow lo t 1 (.slice (some ⟨g', 0, none⟩) ((R q).length + 1) cap') (R q ++ [x]).length (cellsI (R q ++ [x])) := by
        rw [List.length_append, List.length_singleton, show cellsI (R q ++ [x]) = cellsI (R q) ++ [.int .i64 x] by simp]
        exact hown
      refine OwnI.kept (OwnI.of_owns h1 (fun y hy => ?_) (fun b hb => ?_)) (fun b hb => ?_)
      · rcases List.mem_append.1 hy with hy | hy
        · exact (hI q hq).1 y hy
        · rw [List.mem_singleton] at hy; subst hy; exact hx
      · simp [Value.ownBlock] at hb; omega
      · simp [Value.ownBlock] at hb
        exact hset b (by omega)
    · rw [if_neg e, if_neg e]
      refine ((hI q hq).wider (Nat.le_refl _) hsz).kept (fun b hb => ?_)
      obtain ⟨h1, h2, h3⟩ := hfb q hq b hb
      rw [hset b h3]
      refine hkeep b h2 (fun e2 => ?_)
      rcases Nat.lt_or_gt_of_ne e with h | h
      · rcases hD q j h hj with h4 | h4
        · rw [h4] at hb; cases hb
        · exact h4 (hb.trans e2.symm)
      · rcases hD j q h hq with h4 | h4
        · rw [h4] at e2; cases e2
        · exact h4 (e2.trans hb.symm)
  · have hne : ∀ q', q' < n → q' ≠ j → (f q').ownBlock ≠ some g' := fun q' hq' hqj hb => by
      rcases hat with h | h
      · rcases Nat.lt_or_gt_of_ne hqj with h5 | h5
        · rcases hD q' j h5 hj with h4 | h4
          · rw [h4] at hb; cases hb
          · exact h4 (hb.trans h.symm)
        · rcases hD j q' h5 hq' with h4 | h4
          · rw [h4] at h; cases h
          · exact h4 (h.trans hb.symm)
      · have := (hfb q' hq' g' hb).2.1; omega
    by_cases e1 : p = j
    · subst e1
      rw [if_pos rfl, if_neg (by omega)]
      right
      exact fun e => hne q hq (by omega) (e.symm.trans rfl)
    · rw [if_neg e1]
      by_cases e2 : q = j
      · subst e2
        rw [if_pos rfl]
        right
        exact fun e => hne p (by omega) e1 (e.trans rfl)
      · rw [if_neg e2]
        exact hD p q hpq hq

/-- What a store of a new slice into row j does to rows. -/
theorem OwnR.stored {t u : TypeId} {W W2 : World} {g C n : Nat} {f : Nat → Value} {R : Nat → List Int} {lo j : Nat} {v' : Value} {xs : List Int}
    (htu : t ≠ u) (hC : n ≤ C) (hm : C ≤ maxLen) (hlo : lo ≤ g) (hr : W.rowIs g u C f) (hI : ∀ q, q < n → OwnI t W (f q) (R q) lo W.heap.size) (hD : ∀ p q, p < q → q < n → (f p).ownBlock = none ∨ (f p).ownBlock ≠ (f q).ownBlock)
    (hb : Below W.heap.size W W2) (hn : OwnI t W2 v' xs W.heap.size W2.heap.size) :
    OwnR t u (W2.setCell ⟨g, j, none⟩ v') (.slice (some ⟨g, 0, none⟩) n C) n (fun q => if q = j then xs else R q) lo W2.heap.size := by
  have hgt : g < W.heap.size := hr.lt
  have hsz := hb.size
  have hfb : ∀ q, q < n → ∀ b, (f q).ownBlock = some b → lo ≤ b ∧ b < W.heap.size ∧ b ≠ g := fun q hq b hb' => by
    obtain ⟨h1, h2, c, h3⟩ := (hI q hq).block b hb'
    refine ⟨h1, h2, fun e => ?_⟩
    obtain ⟨c0, h4, _⟩ := hr
    rw [e, h4] at h3
    injection h3 with h3
    injection h3 with _ h5
    exact htu h5.symm
  have hset : ∀ b, b ≠ g → (W2.setCell ⟨g, j, none⟩ v').heap[b]? = W2.heap[b]? := fun b hb' => Below.heap_setCell _ _ _ b hb'
  have hr2 : W2.rowIs g u C f := hr.of_block (hb.block g hgt)
  refine .inr ⟨g, C, _, rfl, hC, hm, hlo, by omega, hr2.set j _, fun q hq => ?_, fun p q hpq hq => ?_⟩
  · dsimp only
    by_cases e : q = j
    · subst e
      rw [if_pos rfl, if_pos rfl]
      refine (hn.wider (by omega) (Nat.le_refl _)).kept (fun b hb' => ?_)
      have := (hn.block b hb').1
      exact hset b (by omega)
    · rw [if_neg e, if_neg e]
      refine ((hI q hq).wider (Nat.le_refl _) hsz).kept (fun b hb' => ?_)
      obtain ⟨h1, h2, h3⟩ := hfb q hq b hb'
      rw [hset b h3]
      exact hb.block b h2
  · have hne : ∀ q', q' < n → ∀ b, (f q').ownBlock = some b → v'.ownBlock ≠ some b := fun q' hq' b hb' e => by
      have := (hn.block b e).1
      have := (hfb q' hq' b hb').2.1
      omega
    by_cases e1 : p = j
    · subst e1
      rw [if_pos rfl, if_neg (by omega)]
      cases hv : v'.ownBlock with
      | none => exact .inl rfl
      | some b => exact .inr fun e => hne q hq b e.symm hv
    · rw [if_neg e1]
      by_cases e2 : q = j
      · subst e2
        rw [if_pos rfl]
        cases hv : (f p).ownBlock with
        | none => exact .inl rfl
        | some b => exact .inr fun e => hne p (by omega) b hv e.symm
      · rw [if_neg e2]
        exact hD p q hpq hq
end Go.Proofs.YtkomghohdhengaaDoor

/- A slice of slices in memory of its own grows by a row. Plain facts on worlds: no function is walked here. -/
namespace Go.Proofs.YtkomghohdhengaaDoor
open Go.RowKit Go.Deep

theorem rowIs_owns {u : TypeId} {W : World} {g C n lo : Nat} {f : Nat → Value} (h : W.rowIs g u C f) (hC : n ≤ C) (hm : C ≤ maxLen) (hlo : lo ≤ g) : W.ownsRow lo u 1 (.slice (some ⟨g, 0, none⟩) n C) n ((List.range n).map f) := by
  obtain ⟨c, h5, h6, h7⟩ := h
  refine ⟨by simp, .inr ⟨g, C, c, rfl, hlo, h5, hC, hm, by omega, ?_⟩⟩
  apply List.ext_getElem?
  intro i
  rw [List.getElem?_take, Nat.mul_one]
  by_cases hi : i < n
  · rw [if_pos hi, Array.getElem?_toList, h7 i (by omega)]
    simp [hi]
  · rw [if_neg hi]
    rw [List.getElem?_eq_none (by simp; omega)]
theorem owns_rowIs {u : TypeId} {W : World} {v : Value} {n lo : Nat} {f : Nat → Value} (h : W.ownsRow lo u 1 v n ((List.range n).map f)) (hn : 0 < n) :
    ∃ g C f', v = .slice (some ⟨g, 0, none⟩) n C ∧ n ≤ C ∧ C ≤ maxLen ∧ lo ≤ g ∧ g < W.heap.size ∧ W.rowIs g u C f' ∧ ∀ i, i < n → f' i = f i := by
  obtain ⟨_, ⟨rfl, h0⟩ | ⟨g, C, c, rfl, h3, h5, h1, h2, h6, h7⟩⟩ := h
  · omega
  · refine ⟨g, C, fun i => c[i]?.getD (.int .i64 0), rfl, h1, h2, h3, (Array.getElem?_eq_some_iff.1 h5).1, ⟨c, h5, by omega, fun i hi => ?_⟩, fun i hi => ?_⟩
    · dsimp only
      rw [Array.getElem?_eq_getElem (by omega)]
      rfl
    · have h8 := congrArg (fun l => l[i]?) h7
      rw [List.getElem?_take, Nat.mul_one, if_pos hi, Array.getElem?_toList] at h8
      dsimp only
      rw [h8]
      simp [hi]

/-- What is known of rows, their cells named. -/
theorem OwnR.owns {t u : TypeId} {W : World} {v : Value} {n : Nat} {R : Nat → List Int} {lo hi : Nat} (h : OwnR t u W v n R lo hi) :
    ∃ f, W.ownsRow lo u 1 v n ((List.range n).map f) ∧ (∀ j, j < n → OwnI t W (f j) (R j) lo hi) ∧ (∀ i j, i < j → j < n → (f i).ownBlock = none ∨ (f i).ownBlock ≠ (f j).ownBlock) := by
  obtain ⟨rfl, rfl⟩ | ⟨g, C, f, rfl, h1, h2, h3, h4, h5, h6, h7⟩ := h
  · exact ⟨fun _ => .slice none 0 0, World.ownsRow_nil _ _ _ _, fun j hj => absurd hj (Nat.not_lt_zero _), fun i j _ hj => absurd hj (Nat.not_lt_zero _)⟩
  · exact ⟨f, rowIs_owns h5 h1 h2 h3, h6, h7⟩

/-- A row is added behind. -/
theorem OwnR.pushed {t u : TypeId} {W W1 W2 : World} {v v' v2 : Value} {n lo mid : Nat} {R : Nat → List Int} {f : Nat → Value} {xs : List Int} (htu : t ≠ u)
    (h0 : W.ownsRow lo u 1 v n ((List.range n).map f)) (h1 : ∀ j, j < n → OwnI t W (f j) (R j) lo mid) (h2 : ∀ i j, i < j → j < n → (f i).ownBlock = none ∨ (f i).ownBlock ≠ (f j).ownBlock)
    (hlo : lo ≤ mid) (hmid : mid ≤ W.heap.size) (hn : OwnI t W v' xs mid W.heap.size) (hb1 : Below W.heap.size W W1)
    (hown : W2.ownsRow lo u 1 v2 (n + 1) ((List.range n).map f ++ [v'])) (hgrow : W1.grownBy W2 v.ownBlock) :
    OwnR t u W2 v2 (n + 1) (fun q => if q = n then xs else R q) lo W2.heap.size := by
  have hz : W.heap.size ≤ W2.heap.size := Nat.le_trans hb1.size hgrow.size
  have hvt : ∀ b, v.ownBlock = some b → ∃ c, W.heap[b]? = some (.cells c u (0, 0)) := fun b hb => by
    obtain ⟨_, ⟨rfl, _⟩ | ⟨g, C, c, rfl, _, h5, _⟩⟩ := h0
    · simp [Value.ownBlock] at hb
    · simp [Value.ownBlock] at hb; subst hb; exact ⟨c, h5⟩
  have hkeep : ∀ (b : Nat) (c : Array Value), W.heap[b]? = some (Obj.cells c t (0, 0)) → W2.heap[b]? = W.heap[b]? := fun b c hb => by
    have hlt : b < W.heap.size := (Array.getElem?_eq_some_iff.1 hb).1
    refine (hgrow.block b (Nat.lt_of_lt_of_le hlt hb1.size) (fun e => ?_)).trans (hb1.block b hlt)
    obtain ⟨c', hc'⟩ := hvt b e.symm
    rw [hb] at hc'
    injection hc' with hc'
    injection hc' with _ h5
    exact htu h5
  have hf : (List.range (n + 1)).map (fun q => if q = n then v' else f q) = (List.range n).map f ++ [v'] := by
    rw [List.range_succ, List.map_append]
    congr 1
    · apply List.map_congr_left
      intro q hq
      have : q ≠ n := by have := List.mem_range.1 hq; omega
      rw [if_neg this]
    · simp
  rw [← hf] at hown
  obtain ⟨g, C, f', rfl, k1, k2, k3, k4, k5, k6⟩ := owns_rowIs hown (Nat.succ_pos n)
  refine .inr ⟨g, C, f', rfl, k1, k2, k3, k4, k5, fun q hq => ?_, fun p q hpq hq => ?_⟩
  · rw [k6 q hq]
    dsimp only
    by_cases e : q = n
    · subst e
      rw [if_pos rfl, if_pos rfl]
      refine (hn.wider hlo hz).kept fun b hb => ?_
      obtain ⟨_, _, c, hc⟩ := hn.block b hb
      exact hkeep b c hc
    · rw [if_neg e, if_neg e]
      have hq' : q < n := by omega
      refine ((h1 q hq').wider (Nat.le_refl _) (by omega)).kept fun b hb => ?_
      obtain ⟨_, _, c, hc⟩ := (h1 q hq').block b hb
      exact hkeep b c hc
  · rw [k6 p (by omega), k6 q hq]
    have hp' : p ≠ n := by omega
    rw [if_neg hp']
    by_cases e : q = n
    · rw [if_pos e]
      cases hb : (f p).ownBlock with
      | none => exact .inl rfl
      | some b =>
        right
        intro e2
        have := ((h1 p (by omega)).block b hb).2.1
        have := (hn.block b e2.symm).1
        omega
    · rw [if_neg e]
      exact h2 p q hpq (by omega)

theorem owns_below {t : TypeId} {W W' : World} {lo n : Nat} {v : Value} {xs : List Value} (h : W.ownsRow lo t 1 v n xs) (hb : Below W.heap.size W W') : W'.ownsRow lo t 1 v n xs := by
  refine h.kept (row := none) ⟨hb.os, hb.tape, hb.output, hb.size, fun k hk _ => hb.block k hk⟩ ?_
  cases hv : v.ownBlock with
  | none => exact .inl rfl
  | some b => exact .inr (by simp)
theorem wf_int {y : Int} (h0 : 0 ≤ y) (h1 : y ≤ 1048576) : (Lit.int .i64 y).wf = true := by
  have e1 : IntKind.i64.min = -9223372036854775808 := rfl
  have e2 : IntKind.i64.max = 9223372036854775807 := rfl
  simp [Lit.wf, e1, e2]
  omega
end Go.Proofs.YtkomghohdhengaaDoor

/- A list of numbers as an answer, in memory of its own. Plain facts: no function is walked here. -/
namespace Go.Proofs.YtkomghohdhengaaDoor
open Go.RowKit Go.Deep

/-- The numbers xs, in memory of their own. -/
def OwnQ (xs : List Int) (w : World) (e : Ending) (w' : World) : Prop :=
  ∃ v, e = .returned v ∧ OwnI 3 w' v xs w.heap.size w'.heap.size ∧ Below w.heap.size w w'
end Go.Proofs.YtkomghohdhengaaDoor

/- The laws' own comparisons of lists (sameInts, sameLists, sameOrder). -/
namespace Go.Proofs.YtkomghohdhengaaDoor
open Go.RowKit Go.Deep

set_option maxHeartbeats 1000000 in
theorem sameInts_any (v u : Value) (xs ys : List Int) (w : World) (hv : IntsAt w v xs) (hu : IntsAt w u ys) :
    Calls Tryd.prog 19 #[v, u] w (SaysB (decide (xs = ys)) w) := by
  obtain ⟨a, C, rfl, hC, hm, _, hx⟩ := hv
  obtain ⟨a', C', rfl, hC', hm', _, hy⟩ := hu
  unfold maxLen at hm hm'
  by_cases hlen : xs.length = ys.length
  · have hL : ((xs.length : Int) != (ys.length : Int)) = false := by simp [hlen]
    have HL := Lib.hid hlen
    clear hlen
    go_enter Tryd.func19, Tryd.ntmps19
    go_wp2
    go_loopw [5] (fun i wr => ∃ k n : Nat, k ≤ xs.length ∧ i = .int .i64 k ∧ xs.take k = ys.take k ∧ wr = w.drewN n) (fun i _ => xs.length - (intOf i).toNat)
    case atStart => exact ⟨0, 0, Nat.zero_le _, rfl, rfl, rfl⟩
    case round =>
      obtain ⟨k, n, hk, rfl, ht, hw⟩ := hrel
      have HT := Lib.hid ht
      have HW := Lib.hid hw
      clear ht
      by_cases hlt : k < xs.length
      · have hlt' : k < ys.length := by have := HL.out; omega
        obtain ⟨b, o, rfl, hc⟩ := hx k hlt
        obtain ⟨b', o', rfl, hc'⟩ := hy k hlt'
        replace hc : wr.cell? ⟨b, o + k, none⟩ = some (.int .i64 xs[k]) := by rw [hw]; exact hc
        replace hc' : wr.cell? ⟨b', o' + k, none⟩ = some (.int .i64 ys[k]) := by rw [hw]; exact hc'
        clear hx hy hw
        by_cases heq : xs[k] = ys[k]
        · have hb : (xs[k] != ys[k]) = false := by simp [heq]
          have HQ := Lib.hid heq
          clear heq
          go_wp2
          go_quiet (fail)
          go_wp2
          go_roundw
          case rel => exact ⟨k + 1, _, by omega, by go_num, by rw [List.take_succ_eq_append_getElem hlt, List.take_succ_eq_append_getElem hlt', HT.out, HQ.out], by rw [HW.out, World.drewN_drewN]⟩
          case measure => simp [intOf]; omega
        · have hb : (xs[k] != ys[k]) = true := by simpa using heq
          have e : decide (xs = ys) = false := by
            rw [decide_eq_false_iff_not]; intro e; subst e; exact heq rfl
          have HE := Lib.hid e
          clear heq e
          go_wp2
          go_quiet (fail)
          go_wp2
          go_ret
          exact ⟨by rw [HE.out]; rfl, _, by rw [HW.out, World.drewN_drewN]⟩
      · have e : decide (xs = ys) = true := by
          have h1 := HT.out
          rw [List.take_of_length_le (by omega), List.take_of_length_le (by have := HL.out; omega)] at h1
          simpa using h1
        have HE := Lib.hid e
        clear e hx hy hw
        go_wp2
        go_ret
        exact ⟨by rw [HE.out]; rfl, _, HW.out⟩
  · have hL : ((xs.length : Int) != (ys.length : Int)) = true := by simp; omega
    have e : decide (xs = ys) = false := by simp; intro e; subst e; exact hlen rfl
    rw [e]
    go_enter Tryd.func19, Tryd.ntmps19
    go_wp2
    go_ret
    exact ⟨rfl, 0, rfl⟩

set_option maxHeartbeats 1000000 in
theorem sameLists_any (v u : Value) (xs ys : Rows2) (w : World) (hv : RowsAt w v xs) (hu : RowsAt w u ys) :
    Calls Tryd.prog 33 #[v, u] w (SaysB (decide (xs = ys)) w) := by
  obtain ⟨a, C, rfl, hC, hm, hx⟩ := hv
  obtain ⟨a', C', rfl, hC', hm', hy⟩ := hu
  unfold maxLen at hm hm'
  by_cases hlen : xs.length = ys.length
  · have hL : ((xs.length : Int) != (ys.length : Int)) = false := by simp [hlen]
    have HL := Lib.hid hlen
    clear hlen
    go_enter Tryd.func33, Tryd.ntmps33
    go_wp2
    go_loopw [5] (fun i wr => ∃ k n : Nat, k ≤ xs.length ∧ i = .int .i64 k ∧ xs.take k = ys.take k ∧ wr = w.drewN n) (fun i _ => xs.length - (intOf i).toNat)
    case atStart => exact ⟨0, 0, Nat.zero_le _, rfl, rfl, rfl⟩
    case round =>
      obtain ⟨k, n, hk, rfl, ht, hw⟩ := hrel
      have HT := Lib.hid ht
      have HW := Lib.hid hw
      clear ht
      by_cases hlt : k < xs.length
      · have hlt' : k < ys.length := by have := HL.out; omega
        obtain ⟨b, o, v1, rfl, hc, hv1⟩ := hx k hlt
        obtain ⟨b', o', u1, rfl, hc', hu1⟩ := hy k hlt'
        replace hc : wr.cell? ⟨b, o + k, none⟩ = some v1 := by rw [hw]; exact hc
        replace hc' : wr.cell? ⟨b', o' + k, none⟩ = some u1 := by rw [hw]; exact hc'
        replace hv1 : IntsAt wr v1 xs[k] := by rw [hw]; exact hv1
        replace hu1 : IntsAt wr u1 ys[k] := by rw [hw]; exact hu1
        have hcall : ∀ m, Calls Tryd.prog 19 #[v1, u1] (wr.drewN m) fun e w'' => e = .returned (.bool (decide (xs[k] = ys[k]))) ∧ ∃ j, w'' = wr.drewN j := fun m =>
          (sameInts_any v1 u1 _ _ (wr.drewN m) hv1 hu1).mono fun e w'' ⟨h1, j, h2⟩ => ⟨h1, m + j, by rw [h2, World.drewN_drewN]⟩
        clear hw
        obtain ⟨a1, C1, rfl, _⟩ := hv1
        obtain ⟨a2, C2, rfl, _⟩ := hu1
        clear hx hy
        by_cases heq : xs[k] = ys[k]
        · rw [decide_eq_true heq] at hcall
          have HQ := Lib.hid heq
          clear heq
          go_wp2
          go_quiet ((go_at_call 19; exact hcall _))
          go_wp2
          go_roundw
          case rel => exact ⟨k + 1, _, by omega, by go_num, by rw [List.take_succ_eq_append_getElem hlt, List.take_succ_eq_append_getElem hlt', HT.out, HQ.out], by rw [HW.out, World.drewN_drewN]⟩
          case measure => simp [intOf]; omega
        · have e : decide (xs = ys) = false := by
            rw [decide_eq_false_iff_not]; intro e; subst e; exact heq rfl
          rw [decide_eq_false heq] at hcall
          have HE := Lib.hid e
          clear heq e
          go_wp2
          go_quiet ((go_at_call 19; exact hcall _))
          go_wp2
          go_ret
          exact ⟨by rw [HE.out]; rfl, _, by rw [HW.out, World.drewN_drewN]⟩
      · have e : decide (xs = ys) = true := by
          have h1 := HT.out
          rw [List.take_of_length_le (by omega), List.take_of_length_le (by have := HL.out; omega)] at h1
          simpa using h1
        have HE := Lib.hid e
        clear e hx hy hw
        go_wp2
        go_ret
        exact ⟨by rw [HE.out]; rfl, _, HW.out⟩
  · have hL : ((xs.length : Int) != (ys.length : Int)) = true := by simp; omega
    have e : decide (xs = ys) = false := by simp; intro e; subst e; exact hlen rfl
    rw [e]
    go_enter Tryd.func33, Tryd.ntmps33
    go_wp2
    go_ret
    exact ⟨rfl, 0, rfl⟩

set_option maxHeartbeats 1000000 in
theorem sameOrder_any (v u : Value) (xs ys : Rows2) (w : World) (hv : RowsAt w v xs) (hu : RowsAt w u ys) :
    Calls Tryd.prog 37 #[.agg #[v], .agg #[u]] w (SaysN (decide (xs = ys)) w) := by
  have b2 : Below w.heap.size w ((w.alloc (.cells #[v] 25)).alloc (.cells #[u] 25)) :=
    ((Below.refl _ w).alloc (Nat.le_refl _) _).alloc (by simp) _
  have B2 := Lib.hid b2
  have hcall := sameLists_any v u xs ys _ (hv.below b2) (hu.below b2)
  obtain ⟨a, C, rfl, _⟩ := hv
  obtain ⟨a', C', rfl, _⟩ := hu
  clear b2
  go_enter Tryd.func37, Tryd.ntmps37
  go_wp2_with (go_at_call 33; refine hcall.mono ?_; clear hcall; rintro e w1 ⟨rfl, n, rfl⟩)
  go_ret
  exact ⟨rfl, B2.out.trans (below_drewN' _ n _)⟩
end Go.Proofs.YtkomghohdhengaaDoor
