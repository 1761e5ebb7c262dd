/- What memory holds: a slice of integers, a slice of such slices, told of a world; carried to worlds that keep what lay there. Plain facts on worlds: no function is walked here. -/
import Derived.WalkKit
import Derived.ProofKit
import Derived.Deep.OwnRows
import Derived.Deep.Matrix
import Derived.Carry
import Derived.Lib.Hide
namespace Go.Proofs.YtkhhbpeheikmfaaDoor
open Go.RowKit Go.Deep

abbrev Rows2 := List (List Int)

/-- A slice value that reads as a list of integers. -/
def IntsAt (W : World) (v : Value) (xs : List Int) : Prop :=
  ∃ (a : Option Addr) (C : Nat), v = .slice a xs.length C ∧ xs.length ≤ C ∧ C ≤ maxLen ∧ (∀ x ∈ xs, (Lit.int .i64 x).wf = true) ∧
    ∀ i (hi : i < xs.length), ∃ b o, a = some ⟨b, o, none⟩ ∧ W.cell? ⟨b, o + i, none⟩ = some (.int .i64 xs[i])

/-- A slice value that reads as a list of lists of integers. -/
def RowsAt (W : World) (v : Value) (rows : Rows2) : Prop :=
  ∃ (a : Option Addr) (C : Nat), v = .slice a rows.length C ∧ rows.length ≤ C ∧ C ≤ maxLen ∧
    ∀ i (hi : i < rows.length), ∃ b o u, a = some ⟨b, o, none⟩ ∧ W.cell? ⟨b, o + i, none⟩ = some u ∧ IntsAt W u rows[i]

theorem bcell {W w1 : World} (hb : Below W.heap.size W w1) : (∀ b o, b < W.heap.size → w1.cell? ⟨b, o, none⟩ = W.cell? ⟨b, o, none⟩) ∧ (∀ b o, b < W.heap.size → w1.frozen? ⟨b, o, none⟩ = W.frozen? ⟨b, o, none⟩) :=
  ⟨fun b o h => hb.cell (p := ⟨b, o, none⟩) h, fun b o h => hb.frozen (p := ⟨b, o, none⟩) h⟩

theorem bsize {W w1 : World} (hb : Below W.heap.size W w1) : ∀ x, x < W.heap.size → x < w1.heap.size := fun _ h => Nat.lt_of_lt_of_le h hb.size

theorem cell_lt {w : World} {a : Addr} {v : Value} (h : w.cell? a = some v) : a.block < w.heap.size := by
  by_cases hlt : a.block < w.heap.size
  · exact hlt
  · have hn : w.heap[a.block]? = none := by simp; omega
    simp [World.cell?, hn] at h

theorem IntsAt.below {W W' : World} {v : Value} {xs : List Int} (h : IntsAt W v xs) (hb : Below W.heap.size W W') : IntsAt W' v xs := by
  obtain ⟨a, C, h1, h2, h3, h4, h5⟩ := h
  refine ⟨a, C, h1, h2, h3, h4, fun i hi => ?_⟩
  obtain ⟨b, o, ha, hc⟩ := h5 i hi
  exact ⟨b, o, ha, by rw [hb.cell (p := ⟨b, o + i, none⟩) (cell_lt hc)]; exact hc⟩

theorem RowsAt.below {W W' : World} {v : Value} {rows : Rows2} (h : RowsAt W v rows) (hb : Below W.heap.size W W') : RowsAt W' v rows := by
  obtain ⟨a, C, h1, h2, h3, h5⟩ := h
  refine ⟨a, C, h1, h2, h3, fun i hi => ?_⟩
  obtain ⟨b, o, u, ha, hc, hu⟩ := h5 i hi
  exact ⟨b, o, u, ha, by rw [hb.cell (p := ⟨b, o + i, none⟩) (cell_lt hc)]; exact hc, hu.below hb⟩

/-- How many values the rows hold, the rows among them. -/
def bulk (rows : Rows2) : Nat := rows.length + (rows.map List.length).sum

theorem bulk_le_sum : ∀ (l : List Nat) (x : Nat), x ∈ l → x ≤ l.sum
  | [], _, h => by cases h
  | y :: l, x, h => by
    rw [List.sum_cons]
    rcases List.mem_cons.1 h with rfl | h
    · omega
    · have := bulk_le_sum l x h
      omega

theorem bulk_row {rows : Rows2} {i : Nat} (hi : i < rows.length) : rows.length + rows[i].length ≤ bulk rows := by
  unfold bulk
  have h : rows[i].length ∈ rows.map List.length := List.mem_map.2 ⟨_, List.getElem_mem hi, rfl⟩
  have := bulk_le_sum _ _ h
  omega

/-- The lengths of the first k rows. -/
def lens (rows : Rows2) (k : Nat) : Nat := ((rows.take k).map List.length).sum
theorem lens_zero (rows : Rows2) : lens rows 0 = 0 := rfl
theorem lens_succ {rows : Rows2} {k : Nat} (hk : k < rows.length) : lens rows (k + 1) = lens rows k + rows[k].length := by
  unfold lens
  rw [List.take_succ_eq_append_getElem hk, List.map_append, List.sum_append]
  rfl
theorem lens_all (rows : Rows2) : rows.length + lens rows rows.length = bulk rows := by
  unfold lens bulk
  rw [List.take_length]

/-- The value of a slice over the whole of block g. -/
abbrev whole (g n : Nat) : Value := .slice (some ⟨g, 0, none⟩) n n
/-- Element i of a list of integers, as a cell. -/
def intCell (xs : List Int) (i : Nat) : Value := .int .i64 (xs.getD i 0)
theorem intCell_lt {xs : List Int} {i : Nat} (hi : i < xs.length) : intCell xs i = .int .i64 xs[i] := by
  unfold intCell; rw [List.getD_eq_getElem?_getD, List.getElem?_eq_getElem hi]; rfl

/-- A list of integers that lies in a block of its own, from its head on. -/
def OwnInts (t : TypeId) (W : World) (g : Nat) (xs : List Int) : Prop :=
  W.rowIs g t xs.length (intCell xs) ∧ (∀ x ∈ xs, (Lit.int .i64 x).wf = true)

theorem OwnInts.at {t : TypeId} {W : World} {g : Nat} {xs : List Int} (h : OwnInts t W g xs) (hn : xs.length ≤ maxLen) : IntsAt W (whole g xs.length) xs :=
  ⟨_, _, rfl, Nat.le_refl _, hn, h.2, fun i hi => ⟨g, 0, rfl, by rw [Nat.zero_add, h.1.cell hi, intCell_lt hi]⟩⟩

theorem rowIs_below {W W' : World} {g : Nat} {t : TypeId} {n : Nat} {f : Nat → Value} {B : Nat} (h : W.rowIs g t n f) (hb : Below B W W') (hg : g < B) : W'.rowIs g t n f :=
  h.of_block (hb.block g hg)

theorem OwnInts.below {t : TypeId} {W W' : World} {g : Nat} {xs : List Int} {B : Nat} (h : OwnInts t W g xs) (hb : Below B W W') (hg : g < B) : OwnInts t W' g xs :=
  ⟨rowIs_below h.1 hb hg, h.2⟩

/-- What row j of a list of rows is, as a cell: a slice over block G j. -/
def rowCell (G : Nat → Nat) (rows : Rows2) (j : Nat) : Value := whole (G j) (rows.getD j []).length

/-- Rows that lie in blocks of their own, one behind the other, from block g on, all below block T. -/
def OwnRows (t u : TypeId) (W : World) (g T : Nat) (G : Nat → Nat) (rows : Rows2) : Prop :=
  W.rowIs g u rows.length (rowCell G rows) ∧ g < T ∧
    (∀ j, j < rows.length → g < G j ∧ G j < T ∧ OwnInts t W (G j) (rows.getD j [])) ∧ (∀ i j, i < j → j < rows.length → G i < G j)

theorem getD_lt {α : Type} {l : List α} {i : Nat} (d : α) (h : i < l.length) : l.getD i d = l[i] := by
  rw [List.getD_eq_getElem?_getD, List.getElem?_eq_getElem h]; rfl

theorem OwnRows.at {t u : TypeId} {W : World} {g T : Nat} {G : Nat → Nat} {rows : Rows2} (h : OwnRows t u W g T G rows) (hn : bulk rows ≤ maxLen) : RowsAt W (whole g rows.length) rows := by
  obtain ⟨h1, _, h2, _⟩ := h
  have hl : rows.length ≤ maxLen := by unfold bulk at hn; omega
  refine ⟨_, _, rfl, Nat.le_refl _, hl, fun i hi => ⟨g, 0, rowCell G rows i, rfl, by rw [Nat.zero_add, h1.cell hi], ?_⟩⟩
  obtain ⟨_, _, h5⟩ := h2 i hi
  have e := getD_lt [] hi
  have hr := bulk_row hi
  unfold rowCell
  rw [e] at h5 ⊢
  exact h5.at (by omega)

theorem OwnInts.setOther {t : TypeId} {W : World} {g : Nat} {xs : List Int} (h : OwnInts t W g xs) {a : Addr} (ha : g ≠ a.block) (v : Value) : OwnInts t (W.setCell a v) g xs :=
  ⟨h.1.setOther ha v, h.2⟩

theorem size_setCell (w : World) (a : Addr) (v : Value) : (w.setCell a v).heap.size = w.heap.size := by simp [World.setCell]

/-- A store ahead of the first block turns nothing. -/
theorem OwnRows.setLow {t u : TypeId} {W : World} {g T : Nat} {G : Nat → Nat} {rows : Rows2} (h : OwnRows t u W g T G rows) {a : Addr} (ha : a.block < g) (v : Value) : OwnRows t u (W.setCell a v) g T G rows := by
  obtain ⟨h1, h0, h2, h3⟩ := h
  refine ⟨h1.setOther (by omega) v, h0, fun j hj => ?_, h3⟩
  obtain ⟨b, c, d⟩ := h2 j hj
  exact ⟨b, c, d.setOther (by omega) v⟩

theorem OwnRows.below {t u : TypeId} {W W' : World} {g T : Nat} {G : Nat → Nat} {rows : Rows2} {B : Nat} (h : OwnRows t u W g T G rows) (hb : Below B W W') (hT : T ≤ B) : OwnRows t u W' g T G rows := by
  obtain ⟨h1, h0, h2, h3⟩ := h
  refine ⟨rowIs_below h1 hb (by omega), h0, fun j hj => ?_, h3⟩
  obtain ⟨a, b, c⟩ := h2 j hj
  exact ⟨a, b, c.below hb (by omega)⟩
end Go.Proofs.YtkhhbpeheikmfaaDoor
