/- Rows closed under their steps: plain facts; '==' on grids. No function is walked here. -/
import Derived.Test.YtjlemkmpmjdjaaaDoorPa8
import Derived.Test.YtjlemkmpmjdjaaaDoorPa7
import Derived.Test.YtjlemkmpmjdjaaaDoorPa12
import Derived.Test.YtjlemkmpmjdjaaaDoorPa1
namespace Go.Proofs.YtjlemkmpmjdjaaaDoor
open Go.RowKit Go.Deep

theorem ClI.gridN {E : Nat → Nat → Prop} {n : Nat} {g : Nat → Nat} (h : ClI E n g) (hn : n ≤ 200) : GridN g n :=
  ⟨hn, fun i hi e => by have := h.own i hi; rw [e] at this; simp at this, fun _ => Nat.eq_of_testBit_eq fun j => by
    rw [Nat.zero_testBit]
    cases hb : (g n).testBit j with
    | false => rfl
    | true => have := (h.sound n j hb).1; omega⟩
theorem ClI.out {E : Nat → Nat → Prop} {n : Nat} {g : Nat → Nat} (h : ClI E n g) {i : Nat} (hi : n ≤ i) : g i = 0 := Nat.eq_of_testBit_eq fun j => by
  rw [Nat.zero_testBit]
  cases hb : (g i).testBit j with
  | false => rfl
  | true => have := (h.sound i j hb).1; omega
theorem ClI.elem {E : Nat → Nat → Prop} {n : Nat} {g : Nat → Nat} (h : ClI E n g) {i k : Nat} (hk : k ∈ elems (g i)) : k < n := (h.sound i k ((mem_elems (h.lt i)).1 hk)).2.1

theorem elems_zero : elems 0 = [] := List.eq_nil_iff_forall_not_mem.2 fun k hk => by
  rw [mem_elems (Nat.two_pow_pos 256), Nat.zero_testBit] at hk
  cases hk
/-- The next rows, while those of row i's elements l have been added. -/
def nextG (g : Nat → Nat) (i : Nat) (l : List Nat) (q : Nat) : Nat := if q < i then stepG g q else if q = i then l.foldl (fun r k => r ||| g k) (g i) else g q
theorem nextG_start (g : Nat → Nat) : nextG g 0 [] = g := by
  funext q
  unfold nextG
  rw [if_neg (Nat.not_lt_zero _)]
  split
  · rename_i e; rw [e]; rfl
  · rfl
theorem nextG_snoc (g : Nat → Nat) (i : Nat) (l : List Nat) (k : Nat) : nextG g i (l ++ [k]) = fun j => if j = i then nextG g i l i ||| g k else nextG g i l j := by
  funext q
  unfold nextG
  by_cases e : q = i
  · subst e
    rw [if_neg (Nat.lt_irrefl _), if_pos rfl, if_pos rfl, if_neg (Nat.lt_irrefl _), if_pos rfl, List.foldl_append]
    rfl
  · by_cases e2 : q < i
    · simp [e, e2]
    · simp [e, e2]
theorem nextG_next (g : Nat → Nat) (i : Nat) : nextG g i (elems (g i)) = nextG g (i + 1) [] := by
  funext q
  unfold nextG
  by_cases e : q = i
  · subst e
    rw [if_neg (Nat.lt_irrefl _), if_pos rfl, if_pos (Nat.lt_succ_self _)]
    rfl
  · by_cases e2 : q < i
    · rw [if_pos e2, if_pos (by omega)]
    · rw [if_neg e2, if_neg e, if_neg (by omega)]
      split
      · rename_i e3; rw [e3]; rfl
      · rfl
theorem nextG_done {E : Nat → Nat → Prop} {n : Nat} {g : Nat → Nat} (h : ClI E n g) : nextG g n [] = stepG g := by
  funext q
  unfold nextG
  by_cases e2 : q < n
  · rw [if_pos e2]
  · have hz := h.out (i := q) (by omega)
    have hs : stepG g q = g q := by
      unfold stepG
      rw [hz, elems_zero]
      rfl
    rw [if_neg e2, hs]
    split
    · rename_i e; rw [e]; rfl
    · rfl
theorem nextG_lt {g : Nat → Nat} (hg : ∀ k, g k < 2 ^ 256) (i : Nat) (l : List Nat) (q : Nat) : nextG g i l q < 2 ^ 256 := by
  unfold nextG
  split
  · exact or_lt g hg _ _ (hg _)
  · split
    · exact or_lt g hg _ _ (hg _)
    · exact hg _
/-- How many bits may still be added. -/
theorem pop_step {E : Nat → Nat → Prop} {n : Nat} {g : Nat → Nat} (h : ClI E n g) (hne : stepG g ≠ g) : popG g n < popG (stepG g) n := by
  have hex : ∃ i, i < n ∧ stepG g i ≠ g i := by
    refine Classical.byContradiction fun hno => hne (funext fun i => ?_)
    by_cases hi : i < n
    · exact Classical.byContradiction fun e => hno ⟨i, hi, e⟩
    · rw [h.out (i := i) (by omega)]
      unfold stepG
      rw [h.out (i := i) (by omega), elems_zero]
      rfl
  obtain ⟨i, hi, hd⟩ := hex
  exact popG_lt (fun i j hb => (stepG_bit g i j).2 (.inl hb)) h.step.lt hd (h.lt i) n hi

/-- A row of a grid, out of its cells. -/
theorem grid_part (g : Nat → Nat) (i : Nat) (hi : i < 200) (w : World) : (part 58 (gridCells g) (i * 4)).run Tryd.prog w = .ok (rowV (g i)) w := by
  have ha : (isAgg 58).run Tryd.prog w = .ok true w := by kernel_rfl
  have hz : (sizeOf 58).run Tryd.prog w = .ok 4 w := by kernel_rfl
  have he : (gridCells g).extract (i * 4) (i * 4 + 4) = #[.int .u64 ((word (g i) 0 : Nat) : Int), .int .u64 ((word (g i) 1 : Nat) : Int), .int .u64 ((word (g i) 2 : Nat) : Int), .int .u64 ((word (g i) 3 : Nat) : Int)] := by
    apply Array.ext_getElem?
    intro j
    rw [Array.getElem?_extract, gridCells_size]
    by_cases hj : j < 4
    · rw [if_pos (by omega), show i * 4 + j = 4 * i + j by omega, gridCells_at g i j hi hj]
      obtain rfl | rfl | rfl | rfl : j = 0 ∨ j = 1 ∨ j = 2 ∨ j = 3 := by omega
      all_goals rfl
    · rw [if_neg (by omega), Array.getElem?_eq_none (by simp; omega)]
  simp only [part, Sem.run_bind, ha, Result.andThen_ok, if_true, hz, he, Sem.run_pure]
/-- '==' on grids. -/
theorem run_eqGrid (d : Nat) (g h : Nat → Nat) (hg : ∀ i, g i < 2 ^ 256) (hh : ∀ i, h i < 2 ^ 256) (w : World) :
    (Op.equalIn (d + 3) 60 (.agg (gridCells g)) (.agg (gridCells h))).run Tryd.prog w = .ok ((List.range 200).all fun i => decide (g i = h i)) w := by
  refine run_eq_array (P := Tryd.prog) (d + 2) 200 4 60 58 (gridCells g) (gridCells h) (fun i => decide (g i = h i)) Tryd.underlying60 (fun w => by kernel_rfl) (fun i hi => ⟨_, _, fun w => grid_part g i hi w, fun w => grid_part h i hi w, fun w => ?_⟩) w
  have := run_eq4 d ((word (g i) 0 : Nat) : Int) ((word (g i) 1 : Nat) : Int) ((word (g i) 2 : Nat) : Int) ((word (g i) 3 : Nat) : Int) ((word (h i) 0 : Nat) : Int) ((word (h i) 1 : Nat) : Int) ((word (h i) 2 : Nat) : Int) ((word (h i) 3 : Nat) : Int) w
  rw [row_eq (hg i) (hh i)] at this
  exact this
theorem grid_all {E E' : Nat → Nat → Prop} {n : Nat} {g h : Nat → Nat} (hg : ClI E n g) (hh : ClI E' n h) (hn : n ≤ 200) : ((List.range 200).all fun i => decide (g i = h i)) = true ↔ g = h := by
  rw [List.all_eq_true]
  constructor
  · intro hall
    funext i
    by_cases hi : i < 200
    · exact of_decide_eq_true (hall i (List.mem_range.2 hi))
    · rw [hg.out (i := i) (by omega), hh.out (i := i) (by omega)]
  · rintro rfl i _
    exact decide_eq_true rfl
/-- Four stores into one block: the other blocks are as they were. -/
theorem heap_four (W : World) (b o0 o1 o2 o3 : Nat) (v0 v1 v2 v3 : Value) (c : Nat) (h : c ≠ b) : ((((W.setCell ⟨b, o0, none⟩ v0).setCell ⟨b, o1, none⟩ v1).setCell ⟨b, o2, none⟩ v2).setCell ⟨b, o3, none⟩ v3).heap[c]? = W.heap[c]? :=
  (Below.heap_setCell _ _ _ c h).trans ((Below.heap_setCell _ _ _ c h).trans ((Below.heap_setCell _ _ _ c h).trans (Below.heap_setCell _ _ _ c h)))
theorem cell_four {W : World} {b o0 o1 o2 o3 : Nat} {v0 v1 v2 v3 : Value} {c o : Nat} {x : Value} (hc : W.cell? ⟨c, o, none⟩ = some x) (h : c ≠ b) : ((((W.setCell ⟨b, o0, none⟩ v0).setCell ⟨b, o1, none⟩ v1).setCell ⟨b, o2, none⟩ v2).setCell ⟨b, o3, none⟩ v3).cell? ⟨c, o, none⟩ = some x := by
  have e := World.cell?_of_block (a := ⟨c, o, none⟩) (heap_four W b o0 o1 o2 o3 v0 v1 v2 v3 c h)
  exact e.trans hc
/-- A row is written, word by word. -/
theorem GridAt.setRow4 {W : World} {b : Nat} {g : Nat → Nat} (h : GridAt W b g) {m X : Nat} (hm : m < 200) (hX : X < 2 ^ 256) :
    GridAt ((((W.setCell ⟨b, m * 4, none⟩ (.int .u64 ((word X 0 : Nat) : Int))).setCell ⟨b, m * 4 + 1, none⟩ (.int .u64 ((word X 1 : Nat) : Int))).setCell ⟨b, m * 4 + 2, none⟩ (.int .u64 ((word X 2 : Nat) : Int))).setCell ⟨b, m * 4 + 3, none⟩ (.int .u64 ((word X 3 : Nat) : Int))) b (fun q => if q = m then X else g q) := by
  refine ⟨?_, fun i => by
    show (if i = m then X else g i) < 2 ^ 256
    split
    · exact hX
    · exact h.2 i⟩
  rw [heap_setCell_same _ b _ _ _ _ (heap_setCell_same _ b _ _ _ _ (heap_setCell_same _ b _ _ _ _ (heap_setCell_same W b _ _ _ _ h.1)))]
  rw [show (((((gridCells g).setIfInBounds (m * 4) (.int .u64 ((word X 0 : Nat) : Int))).setIfInBounds (m * 4 + 1) (.int .u64 ((word X 1 : Nat) : Int))).setIfInBounds (m * 4 + 2) (.int .u64 ((word X 2 : Nat) : Int))).setIfInBounds (m * 4 + 3) (.int .u64 ((word X 3 : Nat) : Int))) = gridCells (fun q => if q = m then X else g q) from ?_]
  apply gridCells_ext
  · simp [gridCells_size]
  · intro i j hi hj
    simp only [Array.getElem?_setIfInBounds, Array.size_setIfInBounds, gridCells_size]
    by_cases e : i = m
    · subst e
      rw [if_pos rfl]
      obtain rfl | rfl | rfl | rfl : j = 0 ∨ j = 1 ∨ j = 2 ∨ j = 3 := by omega
      · rw [if_neg (by omega), if_neg (by omega), if_neg (by omega), if_pos (by omega), if_pos (by omega)]
      · rw [if_neg (by omega), if_neg (by omega), if_pos (by omega), if_pos (by omega)]
      · rw [if_neg (by omega), if_pos (by omega), if_pos (by omega)]
      · rw [if_pos (by omega), if_pos (by omega)]
    · rw [if_neg (by omega), if_neg (by omega), if_neg (by omega), if_neg (by omega), if_neg e, gridCells_at g i j hi hj]
end Go.Proofs.YtjlemkmpmjdjaaaDoor
