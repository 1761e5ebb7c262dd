/- Grids: 200 rows of 256 bits in one block; the program's look at them (size, fitsAt, isOrder). -/
import Derived.Test.YtkhhbpeheikmfaaDoorFirst
import Derived.Laws.Rows
import Derived.Laws.Tables
import Derived.Deep.MidRow
namespace Go.Proofs.YtkhhbpeheikmfaaDoor
open Go.RowKit Go.Deep

/-- The cells of a grid. -/
def gridCells (g : Nat → Nat) : Array Value := Array.ofFn (n := 800) fun k => .int .u64 ((word (g (k.val / 4)) (k.val % 4) : Nat) : Int)
theorem gridCells_size (g : Nat → Nat) : (gridCells g).size = 800 := by unfold gridCells; simp
theorem gridCells_at (g : Nat → Nat) (i j : Nat) (hi : i < 200) (hj : j < 4) : (gridCells g)[4 * i + j]? = some (.int .u64 ((word (g i) j : Nat) : Int)) := by
  unfold gridCells
  rw [Array.getElem?_ofFn, dif_pos (by omega)]
  have h1 : (4 * i + j) / 4 = i := by omega
  have h2 : (4 * i + j) % 4 = j := by omega
  simp only [h1, h2]
theorem gridCells_ext {g : Nat → Nat} {cs : Array Value} (hs : cs.size = 800) (h : ∀ i j, i < 200 → j < 4 → cs[4 * i + j]? = some (.int .u64 ((word (g i) j : Nat) : Int))) : cs = gridCells g := by
  apply Array.ext_getElem?
  intro k
  by_cases hk : k < 800
  · have h1 := h (k / 4) (k % 4) (by omega) (by omega)
    have h2 := gridCells_at g (k / 4) (k % 4) (by omega) (by omega)
    rw [show 4 * (k / 4) + k % 4 = k by omega] at h1 h2
    rw [h1, h2]
  · rw [Array.getElem?_eq_none (by omega), Array.getElem?_eq_none (by rw [gridCells_size]; omega)]

/-- The grid g lies in block b. -/
def GridAt (W : World) (b : Nat) (g : Nat → Nat) : Prop := W.heap[b]? = some (.cells (gridCells g) 94 (0, 0)) ∧ ∀ i, g i < 2 ^ 256
theorem GridAt.below {W W' : World} {b B : Nat} {g : Nat → Nat} (h : GridAt W b g) (hb : Below B W W') (hB : b < B) : GridAt W' b g := ⟨by rw [hb.block b hB]; exact h.1, h.2⟩
theorem GridAt.lt {W : World} {b : Nat} {g : Nat → Nat} (h : GridAt W b g) : b < W.heap.size := by
  obtain ⟨hlt, _⟩ := Array.getElem?_eq_some_iff.1 h.1
  exact hlt
theorem GridAt.cell {W : World} {b : Nat} {g : Nat → Nat} (h : GridAt W b g) (i j : Nat) (hi : i < 200) (hj : j < 4) : W.cell? ⟨b, 4 * i + j, none⟩ = some (.int .u64 ((word (g i) j : Nat) : Int)) := by
  rw [cell_of_row W b _ _ _ _ h.1]
  exact gridCells_at g i j hi hj
/-- A row's four words, spelled as the walk spells them. -/
theorem GridAt.row {W : World} {b : Nat} {g : Nat → Nat} (h : GridAt W b g) (i : Nat) (hi : i < 200) :
    W.cell? ⟨b, i * 4, none⟩ = some (.int .u64 ((word (g i) 0 : Nat) : Int)) ∧ W.cell? ⟨b, i * 4 + 1, none⟩ = some (.int .u64 ((word (g i) 1 : Nat) : Int)) ∧
    W.cell? ⟨b, i * 4 + 2, none⟩ = some (.int .u64 ((word (g i) 2 : Nat) : Int)) ∧ W.cell? ⟨b, i * 4 + 3, none⟩ = some (.int .u64 ((word (g i) 3 : Nat) : Int)) := by
  rw [Nat.mul_comm]
  exact ⟨h.cell i 0 hi (by omega), h.cell i 1 hi (by omega), h.cell i 2 hi (by omega), h.cell i 3 hi (by omega)⟩
theorem GridAt.frozen {W : World} {b : Nat} {g : Nat → Nat} (h : GridAt W b g) (o : Nat) : W.frozen? ⟨b, o, none⟩ = false := frozen_of_row W b o _ _ h.1
/-- A word of a row is written. -/
theorem GridAt.set {W : World} {b : Nat} {g g' : Nat → Nat} (h : GridAt W b g) (i j : Nat) (hi : i < 200) (hj : j < 4) (x : Nat) (hg' : ∀ i, g' i < 2 ^ 256)
    (hw : ∀ i' j', i' < 200 → j' < 4 → word (g' i') j' = if i' = i ∧ j' = j then x else word (g i') j') : GridAt (W.setCell ⟨b, 4 * i + j, none⟩ (.int .u64 (x : Int))) b g' := by
  refine ⟨?_, hg'⟩
  have e : (gridCells g).setIfInBounds (4 * i + j) (.int .u64 (x : Int)) = gridCells g' := by
    apply gridCells_ext
    · simp [gridCells_size]
    · intro i' j' hi' hj'
      rw [Array.getElem?_setIfInBounds]
      by_cases e : i' = i ∧ j' = j
      · obtain ⟨rfl, rfl⟩ := e
        rw [if_pos rfl, if_pos (by rw [gridCells_size]; omega), hw _ _ hi' hj', if_pos ⟨rfl, rfl⟩]
      · rw [if_neg (by omega), gridCells_at g i' j' hi' hj', hw _ _ hi' hj', if_neg e]
  rw [heap_setCell_same W b _ _ _ _ h.1, e]
theorem GridAt.setOther {W : World} {b : Nat} {g : Nat → Nat} (h : GridAt W b g) {a : Addr} (ha : b ≠ a.block) (v : Value) : GridAt (W.setCell a v) b g :=
  ⟨by rw [heap_setCell_other W a b v ha]; exact h.1, h.2⟩

/-- The number n, and a world in which nothing that was there has turned. -/
def SaysI (n : Int) (w : World) (e : Ending) (w' : World) : Prop := e = .returned (.int .i64 n) ∧ Below w.heap.size w w'

set_option maxRecDepth 100000 in
set_option maxHeartbeats 2000000 in
theorem size_any (b n : Nat) (g : Nat → Nat) (w : World) (hg : GridAt w b g) (hn : n ≤ 200) (h0 : ∀ i, i < n → g i ≠ 0) (h1 : n < 200 → g n = 0) :
    Calls Tryd.prog 48 #[.pointer (some ⟨b, 0, none⟩)] w (SaysI n w) := by
  have HG := Lib.hid hg
  have H0 := Lib.hid h0
  have H1 := Lib.hid h1
  clear hg h0 h1
  go_enter Tryd.func48, Tryd.ntmps48
  go_wp2
  go_loopw [3] (fun kv wr => ∃ k : Nat, k ≤ n ∧ kv = .int .i64 k ∧ Below w.heap.size w wr) (fun kv _ => n - (intOf kv).toNat)
  case atStart => exact ⟨0, Nat.zero_le _, rfl, Below.refl _ _⟩
  case round =>
    obtain ⟨k, hk, rfl, hb⟩ := hrel
    have hG := HG.out.below hb HG.out.lt
    have HB := Lib.hid hb
    clear hb
    by_cases hlt : k < n
    · obtain ⟨c0, c1, c2, c3⟩ := hG.row k (by omega)
      have hcall := empty_any (g k) wr (hG.2 k)
      rw [decide_eq_false (H0.out k hlt)] at hcall
      have hk2 : k < 200 := by omega
      clear hG
      go_wp2_with (go_at_call 70; refine hcall.mono ?_; clear hcall; rintro e w1 ⟨rfl, hb1⟩)
      go_roundw
      case rel => exact ⟨k + 1, by omega, by go_num, HB.out.trans (hb1.mono HB.out.size)⟩
      case measure => simp [intOf]; omega
    · obtain rfl : k = n := by omega
      by_cases hk2 : k < 200
      · obtain ⟨c0, c1, c2, c3⟩ := hG.row k (by omega)
        have hcall := empty_any (g k) wr (hG.2 k)
        rw [decide_eq_true (H1.out hk2)] at hcall
        clear hG
        go_wp2_with (go_at_call 70; refine hcall.mono ?_; clear hcall; rintro e w1 ⟨rfl, hb1⟩)
        go_ret
        exact ⟨rfl, HB.out.trans (hb1.mono HB.out.size)⟩
      · clear hG
        go_wp2
        go_ret
        exact ⟨rfl, HB.out⟩
end Go.Proofs.YtkhhbpeheikmfaaDoor
