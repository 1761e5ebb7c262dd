/- The least number in a row (first), by the library's look-up of trailing zeros. -/
import Derived.Test.YtkomghohdhengaaDoorPc3
import Derived.Lib.TrailingZeros
import Derived.Shelf.Spec.TrailingZeros
import Derived.Laws.Rows
import Derived.Laws.Tables
import Derived.Deep.MidRow
import Derived.IntWalk
import Derived.Test.YtkomghohdhengaaDoorPc1
import Derived.Lib.SliceRun
import Derived.Laws.CopyRow
import Derived.Laws.CopyOwn
import Derived.Deep.RegionLaw
import Derived.Laws.Bits64b
import Derived.Test.YtkomghohdhengaaDoorCards
import Derived.Test.YtkomghohdhengaaDoorTie
import Derived.Lib.LaidTab
import Derived.Lib.SmallJoins
import Derived.OpenShut
import Derived.Deep.DeepHandedRow
namespace Go.Proofs.YtkomghohdhengaaDoor
open Go.RowKit Go.Deep

/-- The library's table, as its initialiser lays it. -/
def Tab (w : World) : Prop := ∀ j, j < 64 → w.cell? ⟨0, j, none⟩ = some (.int .u8 ((Lib.deBruijn64tab.getD j 0 : Nat) : Int))
theorem Tab.below {w w' : World} (h : Tab w) (hb : Below w.heap.size w w') : Tab w' := fun j hj => by
  have := h j hj
  rw [hb.cell (p := ⟨0, j, none⟩) (cell_lt this)]
  exact this

set_option maxHeartbeats 1000000 in
theorem tz_core (x k idx : Nat) (w : World) (hx0 : ((x : Int) == 0) = false)
    (key : IntKind.u64.wrap (bits BinOp.and IntKind.u64 (x : Int) (IntKind.u64.wrap (-(x : Int))) * 285870213051353865) / 288230376151711744 = (idx : Int))
    (hi : idx < 64) (hk : k < 64) (hcell : w.cell? ⟨0, idx, none⟩ = some (.int .u8 k)) :
    Calls Tryd.prog 160 #[.int .u64 x] w fun e w' => e = .returned (.int .i64 k) ∧ w = w' := by
  go_enter Tryd.func160, Tryd.ntmps160
  go_wp2_with (simp only [key])
  go_ret
  exact ⟨rfl, rfl⟩

theorem tz_any (x : Nat) (hx : x < 18446744073709551616) (hx0 : x ≠ 0) (w : World) (hT : Tab w) :
    Calls Tryd.prog 160 #[.int .u64 x] w fun e w' => e = .returned (.int .i64 (Lib.ctz 64 x)) ∧ w = w' := by
  obtain ⟨hlow, hk⟩ := Lib.lowest_bit 64 x hx0 hx
  obtain ⟨hi, htab⟩ := Lib.deBruijn64_at _ hk
  have hcell := hT _ hi
  rw [htab] at hcell
  exact tz_core x _ _ w (by simp; omega) (tz64_key x _ hx hx0 hlow) hi hk hcell

/-- The lowest bit of a number. -/
theorem ctz_low (x : Nat) (hx0 : x ≠ 0) (hx : x < 2 ^ 64) : x.testBit (Lib.ctz 64 x) = true ∧ (∀ j, j < Lib.ctz 64 x → x.testBit j = false) ∧ Lib.ctz 64 x < 64 := by
  obtain ⟨m, hm, hlt⟩ := Lib.ctzFrom_spec 64 x (by omega) hx
  have e : Lib.ctz 64 x = Lib.ctzFrom 64 x := by unfold Lib.ctz; rw [if_neg hx0]
  rw [e]
  generalize Lib.ctzFrom 64 x = k at hm hlt
  refine ⟨?_, fun j hj => ?_, hlt⟩
  · rw [hm, Nat.testBit_eq_decide_div_mod_eq, Nat.mul_div_cancel_left _ (Nat.two_pow_pos _), decide_eq_true_iff]
    omega
  · rw [hm, Nat.mul_comm, Nat.testBit_mul_two_pow]
    simp; omega

/-- Number k is the least one in r. -/
def Least (r k : Nat) : Prop := r.testBit k = true ∧ ∀ j, j < k → r.testBit j = false

theorem least_of_word {r j : Nat} (h : ∀ i, i < j → word r i = 0) (h0 : word r j ≠ 0) : Least r (64 * j + Lib.ctz 64 (word r j)) := by
  obtain ⟨h1, h2, h3⟩ := ctz_low (word r j) h0 (word_lt64 r j)
  rw [testBit_word] at h1
  simp only [h3, decide_true, Bool.true_and] at h1
  refine ⟨h1, fun i hi => ?_⟩
  by_cases hij : i / 64 < j
  · have h4 := testBit_word r (i / 64) (i % 64)
    rw [h _ hij, show 64 * (i / 64) + i % 64 = i by omega] at h4
    have h5 : i % 64 < 64 := Nat.mod_lt _ (by decide)
    simpa [h5] using h4.symm
  · have h4 := testBit_word r j (i - 64 * j)
    rw [h2 _ (by omega), show 64 * j + (i - 64 * j) = i by omega] at h4
    have h5 : i - 64 * j < 64 := by omega
    simpa [h5] using h4.symm

/-- The least number of a row that is not empty. -/
def FirstPost (r : Nat) (w : World) (e : Ending) (w' : World) : Prop := ∃ k, Least r k ∧ e = .returned (.int .i64 (k : Nat)) ∧ Below w.heap.size w w'

set_option maxHeartbeats 4000000 in
theorem first_any (r : Nat) (w : World) (hr : r < 2 ^ 256) (h0 : r ≠ 0) (hT : Tab w) : Calls Tryd.prog 166 #[rowV r] w (FirstPost r w) := by
  have i0 := ix0
  have i1 := ix1
  have i2 := ix2
  have i3 := ix3
  have b1 : Below w.heap.size w (w.alloc (.cells #[.int .u64 ((word r 0 : Nat) : Int), .int .u64 ((word r 1 : Nat) : Int), .int .u64 ((word r 2 : Nat) : Int), .int .u64 ((word r 3 : Nat) : Int)] 91)) := (Below.refl _ w).alloc (Nat.le_refl _) _
  have hT1 := hT.below b1
  have hcase : (word r 0 ≠ 0) ∨ (word r 0 = 0 ∧ word r 1 ≠ 0) ∨ (word r 0 = 0 ∧ word r 1 = 0 ∧ word r 2 ≠ 0) ∨ (word r 0 = 0 ∧ word r 1 = 0 ∧ word r 2 = 0 ∧ word r 3 ≠ 0) := by
    by_cases a : word r 0 = 0
    · by_cases b : word r 1 = 0
      · by_cases c : word r 2 = 0
        · by_cases d : word r 3 = 0
          · exact absurd (of_words hr (Nat.two_pow_pos 256) (s := 0) (fun j hj => by
              rw [word_zero]
              obtain rfl | rfl | rfl | rfl : j = 0 ∨ j = 1 ∨ j = 2 ∨ j = 3 := by omega
              · exact a
              · exact b
              · exact c
              · exact d)) h0
          · exact .inr (.inr (.inr ⟨a, b, c, d⟩))
        · exact .inr (.inr (.inl ⟨a, b, c⟩))
      · exact .inr (.inl ⟨a, b⟩)
    · exact .inl a
  have hword : ∀ j, (∀ i, i < j → word r i = 0) → word r j ≠ 0 → ∃ c, c < 64 ∧ Least r (64 * j + c) ∧ Calls Tryd.prog 160 #[.int .u64 ((word r j : Nat) : Int)] (w.alloc (.cells #[.int .u64 ((word r 0 : Nat) : Int), .int .u64 ((word r 1 : Nat) : Int), .int .u64 ((word r 2 : Nat) : Int), .int .u64 ((word r 3 : Nat) : Int)] 91)) fun e w' => e = .returned (.int .i64 (c : Nat)) ∧ (w.alloc (.cells #[.int .u64 ((word r 0 : Nat) : Int), .int .u64 ((word r 1 : Nat) : Int), .int .u64 ((word r 2 : Nat) : Int), .int .u64 ((word r 3 : Nat) : Int)] 91)) = w' := fun j hj h =>
    ⟨_, (ctz_low _ h (word_lt64 r j)).2.2, least_of_word hj h, tz_any _ (word_lt r j) h _ hT1⟩
  have HB := Lib.hid b1
  clear hT hT1 b1 hr h0
  rcases hcase with h | ⟨h0, h⟩ | ⟨h0, h1, h⟩ | ⟨h0, h1, h2, h⟩
  · obtain ⟨c, hc, hl, hcall⟩ := hword 0 (fun i hi => absurd hi (Nat.not_lt_zero _)) h
    have n0 : (((word r 0 : Nat) : Int) != 0) = true := bne_iff_ne.2 (by omega)
    have HL := Lib.hid hl
    clear hl h hword
    go_enter Tryd.func166, Tryd.ntmps166
    go_wp2
    refine wp_loop_rounds 5 ?_
    rw [rounds_succ]
    go_wp2_with (go_at_call 160; refine hcall.mono ?_; clear hcall; rintro e w' ⟨rfl, rfl⟩)
    go_ret
    exact ⟨c, by simpa using HL.out, rfl, HB.out⟩
  · obtain ⟨c, hc, hl, hcall⟩ := hword 1 (fun i hi => by obtain rfl : i = 0 := (by omega); exact h0) h
    have n0 : (((word r 0 : Nat) : Int) != 0) = false := by rw [h0]; rfl
    have n1 : (((word r 1 : Nat) : Int) != 0) = true := bne_iff_ne.2 (by omega)
    have HL := Lib.hid hl
    clear hl h hword h0
    go_enter Tryd.func166, Tryd.ntmps166
    go_wp2
    refine wp_loop_rounds 5 ?_
    iterate 2 (rw [rounds_succ]; go_wp2_with (go_at_call 160; refine hcall.mono ?_; clear hcall; rintro e w' ⟨rfl, rfl⟩))
    go_ret
    exact ⟨64 + c, by simpa using HL.out, rfl, HB.out⟩
  · obtain ⟨c, hc, hl, hcall⟩ := hword 2 (fun i hi => by obtain rfl | rfl : i = 0 ∨ i = 1 := (by omega) <;> assumption) h
    have n0 : (((word r 0 : Nat) : Int) != 0) = false := by rw [h0]; rfl
    have n1 : (((word r 1 : Nat) : Int) != 0) = false := by rw [h1]; rfl
    have n2 : (((word r 2 : Nat) : Int) != 0) = true := bne_iff_ne.2 (by omega)
    have HL := Lib.hid hl
    clear hl h hword h0 h1
    go_enter Tryd.func166, Tryd.ntmps166
    go_wp2
    refine wp_loop_rounds 5 ?_
    iterate 3 (rw [rounds_succ]; go_wp2_with (go_at_call 160; refine hcall.mono ?_; clear hcall; rintro e w' ⟨rfl, rfl⟩))
    go_ret
    exact ⟨128 + c, by simpa using HL.out, rfl, HB.out⟩
  · obtain ⟨c, hc, hl, hcall⟩ := hword 3 (fun i hi => by obtain rfl | rfl | rfl : i = 0 ∨ i = 1 ∨ i = 2 := (by omega) <;> assumption) h
    have n0 : (((word r 0 : Nat) : Int) != 0) = false := by rw [h0]; rfl
    have n1 : (((word r 1 : Nat) : Int) != 0) = false := by rw [h1]; rfl
    have n2 : (((word r 2 : Nat) : Int) != 0) = false := by rw [h2]; rfl
    have n3 : (((word r 3 : Nat) : Int) != 0) = true := bne_iff_ne.2 (by omega)
    have HL := Lib.hid hl
    clear hl h hword h0 h1 h2
    go_enter Tryd.func166, Tryd.ntmps166
    go_wp2
    refine wp_loop_rounds 5 ?_
    iterate 4 (rw [rounds_succ]; go_wp2_with (go_at_call 160; refine hcall.mono ?_; clear hcall; rintro e w' ⟨rfl, rfl⟩))
    go_ret
    exact ⟨192 + c, by simpa using HL.out, rfl, HB.out⟩
end Go.Proofs.YtkomghohdhengaaDoor

/- Grids: 200 rows of 256 bits in one block; the program's look at them (size, fitsAt, isOrder). -/
namespace Go.Proofs.YtkomghohdhengaaDoor
open Go.RowKit Go.Deep

/-- The cells of a grid. -/
def gridCells (g : Nat → Nat) : Array Value := Array.ofFn (n := 800) fun k => .int .u64 ((word (g (k.val / 4)) (k.val % 4) : Nat) : Int)
theorem gridCells_size (g : Nat → Nat) : (gridCells g).size = 800 := by unfold gridCells; simp
theorem gridCells_at (g : Nat → Nat) (i j : Nat) (hi : i < 200) (hj : j < 4) : (gridCells g)[4 * i + j]? = some (.int .u64 ((word (g i) j : Nat) : Int)) := by
  unfold gridCells
  rw [Array.getElem?_ofFn, dif_pos (by omega)]
  have h1 : (4 * i + j) / 4 = i := by omega
  have h2 : (4 * i + j) % 4 = j := by omega
  simp only [h1, h2]
theorem gridCells_ext {g : Nat → Nat} {cs : Array Value} (hs : cs.size = 800) (h : ∀ i j, i < 200 → j < 4 → cs[4 * i + j]? = some (.int .u64 ((word (g i) j : Nat) : Int))) : cs = gridCells g := by
  apply Array.ext_getElem?
  intro k
  by_cases hk : k < 800
  · have h1 := h (k / 4) (k % 4) (by omega) (by omega)
    have h2 := gridCells_at g (k / 4) (k % 4) (by omega) (by omega)
    rw [show 4 * (k / 4) + k % 4 = k by omega] at h1 h2
    rw [h1, h2]
  · rw [Array.getElem?_eq_none (by omega), Array.getElem?_eq_none (by rw [gridCells_size]; omega)]

/-- The grid g lies in block b. -/
def GridAt (W : World) (b : Nat) (g : Nat → Nat) : Prop := W.heap[b]? = some (.cells (gridCells g) 93 (0, 0)) ∧ ∀ i, g i < 2 ^ 256
theorem GridAt.below {W W' : World} {b B : Nat} {g : Nat → Nat} (h : GridAt W b g) (hb : Below B W W') (hB : b < B) : GridAt W' b g := ⟨by rw [hb.block b hB]; exact h.1, h.2⟩
theorem GridAt.lt {W : World} {b : Nat} {g : Nat → Nat} (h : GridAt W b g) : b < W.heap.size := by
  obtain ⟨hlt, _⟩ := Array.getElem?_eq_some_iff.1 h.1
  exact hlt
theorem GridAt.cell {W : World} {b : Nat} {g : Nat → Nat} (h : GridAt W b g) (i j : Nat) (hi : i < 200) (hj : j < 4) : W.cell? ⟨b, 4 * i + j, none⟩ = some (.int .u64 ((word (g i) j : Nat) : Int)) := by
  rw [cell_of_row W b _ _ _ _ h.1]
  exact gridCells_at g i j hi hj
/-- A row's four words, spelled as the walk spells them. -/
theorem GridAt.row {W : World} {b : Nat} {g : Nat → Nat} (h : GridAt W b g) (i : Nat) (hi : i < 200) :
    W.cell? ⟨b, i * 4, none⟩ = some (.int .u64 ((word (g i) 0 : Nat) : Int)) ∧ W.cell? ⟨b, i * 4 + 1, none⟩ = some (.int .u64 ((word (g i) 1 : Nat) : Int)) ∧
    W.cell? ⟨b, i * 4 + 2, none⟩ = some (.int .u64 ((word (g i) 2 : Nat) : Int)) ∧ W.cell? ⟨b, i * 4 + 3, none⟩ = some (.int .u64 ((word (g i) 3 : Nat) : Int)) := by
  rw [Nat.mul_comm]
  exact ⟨h.cell i 0 hi (by omega), h.cell i 1 hi (by omega), h.cell i 2 hi (by omega), h.cell i 3 hi (by omega)⟩
theorem GridAt.frozen {W : World} {b : Nat} {g : Nat → Nat} (h : GridAt W b g) (o : Nat) : W.frozen? ⟨b, o, none⟩ = false := frozen_of_row W b o _ _ h.1
/-- A word of a row is written. -/
theorem GridAt.set {W : World} {b : Nat} {g g' : Nat → Nat} (h : GridAt W b g) (i j : Nat) (hi : i < 200) (hj : j < 4) (x : Nat) (hg' : ∀ i, g' i < 2 ^ 256)
    (hw : ∀ i' j', i' < 200 → j' < 4 → word (g' i') j' = if i' = i ∧ j' = j then x else word (g i') j') : GridAt (W.setCell ⟨b, 4 * i + j, none⟩ (.int .u64 (x : Int))) b g' := by
  refine ⟨?_, hg'⟩
  have e : (gridCells g).setIfInBounds (4 * i + j) (.int .u64 (x : Int)) = gridCells g' := by
    apply gridCells_ext
    · simp [gridCells_size]
    · intro i' j' hi' hj'
      rw [Array.getElem?_setIfInBounds]
      by_cases e : i' = i ∧ j' = j
      · obtain ⟨rfl, rfl⟩ := e
        rw [if_pos rfl, if_pos (by rw [gridCells_size]; omega), hw _ _ hi' hj', if_pos ⟨rfl, rfl⟩]
      · rw [if_neg (by omega), gridCells_at g i' j' hi' hj', hw _ _ hi' hj', if_neg e]
  rw [heap_setCell_same W b _ _ _ _ h.1, e]
theorem GridAt.setOther {W : World} {b : Nat} {g : Nat → Nat} (h : GridAt W b g) {a : Addr} (ha : b ≠ a.block) (v : Value) : GridAt (W.setCell a v) b g :=
  ⟨by rw [heap_setCell_other W a b v ha]; exact h.1, h.2⟩

/-- The number n, and a world in which nothing that was there has turned. -/
def SaysI (n : Int) (w : World) (e : Ending) (w' : World) : Prop := e = .returned (.int .i64 n) ∧ Below w.heap.size w w'

set_option maxRecDepth 100000 in
set_option maxHeartbeats 2000000 in
theorem size_any (b n : Nat) (g : Nat → Nat) (w : World) (hg : GridAt w b g) (hn : n ≤ 200) (h0 : ∀ i, i < n → g i ≠ 0) (h1 : n < 200 → g n = 0) :
    Calls Tryd.prog 106 #[.pointer (some ⟨b, 0, none⟩)] w (SaysI n w) := by
  have HG := Lib.hid hg
  have H0 := Lib.hid h0
  have H1 := Lib.hid h1
  clear hg h0 h1
  go_enter Tryd.func106, Tryd.ntmps106
  go_wp2
  go_loopw [3] (fun kv wr => ∃ k : Nat, k ≤ n ∧ kv = .int .i64 k ∧ Below w.heap.size w wr) (fun kv _ => n - (intOf kv).toNat)
  case atStart => exact ⟨0, Nat.zero_le _, rfl, Below.refl _ _⟩
  case round =>
    obtain ⟨k, hk, rfl, hb⟩ := hrel
    have hG := HG.out.below hb HG.out.lt
    have HB := Lib.hid hb
    clear hb
    by_cases hlt : k < n
    · obtain ⟨c0, c1, c2, c3⟩ := hG.row k (by omega)
      have hcall := empty_any (g k) wr (hG.2 k)
      rw [decide_eq_false (H0.out k hlt)] at hcall
      have hk2 : k < 200 := by omega
      clear hG
      go_wp2_with (go_at_call 142; refine hcall.mono ?_; clear hcall; rintro e w1 ⟨rfl, hb1⟩)
      go_roundw
      case rel => exact ⟨k + 1, by omega, by go_num, HB.out.trans (hb1.mono HB.out.size)⟩
      case measure => simp [intOf]; omega
    · obtain rfl : k = n := by omega
      by_cases hk2 : k < 200
      · obtain ⟨c0, c1, c2, c3⟩ := hG.row k (by omega)
        have hcall := empty_any (g k) wr (hG.2 k)
        rw [decide_eq_true (H1.out hk2)] at hcall
        clear hG
        go_wp2_with (go_at_call 142; refine hcall.mono ?_; clear hcall; rintro e w1 ⟨rfl, hb1⟩)
        go_ret
        exact ⟨rfl, HB.out.trans (hb1.mono HB.out.size)⟩
      · clear hG
        go_wp2
        go_ret
        exact ⟨rfl, HB.out⟩
end Go.Proofs.YtkomghohdhengaaDoor

/- The number of bits of a word (OnesCount64): some number that is not large; what more it is, nobody asks here. -/
namespace Go.Proofs.YtkomghohdhengaaDoor
open Go.RowKit Go.Deep

/-- A number that is not large, and the same world. -/
def SmallN (m : Nat) (w : World) (e : Ending) (w' : World) : Prop := (∃ c : Nat, c ≤ m ∧ e = .returned (.int .i64 (c : Nat))) ∧ w = w'

theorem and127 (y : Int) : ∃ c : Nat, c ≤ 127 ∧ Ending.returned (.int .i64 (bits BinOp.and IntKind.i64 y 127)) = .returned (.int .i64 (c : Nat)) := by
  have h1 : (BitVec.ofInt 64 (127 : Int)).toNat = 127 := by decide
  have h2 : (BitVec.ofInt 64 y &&& BitVec.ofInt 64 127).toNat = (BitVec.ofInt 64 y).toNat % 128 := by rw [BitVec.toNat_and, h1, nat_mask7]
  have h3 : bits BinOp.and IntKind.i64 y 127 = (((BitVec.ofInt 64 y).toNat % 128 : Nat) : Int) := by
    show IntKind.i64.wrap ((BitVec.ofInt 64 y &&& BitVec.ofInt 64 127).toNat : Int) = _
    rw [h2]
    exact IntWalk.i64_in _ (by omega)
  exact ⟨(BitVec.ofInt 64 y).toNat % 128, by omega, by rw [h3]⟩

set_option maxRecDepth 100000 in
set_option maxHeartbeats 4000000 in
theorem ones_any (x : Nat) (w : World) : Calls Tryd.prog 173 #[.int .u64 x] w (SmallN 127 w) := by
  go_enter Tryd.func173, Tryd.ntmps173
  go_wp2
  go_ret
  exact ⟨and127 _, rfl⟩

/-- A number that is not large; nothing that was there has turned. -/
def SmallB (m : Nat) (w : World) (e : Ending) (w' : World) : Prop := (∃ c : Nat, c ≤ m ∧ e = .returned (.int .i64 (c : Nat))) ∧ Below w.heap.size w w'

set_option maxRecDepth 100000 in
set_option maxHeartbeats 4000000 in
theorem count_any (r : Nat) (w : World) : Calls Tryd.prog 167 #[rowV r] w (SmallB 1000 w) := by
  have i0 := ix0
  have i1 := ix1
  have i2 := ix2
  have i3 := ix3
  have HB : Hid (Below w.heap.size w (w.alloc (.cells #[.int .u64 ((word r 0 : Nat) : Int), .int .u64 ((word r 1 : Nat) : Int), .int .u64 ((word r 2 : Nat) : Int), .int .u64 ((word r 3 : Nat) : Int)] 91))) := Lib.hid ((Below.refl _ w).alloc (Nat.le_refl _) _)
  go_enter Tryd.func167, Tryd.ntmps167
  go_wp2
  refine wp_loop_rounds 5 ?_
  rw [rounds_succ]
  go_wp2_with fail
  refine (ones_any _ _).mono ?_
  rintro e w' ⟨⟨a0, h0, rfl⟩, rfl⟩
  go_wp2
  rw [rounds_succ]
  go_wp2_with fail
  refine (ones_any _ _).mono ?_
  rintro e w' ⟨⟨a1, h1, rfl⟩, rfl⟩
  go_wp2
  rw [rounds_succ]
  go_wp2_with fail
  refine (ones_any _ _).mono ?_
  rintro e w' ⟨⟨a2, h2, rfl⟩, rfl⟩
  go_wp2
  rw [rounds_succ]
  go_wp2_with fail
  refine (ones_any _ _).mono ?_
  rintro e w' ⟨⟨a3, h3, rfl⟩, rfl⟩
  go_wp2
  rw [rounds_succ]
  go_wp2
  go_ret
  exact ⟨⟨a0 + a1 + a2 + a3, by omega, by simp⟩, HB.out⟩
end Go.Proofs.YtkomghohdhengaaDoor

/- A slice of rows (sets of elements) in memory, and its clone. -/
namespace Go.Proofs.YtkomghohdhengaaDoor
open Go.RowKit Go.Deep

/-- n rows O lie in block b from its start on. -/
def RwAt (W : World) (b n : Nat) (O : Nat → Nat) : Prop :=
  ∃ c : Array Value, W.heap[b]? = some (.cells c 91 (0, 0)) ∧ (∀ j i, j < n → i < 4 → c[j * 4 + i]? = some (.int .u64 ((word (O j) i : Nat) : Int))) ∧ ∀ j, j < n → O j < 2 ^ 256
theorem RwAt.lt {W : World} {b n : Nat} {O : Nat → Nat} (h : RwAt W b n O) : b < W.heap.size := by
  obtain ⟨c, h, _⟩ := h
  exact (Array.getElem?_eq_some_iff.1 h).1
theorem RwAt.block {W W' : World} {b n : Nat} {O : Nat → Nat} (h : RwAt W b n O) (e : W'.heap[b]? = W.heap[b]?) : RwAt W' b n O := by
  obtain ⟨c, h1, h2⟩ := h
  exact ⟨c, e.trans h1, h2⟩
theorem RwAt.below {W W' : World} {b n B : Nat} {O : Nat → Nat} (h : RwAt W b n O) (hb : Below B W W') (hB : b < B) : RwAt W' b n O := h.block (hb.block b hB)
theorem RwAt.congr {W : World} {b n : Nat} {O O' : Nat → Nat} (h : RwAt W b n O) (e : ∀ j, j < n → O j = O' j) : RwAt W b n O' := by
  obtain ⟨c, h1, h2, h3⟩ := h
  exact ⟨c, h1, fun j i hj hi => by rw [← e j hj]; exact h2 j i hj hi, fun j hj => by rw [← e j hj]; exact h3 j hj⟩
theorem RwAt.cells {W : World} {b n : Nat} {O : Nat → Nat} (h : RwAt W b n O) {j : Nat} (hj : j < n) :
    W.cell? ⟨b, j * 4, none⟩ = some (.int .u64 ((word (O j) 0 : Nat) : Int)) ∧ W.cell? ⟨b, j * 4 + 1, none⟩ = some (.int .u64 ((word (O j) 1 : Nat) : Int)) ∧ W.cell? ⟨b, j * 4 + 2, none⟩ = some (.int .u64 ((word (O j) 2 : Nat) : Int)) ∧ W.cell? ⟨b, j * 4 + 3, none⟩ = some (.int .u64 ((word (O j) 3 : Nat) : Int)) := by
  obtain ⟨c, h1, h2, _⟩ := h
  refine ⟨?_, ?_, ?_, ?_⟩
  · rw [cell_of_row W b _ _ _ _ h1]; simpa using h2 j 0 hj (by omega)
  · rw [cell_of_row W b _ _ _ _ h1]; exact h2 j 1 hj (by omega)
  · rw [cell_of_row W b _ _ _ _ h1]; exact h2 j 2 hj (by omega)
  · rw [cell_of_row W b _ _ _ _ h1]; exact h2 j 3 hj (by omega)
theorem RwAt.frozen {W : World} {b n : Nat} {O : Nat → Nat} (h : RwAt W b n O) (o : Nat) : W.frozen? ⟨b, o, none⟩ = false := by
  obtain ⟨c, h1, _⟩ := h
  exact frozen_of_row W b o _ _ h1
theorem RwAt.bits {W : World} {b n : Nat} {O : Nat → Nat} (h : RwAt W b n O) {j : Nat} (hj : j < n) : O j < 2 ^ 256 := by
  obtain ⟨c, _, _, h3⟩ := h
  exact h3 j hj
/-- A row is stored. -/
theorem RwAt.store {W : World} {b n : Nat} {O : Nat → Nat} (h : RwAt W b n O) {m X : Nat} (hX : X < 2 ^ 256) :
    RwAt ((((W.setCell ⟨b, m * 4, none⟩ (.int .u64 ((word X 0 : Nat) : Int))).setCell ⟨b, m * 4 + 1, none⟩ (.int .u64 ((word X 1 : Nat) : Int))).setCell ⟨b, m * 4 + 2, none⟩ (.int .u64 ((word X 2 : Nat) : Int))).setCell ⟨b, m * 4 + 3, none⟩ (.int .u64 ((word X 3 : Nat) : Int))) b n (fun q => if q = m then X else O q) := by
  obtain ⟨c, h1, h2, h3⟩ := h
  have e1 := heap_setCell_same W b (m * 4) c 91 (.int .u64 ((word X 0 : Nat) : Int)) h1
  have e2 := heap_setCell_same _ b (m * 4 + 1) _ 91 (.int .u64 ((word X 1 : Nat) : Int)) e1
  have e3 := heap_setCell_same _ b (m * 4 + 2) _ 91 (.int .u64 ((word X 2 : Nat) : Int)) e2
  have e4 := heap_setCell_same _ b (m * 4 + 3) _ 91 (.int .u64 ((word X 3 : Nat) : Int)) e3
  refine ⟨_, e4, fun j i hj hi => ?_, fun j hj => ?_⟩
  · have hold := h2 j i hj hi
    obtain ⟨hlt, _⟩ := Array.getElem?_eq_some_iff.1 hold
    by_cases e : j = m
    · subst e
      show _ = some (Value.int .u64 ((word (if j = j then X else O j) i : Nat) : Int))
      rw [if_pos rfl]
      simp only [Array.getElem?_setIfInBounds, Array.size_setIfInBounds]
      obtain rfl | rfl | rfl | rfl : i = 0 ∨ i = 1 ∨ i = 2 ∨ i = 3 := by omega
      · simp only [Nat.add_zero] at hlt ⊢
        rw [if_neg (by omega), if_neg (by omega), if_neg (by omega), if_pos trivial, if_pos hlt]
      · rw [if_neg (by omega), if_neg (by omega), if_pos rfl, if_pos hlt]
      · rw [if_neg (by omega), if_pos rfl, if_pos hlt]
      · rw [if_pos rfl, if_pos hlt]
    · show _ = some (Value.int .u64 ((word (if j = m then X else O j) i : Nat) : Int))
      rw [if_neg e]
      simp only [Array.getElem?_setIfInBounds]
      rw [if_neg (by omega), if_neg (by omega), if_neg (by omega), if_neg (by omega)]
      exact hold
  · show (if j = m then X else O j) < _
    split
    · exact hX
    · exact h3 j hj

/-- The cells of the rows, one behind the other. -/
def cellsRw (n : Nat) (O : Nat → Nat) : List Value := (List.range (n * 4)).map fun q => .int .u64 ((word (O (q / 4)) (q % 4) : Nat) : Int)
theorem cellsRw_len (n : Nat) (O : Nat → Nat) : (cellsRw n O).length = n * 4 := by unfold cellsRw; simp
theorem cellsRw_at {n : Nat} {O : Nat → Nat} {q : Nat} (h : q < n * 4) : (cellsRw n O)[q]? = some (.int .u64 ((word (O (q / 4)) (q % 4) : Nat) : Int)) := by
  unfold cellsRw
  rw [List.getElem?_map, List.getElem?_range h]
  rfl
theorem cellsRw_one (n : Nat) (O : Nat → Nat) : ∀ u ∈ cellsRw n O, u.oneCell' = true := by
  intro u hu
  unfold cellsRw at hu
  obtain ⟨_, _, rfl⟩ := List.mem_map.1 hu
  rfl
theorem RwAt.news {W : World} {b n : Nat} {O : Nat → Nat} (h : RwAt W b n O) : ∀ j u, (cellsRw n O)[j]? = some u → W.cell? ((⟨b, 0, none⟩ : Addr).add j) = some u := fun j u hj => by
  have hlt : j < n * 4 := by rw [← cellsRw_len n O]; exact (List.getElem?_eq_some_iff.1 hj).1
  rw [cellsRw_at hlt] at hj
  obtain ⟨c, h1, h2, _⟩ := h
  rw [Addr.add_lit, Nat.zero_add, cell_of_row W b _ _ _ _ h1]
  have := h2 (j / 4) (j % 4) (by omega) (by omega)
  rw [show j / 4 * 4 + j % 4 = j by omega] at this
  rw [this]
  exact hj
theorem RwAt.of_owns {W : World} {base n : Nat} {v : Value} {O : Nat → Nat} (h : W.ownsRow base 91 4 v n (cellsRw n O)) (hn : 0 < n) (hO : ∀ j, j < n → O j < 2 ^ 256) : ∃ g C, v = .slice (some ⟨g, 0, none⟩) n C ∧ base ≤ g ∧ RwAt W g n O := by
  obtain ⟨_, ⟨_, h0⟩ | ⟨g, cap, cur, rfl, h1, h2, h3, h4, h5, h6⟩⟩ := h
  · omega
  · refine ⟨g, cap, rfl, h1, cur, h2, fun j i hj hi => ?_, hO⟩
    have hq : j * 4 + i < n * 4 := by omega
    have e := cellsRw_at (O := O) hq
    rw [← h6, List.getElem?_take, if_pos hq, Array.getElem?_toList] at e
    rw [e, show (j * 4 + i) / 4 = j by omega, show (j * 4 + i) % 4 = i by omega]

theorem infoRow : (Tryd.prog.info? 91).map (fun i => (i.zero, i.size, i.bytes)) = some (some (.agg #[.int .u64 0, .int .u64 0, .int .u64 0, .int .u64 0]), 4, 32) := by kernel_rfl

set_option maxRecDepth 100000 in
set_option maxHeartbeats 4000000 in
theorem cloneRows_any (b n C : Nat) (O : Nat → Nat) (w : World) (h : RwAt w b n O) (hn : 0 < n) (hn2 : n ≤ 200) :
    Calls Tryd.prog 169 #[.slice (some ⟨b, 0, none⟩) n C] w fun e w' => ∃ g C', e = .returned (.slice (some ⟨g, 0, none⟩) n C') ∧ w.heap.size ≤ g ∧ RwAt w' g n O ∧ Below w.heap.size w w' := by
  have hbA := (Below.refl w.heap.size w).alloc (Nat.le_refl _) (.cells #[] 91)
  have HNEWS := Lib.hid (h.below hbA h.lt).news
  have HO := Lib.hid (fun j (hj : j < n) => h.bits hj)
  have HMADE := Lib.hid (World.ownsRow_made (e := 91) (size := 4) w #[] 0 (base := w.heap.size) (Nat.le_refl _) (Nat.zero_le _) (by simp))
  have HBA := Lib.hid hbA
  obtain ⟨i0, hi0, hz0, hz1, hz2⟩ := info_parts infoRow
  have hq := fun w => Lib.run_eql_slice_nil (P := Tryd.prog) w 156 91 (some ⟨b, 0, none⟩) n C 0 0 Tryd.underlying156
  clear h hbA
  go_enter Tryd.func169, Tryd.ntmps169
  go_wp2_with (at_builtin; refine wpList_append_own _ rfl _ _ 156 rfl w.heap.size 91 i0 (.agg #[.int .u64 0, .int .u64 0, .int .u64 0, .int .u64 0]) 4 32 Tryd.underlying156 hi0 hz0 hz1 hz2 rfl (by decide) _ _ _ rfl HMADE.out ⟨b, 0, none⟩ n C (cellsRw n O) rfl (cellsRw_len n O) HNEWS.out (cellsRw_one n O) (by unfold maxLen; omega) (by omega) (by simp) ?_; intro v1 w3 hown1 hgrow1 _; rw [List.nil_append, Nat.zero_add] at hown1; obtain ⟨g, C', rfl, hg, hrw⟩ := RwAt.of_owns hown1 hn HO.out; have HB3 : Hid (Below w.heap.size w w3) := Lib.hid (HBA.out.grown hgrow1 HBA.out.size (fun b e => (HMADE.out.lt b e).1)); have HRW := Lib.hid hrw; clear hown1 hgrow1 hrw)
  go_ret
  exact ⟨g, C', rfl, hg, HRW.out, HB3.out⟩
end Go.Proofs.YtkomghohdhengaaDoor

/- A row as often as one likes (slices.Repeat at rows). -/
namespace Go.Proofs.YtkomghohdhengaaDoor
open Go.RowKit Go.Deep

/-- copy of elements of several cells. -/
theorem run_copy_rowN {P : Program} (w : World) (dT sT ty elem : TypeId) (g o dLen dCap : Nat) (a : Addr) (sLen sCap sz : Nat) (cur : Array Value) (t : TypeId) (cs : List Value)
    (hu : P.underlying dT = some (.slice elem)) (hs : (P.info? elem).map (·.size) = some sz)
    (hg : w.heap[g]? = some (.cells cur t (0, 0))) (hn : cs.length = Nat.min sLen dLen * sz)
    (hsrc : ∀ j v, cs[j]? = some v → w.cell? (a.add j) = some v) (hfit : o + cs.length ≤ cur.size) (h1 : ∀ v ∈ cs, v.oneCell' = true) :
    (Builtin.copy_ #[dT, sT] ty #[.slice (some ⟨g, o, none⟩) dLen dCap, .slice (some a) sLen sCap]).run P w =
      .ok (goInt (Nat.min sLen dLen)) (w.setRow g (cur.toList.take o ++ cs ++ cur.toList.drop (o + cs.length)).toArray) := by
  have hl := run_loadCells_list (P := P) w a cs hsrc
  have hst := run_storeCells_at P g o t cs 0 cur w hg (by simpa using hfit) h1
  cases hq : P.info? elem with
  | none => simp [hq] at hs
  | some i =>
    have hi : i.size = sz := by simpa [hq] using hs
    rw [hn] at hl hst ⊢
    simp [Builtin.copy_, run_underlying hu, Builtin.lenOf, Builtin.firstCells, sizeOf, typeInfo, hq, hi, hl, hst]
theorem wpList_copy_rowN {P : Program} {w : World} {ops : Array Oper} {rest : List Oper} {o : Oper} {a : Act} {Q : Exit → Act → World → Prop} (hgd : o.guard = none) (d s : Operand) (dT sT : TypeId)
    (ho : o.op = .call { callee := .builtin .copy, args := #[d, s], argTypes := #[dT, sT] }) (elem : TypeId) (sz : Nat) (hu : P.underlying dT = some (.slice elem)) (hsz : (P.info? elem).map (·.size) = some sz)
    (g off dLen dCap : Nat) (ad : Addr) (sLen sCap : Nat) (hd : a.eval d = .slice (some ⟨g, off, none⟩) dLen dCap) (hs : a.eval s = .slice (some ad) sLen sCap)
    (cur : Array Value) (t : TypeId) (hg : w.heap[g]? = some (.cells cur t (0, 0))) (cs : List Value) (hn : cs.length = Nat.min sLen dLen * sz)
    (hsrc : ∀ j v, cs[j]? = some v → w.cell? (ad.add j) = some v) (hfit : off + cs.length ≤ cur.size) (h1 : ∀ v ∈ cs, v.oneCell' = true)
    (h : wpList P ops Q rest (a.put o.dst (goInt (Nat.min sLen dLen))) (w.setRow g (cur.toList.take off ++ cs ++ cur.toList.drop (off + cs.length)).toArray)) : wpList P ops Q (o :: rest) a w := by
  refine wpList_plain hgd fun K hK => ?_
  have hrun := run_copy_rowN (P := P) w dT sT o.type elem g off dLen dCap ad sLen sCap sz cur t cs hu hsz hg hn hsrc hfit h1
  unfold Oper.wp
  simp [execOp, ho, resolve, invoke, builtin, hd, hs, hrun, Result.andThen]
  exact hK _ _ (by simpa using h)
theorem step_copy_rowN {P : Program} {ops : Array Oper} {o : Oper} {a : Act} {w : World} {K : Act → World → Prop} {Q : Exit → Act → World → Prop} {E : Prop} (hgd : o.guard = none) (d s : Operand) (dT sT : TypeId)
    (ho : o.op = .call { callee := .builtin .copy, args := #[d, s], argTypes := #[dT, sT] }) (elem : TypeId) (sz : Nat) (hu : P.underlying dT = some (.slice elem)) (hsz : (P.info? elem).map (·.size) = some sz)
    (g off dLen dCap : Nat) (ad : Addr) (sLen sCap : Nat) (hd : a.eval d = .slice (some ⟨g, off, none⟩) dLen dCap) (hs : a.eval s = .slice (some ad) sLen sCap)
    (cur : Array Value) (t : TypeId) (hg : w.heap[g]? = some (.cells cur t (0, 0))) (cs : List Value) (hn : cs.length = Nat.min sLen dLen * sz)
    (hsrc : ∀ j v, cs[j]? = some v → w.cell? (ad.add j) = some v) (hfit : off + cs.length ≤ cur.size) (h1 : ∀ v ∈ cs, v.oneCell' = true)
    (h : K (a.put o.dst (goInt (Nat.min sLen dLen))) (w.setRow g (cur.toList.take off ++ cs ++ cur.toList.drop (off + cs.length)).toArray)) :
    if Region.wanted o (yielded ops a.tmps) = true then Oper.wp P o a w K Q else E := by
  have hw : Region.wanted o (yielded ops a.tmps) = true := by simp [Region.wanted, hgd]
  rw [if_pos hw]
  have hrun := run_copy_rowN (P := P) w dT sT o.type elem g off dLen dCap ad sLen sCap sz cur t cs hu hsz hg hn hsrc hfit h1
  unfold Oper.wp
  simp [execOp, ho, resolve, invoke, builtin, hd, hs, hrun, Result.andThen]
  exact (by simpa [Oper.upon] using h)

theorem mask32 (a : Nat) (ha : a < 4294967296) : bits BinOp.and IntKind.u64 (a : Int) 4294967295 = (a : Int) := by
  have h := bits_and_u64_nat a 4294967295 (by omega) (by omega)
  have e : a &&& 4294967295 = a % 4294967296 := Nat.and_two_pow_sub_one_eq_mod a 32
  rw [e, Nat.mod_eq_of_lt ha] at h
  exact h
theorem mul64_one (n : Nat) (hn : n ≤ 5000) (w : World) : Calls Tryd.prog 171 #[.int .u64 1, .int .u64 n] w fun e w' => e = .returned (.tuple #[.int .u64 0, .int .u64 n]) ∧ w' = w := by
  have h1 : bits BinOp.and IntKind.u64 1 4294967295 = 1 := mask32 1 (by omega)
  have h2 := mask32 n (by omega)
  have h3 : bits BinOp.and IntKind.u64 0 4294967295 = 0 := mask32 0 (by omega)
  have h4 : (n : Int) / 4294967296 = 0 := by omega
  have h5 : IntKind.u64.wrap (n : Int) = n := by rw [IntKind.wrap_u64]; omega
  have h6 : IntKind.u64.wrap 0 = 0 := by rw [IntKind.wrap_u64]; rfl
  go_enter Tryd.func171, Tryd.ntmps171
  go_wp2
  go_ret2
  exact ⟨rfl, rfl⟩
theorem mul_one' (n : Nat) (hn : n ≤ 5000) (w : World) : Calls Tryd.prog 163 #[.int .u64 1, .int .u64 n] w fun e w' => e = .returned (.tuple #[.int .u64 0, .int .u64 n]) ∧ w' = w := by
  have hc := mul64_one n hn w
  go_enter Tryd.func163, Tryd.ntmps163
  go_wp2_with (go_at_call 171; refine hc.mono ?_; rintro e w' ⟨rfl, rfl⟩)
  go_ret2
  exact ⟨rfl, rfl⟩

/-- The first K of n rows are A, the others empty. -/
def firstK (A K : Nat) (q : Nat) : Nat := if q < K then A else 0

theorem cellsRw_toArray (n : Nat) (O : Nat → Nat) {i : Nat} (h : i < (cellsRw n O).toArray.size) : (cellsRw n O).toArray[i] = .int .u64 ((word (O (i / 4)) (i % 4) : Nat) : Int) := by
  have hi : i < n * 4 := by rw [← cellsRw_len n O]; simpa using h
  have h3 := cellsRw_at (O := O) hi
  have h4 : (cellsRw n O)[i]? = some ((cellsRw n O)[i]'(by rw [cellsRw_len]; exact hi)) := List.getElem?_eq_getElem _
  rw [h4] at h3
  injection h3
theorem madeRw (A n : Nat) : madeCells #[.int .u64 0, .int .u64 0, .int .u64 0, .int .u64 0] (n * 4) = (cellsRw n (firstK A 0)).toArray := by
  apply Array.ext
  · rw [size_madeCells]; simp [cellsRw_len]
  · intro i h1 h2
    rw [cellsRw_toArray n _ h2]
    have h5 : i % 4 = 0 ∨ i % 4 = 1 ∨ i % 4 = 2 ∨ i % 4 = 3 := by omega
    have h6 : firstK A 0 (i / 4) = 0 := if_neg (Nat.not_lt_zero _)
    unfold madeCells
    rw [h6]
    rcases h5 with h | h | h | h <;> simp [h, word]
/-- Behind a copy of m rows. -/
theorem splice_rw {A n K m : Nat} (h : K + m ≤ n) : (cellsRw n (firstK A K)).take (K * 4) ++ cellsRw m (fun _ => A) ++ (cellsRw n (firstK A K)).drop (K * 4 + m * 4) = cellsRw n (firstK A (K + m)) := by
  apply List.ext_getElem?
  intro i
  have hl : ((cellsRw n (firstK A K)).take (K * 4)).length = K * 4 := by rw [List.length_take, cellsRw_len]; omega
  by_cases h0 : i < n * 4
  · rw [cellsRw_at h0]
    by_cases h1 : i < K * 4
    · rw [List.append_assoc, List.getElem?_append_left (by omega), List.getElem?_take, if_pos h1, cellsRw_at (by omega)]
      unfold firstK
      rw [if_pos (by omega), if_pos (by omega)]
    · by_cases h2 : i < K * 4 + m * 4
      · rw [List.append_assoc, List.getElem?_append_right (by omega), hl, List.getElem?_append_left (by rw [cellsRw_len]; omega), cellsRw_at (by omega)]
        unfold firstK
        rw [if_pos (by omega), show (i - K * 4) % 4 = i % 4 by omega]
      · rw [List.getElem?_append_right (by rw [List.length_append, hl, cellsRw_len]; omega), List.length_append, hl, cellsRw_len, List.getElem?_drop, show K * 4 + m * 4 + (i - (K * 4 + m * 4)) = i by omega, cellsRw_at h0]
        unfold firstK
        rw [if_neg (by omega), if_neg (by omega)]
  · rw [List.getElem?_eq_none (by rw [List.length_append, List.length_append, hl, List.length_drop, cellsRw_len, cellsRw_len]; omega), List.getElem?_eq_none (by rw [cellsRw_len]; omega)]
theorem setRow_cellsRw {W : World} {g n : Nat} {O O' : Nat → Nat} (h : W.heap[g]? = some (.cells (cellsRw n O).toArray 91 (0, 0))) : (W.setRow g (cellsRw n O').toArray).heap[g]? = some (.cells (cellsRw n O').toArray 91 (0, 0)) := setRow_heap W g _ _ _ _ h
theorem RwAt.of_cells {W : World} {g n : Nat} {O : Nat → Nat} (h : W.heap[g]? = some (.cells (cellsRw n O).toArray 91 (0, 0))) (hO : ∀ j, j < n → O j < 2 ^ 256) : RwAt W g n O :=
  ⟨_, h, fun j i hj hi => by
    rw [List.getElem?_toArray, cellsRw_at (by omega), show (j * 4 + i) / 4 = j by omega, show (j * 4 + i) % 4 = i by omega], hO⟩
/-- m of the first K rows are copied behind them. -/
theorem copy_rw {W : World} {g n A K m L sC dC : Nat} (hg : W.heap[g]? = some (.cells (cellsRw n (firstK A K)).toArray 91 (0, 0))) (hm : m = Nat.min K L) (hL : K + L = n) :
    (Builtin.copy_ #[156, 156] 3 #[.slice (some ⟨g, K * 4, none⟩) L dC, .slice (some ⟨g, 0, none⟩) K sC]).run Tryd.prog W = .ok (goInt (m : Int)) (W.setRow g (cellsRw n (firstK A (K + m))).toArray) := by
  have hmk : m ≤ K := by rw [hm]; exact Nat.min_le_left _ _
  have hml : m ≤ L := by rw [hm]; exact Nat.min_le_right _ _
  have h := run_copy_rowN (P := Tryd.prog) W 156 156 3 91 g (K * 4) L dC ⟨g, 0, none⟩ K sC 4 (cellsRw n (firstK A K)).toArray 91 (cellsRw m (fun _ => A)) Tryd.underlying156 (by kernel_rfl) hg (by rw [cellsRw_len, ← hm])
    (fun j v hj => by
      have hj' : j < m * 4 := by
        rw [← cellsRw_len m (fun _ => A)]
        exact (List.getElem?_eq_some_iff.1 hj).1
      rw [cellsRw_at hj'] at hj
      injection hj with hj
      rw [Addr.add_lit, Nat.zero_add, cell_of_row W g _ _ _ _ hg, List.getElem?_toArray, cellsRw_at (by omega), ← hj]
      unfold firstK
      rw [if_pos (by omega)])
    (by rw [cellsRw_len]; simp [cellsRw_len]; omega) (cellsRw_one m _)
  rw [← hm, cellsRw_len, splice_rw (by omega)] at h
  exact h
set_option maxRecDepth 100000 in
set_option maxHeartbeats 4000000 in
theorem repeat_any (b C n A : Nat) (w : World) (h : RwAt w b 1 (fun _ => A)) (hn : 0 < n) (hn2 : n ≤ 200) :
    Calls Tryd.prog 144 #[.slice (some ⟨b, 0, none⟩) 1 C, .int .i64 n] w fun e w' =>
      ∃ g, e = .returned (.slice (some ⟨g, 0, none⟩) n n) ∧ w.heap.size ≤ g ∧ RwAt w' g n (fun _ => A) ∧ Below w.heap.size w w' := by
  have hc := mul_one' n (by omega) w
  have hn0 : (0 : Int) ≤ (n : Int) := by omega
  have hn3 : (n : Int) ≤ 9223372036854775807 := by omega
  have h5 : IntKind.u64.wrap (n : Int) = n := by rw [IntKind.wrap_u64]; omega
  go_enter Tryd.func144, Tryd.ntmps144
  obtain ⟨j0, hj0, hy0, hy1, hy2⟩ := info_parts infoRow
  have hmk := run_make (P := Tryd.prog) w 156 91 j0 _ Tryd.underlying156 hj0 hy0 .i64 .i64 n n (by omega) (by omega) (by rw [hy2]; omega) (by omega)
  rw [hy1, show (Value.agg #[.int .u64 0, .int .u64 0, .int .u64 0, .int .u64 0]).cells = #[.int .u64 0, .int .u64 0, .int .u64 0, .int .u64 0] from rfl, Int.toNat_natCast, madeRw A] at hmk
  have hA := h.bits (j := 0) (by omega)
  have hg0 : (w.alloc (.cells (cellsRw n (firstK A 0)).toArray 91)).heap[w.heap.size]? = some (.cells (cellsRw n (firstK A 0)).toArray 91 (0, 0)) := heap_alloc_new w _
  have hb1 := (Below.refl w.heap.size w).alloc (Nat.le_refl _) (.cells (cellsRw n (firstK A 0)).toArray 91)
  have hcp := run_copy_rowN (P := Tryd.prog) _ 156 156 3 91 w.heap.size 0 n n ⟨b, 0, none⟩ 1 C 4 (cellsRw n (firstK A 0)).toArray 91 (cellsRw 1 (fun _ => A)) Tryd.underlying156 (by kernel_rfl) hg0 (by rw [cellsRw_len, show Nat.min 1 n = 1 from Nat.min_eq_left hn])
    (fun j v hj => (h.below hb1 h.lt).news j v hj) (by simp [cellsRw_len]; omega) (cellsRw_one 1 _)
  rw [show Nat.min 1 n = 1 from Nat.min_eq_left hn, cellsRw_len, show (0 : Nat) = 0 * 4 from rfl, show (0 * 4 + 1 * 4) = 0 * 4 + 1 * 4 from rfl, splice_rw (by omega : 0 + 1 ≤ n)] at hcp
  have hg1 := setRow_cellsRw (O' := firstK A (0 + 1)) hg0
  have hB := Lib.hid (below_setRow hb1 (Nat.le_refl _) (cellsRw n (firstK A (0 + 1))).toArray)
  have HG := Lib.hid hg1
  clear hg1 hb1 hg0
  go_wp2_with (go_at_call 163; refine hc.mono ?_; rintro e w' ⟨rfl, rfl⟩)
  clear hcp hmk hc
  go_loopw [8] (fun iv wr => ∃ K : Nat, 0 < K ∧ K ≤ n ∧ iv = .int .i64 K ∧ wr.heap[w'.heap.size]? = some (.cells (cellsRw n (firstK A K)).toArray 91 (0, 0)) ∧ Below w'.heap.size w' wr) (fun iv _ => n - (intOf iv).toNat)
  case atStart => exact ⟨1, by omega, by omega, rfl, HG.out, hB.out⟩
  case round =>
    obtain ⟨K, hK0, hK, rfl, hg, hb⟩ := hrel
    have HG2 := Lib.hid hg
    have HB2 := Lib.hid hb
    by_cases hlt : K < n
    · have hK1 : (K : Int) < (n : Int) := by omega
      have hdw : (wr.drew).heap[w'.heap.size]? = some (.cells (cellsRw n (firstK A K)).toArray 91 (0, 0)) := hg
      obtain ⟨M, hM⟩ : ∃ M, M = Nat.min K (n - K) := ⟨_, rfl⟩
      have hM0 : 0 < M := by rw [hM]; exact Nat.lt_min.2 ⟨hK0, by omega⟩
      have hMn : K + M ≤ n := by have : M ≤ n - K := by rw [hM]; exact Nat.min_le_right _ _
                                 omega
      have hcp := copy_rw (n := n) (K := K) (L := n - K) (m := M) (sC := n) (dC := n - K) hdw hM (by omega)
      clear hg hb hM
      go_wp2
      go_region
      have HB3 := Lib.hid (below_setRow (HB2.out.drew) (Nat.le_refl _) (cellsRw n (firstK A (K + M))).toArray)
      have HG3 := Lib.hid (setRow_cellsRw (O' := firstK A (K + M)) hdw)
      revert HB3 HG3
      generalize wr.drew.setRow w'.heap.size (cellsRw n (firstK A (K + M))).toArray = wz
      intro HB3 HG3
      simp only [Exit.inBlock]
      go_roundw
      case rel =>
        (repeat apply Exists.intro)
        refine ⟨?rel2, ?frame2⟩
        case frame2 => rfl
        case rel2 => exact ⟨K + M, by omega, hMn, rfl, HG3.out, HB3.out⟩
      case measure => simp [intOf]; omega
    · obtain rfl : K = n := by omega
      go_wp2
      go_ret
      exact ⟨_, rfl, Nat.le_refl _, (RwAt.of_cells HG2.out (fun j _ => by unfold firstK; split <;> omega)).congr (fun j hj => if_pos hj), HB2.out⟩
end Go.Proofs.YtkomghohdhengaaDoor

/- An argument that is an order, opened: it reads as rows; the library's table out of the row's list. -/
namespace Go.Proofs.YtkomghohdhengaaDoor
open Go.ChangeShapes Go.WideShapes Go.ChangeAt Go.RowKit Go.Deep

theorem cellsInt : Tryd.prog.cellsOf 3 = 1 := by kernel_rfl
theorem cellsInts : Tryd.prog.cellsOf 26 = 1 := by kernel_rfl
theorem cellsRows : Tryd.prog.cellsOf 23 = 1 := by kernel_rfl
theorem plain_addr {w : World} {a : Addr} {v : Value} (h : w.cell? (a.add 0) = some v) : ∃ b o, a = ⟨b, o, none⟩ := by
  obtain ⟨b, o, spot⟩ := a
  have hs : spot = none := by simpa [Addr.add] using World.cell?_spot h
  subst hs
  exact ⟨b, o, rfl⟩

/-- A slice of slices of integers, opened. -/
theorem rows_of {H : Type} {enc : TypeId × Value → H} {w : World} {base fuel : Nat} {held : Bool} {c : Value} {x : DataW H × List MemPlace}
    (h : DataW.trod enc Tryd.prog w base (fun _ => true) held fuel 23 [c] = some x) : ∃ rows : Rows2, RowsAt w c rows := by
  rcases open_int_rows Tryd.underlying23 Tryd.underlying26 Tryd.underlying3 cellsInts cellsInt h with ⟨hcs, _⟩ | ⟨a, len, cap, A, L, C, Z, hcs, _, hl, hm, _, hr⟩
  · obtain rfl : c = .slice none 0 0 := by simpa using hcs
    exact ⟨[], none, 0, rfl, Nat.le_refl _, Nat.zero_le _, fun i hi => absurd hi (Nat.not_lt_zero _)⟩
  · obtain rfl : c = .slice (some a) len cap := by simpa using hcs
    refine ⟨(List.range len).map fun r => (Z r).take (L r), some a, cap, by simp, by simpa using hl, hm, fun i hi => ?_⟩
    have hi' : i < len := by simpa using hi
    obtain ⟨b, o, rfl⟩ := plain_addr (hr 0 (by omega)).1
    obtain ⟨h1, h2, h3, h4, h5, h6, h7⟩ := hr i (by omega)
    rw [WideShapes.add_plain] at h1
    have e : ((List.range len).map fun r => (Z r).take (L r))[i] = (Z i).take (L i) := by simp
    have elen : ((Z i).take (L i)).length = L i := by rw [List.length_take, h4]; omega
    refine ⟨b, o, _, rfl, h1, ?_⟩
    rw [e]
    refine ⟨A i, C i, by rw [elen], by rw [elen]; exact h2, h3, fun n hn => h5 n (List.mem_of_mem_take hn), fun k hk => ?_⟩
    rw [elen] at hk
    cases hA : A i with
    | none => have := h6 hA; omega
    | some a' =>
      obtain ⟨_, hc⟩ := h7 a' hA
      obtain ⟨b', o', rfl⟩ := plain_addr (hc 0 (by omega))
      have hck := hc k (by omega)
      rw [WideShapes.add_plain] at hck
      refine ⟨b', o', rfl, ?_⟩
      rw [hck, List.getElem_take, List.getD_eq_getElem?_getD, List.getElem?_eq_getElem (by rw [h4]; omega)]
      rfl

theorem own : ownKnob Tryd.prog.godebug = none := by kernel_rfl
theorem gTab : Tryd.prog.globalNamed "math/bits.deBruijn64tab" = some 0 := by kernel_rfl
theorem gTabType : (Tryd.prog.globals[0]?).map (·.type) = some 173 := by kernel_rfl
theorem cellsTab : Tryd.prog.cellsOf 173 = 64 := by kernel_rfl
theorem cellsByte : Tryd.prog.cellsOf 5 = 1 := by kernel_rfl

theorem tab_of {W : World} (h : laidMetH Tryd.prog [("math/bits.deBruijn64tab", Rows.laid_math_bits_deBruijn64tab)] W) : Tab W := by
  have ht : Lib.TabIs Tryd.prog W "math/bits.deBruijn64tab" .u8 (Lib.deBruijn64tab.map fun n : Nat => (n : Int)) :=
    Lib.tabIs_of_head (rest := []) gTab gTabType Tryd.underlying173 Tryd.underlying5 cellsByte cellsTab h
  intro j hj
  have := ht.cell gTab j (by simpa [Lib.deBruijn64tab] using hj)
  rw [this]
  have hl : j < Lib.deBruijn64tab.length := by simpa [Lib.deBruijn64tab] using hj
  rw [List.getD_eq_getElem?_getD, List.getElem?_map, List.getD_eq_getElem?_getD, List.getElem?_eq_getElem hl]
  rfl
end Go.Proofs.YtkomghohdhengaaDoor

/- An argument that is a slice of slices of integers, opened. -/
namespace Go.Proofs.YtkomghohdhengaaDoor
open Go.ChangeShapes Go.WideShapes Go.ChangeAt Go.RowKit Go.Deep

set_option maxRecDepth 100000 in
/-- A slice of slices of integers, opened. -/
theorem rowsArg_of {H : Type} {enc : TypeId × Value → H} {w : World} {base b0 : Nat} {r : Reach} {held : Bool} {v : Value} {d : DataW H} {p : List MemPlace} (hv : Value.okWide Tryd.prog w r b0 23 v)
    (h : DataW.Trod enc Tryd.prog w base (fun _ => true) held 23 v d p) : ∃ rows : Rows2, RowsAt w v rows := by
  obtain ⟨a, len, cap, rfl⟩ := okWide_slice Tryd.underlying23 hv
  obtain ⟨fuel, hf⟩ := h
  exact rows_of (by simpa [Value.cells] using hf)
end Go.Proofs.YtkomghohdhengaaDoor
