/- The least number in a row (first), by the library's look-up of trailing zeros. -/
import Derived.Test.YtjfbjfclcpcaiaaDoorPb3
import Derived.Lib.TrailingZeros
import Derived.Shelf.Spec.TrailingZeros
import Derived.Laws.Rows
import Derived.Laws.Tables
import Derived.Deep.MidRow
import Derived.IntWalk
import Derived.Test.YtjfbjfclcpcaiaaDoorCards
import Derived.Test.YtjfbjfclcpcaiaaDoorTie
import Derived.Lib.LaidTab
import Derived.Lib.SmallJoins
import Derived.OpenShut
import Derived.Deep.DeepHandedRow
namespace Go.Proofs.YtjfbjfclcpcaiaaDoor
open Go.RowKit Go.Deep

/-- The library's table, as its initialiser lays it. -/
def Tab (w : World) : Prop := ∀ j, j < 64 → w.cell? ⟨0, j, none⟩ = some (.int .u8 ((Lib.deBruijn64tab.getD j 0 : Nat) : Int))
theorem Tab.below {w w' : World} (h : Tab w) (hb : Below w.heap.size w w') : Tab w' := fun j hj => by
  have := h j hj
  rw [hb.cell (p := ⟨0, j, none⟩) (cell_lt this)]
  exact this

set_option maxHeartbeats 1000000 in
theorem tz_core (x k idx : Nat) (w : World) (hx0 : ((x : Int) == 0) = false)
    (key : IntKind.u64.wrap (bits BinOp.and IntKind.u64 (x : Int) (IntKind.u64.wrap (-(x : Int))) * 285870213051353865) / 288230376151711744 = (idx : Int))
    (hi : idx < 64) (hk : k < 64) (hcell : w.cell? ⟨0, idx, none⟩ = some (.int .u8 k)) :
    Calls Tryd.prog 137 #[.int .u64 x] w fun e w' => e = .returned (.int .i64 k) ∧ w = w' := by
  go_enter Tryd.func137, Tryd.ntmps137
  go_wp2_with (simp only [key])
  go_ret
  exact ⟨rfl, rfl⟩

theorem tz_any (x : Nat) (hx : x < 18446744073709551616) (hx0 : x ≠ 0) (w : World) (hT : Tab w) :
    Calls Tryd.prog 137 #[.int .u64 x] w fun e w' => e = .returned (.int .i64 (Lib.ctz 64 x)) ∧ w = w' := by
  obtain ⟨hlow, hk⟩ := Lib.lowest_bit 64 x hx0 hx
  obtain ⟨hi, htab⟩ := Lib.deBruijn64_at _ hk
  have hcell := hT _ hi
  rw [htab] at hcell
  exact tz_core x _ _ w (by simp; omega) (tz64_key x _ hx hx0 hlow) hi hk hcell

/-- The lowest bit of a number. -/
theorem ctz_low (x : Nat) (hx0 : x ≠ 0) (hx : x < 2 ^ 64) : x.testBit (Lib.ctz 64 x) = true ∧ (∀ j, j < Lib.ctz 64 x → x.testBit j = false) ∧ Lib.ctz 64 x < 64 := by
  obtain ⟨m, hm, hlt⟩ := Lib.ctzFrom_spec 64 x (by omega) hx
  have e : Lib.ctz 64 x = Lib.ctzFrom 64 x := by unfold Lib.ctz; rw [if_neg hx0]
  rw [e]
  generalize Lib.ctzFrom 64 x = k at hm hlt
  refine ⟨?_, fun j hj => ?_, hlt⟩
  · rw [hm, Nat.testBit_eq_decide_div_mod_eq, Nat.mul_div_cancel_left _ (Nat.two_pow_pos _), decide_eq_true_iff]
    omega
  · rw [hm, Nat.mul_comm, Nat.testBit_mul_two_pow]
    simp; omega

/-- Number k is the least one in r. -/
def Least (r k : Nat) : Prop := r.testBit k = true ∧ ∀ j, j < k → r.testBit j = false

theorem least_of_word {r j : Nat} (h : ∀ i, i < j → word r i = 0) (h0 : word r j ≠ 0) : Least r (64 * j + Lib.ctz 64 (word r j)) := by
  obtain ⟨h1, h2, h3⟩ := ctz_low (word r j) h0 (word_lt64 r j)
  rw [testBit_word] at h1
  simp only [h3, decide_true, Bool.true_and] at h1
  refine ⟨h1, fun i hi => ?_⟩
  by_cases hij : i / 64 < j
  · have h4 := testBit_word r (i / 64) (i % 64)
    rw [h _ hij, show 64 * (i / 64) + i % 64 = i by omega] at h4
    have h5 : i % 64 < 64 := Nat.mod_lt _ (by decide)
    simpa [h5] using h4.symm
  · have h4 := testBit_word r j (i - 64 * j)
    rw [h2 _ (by omega), show 64 * j + (i - 64 * j) = i by omega] at h4
    have h5 : i - 64 * j < 64 := by omega
    simpa [h5] using h4.symm

/-- The least number of a row that is not empty. -/
def FirstPost (r : Nat) (w : World) (e : Ending) (w' : World) : Prop := ∃ k, Least r k ∧ e = .returned (.int .i64 (k : Nat)) ∧ Below w.heap.size w w'

set_option maxHeartbeats 4000000 in
theorem first_any (r : Nat) (w : World) (hr : r < 2 ^ 256) (h0 : r ≠ 0) (hT : Tab w) : Calls Tryd.prog 141 #[rowV r] w (FirstPost r w) := by
  have i0 := ix0
  have i1 := ix1
  have i2 := ix2
  have i3 := ix3
  have b1 : Below w.heap.size w (w.alloc (.cells #[.int .u64 ((word r 0 : Nat) : Int), .int .u64 ((word r 1 : Nat) : Int), .int .u64 ((word r 2 : Nat) : Int), .int .u64 ((word r 3 : Nat) : Int)] 81)) := (Below.refl _ w).alloc (Nat.le_refl _) _
  have hT1 := hT.below b1
  have hcase : (word r 0 ≠ 0) ∨ (word r 0 = 0 ∧ word r 1 ≠ 0) ∨ (word r 0 = 0 ∧ word r 1 = 0 ∧ word r 2 ≠ 0) ∨ (word r 0 = 0 ∧ word r 1 = 0 ∧ word r 2 = 0 ∧ word r 3 ≠ 0) := by
    by_cases a : word r 0 = 0
    · by_cases b : word r 1 = 0
      · by_cases c : word r 2 = 0
        · by_cases d : word r 3 = 0
          · exact absurd (of_words hr (Nat.two_pow_pos 256) (s := 0) (fun j hj => by
              rw [word_zero]
              obtain rfl | rfl | rfl | rfl : j = 0 ∨ j = 1 ∨ j = 2 ∨ j = 3 := by omega
              · exact a
              · exact b
              · exact c
              · exact d)) h0
          · exact .inr (.inr (.inr ⟨a, b, c, d⟩))
        · exact .inr (.inr (.inl ⟨a, b, c⟩))
      · exact .inr (.inl ⟨a, b⟩)
    · exact .inl a
  have hword : ∀ j, (∀ i, i < j → word r i = 0) → word r j ≠ 0 → ∃ c, c < 64 ∧ Least r (64 * j + c) ∧ Calls Tryd.prog 137 #[.int .u64 ((word r j : Nat) : Int)] (w.alloc (.cells #[.int .u64 ((word r 0 : Nat) : Int), .int .u64 ((word r 1 : Nat) : Int), .int .u64 ((word r 2 : Nat) : Int), .int .u64 ((word r 3 : Nat) : Int)] 81)) fun e w' => e = .returned (.int .i64 (c : Nat)) ∧ (w.alloc (.cells #[.int .u64 ((word r 0 : Nat) : Int), .int .u64 ((word r 1 : Nat) : Int), .int .u64 ((word r 2 : Nat) : Int), .int .u64 ((word r 3 : Nat) : Int)] 81)) = w' := fun j hj h =>
    ⟨_, (ctz_low _ h (word_lt64 r j)).2.2, least_of_word hj h, tz_any _ (word_lt r j) h _ hT1⟩
  have HB := Lib.hid b1
  clear hT hT1 b1 hr h0
  rcases hcase with h | ⟨h0, h⟩ | ⟨h0, h1, h⟩ | ⟨h0, h1, h2, h⟩
  · obtain ⟨c, hc, hl, hcall⟩ := hword 0 (fun i hi => absurd hi (Nat.not_lt_zero _)) h
    have n0 : (((word r 0 : Nat) : Int) != 0) = true := bne_iff_ne.2 (by omega)
    have HL := Lib.hid hl
    clear hl h hword
    go_enter Tryd.func141, Tryd.ntmps141
    go_wp2
    refine wp_loop_rounds 5 ?_
    rw [rounds_succ]
    go_wp2_with (go_at_call 137; refine hcall.mono ?_; clear hcall; rintro e w' ⟨rfl, rfl⟩)
    go_ret
    exact ⟨c, by simpa using HL.out, rfl, HB.out⟩
  · obtain ⟨c, hc, hl, hcall⟩ := hword 1 (fun i hi => by obtain rfl : i = 0 := (by omega); exact h0) h
    have n0 : (((word r 0 : Nat) : Int) != 0) = false := by rw [h0]; rfl
    have n1 : (((word r 1 : Nat) : Int) != 0) = true := bne_iff_ne.2 (by omega)
    have HL := Lib.hid hl
    clear hl h hword h0
    go_enter Tryd.func141, Tryd.ntmps141
    go_wp2
    refine wp_loop_rounds 5 ?_
    iterate 2 (rw [rounds_succ]; go_wp2_with (go_at_call 137; refine hcall.mono ?_; clear hcall; rintro e w' ⟨rfl, rfl⟩))
    go_ret
    exact ⟨64 + c, by simpa using HL.out, rfl, HB.out⟩
  · obtain ⟨c, hc, hl, hcall⟩ := hword 2 (fun i hi => by obtain rfl | rfl : i = 0 ∨ i = 1 := (by omega) <;> assumption) h
    have n0 : (((word r 0 : Nat) : Int) != 0) = false := by rw [h0]; rfl
    have n1 : (((word r 1 : Nat) : Int) != 0) = false := by rw [h1]; rfl
    have n2 : (((word r 2 : Nat) : Int) != 0) = true := bne_iff_ne.2 (by omega)
    have HL := Lib.hid hl
    clear hl h hword h0 h1
    go_enter Tryd.func141, Tryd.ntmps141
    go_wp2
    refine wp_loop_rounds 5 ?_
    iterate 3 (rw [rounds_succ]; go_wp2_with (go_at_call 137; refine hcall.mono ?_; clear hcall; rintro e w' ⟨rfl, rfl⟩))
    go_ret
    exact ⟨128 + c, by simpa using HL.out, rfl, HB.out⟩
  · obtain ⟨c, hc, hl, hcall⟩ := hword 3 (fun i hi => by obtain rfl | rfl | rfl : i = 0 ∨ i = 1 ∨ i = 2 := (by omega) <;> assumption) h
    have n0 : (((word r 0 : Nat) : Int) != 0) = false := by rw [h0]; rfl
    have n1 : (((word r 1 : Nat) : Int) != 0) = false := by rw [h1]; rfl
    have n2 : (((word r 2 : Nat) : Int) != 0) = false := by rw [h2]; rfl
    have n3 : (((word r 3 : Nat) : Int) != 0) = true := bne_iff_ne.2 (by omega)
    have HL := Lib.hid hl
    clear hl h hword h0 h1 h2
    go_enter Tryd.func141, Tryd.ntmps141
    go_wp2
    refine wp_loop_rounds 5 ?_
    iterate 4 (rw [rounds_succ]; go_wp2_with (go_at_call 137; refine hcall.mono ?_; clear hcall; rintro e w' ⟨rfl, rfl⟩))
    go_ret
    exact ⟨192 + c, by simpa using HL.out, rfl, HB.out⟩
end Go.Proofs.YtjfbjfclcpcaiaaDoor

/- Grids: 200 rows of 256 bits in one block; the program's look at them (size, fitsAt, isOrder). -/
namespace Go.Proofs.YtjfbjfclcpcaiaaDoor
open Go.RowKit Go.Deep

/-- The cells of a grid. -/
def gridCells (g : Nat → Nat) : Array Value := Array.ofFn (n := 800) fun k => .int .u64 ((word (g (k.val / 4)) (k.val % 4) : Nat) : Int)
theorem gridCells_size (g : Nat → Nat) : (gridCells g).size = 800 := by unfold gridCells; simp
theorem gridCells_at (g : Nat → Nat) (i j : Nat) (hi : i < 200) (hj : j < 4) : (gridCells g)[4 * i + j]? = some (.int .u64 ((word (g i) j : Nat) : Int)) := by
  unfold gridCells
  rw [Array.getElem?_ofFn, dif_pos (by omega)]
  have h1 : (4 * i + j) / 4 = i := by omega
  have h2 : (4 * i + j) % 4 = j := by omega
  simp only [h1, h2]
theorem gridCells_ext {g : Nat → Nat} {cs : Array Value} (hs : cs.size = 800) (h : ∀ i j, i < 200 → j < 4 → cs[4 * i + j]? = some (.int .u64 ((word (g i) j : Nat) : Int))) : cs = gridCells g := by
  apply Array.ext_getElem?
  intro k
  by_cases hk : k < 800
  · have h1 := h (k / 4) (k % 4) (by omega) (by omega)
    have h2 := gridCells_at g (k / 4) (k % 4) (by omega) (by omega)
    rw [show 4 * (k / 4) + k % 4 = k by omega] at h1 h2
    rw [h1, h2]
  · rw [Array.getElem?_eq_none (by omega), Array.getElem?_eq_none (by rw [gridCells_size]; omega)]

/-- The grid g lies in block b. -/
def GridAt (W : World) (b : Nat) (g : Nat → Nat) : Prop := W.heap[b]? = some (.cells (gridCells g) 83 (0, 0)) ∧ ∀ i, g i < 2 ^ 256
theorem GridAt.below {W W' : World} {b B : Nat} {g : Nat → Nat} (h : GridAt W b g) (hb : Below B W W') (hB : b < B) : GridAt W' b g := ⟨by rw [hb.block b hB]; exact h.1, h.2⟩
theorem GridAt.lt {W : World} {b : Nat} {g : Nat → Nat} (h : GridAt W b g) : b < W.heap.size := by
  obtain ⟨hlt, _⟩ := Array.getElem?_eq_some_iff.1 h.1
  exact hlt
theorem GridAt.cell {W : World} {b : Nat} {g : Nat → Nat} (h : GridAt W b g) (i j : Nat) (hi : i < 200) (hj : j < 4) : W.cell? ⟨b, 4 * i + j, none⟩ = some (.int .u64 ((word (g i) j : Nat) : Int)) := by
  rw [cell_of_row W b _ _ _ _ h.1]
  exact gridCells_at g i j hi hj
/-- A row's four words, spelled as the walk spells them. -/
theorem GridAt.row {W : World} {b : Nat} {g : Nat → Nat} (h : GridAt W b g) (i : Nat) (hi : i < 200) :
    W.cell? ⟨b, i * 4, none⟩ = some (.int .u64 ((word (g i) 0 : Nat) : Int)) ∧ W.cell? ⟨b, i * 4 + 1, none⟩ = some (.int .u64 ((word (g i) 1 : Nat) : Int)) ∧
    W.cell? ⟨b, i * 4 + 2, none⟩ = some (.int .u64 ((word (g i) 2 : Nat) : Int)) ∧ W.cell? ⟨b, i * 4 + 3, none⟩ = some (.int .u64 ((word (g i) 3 : Nat) : Int)) := by
  rw [Nat.mul_comm]
  exact ⟨h.cell i 0 hi (by omega), h.cell i 1 hi (by omega), h.cell i 2 hi (by omega), h.cell i 3 hi (by omega)⟩
theorem GridAt.frozen {W : World} {b : Nat} {g : Nat → Nat} (h : GridAt W b g) (o : Nat) : W.frozen? ⟨b, o, none⟩ = false := frozen_of_row W b o _ _ h.1
/-- A word of a row is written. -/
theorem GridAt.set {W : World} {b : Nat} {g g' : Nat → Nat} (h : GridAt W b g) (i j : Nat) (hi : i < 200) (hj : j < 4) (x : Nat) (hg' : ∀ i, g' i < 2 ^ 256)
    (hw : ∀ i' j', i' < 200 → j' < 4 → word (g' i') j' = if i' = i ∧ j' = j then x else word (g i') j') : GridAt (W.setCell ⟨b, 4 * i + j, none⟩ (.int .u64 (x : Int))) b g' := by
  refine ⟨?_, hg'⟩
  have e : (gridCells g).setIfInBounds (4 * i + j) (.int .u64 (x : Int)) = gridCells g' := by
    apply gridCells_ext
    · simp [gridCells_size]
    · intro i' j' hi' hj'
      rw [Array.getElem?_setIfInBounds]
      by_cases e : i' = i ∧ j' = j
      · obtain ⟨rfl, rfl⟩ := e
        rw [if_pos rfl, if_pos (by rw [gridCells_size]; omega), hw _ _ hi' hj', if_pos ⟨rfl, rfl⟩]
      · rw [if_neg (by omega), gridCells_at g i' j' hi' hj', hw _ _ hi' hj', if_neg e]
  rw [heap_setCell_same W b _ _ _ _ h.1, e]
theorem GridAt.setOther {W : World} {b : Nat} {g : Nat → Nat} (h : GridAt W b g) {a : Addr} (ha : b ≠ a.block) (v : Value) : GridAt (W.setCell a v) b g :=
  ⟨by rw [heap_setCell_other W a b v ha]; exact h.1, h.2⟩

/-- The number n, and a world in which nothing that was there has turned. -/
def SaysI (n : Int) (w : World) (e : Ending) (w' : World) : Prop := e = .returned (.int .i64 n) ∧ Below w.heap.size w w'

set_option maxRecDepth 100000 in
set_option maxHeartbeats 2000000 in
theorem size_any (b n : Nat) (g : Nat → Nat) (w : World) (hg : GridAt w b g) (hn : n ≤ 200) (h0 : ∀ i, i < n → g i ≠ 0) (h1 : n < 200 → g n = 0) :
    Calls Tryd.prog 105 #[.pointer (some ⟨b, 0, none⟩)] w (SaysI n w) := by
  have HG := Lib.hid hg
  have H0 := Lib.hid h0
  have H1 := Lib.hid h1
  clear hg h0 h1
  go_enter Tryd.func105, Tryd.ntmps105
  go_wp2
  go_loopw [3] (fun kv wr => ∃ k : Nat, k ≤ n ∧ kv = .int .i64 k ∧ Below w.heap.size w wr) (fun kv _ => n - (intOf kv).toNat)
  case atStart => exact ⟨0, Nat.zero_le _, rfl, Below.refl _ _⟩
  case round =>
    obtain ⟨k, hk, rfl, hb⟩ := hrel
    have hG := HG.out.below hb HG.out.lt
    have HB := Lib.hid hb
    clear hb
    by_cases hlt : k < n
    · obtain ⟨c0, c1, c2, c3⟩ := hG.row k (by omega)
      have hcall := empty_any (g k) wr (hG.2 k)
      rw [decide_eq_false (H0.out k hlt)] at hcall
      have hk2 : k < 200 := by omega
      clear hG
      go_wp2_with (go_at_call 122; refine hcall.mono ?_; clear hcall; rintro e w1 ⟨rfl, hb1⟩)
      go_roundw
      case rel => exact ⟨k + 1, by omega, by go_num, HB.out.trans (hb1.mono HB.out.size)⟩
      case measure => simp [intOf]; omega
    · obtain rfl : k = n := by omega
      by_cases hk2 : k < 200
      · obtain ⟨c0, c1, c2, c3⟩ := hG.row k (by omega)
        have hcall := empty_any (g k) wr (hG.2 k)
        rw [decide_eq_true (H1.out hk2)] at hcall
        clear hG
        go_wp2_with (go_at_call 122; refine hcall.mono ?_; clear hcall; rintro e w1 ⟨rfl, hb1⟩)
        go_ret
        exact ⟨rfl, HB.out.trans (hb1.mono HB.out.size)⟩
      · clear hG
        go_wp2
        go_ret
        exact ⟨rfl, HB.out⟩
end Go.Proofs.YtjfbjfclcpcaiaaDoor

/- The number of bits of a word (OnesCount64): some number that is not large; what more it is, nobody asks here. -/
namespace Go.Proofs.YtjfbjfclcpcaiaaDoor
open Go.RowKit Go.Deep

/-- A number that is not large, and the same world. -/
def SmallN (m : Nat) (w : World) (e : Ending) (w' : World) : Prop := (∃ c : Nat, c ≤ m ∧ e = .returned (.int .i64 (c : Nat))) ∧ w = w'

theorem and127 (y : Int) : ∃ c : Nat, c ≤ 127 ∧ Ending.returned (.int .i64 (bits BinOp.and IntKind.i64 y 127)) = .returned (.int .i64 (c : Nat)) := by
  have h1 : (BitVec.ofInt 64 (127 : Int)).toNat = 127 := by decide
  have h2 : (BitVec.ofInt 64 y &&& BitVec.ofInt 64 127).toNat = (BitVec.ofInt 64 y).toNat % 128 := by rw [BitVec.toNat_and, h1, nat_mask7]
  have h3 : bits BinOp.and IntKind.i64 y 127 = (((BitVec.ofInt 64 y).toNat % 128 : Nat) : Int) := by
    show IntKind.i64.wrap ((BitVec.ofInt 64 y &&& BitVec.ofInt 64 127).toNat : Int) = _
    rw [h2]
    exact IntWalk.i64_in _ (by omega)
  exact ⟨(BitVec.ofInt 64 y).toNat % 128, by omega, by rw [h3]⟩

set_option maxRecDepth 100000 in
set_option maxHeartbeats 4000000 in
theorem ones_any (x : Nat) (w : World) : Calls Tryd.prog 138 #[.int .u64 x] w (SmallN 127 w) := by
  go_enter Tryd.func138, Tryd.ntmps138
  go_wp2
  go_ret
  exact ⟨and127 _, rfl⟩

/-- A number that is not large; nothing that was there has turned. -/
def SmallB (m : Nat) (w : World) (e : Ending) (w' : World) : Prop := (∃ c : Nat, c ≤ m ∧ e = .returned (.int .i64 (c : Nat))) ∧ Below w.heap.size w w'

set_option maxRecDepth 100000 in
set_option maxHeartbeats 4000000 in
theorem count_any (r : Nat) (w : World) : Calls Tryd.prog 128 #[rowV r] w (SmallB 1000 w) := by
  have i0 := ix0
  have i1 := ix1
  have i2 := ix2
  have i3 := ix3
  have HB : Hid (Below w.heap.size w (w.alloc (.cells #[.int .u64 ((word r 0 : Nat) : Int), .int .u64 ((word r 1 : Nat) : Int), .int .u64 ((word r 2 : Nat) : Int), .int .u64 ((word r 3 : Nat) : Int)] 81))) := Lib.hid ((Below.refl _ w).alloc (Nat.le_refl _) _)
  go_enter Tryd.func128, Tryd.ntmps128
  go_wp2
  refine wp_loop_rounds 5 ?_
  rw [rounds_succ]
  go_wp2_with fail
  refine (ones_any _ _).mono ?_
  rintro e w' ⟨⟨a0, h0, rfl⟩, rfl⟩
  go_wp2
  rw [rounds_succ]
  go_wp2_with fail
  refine (ones_any _ _).mono ?_
  rintro e w' ⟨⟨a1, h1, rfl⟩, rfl⟩
  go_wp2
  rw [rounds_succ]
  go_wp2_with fail
  refine (ones_any _ _).mono ?_
  rintro e w' ⟨⟨a2, h2, rfl⟩, rfl⟩
  go_wp2
  rw [rounds_succ]
  go_wp2_with fail
  refine (ones_any _ _).mono ?_
  rintro e w' ⟨⟨a3, h3, rfl⟩, rfl⟩
  go_wp2
  rw [rounds_succ]
  go_wp2
  go_ret
  exact ⟨⟨a0 + a1 + a2 + a3, by omega, by simp⟩, HB.out⟩
end Go.Proofs.YtjfbjfclcpcaiaaDoor

/- An argument that is an order, opened: it reads as rows; the library's table out of the row's list. -/
namespace Go.Proofs.YtjfbjfclcpcaiaaDoor
open Go.ChangeShapes Go.WideShapes Go.ChangeAt Go.RowKit Go.Deep

theorem cellsInt : Tryd.prog.cellsOf 3 = 1 := by kernel_rfl
theorem cellsInts : Tryd.prog.cellsOf 42 = 1 := by kernel_rfl
theorem cellsRows : Tryd.prog.cellsOf 23 = 1 := by kernel_rfl
theorem plain_addr {w : World} {a : Addr} {v : Value} (h : w.cell? (a.add 0) = some v) : ∃ b o, a = ⟨b, o, none⟩ := by
  obtain ⟨b, o, spot⟩ := a
  have hs : spot = none := by simpa [Addr.add] using World.cell?_spot h
  subst hs
  exact ⟨b, o, rfl⟩

/-- A slice of slices of integers, opened. -/
theorem rows_of {H : Type} {enc : TypeId × Value → H} {w : World} {base fuel : Nat} {held : Bool} {c : Value} {x : DataW H × List MemPlace}
    (h : DataW.trod enc Tryd.prog w base (fun _ => true) held fuel 23 [c] = some x) : ∃ rows : Rows2, RowsAt w c rows := by
  rcases open_int_rows Tryd.underlying23 Tryd.underlying42 Tryd.underlying3 cellsInts cellsInt h with ⟨hcs, _⟩ | ⟨a, len, cap, A, L, C, Z, hcs, _, hl, hm, _, hr⟩
  · obtain rfl : c = .slice none 0 0 := by simpa using hcs
    exact ⟨[], none, 0, rfl, Nat.le_refl _, Nat.zero_le _, fun i hi => absurd hi (Nat.not_lt_zero _)⟩
  · obtain rfl : c = .slice (some a) len cap := by simpa using hcs
    refine ⟨(List.range len).map fun r => (Z r).take (L r), some a, cap, by simp, by simpa using hl, hm, fun i hi => ?_⟩
    have hi' : i < len := by simpa using hi
    obtain ⟨b, o, rfl⟩ := plain_addr (hr 0 (by omega)).1
    obtain ⟨h1, h2, h3, h4, h5, h6, h7⟩ := hr i (by omega)
    rw [WideShapes.add_plain] at h1
    have e : ((List.range len).map fun r => (Z r).take (L r))[i] = (Z i).take (L i) := by simp
    have elen : ((Z i).take (L i)).length = L i := by rw [List.length_take, h4]; omega
    refine ⟨b, o, _, rfl, h1, ?_⟩
    rw [e]
    refine ⟨A i, C i, by rw [elen], by rw [elen]; exact h2, h3, fun n hn => h5 n (List.mem_of_mem_take hn), fun k hk => ?_⟩
    rw [elen] at hk
    cases hA : A i with
    | none => have := h6 hA; omega
    | some a' =>
      obtain ⟨_, hc⟩ := h7 a' hA
      obtain ⟨b', o', rfl⟩ := plain_addr (hc 0 (by omega))
      have hck := hc k (by omega)
      rw [WideShapes.add_plain] at hck
      refine ⟨b', o', rfl, ?_⟩
      rw [hck, List.getElem_take, List.getD_eq_getElem?_getD, List.getElem?_eq_getElem (by rw [h4]; omega)]
      rfl

theorem own : ownKnob Tryd.prog.godebug = none := by kernel_rfl
theorem gTab : Tryd.prog.globalNamed "math/bits.deBruijn64tab" = some 0 := by kernel_rfl
theorem gTabType : (Tryd.prog.globals[0]?).map (·.type) = some 147 := by kernel_rfl
theorem cellsTab : Tryd.prog.cellsOf 147 = 64 := by kernel_rfl
theorem cellsByte : Tryd.prog.cellsOf 5 = 1 := by kernel_rfl

theorem tab_of {W : World} (h : laidMetH Tryd.prog [("math/bits.deBruijn64tab", Rows.laid_math_bits_deBruijn64tab)] W) : Tab W := by
  have ht : Lib.TabIs Tryd.prog W "math/bits.deBruijn64tab" .u8 (Lib.deBruijn64tab.map fun n : Nat => (n : Int)) :=
    Lib.tabIs_of_head (rest := []) gTab gTabType Tryd.underlying147 Tryd.underlying5 cellsByte cellsTab h
  intro j hj
  have := ht.cell gTab j (by simpa [Lib.deBruijn64tab] using hj)
  rw [this]
  have hl : j < Lib.deBruijn64tab.length := by simpa [Lib.deBruijn64tab] using hj
  rw [List.getD_eq_getElem?_getD, List.getElem?_map, List.getD_eq_getElem?_getD, List.getElem?_eq_getElem hl]
  rfl
end Go.Proofs.YtjfbjfclcpcaiaaDoor

/- An argument that is a slice of slices of integers, opened. -/
namespace Go.Proofs.YtjfbjfclcpcaiaaDoor
open Go.ChangeShapes Go.WideShapes Go.ChangeAt Go.RowKit Go.Deep

set_option maxRecDepth 100000 in
/-- A slice of slices of integers, opened. -/
theorem rowsArg_of {H : Type} {enc : TypeId × Value → H} {w : World} {base b0 : Nat} {r : Reach} {held : Bool} {v : Value} {d : DataW H} {p : List MemPlace} (hv : Value.okWide Tryd.prog w r b0 23 v)
    (h : DataW.Trod enc Tryd.prog w base (fun _ => true) held 23 v d p) : ∃ rows : Rows2, RowsAt w v rows := by
  obtain ⟨a, len, cap, rfl⟩ := okWide_slice Tryd.underlying23 hv
  obtain ⟨fuel, hf⟩ := h
  exact rows_of (by simpa [Value.cells] using hf)
end Go.Proofs.YtjfbjfclcpcaiaaDoor
