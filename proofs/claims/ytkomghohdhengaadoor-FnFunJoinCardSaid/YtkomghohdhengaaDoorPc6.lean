/- The program's check of one element (fitsAt), and of all (isOrder). -/
import Derived.Test.YtkomghohdhengaaDoorPc4
import Derived.StillTailTactics
import Derived.Deep.RegionWith
import Derived.Deep.RegionHeld3
import Derived.Deep.DeepCutAuto
import Derived.Deep.LoopGhost
namespace Go.Proofs.YtkomghohdhengaaDoor
open Go.RowKit Go.Deep

/-- The row r lies in a variable of its own, at block p. -/
def RowIn (W : World) (p r : Nat) : Prop := W.heap[p]? = some (.cells #[.int .u64 ((word r 0 : Nat) : Int), .int .u64 ((word r 1 : Nat) : Int), .int .u64 ((word r 2 : Nat) : Int), .int .u64 ((word r 3 : Nat) : Int)] 91 (0, 0)) ∧ r < 2 ^ 256
theorem RowIn.cells {W : World} {p r : Nat} (h : RowIn W p r) : W.cell? ⟨p, 0, none⟩ = some (.int .u64 ((word r 0 : Nat) : Int)) ∧ W.cell? ⟨p, 1, none⟩ = some (.int .u64 ((word r 1 : Nat) : Int)) ∧
    W.cell? ⟨p, 2, none⟩ = some (.int .u64 ((word r 2 : Nat) : Int)) ∧ W.cell? ⟨p, 3, none⟩ = some (.int .u64 ((word r 3 : Nat) : Int)) := by
  refine ⟨?_, ?_, ?_, ?_⟩ <;> (rw [cell_of_row W p _ _ _ _ h.1]; rfl)
theorem RowIn.frozen {W : World} {p r : Nat} (h : RowIn W p r) (o : Nat) : W.frozen? ⟨p, o, none⟩ = false := frozen_of_row W p o _ _ h.1
theorem RowIn.lt {W : World} {p r : Nat} (h : RowIn W p r) : p < W.heap.size := by
  obtain ⟨hlt, _⟩ := Array.getElem?_eq_some_iff.1 h.1
  exact hlt
theorem RowIn.below {W W' : World} {p r B : Nat} (h : RowIn W p r) (hb : Below B W W') (hB : p < B) : RowIn W' p r := ⟨by rw [hb.block p hB]; exact h.1, h.2⟩

theorem RowIn.alloc (W : World) {r : Nat} (hr : r < 2 ^ 256) : RowIn (W.alloc (.cells #[.int .u64 ((word r 0 : Nat) : Int), .int .u64 ((word r 1 : Nat) : Int), .int .u64 ((word r 2 : Nat) : Int), .int .u64 ((word r 3 : Nat) : Int)] 91)) W.heap.size r :=
  ⟨heap_alloc_new W _, hr⟩
theorem RowIn.set4 {W : World} {p r : Nat} {z0 z1 z2 z3 : Value} (h : W.heap[p]? = some (.cells #[z0, z1, z2, z3] 91 (0, 0))) (hr : r < 2 ^ 256) :
    RowIn ((((W.setCell ⟨p, 0, none⟩ (.int .u64 ((word r 0 : Nat) : Int))).setCell ⟨p, 1, none⟩ (.int .u64 ((word r 1 : Nat) : Int))).setCell ⟨p, 2, none⟩ (.int .u64 ((word r 2 : Nat) : Int))).setCell ⟨p, 3, none⟩ (.int .u64 ((word r 3 : Nat) : Int))) p r := by
  refine ⟨?_, hr⟩
  rw [heap_setCell_same _ p 3 _ _ _ (heap_setCell_same _ p 2 _ _ _ (heap_setCell_same _ p 1 _ _ _ (heap_setCell_same _ p 0 _ _ _ h)))]
  rfl

/-- What holds while one element is looked at: the grid, the table, and nothing old has turned. -/
structure Look (b : Nat) (g : Nat → Nat) (w W : World) : Prop where
  grid : GridAt W b g
  tab : Tab W
  below : Below w.heap.size w W
  lt : b < w.heap.size

theorem Look.step {b : Nat} {g : Nat → Nat} {w W W' : World} (h : Look b g w W) (hb : Below W.heap.size W W') : Look b g w W' :=
  ⟨h.grid.below hb h.grid.lt, h.tab.below hb, h.below.trans (hb.mono h.below.size), h.lt⟩

theorem Look.set {b : Nat} {g : Nat → Nat} {w W : World} (h : Look b g w W) {p : Nat} (hp : w.heap.size ≤ p) (o : Nat) (v : Value) : Look b g w (W.setCell ⟨p, o, none⟩ v) := by
  have hlt := h.lt
  refine ⟨h.grid.setOther (by show b ≠ p; omega) v, fun j hj => ?_, h.below.setCell (p := ⟨p, o, none⟩) hp v, hlt⟩
  have h0 := h.tab j hj
  have hb : (W.setCell ⟨p, o, none⟩ v).cell? ⟨0, j, none⟩ = W.cell? ⟨0, j, none⟩ :=
    World.cell?_of_block (w := W) (heap_setCell_other W ⟨p, o, none⟩ 0 v (by show 0 ≠ p; omega))
  rw [hb]; exact h0

theorem keep4 {b i : Nat} {r : Nat} {W W' : World} (h : W.cell? ⟨b, i * 4, none⟩ = some (.int .u64 ((word r 0 : Nat) : Int)) ∧ W.cell? ⟨b, i * 4 + 1, none⟩ = some (.int .u64 ((word r 1 : Nat) : Int)) ∧ W.cell? ⟨b, i * 4 + 2, none⟩ = some (.int .u64 ((word r 2 : Nat) : Int)) ∧ W.cell? ⟨b, i * 4 + 3, none⟩ = some (.int .u64 ((word r 3 : Nat) : Int)))
    (hb : Below W.heap.size W W') : W'.cell? ⟨b, i * 4, none⟩ = some (.int .u64 ((word r 0 : Nat) : Int)) ∧ W'.cell? ⟨b, i * 4 + 1, none⟩ = some (.int .u64 ((word r 1 : Nat) : Int)) ∧ W'.cell? ⟨b, i * 4 + 2, none⟩ = some (.int .u64 ((word r 2 : Nat) : Int)) ∧ W'.cell? ⟨b, i * 4 + 3, none⟩ = some (.int .u64 ((word r 3 : Nat) : Int)) := by
  obtain ⟨h0, h1, h2, h3⟩ := h
  exact ⟨(hb.cell (cell_lt h0)).trans h0, (hb.cell (cell_lt h1)).trans h1, (hb.cell (cell_lt h2)).trans h2, (hb.cell (cell_lt h3)).trans h3⟩

/-- Element j of row i is met through an element k of the row whose own row lies within. -/
def Cov (g : Nat → Nat) (i j : Nat) : Prop := ∃ k, (g i).testBit k = true ∧ k ≠ i ∧ (g k).testBit i = false ∧ (∀ m, (g k).testBit m = true → (g i).testBit m = true) ∧ (g k).testBit j = true
def CovAll (g : Nat → Nat) (i : Nat) : Prop := ∀ j, (g i).testBit j = true → j ≠ i → Cov g i j
/-- Some element of row i has a row that holds i, or does not lie within. -/
def BadBit (g : Nat → Nat) (i : Nat) : Prop := ∃ k, (g i).testBit k = true ∧ k ≠ i ∧ ((g k).testBit i = true ∨ ∃ m, (g k).testBit m = true ∧ (g i).testBit m = false)
def FitsPost (g : Nat → Nat) (i : Nat) (w : World) (e : Ending) (w' : World) : Prop :=
  (∃ t : Bool, (t = true → CovAll g i) ∧ (t = false → BadBit g i) ∧ e = .returned (.bool t)) ∧ Below w.heap.size w w'
/-- What is left in r is of row i without i; what has gone is covered. -/
def Left (g : Nat → Nat) (i r : Nat) : Prop := (∀ j, r.testBit j = true → (g i).testBit j = true ∧ j ≠ i) ∧ ∀ j, (g i).testBit j = true → j ≠ i → r.testBit j = true ∨ Cov g i j

theorem Left.start (g : Nat → Nat) (i : Nat) : Left g i (diff (g i) (2 ^ i)) := by
  refine ⟨fun j hj => ?_, fun j hj hne => .inl ?_⟩
  · rw [testBit_diff, Nat.testBit_two_pow, Bool.and_eq_true, Bool.not_eq_true', decide_eq_false_iff_not] at hj
    exact ⟨hj.1, fun e => hj.2 e.symm⟩
  · rw [testBit_diff, Nat.testBit_two_pow, hj, Bool.true_and, Bool.not_eq_true', decide_eq_false_iff_not]
    exact fun e => hne e.symm
theorem Left.done {g : Nat → Nat} {i : Nat} (h : Left g i 0) : CovAll g i := fun j hj hne => by
  rcases h.2 j hj hne with h1 | h1
  · simp at h1
  · exact h1
theorem within_of_diff {a b : Nat} (h : diff a b = 0) : ∀ m, a.testBit m = true → b.testBit m = true := fun m hm => by
  have h2 := testBit_diff a b m
  rw [h, hm] at h2
  simpa using h2.symm
theorem not_within_of_diff {a b : Nat} (h : diff a b ≠ 0) : ∃ m, a.testBit m = true ∧ b.testBit m = false := by
  obtain ⟨m, hm⟩ := Nat.exists_testBit_of_ne_zero h
  rw [testBit_diff, Bool.and_eq_true, Bool.not_eq_true'] at hm
  exact ⟨m, hm⟩
theorem Left.step {g : Nat → Nat} {i r k : Nat} (h : Left g i r) (hk : r.testBit k = true) (h1 : (g k).testBit i = false) (h2 : diff (g k) (g i) = 0) : Left g i (diff r (g k)) := by
  refine ⟨fun j hj => ?_, fun j hj hne => ?_⟩
  · rw [testBit_diff, Bool.and_eq_true] at hj
    exact h.1 j hj.1
  · rcases h.2 j hj hne with h3 | h3
    · cases hkj : (g k).testBit j with
      | true => exact .inr ⟨k, (h.1 k hk).1, (h.1 k hk).2, h1, within_of_diff h2, hkj⟩
      | false => left; rw [testBit_diff, h3, hkj]; rfl
    · exact .inr h3
theorem lt_of_sub {a b k : Nat} (hs : ∀ m, a.testBit m = true → b.testBit m = true) (h1 : b.testBit k = true) (h2 : a.testBit k = false) : a < b := by
  have h : a ||| b = b := by
    apply Nat.eq_of_testBit_eq
    intro i
    rw [Nat.testBit_or]
    cases ha : a.testBit i with
    | false => simp
    | true => rw [hs i ha]; rfl
  have hle : a ≤ b := by rw [← h]; exact Nat.left_le_or
  have hne : a ≠ b := fun e => by rw [e, h1] at h2; cases h2
  omega
theorem diff_less {r s k : Nat} (hr : r.testBit k = true) (hs : s.testBit k = true) : diff r s < r :=
  lt_of_sub (k := k) (fun m hm => by rw [testBit_diff, Bool.and_eq_true] at hm; exact hm.1) hr (by rw [testBit_diff, hr, hs]; rfl)

theorem cell_alloc_any {w : World} {a : Addr} {v : Value} (h : w.cell? a = some v) : ∀ X, (w.alloc X).cell? a = some v := fun X =>
  (Below.cell ((Below.refl _ w).alloc (Nat.le_refl _) X) (p := a) (cell_lt h)).trans h

set_option maxRecDepth 100000 in
set_option maxHeartbeats 4000000 in
theorem fitsAt_any (b n i : Nat) (g : Nat → Nat) (w : World) (hg : GridAt w b g) (hT : Tab w) (hn : n ≤ 200) (hi : i < n)
    (hown : ∀ k, k < n → (g k).testBit k = true) (hbits : ∀ k j, k < n → (g k).testBit j = true → j < n) :
    Calls Tryd.prog 155 #[.pointer (some ⟨b, 0, none⟩), .int .i64 i] w (FitsPost g i w) := by
  obtain ⟨c0, c1, c2, c3⟩ := hg.row i (by omega)
  have hlt := hg.lt
  have hlt1 : b < w.heap.size + 1 := by omega
  have hle : b ≤ w.heap.size := by omega
  have hne : ¬ b = w.heap.size := by omega
  have hne' : ¬ w.heap.size = b := by omega
  have e0 : ∀ X, (w.alloc X).cell? ⟨b, i * 4, none⟩ = some (.int .u64 ((word (g i) 0 : Nat) : Int)) := fun X => (Below.cell ((Below.refl _ w).alloc (Nat.le_refl _) X) (p := ⟨b, i * 4, none⟩) hlt).trans c0
  have e1 : ∀ X, (w.alloc X).cell? ⟨b, i * 4 + 1, none⟩ = some (.int .u64 ((word (g i) 1 : Nat) : Int)) := fun X => (Below.cell ((Below.refl _ w).alloc (Nat.le_refl _) X) (p := ⟨b, i * 4 + 1, none⟩) hlt).trans c1
  have e2 : ∀ X, (w.alloc X).cell? ⟨b, i * 4 + 2, none⟩ = some (.int .u64 ((word (g i) 2 : Nat) : Int)) := fun X => (Below.cell ((Below.refl _ w).alloc (Nat.le_refl _) X) (p := ⟨b, i * 4 + 2, none⟩) hlt).trans c2
  have e3 : ∀ X, (w.alloc X).cell? ⟨b, i * 4 + 3, none⟩ = some (.int .u64 ((word (g i) 3 : Nat) : Int)) := fun X => (Below.cell ((Below.refl _ w).alloc (Nat.le_refl _) X) (p := ⟨b, i * 4 + 3, none⟩) hlt).trans c3
  have hI0 : (0 : Int) ≤ (i : Int) := by omega
  have hI1 : (i : Int) < 200 := by omega
  have hi2 : i < 200 := by omega
  have hdr : ∀ W : World, W.drew.heap = W.heap := fun _ => rfl
  have HG := Lib.hid hg
  have HT := Lib.hid hT
  have HO := Lib.hid hown
  have HI := Lib.hid hbits
  clear hg hT hown hbits
  go_enter Tryd.func155, Tryd.ntmps155
  go_upto_region 1 with fail
  go_cut [5] (fun s5 wx => ∃ p : Nat, s5 = .pointer (some ⟨p, 0, none⟩) ∧ w.heap.size ≤ p ∧ RowIn wx p (diff (g i) (2 ^ i)) ∧ Below w.heap.size w wx)
  case first =>
    go_region_with (first | (go_at_call 147; refine (rowOf_any _ i _ rfl (by omega)).mono ?_; rintro e w1 ⟨rfl, hb1⟩; have ⟨hc, hf⟩ := bcell hb1; have hz := bsize hb1; have B1 : Below w.heap.size w w1 := (by first | exact (Below.refl _ w).drew.trans hb1 | exact (((Below.refl _ w).alloc (Nat.le_refl _) _).drew).trans (hb1.mono (by simp [hdr])))) | (go_at_call 146; refine (without_any _ _ _).mono ?_; rintro e w2 ⟨rfl, hb2⟩; have ⟨hc, hf⟩ := bcell hb2; have hz2 := bsize hb2; have B2 : Below w.heap.size w w2 := (by first | exact B1.trans (hb2.mono B1.size) | exact (B1.alloc B1.size _).trans (hb2.mono (by have := B1.size; simp; omega)))))
    all_goals
      go_wp2_with fail
      go_meet
    all_goals
      first
        | exact ⟨_, rfl, B2.size, RowIn.alloc _ (diff_lt _ (HG.out.2 i)), B2.alloc B2.size _⟩
        | exact ⟨_, rfl, B1.size, RowIn.set4 ((hb2.block _ (by simp)).trans (heap_alloc_new _ _)) (diff_lt _ (HG.out.2 i)), (((B2.setCell B1.size _).setCell B1.size _).setCell B1.size _).setCell B1.size _⟩
        | exact ⟨_, rfl, Nat.le_refl _, RowIn.set4 ((hb2.block _ (hz _ (by simp [hdr]))).trans ((hb1.block _ (by simp [hdr])).trans (heap_alloc_new _ _))) (diff_lt _ (HG.out.2 i)), (((B2.setCell (Nat.le_refl _) _).setCell (Nat.le_refl _) _).setCell (Nat.le_refl _) _).setCell (Nat.le_refl _) _⟩
  case rest =>
    obtain ⟨p, rfl, hp, hr0, hB⟩ := hcut
    have hL0 : Look b g w wc := ⟨HG.out.below hB HG.out.lt, HT.out.below hB, hB, HG.out.lt⟩
    have HL0 := Lib.hid hL0
    have HR0 := Lib.hid hr0
    clear hL0 hr0 hB c0 c1 c2 c3 e0 e1 e2 e3 hlt1 hle hne hne'
    go_wp2
    go_loopg [6] (diff (g i) (2 ^ i)) (fun r v6 wr => RowIn wr p r ∧ Look b g w wr ∧ Left g i r)
    case atStart => exact ⟨HR0.out, HL0.out, Left.start g i⟩
    case round =>
      obtain ⟨hr, hL, hleft⟩ := hrel
      have hcall := empty_any gk wr hr.2
      obtain ⟨r0, r1, r2, r3⟩ := hr.cells
      by_cases h0 : gk = 0
      · subst h0
        have HF := Lib.hid hleft.done
        have HL := Lib.hid hL
        rw [decide_eq_true rfl] at hcall
        clear hr hL hleft
        go_wp2_with (go_at_call 142; refine hcall.mono ?_; clear hcall; rintro e w1 ⟨rfl, hb1⟩)
        go_ret
        exact ⟨⟨true, fun _ => HF.out, fun h => (by cases h), rfl⟩, (HL.out.step hb1).below⟩
      · rw [decide_eq_false h0] at hcall
        have HL := Lib.hid hL
        have HR := Lib.hid hr
        have HE := Lib.hid hleft
        have HN := Lib.hid h0
        clear hr hL hleft h0
        go_upto_region 3 with (go_at_call 142; refine hcall.mono ?_; clear hcall; rintro e w1 ⟨rfl, hb1⟩)
        have HL1 := Lib.hid (HL.out.step hb1)
        have HR1 := Lib.hid (HR.out.below hb1 HR.out.lt)
        clear r0 r1 r2 r3 hb1 HL HR
        obtain ⟨r0, r1, r2, r3⟩ := HR1.out.cells
        have hplt := HR1.out.lt
        have hblt := HL1.out.grid.lt
        go_cut [6] (fun v6 wx => ∃ q k : Nat, v6 = .pointer (some ⟨q, 0, none⟩) ∧ q ≠ p ∧ w.heap.size ≤ q ∧ Least gk k ∧ RowIn wx q (g k) ∧ RowIn wx p gk ∧ Look b g w wx)
        case first =>
          have e0 : ∀ X, (w1.alloc X).cell? ⟨p, 0, none⟩ = some (.int .u64 ((word gk 0 : Nat) : Int)) := fun X => (Below.cell ((Below.refl _ w1).alloc (Nat.le_refl _) X) (p := ⟨p, 0, none⟩) hplt).trans r0
          have e1 : ∀ X, (w1.alloc X).cell? ⟨p, 1, none⟩ = some (.int .u64 ((word gk 1 : Nat) : Int)) := fun X => (Below.cell ((Below.refl _ w1).alloc (Nat.le_refl _) X) (p := ⟨p, 1, none⟩) hplt).trans r1
          have e2 : ∀ X, (w1.alloc X).cell? ⟨p, 2, none⟩ = some (.int .u64 ((word gk 2 : Nat) : Int)) := fun X => (Below.cell ((Below.refl _ w1).alloc (Nat.le_refl _) X) (p := ⟨p, 2, none⟩) hplt).trans r2
          have e3 : ∀ X, (w1.alloc X).cell? ⟨p, 3, none⟩ = some (.int .u64 ((word gk 3 : Nat) : Int)) := fun X => (Below.cell ((Below.refl _ w1).alloc (Nat.le_refl _) X) (p := ⟨p, 3, none⟩) hplt).trans r3
          go_region_with (first | (go_at_call 166; refine (first_any gk _ HR1.out.2 HN.out (by first | exact HL1.out.tab.below (Below.refl _ w1).drew | exact HL1.out.tab.below (((Below.refl _ w1).alloc (Nat.le_refl _) _).drew))).mono ?_; rintro e w3 ⟨k, hk, rfl, hb3⟩; have ⟨hc, hf⟩ := bcell hb3; have hz := bsize hb3; have B3 : Below w1.heap.size w1 w3 := (by first | exact (Below.refl _ w1).drew.trans hb3 | exact (((Below.refl _ w1).alloc (Nat.le_refl _) _).drew).trans (hb3.mono (by simp [hdr]))); have hk2 : k < 200 := (by have := HI.out i k hi (HE.out.1 k hk.1).1; omega); have hk3 : (0 : Int) ≤ (k : Int) := (by omega); have hk4 : (k : Int) < 200 := (by omega); obtain ⟨d0, d1, d2, d3⟩ := HL1.out.grid.row k hk2; have f0 := cell_alloc_any d0; have f1 := cell_alloc_any d1; have f2 := cell_alloc_any d2; have f3 := cell_alloc_any d3; obtain ⟨m0, m1, m2, m3⟩ := (HL1.out.step B3).grid.row k hk2; replace m0 := cell_alloc_any m0; replace m1 := cell_alloc_any m1; replace m2 := cell_alloc_any m2; replace m3 := cell_alloc_any m3; have HK := Lib.hid hk; clear hk))
          all_goals
            go_wp2_with fail
            go_meet
          all_goals
            first
              | exact ⟨_, k, rfl, Nat.ne_of_gt (Nat.lt_of_lt_of_le hplt B3.size), Nat.le_trans HL1.out.below.size B3.size, HK.out, RowIn.alloc _ (HG.out.2 k), HR1.out.below (B3.alloc B3.size _) hplt, HL1.out.step (B3.alloc B3.size _)⟩
              | exact ⟨_, k, rfl, Nat.ne_of_gt hplt, HL1.out.below.size, HK.out, RowIn.set4 ((hb3.block _ (by simp [hdr])).trans (heap_alloc_new _ _)) (HG.out.2 k), HR1.out.below ((((B3.setCell (Nat.le_refl _) _).setCell (Nat.le_refl _) _).setCell (Nat.le_refl _) _).setCell (Nat.le_refl _) _) hplt, HL1.out.step ((((B3.setCell (Nat.le_refl _) _).setCell (Nat.le_refl _) _).setCell (Nat.le_refl _) _).setCell (Nat.le_refl _) _)⟩
        case rest =>
          obtain ⟨q, k, rfl, hqp, hq, hk, hrq, hrp, hL⟩ := hcut
          have hgk := HE.out.1 k hk.1
          have hkn : k < n := HI.out i k hi hgk.1
          have HK := Lib.hid hk
          have HKI := Lib.hid hgk
          have HL2 := Lib.hid hL
          have HQ := Lib.hid hrq
          have HP := Lib.hid hrp
          obtain ⟨r0, r1, r2, r3⟩ := hrp.cells
          obtain ⟨q0, q1, q2, q3⟩ := hrq.cells
          obtain ⟨c0, c1, c2, c3⟩ := hL.grid.row i hi2
          have hplt := hrp.lt
          have hqlt := hrq.lt
          have hblt := hL.grid.lt
          clear hk hgk hL hrq hrp HL1 HR1
          go_upto_region 4 with fail
          go_cut [37] (fun v wx => v = .bool ((g k).testBit i || !(decide (diff (g k) (g i) = 0))) ∧ RowIn wx q (g k) ∧ RowIn wx p gk ∧ Look b g w wx)
          case first =>
            cases t1 : (g k).testBit i with
            | true =>
              first | (go_region_with (first | (go_at_call 89; refine (has_any (g k) _ i _ rfl (by omega)).mono ?_; rw [t1]; rintro e w4 ⟨rfl, hb4⟩; have B4 : Below wc.heap.size wc w4 := (Below.refl _ wc).drew.trans hb4))) | fail
              all_goals
                go_wp2_with fail
                go_meet
              all_goals exact ⟨by rw [t1]; rfl, HQ.out.below B4 hqlt, HP.out.below B4 hplt, HL2.out.step B4⟩
            | false =>
              go_region_with (first | (go_at_call 89; refine (has_any (g k) _ i _ rfl (by omega)).mono ?_; rw [t1]; rintro e w4 ⟨rfl, hb4⟩; have B4 : Below wc.heap.size wc w4 := (Below.refl _ wc).drew.trans hb4; have ⟨hc, hf⟩ := bcell hb4; have hz := bsize hb4) | (go_at_call 146; refine (without_any _ _ _).mono ?_; rintro e w5 ⟨rfl, hb5⟩; have B5 : Below wc.heap.size wc w5 := B4.trans (hb5.mono B4.size)) | (go_at_call 142; refine (empty_any (diff (g k) (g i)) _ (diff_lt _ (HG.out.2 k))).mono ?_; rintro e w6 ⟨rfl, hb6⟩; have B6 : Below wc.heap.size wc w6 := B5.trans (hb6.mono B5.size)))
              all_goals
                go_wp2_with fail
                go_meet
              all_goals exact ⟨by rw [t1]; rfl, HQ.out.below B6 hqlt, HP.out.below B6 hplt, HL2.out.step B6⟩
          case rest =>
            obtain ⟨hv, hrq, hrp, hL⟩ := hcut
            by_cases hbad : (g k).testBit i = true ∨ diff (g k) (g i) ≠ 0
            · have hv2 := hv.trans (show Value.bool ((g k).testBit i || !(decide (diff (g k) (g i) = 0))) = .bool true by
                rcases hbad with h | h
                · rw [h]; rfl
                · rw [decide_eq_false h, Bool.or_comm]; rfl)
              subst hv2
              have HB := Lib.hid (show BadBit g i from ⟨k, HKI.out.1, HKI.out.2, by
                rcases hbad with h | h
                · exact .inl h
                · exact .inr (not_within_of_diff h)⟩)
              have HL := Lib.hid hL
              clear hv hbad hL hrq hrp
              go_wp2
              go_ret
              exact ⟨⟨false, fun h => (by cases h), fun _ => HB.out, rfl⟩, HL.out.below⟩
            · have h1 : (g k).testBit i = false := by
                cases h : (g k).testBit i with
                | false => rfl
                | true => exact absurd (.inl h) hbad
              have h2 : diff (g k) (g i) = 0 := by
                by_cases h : diff (g k) (g i) = 0
                · exact h
                · exact absurd (.inr h) hbad
              have hv2 := hv.trans (show Value.bool ((g k).testBit i || !(decide (diff (g k) (g i) = 0))) = .bool false by rw [h1, decide_eq_true h2]; rfl)
              subst hv2
              have HS := Lib.hid (HE.out.step HK.out.1 h1 h2)
              have HL := Lib.hid hL
              have HP3 := Lib.hid hrp
              obtain ⟨s0, s1, s2, s3⟩ := hrp.cells
              obtain ⟨y0, y1, y2, y3⟩ := hrq.cells
              have fr := hrp.frozen
              have hplt3 := hrp.lt
              clear hv hbad hL hrq hrp h1 h2 r0 r1 r2 r3 q0 q1 q2 q3 c0 c1 c2 c3 hplt hqlt hblt
              go_wp2_with (go_at_call 146; refine (without_any _ _ _).mono ?_; rintro e w7 ⟨rfl, hb7⟩; have ⟨hc, hf⟩ := bcell hb7; have hz := bsize hb7)
              go_roundg (diff gk (g k))
              case measure => exact diff_less HK.out.1 (HO.out k hkn)
              case rel => exact ⟨RowIn.set4 ((hb7.block p hplt3).trans HP3.out.1) (diff_lt _ HP3.out.2), ((((HL.out.step hb7).set hp 0 _).set hp 1 _).set hp 2 _).set hp 3 _, HS.out⟩
end Go.Proofs.YtkomghohdhengaaDoor


