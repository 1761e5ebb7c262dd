/- The model's order turned round (l1Back). -/
import Derived.Test.YtkomghohdhengaaDoorPc10
import Derived.Test.YtkomghohdhengaaDoorPc6
import Derived.Test.YtkomghohdhengaaDoorPc1
import Derived.Deep.RegionLaw
import Derived.RangeFuncBox
namespace Go.Proofs.YtkomghohdhengaaDoor
open Go.RowKit Go.Deep

/-- Row k, when the first i rows and p elements of the next one have been turned round. -/
def backP (rows : Rows2) (i p k : Nat) : List Int := (((List.range i).filter fun q => upB rows q k) ++ (if (k : Int) ∈ (rows.getD i []).take p then [i] else [])).map (fun q : Nat => (q : Int))
theorem backP_start (rows : Rows2) (k : Nat) : backP rows 0 0 k = [] := by simp [backP]
theorem backP_next {rows : Rows2} {i : Nat} (hi : i < rows.length) (k : Nat) : backP rows i rows[i].length k = backP rows (i + 1) 0 k := by
  unfold backP
  rw [getD_at [] hi, List.take_length, List.range_succ, List.filter_append]
  simp only [List.take_zero, List.not_mem_nil, if_false, List.append_nil]
  congr 2
  by_cases h : (k : Int) ∈ rows[i]
  · rw [if_pos h, List.filter_cons, if_pos ((upB_iff hi).2 h), List.filter_nil]
  · rw [if_neg h, List.filter_cons, (upB_no hi).2 h]
    simp
theorem backP_step {rows : Rows2} {i p : Nat} (hi : i < rows.length) (hp : p < rows[i].length) (ha : Asc rows[i]) {j : Nat} (hj : rows[i][p] = (j : Int)) (k : Nat) :
    backP rows i (p + 1) k = if k = j then backP rows i p k ++ [(i : Int)] else backP rows i p k := by
  have hnot : ∀ q (hq : q < rows[i].length), q < p → rows[i][q] ≠ (j : Int) := fun q hq hlt e => by
    have := ha q p hlt hp
    omega
  unfold backP
  rw [getD_at [] hi, List.take_succ_eq_append_getElem hp, hj]
  by_cases e : k = j
  · subst e
    have h1 : (k : Int) ∉ rows[i].take p := fun hm => by
      obtain ⟨q, hq, he⟩ := List.getElem_of_mem hm
      rw [List.length_take] at hq
      rw [List.getElem_take] at he
      exact hnot q (by omega) (by omega) he
    rw [if_pos rfl, if_neg h1, if_pos (by simp)]
    simp
  · rw [if_neg e]
    have h2 : ((k : Int) ∈ rows[i].take p ++ [(j : Int)]) = ((k : Int) ∈ rows[i].take p) := by
      have : (k : Int) ≠ (j : Int) := by omega
      simp [this]
    simp only [h2]
theorem backP_done {rows : Rows2} (h : Ok rows) (k : Nat) (hk : k < rows.length) : backP rows rows.length 0 k = rowsF (backRows rows) k := by
  rw [rowsF_lt (by rw [backRows_len]; exact hk), backRows_at]
  unfold backP backRow
  simp only [List.take_zero, List.not_mem_nil, if_false, List.append_nil]
  congr 1
  apply List.filter_congr
  intro q hq
  exact h.up (by simpa using hq) k

theorem backP_len (rows : Rows2) {i p : Nat} (hi : i < rows.length) (k : Nat) : (backP rows i p k).length ≤ rows.length := by
  unfold backP
  rw [List.length_map, List.length_append]
  have h1 := List.length_filter_le (fun q => upB rows q k) (List.range i)
  rw [List.length_range] at h1
  split
  · simp; omega
  · simp; omega

theorem wf_nat {i : Nat} (h : i ≤ 1048576) : (Lit.int .i64 (i : Int)).wf = true := by
  have e1 : IntKind.i64.min = -9223372036854775808 := rfl
  have e2 : IntKind.i64.max = 9223372036854775807 := rfl
  simp [Lit.wf, e1, e2]
  omega

theorem emptyCells : Tryd.prog.follows .mixedOrders = true := by kernel_rfl

/-- What holds while the order is turned round. -/
structure Turning (w : World) (v : Value) (rows : Rows2) (R : Nat → List Int) (W : World) : Prop where
  base : RowsAt w v rows
  arg : Boxed W w.heap.size 25 v
  below : Below w.heap.size w W
  res : Boxed W (w.heap.size + 1) 25 (.slice none 0 0)
  out : Boxed W (w.heap.size + 3) 25 (.slice (some ⟨w.heap.size + 2, 0, none⟩) rows.length rows.length)
  own : OwnR 3 26 W (.slice (some ⟨w.heap.size + 2, 0, none⟩) rows.length rows.length) rows.length R (w.heap.size + 2) W.heap.size

theorem Turning.at {w : World} {v : Value} {rows : Rows2} {R : Nat → List Int} {W : World} (h : Turning w v rows R W) : RowsAt W v rows := h.base.below h.below
theorem Turning.start (w : World) (v : Value) (rows : Rows2) (h : RowsAt w v rows) (hn : rows.length ≤ 200) :
    Turning w v rows (fun _ => []) ((((w.alloc (.cells #[v] 25)).alloc (.cells #[.slice none 0 0] 25)).alloc (.cells (madeCells #[.slice none 0 0] rows.length) 26)).alloc (.cells #[.slice (some ⟨w.heap.size + 1 + 1, 0, none⟩) rows.length rows.length] 25)) := by
  have s1 : (w.alloc (.cells #[v] 25)).heap.size = w.heap.size + 1 := World.size_alloc _ _
  have s2 : ((w.alloc (.cells #[v] 25)).alloc (.cells #[.slice none 0 0] 25)).heap.size = w.heap.size + 2 := by rw [World.size_alloc, s1]
  have s3 : (((w.alloc (.cells #[v] 25)).alloc (.cells #[.slice none 0 0] 25)).alloc (.cells (madeCells #[.slice none 0 0] rows.length) 26)).heap.size = w.heap.size + 3 := by rw [World.size_alloc, s2]
  have b4 := ((((Below.refl w.heap.size w).alloc (Nat.le_refl _) (.cells #[v] 25)).alloc (by rw [s1]; omega) (.cells #[.slice none 0 0] 25)).alloc (by rw [s2]; omega) (.cells (madeCells #[.slice none 0 0] rows.length) 26)).alloc (by rw [s3]; omega) (.cells #[.slice (some ⟨w.heap.size + 1 + 1, 0, none⟩) rows.length rows.length] 25)
  have r1 := Boxed.new (w.alloc (.cells #[v] 25)) 25 (.slice none 0 0)
  rw [s1] at r1
  have r4 := Boxed.new (((w.alloc (.cells #[v] 25)).alloc (.cells #[.slice none 0 0] 25)).alloc (.cells (madeCells #[.slice none 0 0] rows.length) 26)) 25 (.slice (some ⟨w.heap.size + 1 + 1, 0, none⟩) rows.length rows.length)
  rw [s3] at r4
  have r3 := World.rowIs_made ((w.alloc (.cells #[v] 25)).alloc (.cells #[.slice none 0 0] 25)) (.slice none 0 0) rows.length 26
  rw [s2] at r3
  refine ⟨h, (((Boxed.new w _ _).alloc _).alloc _).alloc _, b4, (r1.alloc _).alloc _, r4, .inr ⟨w.heap.size + 2, rows.length, _, rfl, Nat.le_refl _, by unfold maxLen; omega, Nat.le_refl _, by rw [World.size_alloc, s3]; omega, r3.alloc _, fun j _ => OwnI.nil _ _ _ _, fun _ _ _ _ => .inl rfl⟩⟩

theorem int_ne : (3 : TypeId) ≠ 26 := by decide
/-- The cells of an order's variable are no integers. -/
theorem order_ne : (3 : TypeId) ≠ 25 := by decide
theorem Turning.keep {w : World} {v : Value} {rows : Rows2} {R R' : Nat → List Int} {W W' : World} (h : Turning w v rows R W) (hb : ∀ b, b < w.heap.size + 2 ∨ b = w.heap.size + 3 → W'.heap[b]? = W.heap[b]?) (hB : Below w.heap.size w W')
    (ho : OwnR 3 26 W' (.slice (some ⟨w.heap.size + 2, 0, none⟩) rows.length rows.length) rows.length R' (w.heap.size + 2) W'.heap.size) : Turning w v rows R' W' :=
  ⟨h.base, (hb _ (by omega)).trans h.arg, hB, (hb _ (by omega)).trans h.res, (hb _ (by omega)).trans h.out, ho⟩
theorem Turning.cleared {w : World} {v : Value} {rows : Rows2} {W : World} {f : Nat → Value} (h : Turning w v rows (fun _ => []) W) (hn : rows.length ≤ 200) (hr : W.rowIs (w.heap.size + 2) 26 rows.length f)
    (hI : ∀ q, q < rows.length → OwnI 3 W (f q) ((fun _ => []) q) (w.heap.size + 2) W.heap.size) (hD : ∀ p q, p < q → q < rows.length → (f p).ownBlock = none ∨ (f p).ownBlock ≠ (f q).ownBlock) (i : Nat) :
    Turning w v rows (fun _ => []) ((W.setCell ⟨w.heap.size + 2, i, none⟩ (.slice (some ⟨W.heap.size, 0, none⟩) 0 0)).alloc (.cells #[] 3)) := by
  have hz : w.heap.size + 3 < W.heap.size := h.out.lt
  rw [← World.setCell_alloc_past _ _ _ _ hr.lt]
  have hb := (Below.refl W.heap.size W).alloc (Nat.le_refl _) (.cells #[] 3)
  have ho := OwnR.stored (t := 3) (u := 26) (R := fun _ => []) (j := i) (v' := .slice (some ⟨W.heap.size, 0, none⟩) 0 0) (xs := []) int_ne (Nat.le_refl _) (by unfold maxLen; omega) (Nat.le_refl _) hr hI hD hb
    ⟨fun _ h => (by cases h), .inr ⟨W.heap.size, 0, fun _ => undef, rfl, Nat.le_refl _, Nat.zero_le _, Nat.le_refl _, by rw [World.size_alloc]; omega, World.rowIs_alloc W #[] 3 (fun _ => undef) (fun _ h => absurd h (Nat.not_lt_zero _)), fun _ h => absurd h (Nat.not_lt_zero _)⟩⟩
  refine h.keep (fun b hb' => ?_) ((h.below.trans (hb.mono (by omega))).setCell (p := ⟨w.heap.size + 2, i, none⟩) (by show _ ≤ w.heap.size + 2; omega) _) (by
    rw [size_setCell]
    exact ho.congr (fun q _ => by split <;> rfl))
  rw [Below.heap_setCell _ _ _ b (show b ≠ w.heap.size + 2 by omega)]
  exact hb.block b (by omega)

theorem Turning.appended {w : World} {v : Value} {rows : Rows2} {R : Nat → List Int} {W W1 W2 : World} {f : Nat → Value} {j g' cap' : Nat} {y : Int} (h : Turning w v rows R W) (hn : rows.length ≤ 200) (hr : W.rowIs (w.heap.size + 2) 26 rows.length f)
    (hI : ∀ q, q < rows.length → OwnI 3 W (f q) (R q) (w.heap.size + 2) W.heap.size) (hD : ∀ p q, p < q → q < rows.length → (f p).ownBlock = none ∨ (f p).ownBlock ≠ (f q).ownBlock) (hj : j < rows.length)
    (hy : (Lit.int .i64 y).wf = true) (hb1 : Below W.heap.size W W1)
    (hown : W2.ownsRow (w.heap.size + 2) 3 1 (.slice (some ⟨g', 0, none⟩) ((R j).length + 1) cap') ((R j).length + 1) (cellsI (R j) ++ [.int .i64 y])) (hgrow : W1.grownBy W2 (f j).ownBlock) (hat : (f j).ownBlock = some g' ∨ g' = W.heap.size + 1) (hlt : g' < W2.heap.size) :
    Turning w v rows (fun q => if q = j then R j ++ [y] else R q) (W2.setCell ⟨w.heap.size + 2, j, none⟩ (.slice (some ⟨g', 0, none⟩) ((R j).length + 1) cap')) := by
  have hz : w.heap.size + 3 < W.heap.size := h.out.lt
  have ho := OwnR.appended (t := 3) (u := 26) int_ne (Nat.le_refl _) (by unfold maxLen; omega) (Nat.le_refl _) hr hI hD hj hy hb1.size (fun b hb => hb1.block b hb) hown hgrow (by rcases hat with h | h; exact .inl h; exact .inr (by omega)) hlt
  have hfb : ∀ b, (f j).ownBlock = some b → w.heap.size + 2 < b ∧ b ≠ w.heap.size + 3 := fun b hb => by
    obtain ⟨h1, _, c, h3⟩ := (hI j hj).block b hb
    refine ⟨?_, fun e => ?_⟩
    · by_cases e : b = w.heap.size + 2
      · obtain ⟨c0, h4, _⟩ := hr
        rw [e, h4] at h3
        injection h3 with h3
        injection h3 with _ h5
        exact absurd h5.symm int_ne
      · omega
    · have h4 := h.out
      unfold Boxed at h4
      rw [e, h4] at h3
      injection h3 with h3
      injection h3 with _ h5
      exact order_ne h5.symm
  refine h.keep (fun b hb => ?_) (((h.below.trans (hb1.mono (by omega))).grown hgrow (by have := hb1.size; omega) (fun k e => by have := hfb k e; omega)).setCell (p := ⟨w.heap.size + 2, j, none⟩) (by show _ ≤ w.heap.size + 2; omega) _) (by rw [size_setCell]; exact ho)
  rw [Below.heap_setCell _ _ _ b (show b ≠ w.heap.size + 2 by omega)]
  exact (hgrow.block b (by have := hb1.size; omega) (fun e => by have := hfb b e.symm; omega)).trans (hb1.block b (by omega))

/-- The order turned round, in new memory. -/
def BackPost (rows : Rows2) (w : World) (e : Ending) (w' : World) : Prop :=
  ∃ v, e = .returned (.agg #[v]) ∧ OwnR 3 26 w' v rows.length (rowsF (backRows rows)) w.heap.size w'.heap.size ∧ Below w.heap.size w w'

set_option maxRecDepth 100000 in
set_option maxHeartbeats 4000000 in
theorem l1Back_any (v : Value) (rows : Rows2) (w : World) (hv : RowsAt w v rows) (hok : Ok rows) :
    Calls Tryd.prog 85 #[.agg #[v]] w (BackPost rows w) := by
  have hlen := hok.len
  have hmk := run_make_row' (P := Tryd.prog) 23 26 (.slice none 0 0) 24 Tryd.underlying23 infoInts rfl .i64 .i64 rows.length (by omega) (by omega)
  have hH := Held.start w 25 hv
  obtain ⟨A, C, rfl, hC, hm, hx⟩ := hv
  unfold maxLen at hm
  obtain ⟨b0, o0, _, rfl, _, _⟩ := hx 0 (by omega)
  have hst := Turning.start w (.slice (some ⟨b0, o0, none⟩) rows.length C) rows ⟨_, _, rfl, hC, by unfold maxLen; exact hm, hx⟩ hlen.2
  have HST := Lib.hid hst
  clear hH hx hst
  go_enter Tryd.func85, Tryd.ntmps85
  go_wp2
  clear hmk
  go_loopw [4] (fun iv wr => ∃ i : Nat, i ≤ rows.length ∧ iv = .int .i64 i ∧ Turning w (.slice (some ⟨b0, o0, none⟩) rows.length C) rows (fun _ => []) wr) (fun iv _ => rows.length - (intOf iv).toNat)
  case atStart => exact ⟨0, Nat.zero_le _, rfl, HST.out⟩
  case round =>
    obtain ⟨i, hi, rfl, ht⟩ := hrel
    have HT := Lib.hid ht
    have hcell := ht.arg.cell
    have hout := ht.out.cell
    by_cases hlt : i < rows.length
    · obtain hnil | ⟨g, C2, f, e, hC2, hm2, hl2, hh2, hr2, hI2, hD2⟩ := ht.own
      · cases hnil.1
      cases e
      have hf2 := hr2.frozen i
      have hc2 := hr2.cell hlt
      have HR := Lib.hid hr2
      have HI := Lib.hid hI2
      have HD := Lib.hid hD2
      clear ht HST hr2 hI2 hD2
      go_wp2
      go_roundw
      case rel => exact ⟨i + 1, by omega, by go_num, HT.out.cleared hlen.2 HR.out HI.out HD.out i⟩
      case measure => simp [intOf]; omega
    · obtain rfl : i = rows.length := by omega
      clear ht HST
      go_wp2
      go_loopw [5] (fun iv wr => ∃ i : Nat, i ≤ rows.length ∧ iv = .int .i64 i ∧ Turning w (.slice (some ⟨b0, o0, none⟩) rows.length C) rows (backP rows i 0) wr) (fun iv _ => rows.length - (intOf iv).toNat)
      case atStart => exact ⟨0, Nat.zero_le _, rfl, by rw [show backP rows 0 0 = fun _ => [] from funext (backP_start rows)]; exact HT.out⟩
      case round =>
        obtain ⟨i, hi, rfl, ht⟩ := hrel
        have HT2 := Lib.hid ht
        have hcell := ht.arg.cell
        have hout := ht.out.cell
        clear HT
        by_cases hlt : i < rows.length
        · clear ht
          go_wp2
          go_loopw [6] (fun pv wr => ∃ p : Nat, p ≤ rows[i].length ∧ pv = .int .i64 p ∧ Turning w (.slice (some ⟨b0, o0, none⟩) rows.length C) rows (backP rows i p) wr) (fun pv _ => rows[i].length - (intOf pv).toNat)
          case atStart => exact ⟨0, Nat.zero_le _, rfl, HT2.out⟩
          case round =>
            obtain ⟨p, hp, rfl, ht⟩ := hrel
            have HT3 := Lib.hid ht
            have hcell := ht.arg.cell
            have hout := ht.out.cell
            obtain ⟨A1, C1, hC1, hm1, hc, hyy⟩ := ht.at.row hlt
            unfold maxLen at hm1
            clear HT2
            by_cases hpl : p < rows[i].length
            · obtain ⟨b1, o1, rfl, hc1⟩ := hyy p hpl
              have hrange := (hok.asc i hlt).2 _ (List.getElem_mem hpl)
              obtain ⟨j, hj⟩ : ∃ j : Nat, rows[i][p] = (j : Int) := ⟨rows[i][p].toNat, by omega⟩
              rw [hj] at hc1 hrange
              have hjl : j < rows.length := by omega
              have HJ := Lib.hid hj
              have HWF : Hid ((Lit.int .i64 (i : Int)).wf = true) := Lib.hid (wf_nat (by omega))
              obtain hnil | ⟨g, C2, f, e, hC2, hm2, hl2, hh2, hr2, hI2, hD2⟩ := ht.own
              · cases hnil.1
              cases e
              have hf2 := hr2.frozen j
              have hc2 := hr2.cell hjl
              have HR := Lib.hid hr2
              have HI := Lib.hid hI2
              have HD := Lib.hid hD2
              have hne : some (w.heap.size + 2) ≠ (f j).ownBlock := fun e => by
                obtain ⟨_, _, c, h3⟩ := (hI2 j hjl).block _ e.symm
                obtain ⟨c0, h4, _⟩ := hr2
                rw [h4] at h3
                injection h3 with h3
                injection h3 with _ h5
                exact int_ne h5.symm
              have HNE := Lib.hid hne
              have hne3 : some (w.heap.size + 3) ≠ (f j).ownBlock := fun e => by
                obtain ⟨_, _, c, h3⟩ := (hI2 j hjl).block _ e.symm
                have h4 := ht.out
                unfold Boxed at h4
                rw [h4] at h3
                injection h3 with h3
                injection h3 with _ h5
                exact order_ne h5.symm
              have HNE3 := Lib.hid hne3
              have hz3 := ht.out.lt
              have HOUT := Lib.hid (cell_alloc_any hout)
              have hout2 := cell_alloc_any hout
              have hc22 := cell_alloc_any hc2
              have HC2 := Lib.hid (cell_alloc_any hc2)
              have HF2 : Hid (∀ X, (wr.alloc X).frozen? ⟨w.heap.size + 2, j, none⟩ = false) := Lib.hid fun X => (Below.frozen ((Below.refl _ wr).alloc (Nat.le_refl _) X) (p := ⟨w.heap.size + 2, j, none⟩) hh2).trans hf2
              have howns := (hI2 j hjl).owns
              have HOWN := Lib.hid howns
              have hbl := backP_len rows hlt (p := p) j
              obtain ⟨i0, hi0, hz0, hz1, hz2⟩ := info_parts infoInt
              clear ht hr2 hI2 hD2 hyy hj hrange howns hne hne3
              go_wp2
              first | (go_region_law ((refine step_append_lies _ (by rfl) _ _ 26 (by rfl) (w.heap.size + 2) 3 i0 (.int .i64 0) 1 8 Tryd.underlying26 hi0 hz0 hz1 hz2 rfl (by decide) (f j) (backP rows i p j).length (cellsI (backP rows i p j)) (by rfl) (HOWN.out.alloc _) ⟨wr.heap.size, 0, none⟩ 1 1 [.int .i64 (i : Int)] (by rfl) rfl (World.news_of_block (heap_alloc_new wr _)) (by simp [Value.oneCell']) (by omega) (by unfold maxLen; omega) (by omega) (by simp; omega) (wr.heap.size + 1) (by simp) ?_; intro g' cap' w1 hown hgrow hat hlt'; have hc3 : w1.cell? ⟨w.heap.size + 2, j, none⟩ = some (f j) := (hgrow.cell_far ⟨w.heap.size + 2, j, none⟩ (by simp; omega) HNE.out).trans (HC2.out _); have hf3 : w1.frozen? ⟨w.heap.size + 2, j, none⟩ = false := (hgrow.frozen_far ⟨w.heap.size + 2, j, none⟩ (by simp; omega) HNE.out).trans (HF2.out _); have hout3 : w1.cell? ⟨w.heap.size + 3, 0, none⟩ = some (.slice (some ⟨w.heap.size + 2, 0, none⟩) rows.length rows.length) := (hgrow.cell_far ⟨w.heap.size + 3, 0, none⟩ (by simp; omega) HNE3.out).trans (HOUT.out _)))) | fail
              all_goals
                go_wp2
                go_roundw
                case rel =>
                  refine ⟨p + 1, by omega, by go_num, ?_⟩
                  have hap := HT3.out.appended hlen.2 HR.out HI.out HD.out hjl HWF.out ((Below.refl wr.heap.size wr).alloc (Nat.le_refl _) _) hown ⟨hgrow.os, hgrow.tape, hgrow.output, hgrow.size, hgrow.block⟩ hat hlt'
                  rw [show backP rows i (p + 1) = fun q => if q = j then backP rows i p j ++ [(i : Int)] else backP rows i p q from funext fun q => by
                    rw [backP_step hlt hpl (hok.asc i hlt).1 HJ.out q]
                    by_cases e : q = j
                    · subst e; rfl
                    · rw [if_neg e, if_neg e]]
                  exact hap
                case measure => simp [intOf]; omega
            · obtain rfl : p = rows[i].length := by omega
              clear ht
              go_wp2
              go_roundw
              case rel => exact ⟨i + 1, by omega, by go_num, by rw [← show backP rows i rows[i].length = backP rows (i + 1) 0 from funext (backP_next hlt)]; exact HT3.out⟩
              case measure => simp [intOf]; omega
        · obtain rfl : i = rows.length := by omega
          have hres := ht.res.cell
          have hfr := ht.res.frozen
          have hc9 := World.cell?_setCell_same' wr ⟨w.heap.size + 1, 0, none⟩ (.slice (some ⟨w.heap.size + 2, 0, none⟩) rows.length rows.length) (by rw [hres]; rfl)
          clear ht
          go_wp2
          refine bodyPost_ret (v := .agg #[.slice (some ⟨w.heap.size + 2, 0, none⟩) rows.length rows.length]) (by simp [results, Tryd.results85, go_sem, hc9]) rfl ?_
          refine ⟨_, rfl, ?_, HT2.out.below.setCell (p := ⟨w.heap.size + 1, 0, none⟩) (by show _ ≤ w.heap.size + 1; omega) _⟩
          rw [size_setCell]
          refine ((HT2.out.own.kept fun b hb _ => Below.heap_setCell _ _ _ b (show b ≠ w.heap.size + 1 by omega)).wider (by omega) (Nat.le_refl _)).congr fun k hk => backP_done hok k hk
end Go.Proofs.YtkomghohdhengaaDoor


