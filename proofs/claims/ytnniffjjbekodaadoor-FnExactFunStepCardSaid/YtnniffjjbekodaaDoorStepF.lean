/- The program's FunStep. -/
import Derived.Test.YtnniffjjbekodaaDoorStepI
import Derived.Test.YtnniffjjbekodaaDoorIsEl
namespace Go.Proofs.YtnniffjjbekodaaDoor
open Go.RowKit Go.Deep Go.Shelf

theorem ftB_nil (rows rows' : Rows2) : ftB rows rows' [] = (domB rows && domB rows') := by unfold ftB; simp
theorem rows_nil (w : World) : RowsAt w (.slice none 0 0) [] := ⟨none, 0, rfl, Nat.le_refl _, Nat.zero_le _, fun _ hi => absurd hi (Nat.not_lt_zero _)⟩
/-- No list. -/
theorem ownB_nil {rows rows' : Rows2} {a b : Int} {w W : World} (h : stepOk rows rows' a b = false) (hb : Below w.heap.size w W) : OwnB (stepL rows rows' a b) (stepOk rows rows' a b) w (.returned (.tuple #[.slice none 0 0, .bool false])) W := by
  unfold stepL
  rw [h]
  exact ⟨_, rfl, OwnI.nil _ _ _ _, hb⟩

set_option maxRecDepth 100000 in
set_option maxHeartbeats 8000000 in
theorem implStep_any (v v' : Value) (rows rows' : Rows2) (a b : Int) (w : World) (hv : RowsAt w v rows) (hv' : RowsAt w v' rows') (hT : Tab w) (hn : bulk rows ≤ 1048576) (hn' : bulk rows' ≤ 1048576) :
    Calls Tryd.prog 37 #[.agg #[v], .agg #[v'], .int .i64 a, .int .i64 b] w (OwnB (stepL rows rows' a b) (stepOk rows rows' a b) w) := by
  have h0 := Two.start w 28 28 hv hv'
  have hT1 := hT.below h0.below
  have hcall := funTypeOf_any v v' _ rows rows' [] _ h0.r0 h0.r1 (rows_nil _) hT1 hn hn'
  rw [ftB_nil] at hcall
  have hc0 := h0.c0
  have hc1 := h0.c1
  obtain ⟨A, C, rfl, _⟩ := hv
  obtain ⟨A', C', rfl, _⟩ := hv'
  have H0 := Lib.hid h0
  have T0 := Lib.hid hT1
  clear h0 hT1 hT
  cases hm : domB rows && domB rows' with
  | false =>
    rw [hm] at hcall
    have HE := Lib.hid (show stepOk rows rows' a b = false by unfold stepOk; rw [hm]; rfl)
    clear hm
    go_enter Tryd.func37, Tryd.ntmps37
    go_wp2_with (go_at_call 55; refine hcall.mono ?_; clear hcall; rintro e w1 ⟨⟨q, q', rfl, _⟩, hb1⟩; have H2 := Lib.hid ((H0.out.step hb1).step ((Below.refl _ w1).alloc (Nat.le_refl _) (.cells #[.pointer q, .pointer q'] 60))); clear hb1)
    go_ret2
    exact ownB_nil HE.out H2.out.below
  | true =>
    rw [hm] at hcall
    rw [Bool.and_eq_true] at hm
    have hok := ok_of_valid (show validB rows = true by have h := hm.1; unfold domB at h; rw [Bool.and_eq_true] at h; exact h.1)
    have hok' := ok_of_valid (show validB rows' = true by have h := hm.2; unfold domB at h; rw [Bool.and_eq_true] at h; exact h.1)
    obtain ⟨m', hml, hme⟩ := dom_least hm.2
    have hcall2 := hcall.mono (fun e w' h => h.yes)
    clear hcall
    by_cases ha : 0 ≤ a ∧ a < rows.length
    · by_cases hb : 0 ≤ b ∧ b < rows'.length
      · have HE := Lib.hid (show stepOk rows rows' a b = true by unfold stepOk; rw [hm.1, hm.2, decide_eq_true ha, decide_eq_true hb]; rfl)
        have hl200 := hok'.len.2
        have HC := Lib.hid (fun p p' W hg hg' hT => step_any p p' rows rows' a b a.toNat m' W hg hg' hT hok hok' (by omega) (by omega) hb.1 (by omega) hme hml)
        have HA := Lib.hid (decide_eq_true ha)
        have HB := Lib.hid (decide_eq_true hb)
        clear ha hb hok hok' hm hme hl200
        go_enter Tryd.func37, Tryd.ntmps37
        go_wp2_with (first | (go_at_call 55; refine hcall2.mono ?_; clear hcall2; rintro e w1 ⟨⟨p, p', rfl, _, _, hg, hg'⟩, hb1⟩; have B2 := Lib.hid ((Below.refl w1.heap.size w1).alloc (Nat.le_refl _) (.cells #[.pointer (some ⟨p, 0, none⟩), .pointer (some ⟨p', 0, none⟩)] 60)); have H2 := Lib.hid ((H0.out.step hb1).step B2.out); have T2 := Lib.hid ((T0.out.below hb1).below B2.out); have G2 := Lib.hid (hg.below B2.out hg.lt); have G2' := Lib.hid (hg'.below B2.out hg'.lt); obtain ⟨hq0, hq1⟩ := two_fresh w1 (.pointer (some ⟨p, 0, none⟩)) (.pointer (some ⟨p', 0, none⟩)) 60; have Q0 := Lib.hid hq0; have Q1 := Lib.hid hq1; have hd0 := H2.out.c0; clear hb1 hg hg' hq0 hq1) | (go_at_call_of 67 (Value.int IntKind.i64 a); refine (isElement_any _ rows a _ H2.out.r0).mono ?_; rintro e w2 ⟨hre, hb2⟩; rw [HA.out] at hre; subst hre; have H3 := Lib.hid (H2.out.step hb2); have T3 := Lib.hid (T2.out.below hb2); have G3 := Lib.hid (G2.out.below hb2 G2.out.lt); have G3' := Lib.hid (G2'.out.below hb2 G2'.out.lt); have Q3 := Lib.hid ((hb2.cell (p := ⟨w1.heap.size, 0, none⟩) (cell_lt Q0.out)).trans Q0.out); have Q3' := Lib.hid ((hb2.cell (p := ⟨w1.heap.size, 1, none⟩) (cell_lt Q1.out)).trans Q1.out); have hd1 := H3.out.c1; clear hb2) | (go_at_call_of 67 (Value.int IntKind.i64 b); refine (isElement_any _ rows' b _ H3.out.r1).mono ?_; rintro e w3 ⟨hre, hb3⟩; rw [HB.out] at hre; subst hre; have H4 := Lib.hid (H3.out.step hb3); have T4 := Lib.hid (T3.out.below hb3); have G4 := Lib.hid (G3.out.below hb3 G3.out.lt); have G4' := Lib.hid (G3'.out.below hb3 G3'.out.lt); have hq4 := ((hb3.cell (p := ⟨w1.heap.size, 0, none⟩) (cell_lt Q3.out)).trans Q3.out); have hq4' := ((hb3.cell (p := ⟨w1.heap.size, 1, none⟩) (cell_lt Q3'.out)).trans Q3'.out); clear hb3) | (go_at_call 68; refine (HC.out p p' _ G4.out G4'.out T4.out).mono ?_; rintro e w4 ⟨u, rfl, hu, hb4⟩; have HU := Lib.hid hu; have B4 := Lib.hid hb4; clear hu hb4))
        go_ret2
        refine ⟨u, by rw [HE.out]; rfl, ?_, H4.out.below.trans (B4.out.mono H4.out.below.size)⟩
        unfold stepL
        rw [if_pos HE.out]
        exact HU.out.wider H4.out.below.size (Nat.le_refl _)
      · have HE := Lib.hid (stepOk_no4 (rows := rows) (a := a) hb)
        have HA := Lib.hid (decide_eq_true ha)
        have HB := Lib.hid (decide_eq_false hb)
        clear ha hb hok hok' hm hme
        go_enter Tryd.func37, Tryd.ntmps37
        go_wp2_with (first | (go_at_call 55; refine hcall2.mono ?_; clear hcall2; rintro e w1 ⟨⟨p, p', rfl, _, _, hg, hg'⟩, hb1⟩; have B2 := Lib.hid ((Below.refl w1.heap.size w1).alloc (Nat.le_refl _) (.cells #[.pointer (some ⟨p, 0, none⟩), .pointer (some ⟨p', 0, none⟩)] 60)); have H2 := Lib.hid ((H0.out.step hb1).step B2.out); have hd0 := H2.out.c0; clear hb1 hg hg') | (go_at_call_of 67 (Value.int IntKind.i64 a); refine (isElement_any _ rows a _ H2.out.r0).mono ?_; rintro e w2 ⟨hre, hb2⟩; rw [HA.out] at hre; subst hre; have H3 := Lib.hid (H2.out.step hb2); have hd1 := H3.out.c1; clear hb2) | (go_at_call_of 67 (Value.int IntKind.i64 b); refine (isElement_any _ rows' b _ H3.out.r1).mono ?_; rintro e w3 ⟨hre, hb3⟩; rw [HB.out] at hre; subst hre; have H4 := Lib.hid (H3.out.step hb3); clear hb3))
        go_ret2
        exact ownB_nil HE.out H4.out.below
    · have HE := Lib.hid (stepOk_no3 (rows' := rows') (b := b) ha)
      have HA := Lib.hid (decide_eq_false ha)
      clear ha hok hok' hm hme
      go_enter Tryd.func37, Tryd.ntmps37
      go_wp2_with (first | (go_at_call 55; refine hcall2.mono ?_; clear hcall2; rintro e w1 ⟨⟨p, p', rfl, _, _, hg, hg'⟩, hb1⟩; have B2 := Lib.hid ((Below.refl w1.heap.size w1).alloc (Nat.le_refl _) (.cells #[.pointer (some ⟨p, 0, none⟩), .pointer (some ⟨p', 0, none⟩)] 60)); have H2 := Lib.hid ((H0.out.step hb1).step B2.out); have hd0 := H2.out.c0; clear hb1 hg hg') | (go_at_call_of 67 (Value.int IntKind.i64 a); refine (isElement_any _ rows a _ H2.out.r0).mono ?_; rintro e w2 ⟨hre, hb2⟩; rw [HA.out] at hre; subst hre; have H3 := Lib.hid (H2.out.step hb2); clear hb2))
      go_ret2
      exact ownB_nil HE.out H3.out.below
end Go.Proofs.YtnniffjjbekodaaDoor
