/- The law of PairAfter: model and program answer alike, the arguments are left alone, and the answer owns its memory. -/
import Derived.Test.YtpjkmiinpjhdnaaDoorMidPA
import Derived.Test.YtpjkmiinpjhdnaaDoorEnv
import Derived.Test.YtpjkmiinpjhdnaaDoorTo
import Derived.Deep.RegionHeld3
namespace Go.Proofs.YtpjkmiinpjhdnaaDoor
open Go.RowKit Go.Deep

theorem pairAft1_short (rows rows' rows2 : Rows2) (f g h k : List Int) (hf : f.length ≤ 1048576) : (pairAft1 rows rows' rows2 f g h k).length ≤ 1048576 := by
  unfold pairAft1
  split
  · rw [afterN_length]; exact hf
  · exact Nat.zero_le _
theorem pairAft2_short (rows rows' rows2 : Rows2) (f g h k : List Int) (hk : k.length ≤ 1048576) : (pairAft2 rows rows' rows2 f g h k).length ≤ 1048576 := by
  unfold pairAft2
  split
  · rw [afterN_length]; exact hk
  · exact Nat.zero_le _

set_option maxRecDepth 100000 in
set_option maxHeartbeats 16000000 in
theorem law_pairAfter (v0 : Value) (v1 : Value) (v2 : Value) (v3 : Value) (v4 : Value) (v5 : Value) (v6 : Value) (r0 : Rows2) (r1 : Rows2) (r2 : Rows2) (x3 : List Int) (x4 : List Int) (x5 : List Int) (x6 : List Int) (w : World) (h0 : RowsAt w v0 r0) (h1 : RowsAt w v1 r1) (h2 : RowsAt w v2 r2) (h3 : IntsAt w v3 x3) (h4 : IntsAt w v4 x4) (h5 : IntsAt w v5 x5) (h6 : IntsAt w v6 x6) (hT : Tab w) :
    Calls Tryd.prog 5 #[.agg #[v0], .agg #[v1], .agg #[v2], v3, v4, v5, v6] w (SaysN true w) := by
  have e0 := St.start3 w 33 33 33 v0 v1 v2
  have H0 := Lib.hid h0
  have H1 := Lib.hid h1
  have H2 := Lib.hid h2
  have H3 := Lib.hid h3
  have H4 := Lib.hid h4
  have H5 := Lib.hid h5
  have H6 := Lib.hid h6
  have HTT := Lib.hid hT
  obtain ⟨A0, C0, rfl, _⟩ := h0
  obtain ⟨A1, C1, rfl, _⟩ := h1
  obtain ⟨A2, C2, rfl, _⟩ := h2
  obtain ⟨A3, C3, rfl, _⟩ := h3
  obtain ⟨A4, C4, rfl, _⟩ := h4
  obtain ⟨A5, C5, rfl, _⟩ := h5
  obtain ⟨A6, C6, rfl, _⟩ := h6
  have E0 := Lib.hid e0
  clear e0 hT
  have hdr : ∀ W : World, W.drew.heap = W.heap := fun _ => rfl
  by_cases hf3 : (1048576 : Int) < (x3.length : Int)
  · go_enter Tryd.func5, Tryd.ntmps5
    go_wp2
    go_ret
    exact ⟨rfl, E0.out.below⟩
  by_cases hf4 : (1048576 : Int) < (x4.length : Int)
  · go_enter Tryd.func5, Tryd.ntmps5
    go_wp2
    go_ret
    exact ⟨rfl, E0.out.below⟩
  by_cases hf5 : (1048576 : Int) < (x5.length : Int)
  · go_enter Tryd.func5, Tryd.ntmps5
    go_wp2
    go_ret
    exact ⟨rfl, E0.out.below⟩
  by_cases hf6 : (1048576 : Int) < (x6.length : Int)
  · go_enter Tryd.func5, Tryd.ntmps5
    go_wp2
    go_ret
    exact ⟨rfl, E0.out.below⟩
  have HL3 := Lib.hid (show x3.length ≤ 1048576 by omega)
  have HL4 := Lib.hid (show x4.length ≤ 1048576 by omega)
  have HL5 := Lib.hid (show x5.length ≤ 1048576 by omega)
  have HL6 := Lib.hid (show x6.length ≤ 1048576 by omega)
  have HM3 := Lib.hid (maxLen_ge HL3.out)
  have HM4 := Lib.hid (maxLen_ge HL4.out)
  have HM5 := Lib.hid (maxLen_ge HL5.out)
  have HM6 := Lib.hid (maxLen_ge HL6.out)
  go_enter Tryd.func5, Tryd.ntmps5
  have hc1 := E0.out.cell 0 rfl
  have hsz := szOrder_any _ r0 1048576 _ (H0.out.below E0.out.below) (by omega) (by omega)
  go_wp2_with fail
  refine hsz.mono ?_
  clear hsz
  rintro e w1 ⟨⟨q0, hr, rfl⟩, hb⟩
  have E1 := Lib.hid (E0.out.step hb)
  clear hb hc1 E0
  by_cases hneg0 : q0 < 0
  · go_wp2
    go_ret
    exact ⟨rfl, E1.out.below⟩
  have hq0 : 0 ≤ q0 ∧ q0 ≤ 1048576 ∧ bulk r0 ≤ 1048576 := by rcases hr with h | h <;> omega
  have HB0 := Lib.hid hq0.2.2
  have HM0 := Lib.hid (maxLen_ge HB0.out)
  have HL0 := Lib.hid (show lens r0 r0.length ≤ 1048576 by have := lens_all r0; have := HB0.out; omega)
  clear hr
  have hc2 := E1.out.cell 1 rfl
  have hsz := szOrder_any _ r1 q0 _ (H1.out.below E1.out.below) hq0.1 hq0.2.1
  go_wp2_with fail
  refine hsz.mono ?_
  clear hsz
  rintro e w2 ⟨⟨q1, hr, rfl⟩, hb⟩
  have E2 := Lib.hid (E1.out.step hb)
  clear hb hc2 E1
  by_cases hneg1 : q1 < 0
  · go_wp2
    go_ret
    exact ⟨rfl, E2.out.below⟩
  have hq1 : 0 ≤ q1 ∧ q1 ≤ 1048576 ∧ bulk r1 ≤ 1048576 := by rcases hr with h | h <;> omega
  have HB1 := Lib.hid hq1.2.2
  have HM1 := Lib.hid (maxLen_ge HB1.out)
  have HL1 := Lib.hid (show lens r1 r1.length ≤ 1048576 by have := lens_all r1; have := HB1.out; omega)
  clear hr
  have hc3 := E2.out.cell 2 rfl
  have hsz := szOrder_any _ r2 q1 _ (H2.out.below E2.out.below) hq1.1 hq1.2.1
  go_wp2_with fail
  refine hsz.mono ?_
  clear hsz
  rintro e w3 ⟨⟨q2, hr, rfl⟩, hb⟩
  have E3 := Lib.hid (E2.out.step hb)
  clear hb hc3 E2
  by_cases hneg2 : q2 < 0
  · go_wp2
    go_ret
    exact ⟨rfl, E3.out.below⟩
  have hq2 : 0 ≤ q2 ∧ q2 ≤ 1048576 ∧ bulk r2 ≤ 1048576 := by rcases hr with h | h <;> omega
  have HB2 := Lib.hid hq2.2.2
  have HM2 := Lib.hid (maxLen_ge HB2.out)
  have HL2 := Lib.hid (show lens r2 r2.length ≤ 1048576 by have := lens_all r2; have := HB2.out; omega)
  clear hr
  clear hq0 hq1 hq2
  have hspec : ∀ W u0 u1 u2 u3 u4 u5 u6, RowsAt W u0 r0 → RowsAt W u1 r1 → RowsAt W u2 r2 → IntsAt W u3 x3 → IntsAt W u4 x4 → IntsAt W u5 x5 → IntsAt W u6 x6 → Calls Tryd.prog 22 #[.agg #[u0], .agg #[u1], .agg #[u2], u3, u4, u5, u6] W (OwnBB (pairAft1 r0 r1 r2 x3 x4 x5 x6) (pairAft2 r0 r1 r2 x3 x4 x5 x6) (pairAftOk r0 r1 r2 x3 x4 x5 x6) W) := fun W u0 u1 u2 u3 u4 u5 u6 k0 k1 k2 k3 k4 k5 k6 => specPairAfter_any u0 u1 u2 u3 u4 u5 u6 r0 r1 r2 x3 x4 x5 x6 W k0 k1 k2 k3 k4 k5 k6 HB0.out HB1.out HB2.out
  have himpl : ∀ W u0 u1 u2 u3 u4 u5 u6, RowsAt W u0 r0 → RowsAt W u1 r1 → RowsAt W u2 r2 → IntsAt W u3 x3 → IntsAt W u4 x4 → IntsAt W u5 x5 → IntsAt W u6 x6 → Tab W → Calls Tryd.prog 23 #[.agg #[u0], .agg #[u1], .agg #[u2], u3, u4, u5, u6] W (OwnBB (pairAft1 r0 r1 r2 x3 x4 x5 x6) (pairAft2 r0 r1 r2 x3 x4 x5 x6) (pairAftOk r0 r1 r2 x3 x4 x5 x6) W) := fun W u0 u1 u2 u3 u4 u5 u6 k0 k1 k2 k3 k4 k5 k6 kT => implPairAfter_any u0 u1 u2 u3 u4 u5 u6 r0 r1 r2 x3 x4 x5 x6 W k0 k1 k2 k3 k4 k5 k6 kT HB0.out HB1.out HB2.out
  have hxl := pairAft1_short r0 r1 r2 x3 x4 x5 x6 HL3.out
  generalize pairAft1 r0 r1 r2 x3 x4 x5 x6 = xs at hspec himpl hxl
  generalize pairAftOk r0 r1 r2 x3 x4 x5 x6 = t at hspec himpl
  have HX := Lib.hid hxl
  have hyl := pairAft2_short r0 r1 r2 x3 x4 x5 x6 HL6.out
  generalize pairAft2 r0 r1 r2 x3 x4 x5 x6 = ys at hspec himpl hyl
  have HY := Lib.hid hyl
  have HS := Lib.hid hspec
  have HI := Lib.hid himpl
  have hne : (t != t) = false := bne_self_eq_false t
  clear hspec himpl hxl hyl
  have hc4 := E3.out.cell 0 rfl
  have hc5 := E3.out.cell 1 rfl
  have hc6 := E3.out.cell 2 rfl
  go_wp2_with fail
  go_region_held3 (fun W' : World => W'.cell? ⟨w.heap.size, 0, none⟩ = some (.slice A0 r0.length C0) ∧ W'.cell? ⟨w.heap.size + 1, 0, none⟩ = some (.slice A1 r1.length C1) ∧ W'.cell? ⟨w.heap.size + 2, 0, none⟩ = some (.slice A2 r2.length C2)) (first | exact ⟨E11.out.cell 0 rfl, E11.out.cell 1 rfl, E11.out.cell 2 rfl⟩ | exact ⟨E10.out.cell 0 rfl, E10.out.cell 1 rfl, E10.out.cell 2 rfl⟩ | exact ⟨E9.out.cell 0 rfl, E9.out.cell 1 rfl, E9.out.cell 2 rfl⟩ | exact ⟨E8.out.cell 0 rfl, E8.out.cell 1 rfl, E8.out.cell 2 rfl⟩ | exact ⟨E7.out.cell 0 rfl, E7.out.cell 1 rfl, E7.out.cell 2 rfl⟩ | exact ⟨E6.out.cell 0 rfl, E6.out.cell 1 rfl, E6.out.cell 2 rfl⟩ | exact ⟨E5.out.cell 0 rfl, E5.out.cell 1 rfl, E5.out.cell 2 rfl⟩ | exact ⟨E4.out.cell 0 rfl, E4.out.cell 1 rfl, E4.out.cell 2 rfl⟩ | exact ⟨E3.out.drew.cell 0 rfl, E3.out.drew.cell 1 rfl, E3.out.drew.cell 2 rfl⟩) (first | (go_at_call_of 18 (Value.slice A0 (List.length r0) C0); refine (toOrder_any _ r0 _ (H0.out.below E3.out.drew.below) HB0.out).mono ?_; rintro e w4 ⟨gw4, Gw4, rfl, hg, ho, hb⟩; have hE := E3.out.drew.copyR HM0.out hg ho hb; simp only [List.cons_append, List.nil_append] at hE; have E4 := Lib.hid hE; clear hE; clear hg ho hb) | (go_at_call_of 18 (Value.slice A1 (List.length r1) C1); refine (toOrder_any _ r1 _ (H1.out.below E4.out.below) HB1.out).mono ?_; rintro e w5 ⟨gw5, Gw5, rfl, hg, ho, hb⟩; have hE := E4.out.copyR HM1.out hg ho hb; simp only [List.cons_append, List.nil_append] at hE; have E5 := Lib.hid hE; clear hE; clear hg ho hb) | (go_at_call_of 18 (Value.slice A2 (List.length r2) C2); refine (toOrder_any _ r2 _ (H2.out.below E5.out.below) HB2.out).mono ?_; rintro e w6 ⟨gw6, Gw6, rfl, hg, ho, hb⟩; have hE := E5.out.copyR HM2.out hg ho hb; simp only [List.cons_append, List.nil_append] at hE; have E6 := Lib.hid hE; clear hE; clear hg ho hb) | (go_at_call_of 19 (Value.slice A3 (List.length x3) C3); refine (toIntS_any _ x3 _ (H3.out.below E6.out.below) HL3.out).mono ?_; rintro e w7 ⟨rfl, ho, hz, hb⟩; have hE := E6.out.copyI HM3.out ho hz hb; simp only [List.cons_append, List.nil_append] at hE; have E7 := Lib.hid hE; clear hE; clear ho hz hb) | (go_at_call_of 19 (Value.slice A4 (List.length x4) C4); refine (toIntS_any _ x4 _ (H4.out.below E7.out.below) HL4.out).mono ?_; rintro e w8 ⟨rfl, ho, hz, hb⟩; have hE := E7.out.copyI HM4.out ho hz hb; simp only [List.cons_append, List.nil_append] at hE; have E8 := Lib.hid hE; clear hE; clear ho hz hb) | (go_at_call_of 19 (Value.slice A5 (List.length x5) C5); refine (toIntS_any _ x5 _ (H5.out.below E8.out.below) HL5.out).mono ?_; rintro e w9 ⟨rfl, ho, hz, hb⟩; have hE := E8.out.copyI HM5.out ho hz hb; simp only [List.cons_append, List.nil_append] at hE; have E9 := Lib.hid hE; clear hE; clear ho hz hb) | (go_at_call_of 19 (Value.slice A6 (List.length x6) C6); refine (toIntS_any _ x6 _ (H6.out.below E9.out.below) HL6.out).mono ?_; rintro e w10 ⟨rfl, ho, hz, hb⟩; have hE := E9.out.copyI HM6.out ho hz hb; simp only [List.cons_append, List.nil_append] at hE; have E10 := Lib.hid hE; clear hE; clear ho hz hb) | (go_at_call 22; refine (HS.out _ _ _ _ _ _ _ _ (E10.out.rows 3 rfl) (E10.out.rows 4 rfl) (E10.out.rows 5 rfl) (E10.out.ints 6 rfl) (E10.out.ints 7 rfl) (E10.out.ints 8 rfl) (E10.out.ints 9 rfl)).mono ?_; rintro e w11 ⟨u, y, rfl, hu, hy, hd, hb⟩; obtain ⟨aU, CU, rfl⟩ := hu.form; obtain ⟨bU, DU, rfl⟩ := hy.form; have hE := (E10.out.take 3).push2 hb hu hy hd; simp only [List.cons_append, List.nil_append, List.take_succ_cons, List.take_zero] at hE; have E11 := Lib.hid hE; clear hE; clear hb hu hy hd))
  clear hc4 hc5 hc6
  have hc7 := E11.out.cell 0 rfl
  go_wp2_with fail
  refine (toOrder_any _ r0 _ (H0.out.below E11.out.below) HB0.out).mono ?_
  rintro e w12 ⟨gw12, Gw12, rfl, hg, ho, hb⟩
  have hE := (E11.out.copyR HM0.out hg ho hb).box 25 (whole gw12 r0.length)
  simp only [List.cons_append, List.nil_append] at hE
  have E12 := Lib.hid hE
  clear hE hg ho hb hc7 E11
  have hc8 := E12.out.cell 1 rfl
  go_wp2_with fail
  refine (toOrder_any _ r1 _ (H1.out.below E12.out.below) HB1.out).mono ?_
  rintro e w13 ⟨gw13, Gw13, rfl, hg, ho, hb⟩
  have hE := (E12.out.copyR HM1.out hg ho hb).box 25 (whole gw13 r1.length)
  simp only [List.cons_append, List.nil_append] at hE
  have E13 := Lib.hid hE
  clear hE hg ho hb hc8 E12
  have hc9 := E13.out.cell 2 rfl
  go_wp2_with fail
  refine (toOrder_any _ r2 _ (H2.out.below E13.out.below) HB2.out).mono ?_
  rintro e w14 ⟨gw14, Gw14, rfl, hg, ho, hb⟩
  have hE := (E13.out.copyR HM2.out hg ho hb).box 25 (whole gw14 r2.length)
  simp only [List.cons_append, List.nil_append] at hE
  have E14 := Lib.hid hE
  clear hE hg ho hb hc9 E13
  go_wp2_with fail
  refine (toIntS_any _ x3 _ (H3.out.below E14.out.below) HL3.out).mono ?_
  rintro e w15 ⟨rfl, ho, hz, hb⟩
  have hE := E14.out.copyI HM3.out ho hz hb
  simp only [World.size_alloc] at hE
  simp only [List.cons_append, List.nil_append] at hE
  have E15 := Lib.hid hE
  clear hE ho hz hb E14
  go_wp2_with fail
  refine (toIntS_any _ x4 _ (H4.out.below E15.out.below) HL4.out).mono ?_
  rintro e w16 ⟨rfl, ho, hz, hb⟩
  have hE := E15.out.copyI HM4.out ho hz hb
  simp only [List.cons_append, List.nil_append] at hE
  have E16 := Lib.hid hE
  clear hE ho hz hb E15
  go_wp2_with fail
  refine (toIntS_any _ x5 _ (H5.out.below E16.out.below) HL5.out).mono ?_
  rintro e w17 ⟨rfl, ho, hz, hb⟩
  have hE := E16.out.copyI HM5.out ho hz hb
  simp only [List.cons_append, List.nil_append] at hE
  have E17 := Lib.hid hE
  clear hE ho hz hb E16
  go_wp2_with fail
  refine (toIntS_any _ x6 _ (H6.out.below E17.out.below) HL6.out).mono ?_
  rintro e w18 ⟨rfl, ho, hz, hb⟩
  have hE := E17.out.copyI HM6.out ho hz hb
  simp only [List.cons_append, List.nil_append] at hE
  have E18 := Lib.hid hE
  clear hE ho hz hb E17
  have hc10 := E18.out.cell 5 rfl
  have hc11 := E18.out.cell 7 rfl
  have hc12 := E18.out.cell 9 rfl
  go_wp2_with fail
  refine (HI.out _ _ _ _ _ _ _ _ (E18.out.rows 4 rfl) (E18.out.rows 6 rfl) (E18.out.rows 8 rfl) (E18.out.ints 10 rfl) (E18.out.ints 11 rfl) (E18.out.ints 12 rfl) (E18.out.ints 13 rfl) (HTT.out.below E18.out.below)).mono ?_
  rintro e w19 ⟨u, y, rfl, hu, hy, hd, hb⟩
  obtain ⟨aG, CG, rfl⟩ := hu.form
  obtain ⟨bG, DG, rfl⟩ := hy.form
  have hE := E18.out.push2 hb hu hy hd; simp only [List.cons_append, List.nil_append] at hE; have E19 := Lib.hid hE; clear hE
  clear hb hu hy hd E18 hc10 hc11 hc12
  have heq := eqIntS_any _ _ xs xs _ (E19.out.ints2a 14 rfl) (E19.out.ints2a 3 rfl)
  rw [decide_eq_true (rfl : xs = xs)] at heq
  go_wp2_with fail
  refine heq.mono ?_
  clear heq
  rintro e w20 ⟨rfl, nw20, rfl⟩
  have hE := E19.out.drewN nw20
  generalize World.drewN _ nw20 = Ww20 at hE ⊢
  have E20 := Lib.hid hE
  clear hE E19
  have heq := eqIntS_any _ _ ys ys _ (E20.out.ints2b 14 rfl) (E20.out.ints2b 3 rfl)
  rw [decide_eq_true (rfl : ys = ys)] at heq
  go_wp2_with fail
  refine heq.mono ?_
  clear heq
  rintro e w21 ⟨rfl, nw21, rfl⟩
  have hE := E20.out.drewN nw21
  generalize World.drewN _ nw21 = Ww21 at hE ⊢
  have E21 := Lib.hid hE
  clear hE E20
  have hc13 := E21.out.cell 5 rfl
  have hc14 := E21.out.cell 0 rfl
  go_wp2_with fail
  go_region_held3 (fun W' : World => W'.cell? ⟨w12.heap.size, 0, none⟩ = some (whole gw12 r0.length) ∧ W'.cell? ⟨w.heap.size, 0, none⟩ = some (.slice A0 r0.length C0)) (first | exact ⟨E23.out.cell 5 rfl, E23.out.cell 0 rfl⟩ | exact ⟨E22.out.cell 5 rfl, E22.out.cell 0 rfl⟩ | exact ⟨E21.out.drew.cell 5 rfl, E21.out.drew.cell 0 rfl⟩) (first | (go_at_call 18; refine (toOrder_any _ r0 _ (H0.out.below E21.out.drew.below) HB0.out).mono ?_; rintro e w22 ⟨gw22, Gw22, rfl, hg, ho, hb⟩; have hE := E21.out.drew.copyR HM0.out hg ho hb; simp only [List.cons_append, List.nil_append] at hE; have E22 := Lib.hid hE; clear hE; have heq := eqOrder_any _ _ r0 r0 w22 (E22.out.rows 4 rfl) (E22.out.rows 15 rfl); rw [decide_eq_true (rfl : r0 = r0)] at heq; have HEQ := Lib.hid heq; clear heq hg ho hb) | (go_at_call 11; refine HEQ.out.mono ?_; clear HEQ; rintro e w23 ⟨rfl, hb⟩; have hE := (E22.out.take 15).step hb; simp only [List.take_succ_cons, List.take_zero] at hE; have E23 := Lib.hid hE; clear hE; clear hb))
  clear hc13 hc14
  have hc15 := E23.out.cell 7 rfl
  have hc16 := E23.out.cell 1 rfl
  go_wp2_with fail
  go_region_held3 (fun W' : World => W'.cell? ⟨w13.heap.size, 0, none⟩ = some (whole gw13 r1.length) ∧ W'.cell? ⟨w.heap.size + 1, 0, none⟩ = some (.slice A1 r1.length C1)) (first | exact ⟨E25.out.cell 7 rfl, E25.out.cell 1 rfl⟩ | exact ⟨E24.out.cell 7 rfl, E24.out.cell 1 rfl⟩ | exact ⟨E23.out.drew.cell 7 rfl, E23.out.drew.cell 1 rfl⟩) (first | (go_at_call 18; refine (toOrder_any _ r1 _ (H1.out.below E23.out.drew.below) HB1.out).mono ?_; rintro e w24 ⟨gw24, Gw24, rfl, hg, ho, hb⟩; have hE := E23.out.drew.copyR HM1.out hg ho hb; simp only [List.cons_append, List.nil_append] at hE; have E24 := Lib.hid hE; clear hE; have heq := eqOrder_any _ _ r1 r1 w24 (E24.out.rows 6 rfl) (E24.out.rows 15 rfl); rw [decide_eq_true (rfl : r1 = r1)] at heq; have HEQ := Lib.hid heq; clear heq hg ho hb) | (go_at_call 11; refine HEQ.out.mono ?_; clear HEQ; rintro e w25 ⟨rfl, hb⟩; have hE := (E24.out.take 15).step hb; simp only [List.take_succ_cons, List.take_zero] at hE; have E25 := Lib.hid hE; clear hE; clear hb))
  clear hc15 hc16
  have hc17 := E25.out.cell 9 rfl
  have hc18 := E25.out.cell 2 rfl
  go_wp2_with fail
  go_region_held3 (fun W' : World => W'.cell? ⟨w14.heap.size, 0, none⟩ = some (whole gw14 r2.length) ∧ W'.cell? ⟨w.heap.size + 2, 0, none⟩ = some (.slice A2 r2.length C2)) (first | exact ⟨E27.out.cell 9 rfl, E27.out.cell 2 rfl⟩ | exact ⟨E26.out.cell 9 rfl, E26.out.cell 2 rfl⟩ | exact ⟨E25.out.drew.cell 9 rfl, E25.out.drew.cell 2 rfl⟩) (first | (go_at_call 18; refine (toOrder_any _ r2 _ (H2.out.below E25.out.drew.below) HB2.out).mono ?_; rintro e w26 ⟨gw26, Gw26, rfl, hg, ho, hb⟩; have hE := E25.out.drew.copyR HM2.out hg ho hb; simp only [List.cons_append, List.nil_append] at hE; have E26 := Lib.hid hE; clear hE; have heq := eqOrder_any _ _ r2 r2 w26 (E26.out.rows 8 rfl) (E26.out.rows 15 rfl); rw [decide_eq_true (rfl : r2 = r2)] at heq; have HEQ := Lib.hid heq; clear heq hg ho hb) | (go_at_call 11; refine HEQ.out.mono ?_; clear HEQ; rintro e w27 ⟨rfl, hb⟩; have hE := (E26.out.take 15).step hb; simp only [List.take_succ_cons, List.take_zero] at hE; have E27 := Lib.hid hE; clear hE; clear hb))
  clear hc17 hc18
  go_wp2_with fail
  refine (toIntS_any _ x3 _ (H3.out.below E27.out.below) HL3.out).mono ?_
  rintro e w28 ⟨rfl, ho, hz, hb⟩
  have hE := E27.out.copyI HM3.out ho hz hb; simp only [List.cons_append, List.nil_append] at hE; have E28 := Lib.hid hE; clear hE
  have heq := eqIntS_any _ _ x3 x3 w28 (E28.out.ints 10 rfl) (E28.out.ints 15 rfl)
  rw [decide_eq_true (rfl : x3 = x3)] at heq
  clear ho hz hb E27
  go_wp2_with fail
  refine heq.mono ?_
  clear heq
  rintro e w29 ⟨rfl, nw29, rfl⟩
  have hE := (E28.out.take 15).drewN nw29
  simp only [List.take_succ_cons, List.take_zero] at hE
  generalize World.drewN _ nw29 = Ww29 at hE ⊢
  have E29 := Lib.hid hE
  clear hE E28
  go_wp2_with fail
  refine (toIntS_any _ x4 _ (H4.out.below E29.out.below) HL4.out).mono ?_
  rintro e w30 ⟨rfl, ho, hz, hb⟩
  have hE := E29.out.copyI HM4.out ho hz hb; simp only [List.cons_append, List.nil_append] at hE; have E30 := Lib.hid hE; clear hE
  have heq := eqIntS_any _ _ x4 x4 w30 (E30.out.ints 11 rfl) (E30.out.ints 15 rfl)
  rw [decide_eq_true (rfl : x4 = x4)] at heq
  clear ho hz hb E29
  go_wp2_with fail
  refine heq.mono ?_
  clear heq
  rintro e w31 ⟨rfl, nw31, rfl⟩
  have hE := (E30.out.take 15).drewN nw31
  simp only [List.take_succ_cons, List.take_zero] at hE
  generalize World.drewN _ nw31 = Ww31 at hE ⊢
  have E31 := Lib.hid hE
  clear hE E30
  go_wp2_with fail
  refine (toIntS_any _ x5 _ (H5.out.below E31.out.below) HL5.out).mono ?_
  rintro e w32 ⟨rfl, ho, hz, hb⟩
  have hE := E31.out.copyI HM5.out ho hz hb; simp only [List.cons_append, List.nil_append] at hE; have E32 := Lib.hid hE; clear hE
  have heq := eqIntS_any _ _ x5 x5 w32 (E32.out.ints 12 rfl) (E32.out.ints 15 rfl)
  rw [decide_eq_true (rfl : x5 = x5)] at heq
  clear ho hz hb E31
  go_wp2_with fail
  refine heq.mono ?_
  clear heq
  rintro e w33 ⟨rfl, nw33, rfl⟩
  have hE := (E32.out.take 15).drewN nw33
  simp only [List.take_succ_cons, List.take_zero] at hE
  generalize World.drewN _ nw33 = Ww33 at hE ⊢
  have E33 := Lib.hid hE
  clear hE E32
  go_wp2_with fail
  refine (toIntS_any _ x6 _ (H6.out.below E33.out.below) HL6.out).mono ?_
  rintro e w34 ⟨rfl, ho, hz, hb⟩
  have hE := E33.out.copyI HM6.out ho hz hb; simp only [List.cons_append, List.nil_append] at hE; have E34 := Lib.hid hE; clear hE
  have heq := eqIntS_any _ _ x6 x6 w34 (E34.out.ints 13 rfl) (E34.out.ints 15 rfl)
  rw [decide_eq_true (rfl : x6 = x6)] at heq
  clear ho hz hb E33
  go_wp2_with fail
  refine heq.mono ?_
  clear heq
  rintro e w35 ⟨rfl, nw35, rfl⟩
  have hE := (E34.out.take 15).drewN nw35
  simp only [List.take_succ_cons, List.take_zero] at hE
  generalize World.drewN _ nw35 = Ww35 at hE ⊢
  have E35 := Lib.hid hE
  clear hE E34
  have hc19 := E35.out.cell 5 rfl
  have hmk := markOrder_any _ r0 (1) _ _ _ (E35.out.ownR 4 rfl) (E35.out.boundsR 4 rfl).1 (E35.out.boundsR 4 rfl).2 (by omega) (by have := HL0.out; have := HL1.out; have := HL2.out; have := HL3.out; have := HL4.out; have := HL5.out; have := HL6.out; omega)
  go_wp2_with fail
  refine hmk.mono ?_
  clear hmk
  rintro e w36 ⟨rfl, ho, ht⟩
  have hE := E35.out.turnR 4 rfl ht ho; simp only [List.set_cons_succ, List.set_cons_zero] at hE; have E36 := Lib.hid hE; clear hE
  clear ho ht hc19 E35
  have hc20 := E36.out.cell 7 rfl
  have hmk := markOrder_any _ r1 (1 + ((lens r0 r0.length : Nat) : Int)) _ _ _ (E36.out.ownR 6 rfl) (E36.out.boundsR 6 rfl).1 (E36.out.boundsR 6 rfl).2 (by omega) (by have := HL0.out; have := HL1.out; have := HL2.out; have := HL3.out; have := HL4.out; have := HL5.out; have := HL6.out; omega)
  go_wp2_with fail
  refine hmk.mono ?_
  clear hmk
  rintro e w37 ⟨rfl, ho, ht⟩
  have hE := E36.out.turnR 6 rfl ht ho; simp only [List.set_cons_succ, List.set_cons_zero] at hE; have E37 := Lib.hid hE; clear hE
  clear ho ht hc20 E36
  have hc21 := E37.out.cell 9 rfl
  have hmk := markOrder_any _ r2 (1 + ((lens r0 r0.length : Nat) : Int) + ((lens r1 r1.length : Nat) : Int)) _ _ _ (E37.out.ownR 8 rfl) (E37.out.boundsR 8 rfl).1 (E37.out.boundsR 8 rfl).2 (by omega) (by have := HL0.out; have := HL1.out; have := HL2.out; have := HL3.out; have := HL4.out; have := HL5.out; have := HL6.out; omega)
  go_wp2_with fail
  refine hmk.mono ?_
  clear hmk
  rintro e w38 ⟨rfl, ho, ht⟩
  have hE := E37.out.turnR 8 rfl ht ho; simp only [List.set_cons_succ, List.set_cons_zero] at hE; have E38 := Lib.hid hE; clear hE
  clear ho ht hc21 E37
  have hmk := markIntS_any _ x3 (1 + ((lens r0 r0.length : Nat) : Int) + ((lens r1 r1.length : Nat) : Int) + ((lens r2 r2.length : Nat) : Int)) _ _ _ (E38.out.ownI 10 rfl) (by omega) (by have := HL0.out; have := HL1.out; have := HL2.out; have := HL3.out; have := HL4.out; have := HL5.out; have := HL6.out; omega)
  go_wp2_with fail
  refine hmk.mono ?_
  clear hmk
  rintro e w39 ⟨rfl, ho, hg⟩
  have hE := E38.out.turnI 10 rfl hg ho; simp only [List.set_cons_succ, List.set_cons_zero] at hE; have E39 := Lib.hid hE; clear hE
  clear ho hg E38
  have hmk := markIntS_any _ x4 (1 + ((lens r0 r0.length : Nat) : Int) + ((lens r1 r1.length : Nat) : Int) + ((lens r2 r2.length : Nat) : Int) + (x3.length : Int)) _ _ _ (E39.out.ownI 11 rfl) (by omega) (by have := HL0.out; have := HL1.out; have := HL2.out; have := HL3.out; have := HL4.out; have := HL5.out; have := HL6.out; omega)
  go_wp2_with fail
  refine hmk.mono ?_
  clear hmk
  rintro e w40 ⟨rfl, ho, hg⟩
  have hE := E39.out.turnI 11 rfl hg ho; simp only [List.set_cons_succ, List.set_cons_zero] at hE; have E40 := Lib.hid hE; clear hE
  clear ho hg E39
  have hmk := markIntS_any _ x5 (1 + ((lens r0 r0.length : Nat) : Int) + ((lens r1 r1.length : Nat) : Int) + ((lens r2 r2.length : Nat) : Int) + (x3.length : Int) + (x4.length : Int)) _ _ _ (E40.out.ownI 12 rfl) (by omega) (by have := HL0.out; have := HL1.out; have := HL2.out; have := HL3.out; have := HL4.out; have := HL5.out; have := HL6.out; omega)
  go_wp2_with fail
  refine hmk.mono ?_
  clear hmk
  rintro e w41 ⟨rfl, ho, hg⟩
  have hE := E40.out.turnI 12 rfl hg ho; simp only [List.set_cons_succ, List.set_cons_zero] at hE; have E41 := Lib.hid hE; clear hE
  clear ho hg E40
  have hmk := markIntS_any _ x6 (1 + ((lens r0 r0.length : Nat) : Int) + ((lens r1 r1.length : Nat) : Int) + ((lens r2 r2.length : Nat) : Int) + (x3.length : Int) + (x4.length : Int) + (x5.length : Int)) _ _ _ (E41.out.ownI 13 rfl) (by omega) (by have := HL0.out; have := HL1.out; have := HL2.out; have := HL3.out; have := HL4.out; have := HL5.out; have := HL6.out; omega)
  go_wp2_with fail
  refine hmk.mono ?_
  clear hmk
  rintro e w42 ⟨rfl, ho, hg⟩
  have hE := E41.out.turnI 13 rfl hg ho; simp only [List.set_cons_succ, List.set_cons_zero] at hE; have E42 := Lib.hid hE; clear hE
  clear ho hg E41
  have hpos : ¬ (1 + ((lens r0 r0.length : Nat) : Int) + ((lens r1 r1.length : Nat) : Int) + ((lens r2 r2.length : Nat) : Int) + (x3.length : Int) + (x4.length : Int) + (x5.length : Int) + (x6.length : Int) < 0) := by omega
  have heq := eqIntS_any _ _ xs xs _ (E42.out.ints2a 14 rfl) (E42.out.ints2a 3 rfl)
  rw [decide_eq_true (rfl : xs = xs)] at heq
  go_wp2_with fail
  refine heq.mono ?_
  clear heq
  rintro e w43 ⟨rfl, nw43, rfl⟩
  have hE := E42.out.drewN nw43
  generalize World.drewN _ nw43 = Ww43 at hE ⊢
  have E43 := Lib.hid hE
  clear hE E42
  have heq := eqIntS_any _ _ ys ys _ (E43.out.ints2b 14 rfl) (E43.out.ints2b 3 rfl)
  rw [decide_eq_true (rfl : ys = ys)] at heq
  go_wp2_with fail
  refine heq.mono ?_
  clear heq
  rintro e w44 ⟨rfl, nw44, rfl⟩
  have hE := E43.out.drewN nw44
  generalize World.drewN _ nw44 = Ww44 at hE ⊢
  have E44 := Lib.hid hE
  clear hE E43
  have hmk := markIntS_any _ xs (1) _ _ _ (E44.out.own2 14 rfl).1 (by omega) (by have := HX.out; have := HY.out; omega)
  go_wp2_with fail
  refine hmk.mono ?_
  clear hmk
  rintro e w45 ⟨rfl, ho, hg⟩
  have hE := E44.out.turn2a 14 rfl hg ho; simp only [List.set_cons_succ, List.set_cons_zero] at hE; have E45 := Lib.hid hE; clear hE
  clear ho hg E44
  have hmk := markIntS_any _ ys (1 + (xs.length : Int)) _ _ _ (E45.out.own2 14 rfl).2.1 (by omega) (by have := HX.out; have := HY.out; omega)
  go_wp2_with fail
  refine hmk.mono ?_
  clear hmk
  rintro e w46 ⟨rfl, ho, hg⟩
  have hE := E45.out.turn2b 14 rfl hg ho; simp only [List.set_cons_succ, List.set_cons_zero] at hE; have E46 := Lib.hid hE; clear hE
  clear ho hg E45
  have hposa : ¬ (1 + (xs.length : Int) < 0) := by omega
  have hpos2 : ¬ (1 + (xs.length : Int) + (ys.length : Int) < 0) := by omega
  have hq : ((1 + (xs.length : Int) + (ys.length : Int)) != (1 + (xs.length : Int) + (ys.length : Int))) = false := bne_self_eq_false _
  have hhd := heldIntS_any _ (1) xs.length _ (E46.out.ints2a 14 rfl) (by omega) (by have := HX.out; have := HY.out; omega)
  go_wp2_with fail
  refine hhd.mono ?_
  clear hhd
  rintro e w47 ⟨rfl, nw47, rfl⟩
  have hE := E46.out.drewN nw47
  generalize World.drewN _ nw47 = Ww47 at hE ⊢
  have E47 := Lib.hid hE
  clear hE E46
  have hhd := heldIntS_any _ (1 + (xs.length : Int)) ys.length _ (E47.out.ints2b 14 rfl) (by omega) (by have := HX.out; have := HY.out; omega)
  go_wp2_with fail
  refine hhd.mono ?_
  clear hhd
  rintro e w48 ⟨rfl, nw48, rfl⟩
  have hE := E47.out.drewN nw48
  generalize World.drewN _ nw48 = Ww48 at hE ⊢
  have E48 := Lib.hid hE
  clear hE E47
  have HQ := Lib.hid hq
  have HPP := Lib.hid hpos2
  have HNE := Lib.hid hne
  have HPA := Lib.hid hposa
  clear hq hpos hpos2 hne hposa
  have hc22 := E48.out.cell 0 rfl
  have hc23 := E48.out.cell 1 rfl
  have hc24 := E48.out.cell 2 rfl
  go_wp2_with fail
  go_region_held3 (fun W' : World => W'.cell? ⟨w.heap.size, 0, none⟩ = some (.slice A0 r0.length C0) ∧ W'.cell? ⟨w.heap.size + 1, 0, none⟩ = some (.slice A1 r1.length C1) ∧ W'.cell? ⟨w.heap.size + 2, 0, none⟩ = some (.slice A2 r2.length C2)) (first | exact ⟨E56.out.cell 0 rfl, E56.out.cell 1 rfl, E56.out.cell 2 rfl⟩ | exact ⟨E55.out.cell 0 rfl, E55.out.cell 1 rfl, E55.out.cell 2 rfl⟩ | exact ⟨E54.out.cell 0 rfl, E54.out.cell 1 rfl, E54.out.cell 2 rfl⟩ | exact ⟨E53.out.cell 0 rfl, E53.out.cell 1 rfl, E53.out.cell 2 rfl⟩ | exact ⟨E52.out.cell 0 rfl, E52.out.cell 1 rfl, E52.out.cell 2 rfl⟩ | exact ⟨E51.out.cell 0 rfl, E51.out.cell 1 rfl, E51.out.cell 2 rfl⟩ | exact ⟨E50.out.cell 0 rfl, E50.out.cell 1 rfl, E50.out.cell 2 rfl⟩ | exact ⟨E49.out.cell 0 rfl, E49.out.cell 1 rfl, E49.out.cell 2 rfl⟩ | exact ⟨E48.out.drew.cell 0 rfl, E48.out.drew.cell 1 rfl, E48.out.drew.cell 2 rfl⟩) (first | (go_at_call_of 18 (Value.slice A0 (List.length r0) C0); refine (toOrder_any _ r0 _ (H0.out.below E48.out.drew.below) HB0.out).mono ?_; rintro e w49 ⟨gw49, Gw49, rfl, hg, ho, hb⟩; have hE := E48.out.drew.copyR HM0.out hg ho hb; simp only [List.cons_append, List.nil_append] at hE; have E49 := Lib.hid hE; clear hE; clear hg ho hb) | (go_at_call_of 18 (Value.slice A1 (List.length r1) C1); refine (toOrder_any _ r1 _ (H1.out.below E49.out.below) HB1.out).mono ?_; rintro e w50 ⟨gw50, Gw50, rfl, hg, ho, hb⟩; have hE := E49.out.copyR HM1.out hg ho hb; simp only [List.cons_append, List.nil_append] at hE; have E50 := Lib.hid hE; clear hE; clear hg ho hb) | (go_at_call_of 18 (Value.slice A2 (List.length r2) C2); refine (toOrder_any _ r2 _ (H2.out.below E50.out.below) HB2.out).mono ?_; rintro e w51 ⟨gw51, Gw51, rfl, hg, ho, hb⟩; have hE := E50.out.copyR HM2.out hg ho hb; simp only [List.cons_append, List.nil_append] at hE; have E51 := Lib.hid hE; clear hE; clear hg ho hb) | (go_at_call_of 19 (Value.slice A3 (List.length x3) C3); refine (toIntS_any _ x3 _ (H3.out.below E51.out.below) HL3.out).mono ?_; rintro e w52 ⟨rfl, ho, hz, hb⟩; have hE := E51.out.copyI HM3.out ho hz hb; simp only [List.cons_append, List.nil_append] at hE; have E52 := Lib.hid hE; clear hE; clear ho hz hb) | (go_at_call_of 19 (Value.slice A4 (List.length x4) C4); refine (toIntS_any _ x4 _ (H4.out.below E52.out.below) HL4.out).mono ?_; rintro e w53 ⟨rfl, ho, hz, hb⟩; have hE := E52.out.copyI HM4.out ho hz hb; simp only [List.cons_append, List.nil_append] at hE; have E53 := Lib.hid hE; clear hE; clear ho hz hb) | (go_at_call_of 19 (Value.slice A5 (List.length x5) C5); refine (toIntS_any _ x5 _ (H5.out.below E53.out.below) HL5.out).mono ?_; rintro e w54 ⟨rfl, ho, hz, hb⟩; have hE := E53.out.copyI HM5.out ho hz hb; simp only [List.cons_append, List.nil_append] at hE; have E54 := Lib.hid hE; clear hE; clear ho hz hb) | (go_at_call_of 19 (Value.slice A6 (List.length x6) C6); refine (toIntS_any _ x6 _ (H6.out.below E54.out.below) HL6.out).mono ?_; rintro e w55 ⟨rfl, ho, hz, hb⟩; have hE := E54.out.copyI HM6.out ho hz hb; simp only [List.cons_append, List.nil_append] at hE; have E55 := Lib.hid hE; clear hE; clear ho hz hb) | (go_at_call 23; refine (HI.out _ _ _ _ _ _ _ _ (E55.out.rows 15 rfl) (E55.out.rows 16 rfl) (E55.out.rows 17 rfl) (E55.out.ints 18 rfl) (E55.out.ints 19 rfl) (E55.out.ints 20 rfl) (E55.out.ints 21 rfl) (HTT.out.below E55.out.below)).mono ?_; rintro e w56 ⟨u, y, rfl, hu, hy, hd, hb⟩; obtain ⟨aV, CV, rfl⟩ := hu.form; obtain ⟨bV, DV, rfl⟩ := hy.form; have hE := (E55.out.take 15).push2 hb hu hy hd; simp only [List.cons_append, List.nil_append, List.take_succ_cons, List.take_zero] at hE; have E56 := Lib.hid hE; clear hE; clear hb hu hy hd))
  clear hc22 hc23 hc24
  have hq := HQ.out
  have hpos2 := HPP.out
  have hne := HNE.out
  have hposa := HPA.out
  have heq := eqIntS_any _ _ xs xs _ (E56.out.ints2a 15 rfl) (E56.out.ints2a 3 rfl)
  rw [decide_eq_true (rfl : xs = xs)] at heq
  go_wp2_with fail
  refine heq.mono ?_
  clear heq
  rintro e w57 ⟨rfl, nw57, rfl⟩
  have hE := E56.out.drewN nw57
  generalize World.drewN _ nw57 = Ww57 at hE ⊢
  have E57 := Lib.hid hE
  clear hE E56
  have heq := eqIntS_any _ _ ys ys _ (E57.out.ints2b 15 rfl) (E57.out.ints2b 3 rfl)
  rw [decide_eq_true (rfl : ys = ys)] at heq
  go_wp2_with fail
  refine heq.mono ?_
  clear heq
  rintro e w58 ⟨rfl, nw58, rfl⟩
  have hE := E57.out.drewN nw58
  generalize World.drewN _ nw58 = Ww58 at hE ⊢
  have E58 := Lib.hid hE
  clear hE E57
  have hhd := heldIntS_any _ (1) xs.length _ (E58.out.ints2a 14 rfl) (by omega) (by have := HX.out; have := HY.out; omega)
  go_wp2_with fail
  refine hhd.mono ?_
  clear hhd
  rintro e w59 ⟨rfl, nw59, rfl⟩
  have hE := E58.out.drewN nw59
  generalize World.drewN _ nw59 = Ww59 at hE ⊢
  have E59 := Lib.hid hE
  clear hE E58
  have hhd := heldIntS_any _ (1 + (xs.length : Int)) ys.length _ (E59.out.ints2b 14 rfl) (by omega) (by have := HX.out; have := HY.out; omega)
  go_wp2_with fail
  refine hhd.mono ?_
  clear hhd
  rintro e w60 ⟨rfl, nw60, rfl⟩
  have hE := E59.out.drewN nw60
  generalize World.drewN _ nw60 = Ww60 at hE ⊢
  have E60 := Lib.hid hE
  clear hE E59
  go_wp2
  go_ret
  exact ⟨rfl, E60.out.below⟩
end Go.Proofs.YtpjkmiinpjhdnaaDoor
