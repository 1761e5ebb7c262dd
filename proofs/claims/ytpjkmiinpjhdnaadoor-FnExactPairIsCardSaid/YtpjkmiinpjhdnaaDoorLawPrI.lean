/- The law of PairIs: model and program answer alike, and the arguments are left alone. -/
import Derived.Test.YtpjkmiinpjhdnaaDoorPrjOf
import Derived.Test.YtpjkmiinpjhdnaaDoorEnv
import Derived.Test.YtpjkmiinpjhdnaaDoorTo
import Derived.Deep.RegionHeld3
namespace Go.Proofs.YtpjkmiinpjhdnaaDoor
open Go.RowKit Go.Deep

set_option maxRecDepth 100000 in
set_option maxHeartbeats 16000000 in
theorem law_pairIs (v0 : Value) (v1 : Value) (v2 : Value) (v3 : Value) (r0 : Rows2) (r1 : Rows2) (x2 : List Int) (x3 : List Int) (w : World) (h0 : RowsAt w v0 r0) (h1 : RowsAt w v1 r1) (h2 : IntsAt w v2 x2) (h3 : IntsAt w v3 x3) (hT : Tab w) :
    Calls Tryd.prog 4 #[.agg #[v0], .agg #[v1], v2, v3] w (SaysN true w) := by
  have e0 := St.start2 w 33 33 v0 v1
  have H0 := Lib.hid h0
  have H1 := Lib.hid h1
  have H2 := Lib.hid h2
  have H3 := Lib.hid h3
  have HTT := Lib.hid hT
  obtain ⟨A0, C0, rfl, _⟩ := h0
  obtain ⟨A1, C1, rfl, _⟩ := h1
  obtain ⟨A2, C2, rfl, _⟩ := h2
  obtain ⟨A3, C3, rfl, _⟩ := h3
  have E0 := Lib.hid e0
  clear e0 hT
  have hdr : ∀ W : World, W.drew.heap = W.heap := fun _ => rfl
  by_cases hf2 : (1048576 : Int) < (x2.length : Int)
  · go_enter Tryd.func4, Tryd.ntmps4
    go_wp2
    go_ret
    exact ⟨rfl, E0.out.below⟩
  by_cases hf3 : (1048576 : Int) < (x3.length : Int)
  · go_enter Tryd.func4, Tryd.ntmps4
    go_wp2
    go_ret
    exact ⟨rfl, E0.out.below⟩
  have HL2 := Lib.hid (show x2.length ≤ 1048576 by omega)
  have HL3 := Lib.hid (show x3.length ≤ 1048576 by omega)
  have HM2 := Lib.hid (maxLen_ge HL2.out)
  have HM3 := Lib.hid (maxLen_ge HL3.out)
  go_enter Tryd.func4, Tryd.ntmps4
  have hc1 := E0.out.cell 0 rfl
  have hsz := szOrder_any _ r0 1048576 _ (H0.out.below E0.out.below) (by omega) (by omega)
  go_wp2_with fail
  refine hsz.mono ?_
  clear hsz
  rintro e w1 ⟨⟨q0, hr, rfl⟩, hb⟩
  have E1 := Lib.hid (E0.out.step hb)
  clear hb hc1 E0
  by_cases hneg0 : q0 < 0
  · go_wp2
    go_ret
    exact ⟨rfl, E1.out.below⟩
  have hq0 : 0 ≤ q0 ∧ q0 ≤ 1048576 ∧ bulk r0 ≤ 1048576 := by rcases hr with h | h <;> omega
  have HB0 := Lib.hid hq0.2.2
  have HM0 := Lib.hid (maxLen_ge HB0.out)
  have HL0 := Lib.hid (show lens r0 r0.length ≤ 1048576 by have := lens_all r0; have := HB0.out; omega)
  clear hr
  have hc2 := E1.out.cell 1 rfl
  have hsz := szOrder_any _ r1 q0 _ (H1.out.below E1.out.below) hq0.1 hq0.2.1
  go_wp2_with fail
  refine hsz.mono ?_
  clear hsz
  rintro e w2 ⟨⟨q1, hr, rfl⟩, hb⟩
  have E2 := Lib.hid (E1.out.step hb)
  clear hb hc2 E1
  by_cases hneg1 : q1 < 0
  · go_wp2
    go_ret
    exact ⟨rfl, E2.out.below⟩
  have hq1 : 0 ≤ q1 ∧ q1 ≤ 1048576 ∧ bulk r1 ≤ 1048576 := by rcases hr with h | h <;> omega
  have HB1 := Lib.hid hq1.2.2
  have HM1 := Lib.hid (maxLen_ge HB1.out)
  have HL1 := Lib.hid (show lens r1 r1.length ≤ 1048576 by have := lens_all r1; have := HB1.out; omega)
  clear hr
  clear hq0 hq1
  have hspec : ∀ W u0 u1 u2 u3, RowsAt W u0 r0 → RowsAt W u1 r1 → IntsAt W u2 x2 → IntsAt W u3 x3 → Calls Tryd.prog 17 #[.agg #[u0], .agg #[u1], u2, u3] W (SaysN (pairB r0 r1 x2 x3) W) := fun W u0 u1 u2 u3 k0 k1 k2 k3 => specPairIs_any u0 u1 u2 u3 r0 r1 x2 x3 W k0 k1 k2 k3 HB0.out HB1.out
  have himpl : ∀ W u0 u1 u2 u3, RowsAt W u0 r0 → RowsAt W u1 r1 → IntsAt W u2 x2 → IntsAt W u3 x3 → Tab W → Calls Tryd.prog 20 #[.agg #[u0], .agg #[u1], u2, u3] W (SaysN (pairB r0 r1 x2 x3) W) := fun W u0 u1 u2 u3 k0 k1 k2 k3 kT => implPairIs_any u0 u1 u2 u3 r0 r1 x2 x3 W k0 k1 k2 k3 kT HB0.out HB1.out
  generalize pairB r0 r1 x2 x3 = t at hspec himpl
  have HS := Lib.hid hspec
  have HI := Lib.hid himpl
  have hne : (t != t) = false := bne_self_eq_false t
  clear hspec himpl
  have hc3 := E2.out.cell 0 rfl
  have hc4 := E2.out.cell 1 rfl
  go_wp2_with fail
  go_region_held3 (fun W' : World => W'.cell? ⟨w.heap.size, 0, none⟩ = some (.slice A0 r0.length C0) ∧ W'.cell? ⟨w.heap.size + 1, 0, none⟩ = some (.slice A1 r1.length C1)) (first | exact ⟨E7.out.cell 0 rfl, E7.out.cell 1 rfl⟩ | exact ⟨E6.out.cell 0 rfl, E6.out.cell 1 rfl⟩ | exact ⟨E5.out.cell 0 rfl, E5.out.cell 1 rfl⟩ | exact ⟨E4.out.cell 0 rfl, E4.out.cell 1 rfl⟩ | exact ⟨E3.out.cell 0 rfl, E3.out.cell 1 rfl⟩ | exact ⟨E2.out.drew.cell 0 rfl, E2.out.drew.cell 1 rfl⟩) (first | (go_at_call_of 18 (Value.slice A0 (List.length r0) C0); refine (toOrder_any _ r0 _ (H0.out.below E2.out.drew.below) HB0.out).mono ?_; rintro e w3 ⟨gw3, Gw3, rfl, hg, ho, hb⟩; have hE := E2.out.drew.copyR HM0.out hg ho hb; simp only [List.cons_append, List.nil_append] at hE; have E3 := Lib.hid hE; clear hE; clear hg ho hb) | (go_at_call_of 18 (Value.slice A1 (List.length r1) C1); refine (toOrder_any _ r1 _ (H1.out.below E3.out.below) HB1.out).mono ?_; rintro e w4 ⟨gw4, Gw4, rfl, hg, ho, hb⟩; have hE := E3.out.copyR HM1.out hg ho hb; simp only [List.cons_append, List.nil_append] at hE; have E4 := Lib.hid hE; clear hE; clear hg ho hb) | (go_at_call_of 19 (Value.slice A2 (List.length x2) C2); refine (toIntS_any _ x2 _ (H2.out.below E4.out.below) HL2.out).mono ?_; rintro e w5 ⟨rfl, ho, hz, hb⟩; have hE := E4.out.copyI HM2.out ho hz hb; simp only [List.cons_append, List.nil_append] at hE; have E5 := Lib.hid hE; clear hE; clear ho hz hb) | (go_at_call_of 19 (Value.slice A3 (List.length x3) C3); refine (toIntS_any _ x3 _ (H3.out.below E5.out.below) HL3.out).mono ?_; rintro e w6 ⟨rfl, ho, hz, hb⟩; have hE := E5.out.copyI HM3.out ho hz hb; simp only [List.cons_append, List.nil_append] at hE; have E6 := Lib.hid hE; clear hE; clear ho hz hb) | (go_at_call 17; refine (HS.out _ _ _ _ _ (E6.out.rows 2 rfl) (E6.out.rows 3 rfl) (E6.out.ints 4 rfl) (E6.out.ints 5 rfl)).mono ?_; rintro e w7 ⟨rfl, hb⟩; have hE := (E6.out.take 2).step hb; simp only [List.take_succ_cons, List.take_zero] at hE; have E7 := Lib.hid hE; clear hE; clear hb))
  clear hc3 hc4
  have hc5 := E7.out.cell 0 rfl
  go_wp2_with fail
  refine (toOrder_any _ r0 _ (H0.out.below E7.out.below) HB0.out).mono ?_
  rintro e w8 ⟨gw8, Gw8, rfl, hg, ho, hb⟩
  have hE := (E7.out.copyR HM0.out hg ho hb).box 25 (whole gw8 r0.length)
  simp only [List.cons_append, List.nil_append] at hE
  have E8 := Lib.hid hE
  clear hE hg ho hb hc5 E7
  have hc6 := E8.out.cell 1 rfl
  go_wp2_with fail
  refine (toOrder_any _ r1 _ (H1.out.below E8.out.below) HB1.out).mono ?_
  rintro e w9 ⟨gw9, Gw9, rfl, hg, ho, hb⟩
  have hE := (E8.out.copyR HM1.out hg ho hb).box 25 (whole gw9 r1.length)
  simp only [List.cons_append, List.nil_append] at hE
  have E9 := Lib.hid hE
  clear hE hg ho hb hc6 E8
  go_wp2_with fail
  refine (toIntS_any _ x2 _ (H2.out.below E9.out.below) HL2.out).mono ?_
  rintro e w10 ⟨rfl, ho, hz, hb⟩
  have hE := E9.out.copyI HM2.out ho hz hb
  simp only [World.size_alloc] at hE
  simp only [List.cons_append, List.nil_append] at hE
  have E10 := Lib.hid hE
  clear hE ho hz hb E9
  go_wp2_with fail
  refine (toIntS_any _ x3 _ (H3.out.below E10.out.below) HL3.out).mono ?_
  rintro e w11 ⟨rfl, ho, hz, hb⟩
  have hE := E10.out.copyI HM3.out ho hz hb
  simp only [List.cons_append, List.nil_append] at hE
  have E11 := Lib.hid hE
  clear hE ho hz hb E10
  have hc7 := E11.out.cell 3 rfl
  have hc8 := E11.out.cell 5 rfl
  go_wp2_with fail
  refine (HI.out _ _ _ _ _ (E11.out.rows 2 rfl) (E11.out.rows 4 rfl) (E11.out.ints 6 rfl) (E11.out.ints 7 rfl) (HTT.out.below E11.out.below)).mono ?_
  rintro e w12 ⟨rfl, hb⟩
  have E12 := Lib.hid (E11.out.step hb)
  clear hb E11 hc7 hc8
  have hc9 := E12.out.cell 3 rfl
  have hc10 := E12.out.cell 0 rfl
  go_wp2_with fail
  go_region_held3 (fun W' : World => W'.cell? ⟨w8.heap.size, 0, none⟩ = some (whole gw8 r0.length) ∧ W'.cell? ⟨w.heap.size, 0, none⟩ = some (.slice A0 r0.length C0)) (first | exact ⟨E14.out.cell 3 rfl, E14.out.cell 0 rfl⟩ | exact ⟨E13.out.cell 3 rfl, E13.out.cell 0 rfl⟩ | exact ⟨E12.out.drew.cell 3 rfl, E12.out.drew.cell 0 rfl⟩) (first | (go_at_call 18; refine (toOrder_any _ r0 _ (H0.out.below E12.out.drew.below) HB0.out).mono ?_; rintro e w13 ⟨gw13, Gw13, rfl, hg, ho, hb⟩; have hE := E12.out.drew.copyR HM0.out hg ho hb; simp only [List.cons_append, List.nil_append] at hE; have E13 := Lib.hid hE; clear hE; have heq := eqOrder_any _ _ r0 r0 w13 (E13.out.rows 2 rfl) (E13.out.rows 8 rfl); rw [decide_eq_true (rfl : r0 = r0)] at heq; have HEQ := Lib.hid heq; clear heq hg ho hb) | (go_at_call 11; refine HEQ.out.mono ?_; clear HEQ; rintro e w14 ⟨rfl, hb⟩; have hE := (E13.out.take 8).step hb; simp only [List.take_succ_cons, List.take_zero] at hE; have E14 := Lib.hid hE; clear hE; clear hb))
  clear hc9 hc10
  have hc11 := E14.out.cell 5 rfl
  have hc12 := E14.out.cell 1 rfl
  go_wp2_with fail
  go_region_held3 (fun W' : World => W'.cell? ⟨w9.heap.size, 0, none⟩ = some (whole gw9 r1.length) ∧ W'.cell? ⟨w.heap.size + 1, 0, none⟩ = some (.slice A1 r1.length C1)) (first | exact ⟨E16.out.cell 5 rfl, E16.out.cell 1 rfl⟩ | exact ⟨E15.out.cell 5 rfl, E15.out.cell 1 rfl⟩ | exact ⟨E14.out.drew.cell 5 rfl, E14.out.drew.cell 1 rfl⟩) (first | (go_at_call 18; refine (toOrder_any _ r1 _ (H1.out.below E14.out.drew.below) HB1.out).mono ?_; rintro e w15 ⟨gw15, Gw15, rfl, hg, ho, hb⟩; have hE := E14.out.drew.copyR HM1.out hg ho hb; simp only [List.cons_append, List.nil_append] at hE; have E15 := Lib.hid hE; clear hE; have heq := eqOrder_any _ _ r1 r1 w15 (E15.out.rows 4 rfl) (E15.out.rows 8 rfl); rw [decide_eq_true (rfl : r1 = r1)] at heq; have HEQ := Lib.hid heq; clear heq hg ho hb) | (go_at_call 11; refine HEQ.out.mono ?_; clear HEQ; rintro e w16 ⟨rfl, hb⟩; have hE := (E15.out.take 8).step hb; simp only [List.take_succ_cons, List.take_zero] at hE; have E16 := Lib.hid hE; clear hE; clear hb))
  clear hc11 hc12
  go_wp2_with fail
  refine (toIntS_any _ x2 _ (H2.out.below E16.out.below) HL2.out).mono ?_
  rintro e w17 ⟨rfl, ho, hz, hb⟩
  have hE := E16.out.copyI HM2.out ho hz hb; simp only [List.cons_append, List.nil_append] at hE; have E17 := Lib.hid hE; clear hE
  have heq := eqIntS_any _ _ x2 x2 w17 (E17.out.ints 6 rfl) (E17.out.ints 8 rfl)
  rw [decide_eq_true (rfl : x2 = x2)] at heq
  clear ho hz hb E16
  go_wp2_with fail
  refine heq.mono ?_
  clear heq
  rintro e w18 ⟨rfl, nw18, rfl⟩
  have hE := (E17.out.take 8).drewN nw18
  simp only [List.take_succ_cons, List.take_zero] at hE
  generalize World.drewN _ nw18 = Ww18 at hE ⊢
  have E18 := Lib.hid hE
  clear hE E17
  go_wp2_with fail
  refine (toIntS_any _ x3 _ (H3.out.below E18.out.below) HL3.out).mono ?_
  rintro e w19 ⟨rfl, ho, hz, hb⟩
  have hE := E18.out.copyI HM3.out ho hz hb; simp only [List.cons_append, List.nil_append] at hE; have E19 := Lib.hid hE; clear hE
  have heq := eqIntS_any _ _ x3 x3 w19 (E19.out.ints 7 rfl) (E19.out.ints 8 rfl)
  rw [decide_eq_true (rfl : x3 = x3)] at heq
  clear ho hz hb E18
  go_wp2_with fail
  refine heq.mono ?_
  clear heq
  rintro e w20 ⟨rfl, nw20, rfl⟩
  have hE := (E19.out.take 8).drewN nw20
  simp only [List.take_succ_cons, List.take_zero] at hE
  generalize World.drewN _ nw20 = Ww20 at hE ⊢
  have E20 := Lib.hid hE
  clear hE E19
  go_wp2
  go_ret
  exact ⟨rfl, E20.out.below⟩
end Go.Proofs.YtpjkmiinpjhdnaaDoor
