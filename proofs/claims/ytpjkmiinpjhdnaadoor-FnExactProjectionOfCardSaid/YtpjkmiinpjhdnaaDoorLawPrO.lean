/- The law of ProjectionOf: model and program answer alike, the arguments are left alone, and the answer owns its memory. -/
import Derived.Test.YtpjkmiinpjhdnaaDoorMidPO
import Derived.Test.YtpjkmiinpjhdnaaDoorEnv
import Derived.Test.YtpjkmiinpjhdnaaDoorTo
import Derived.Deep.RegionHeld3
namespace Go.Proofs.YtpjkmiinpjhdnaaDoor
open Go.RowKit Go.Deep

theorem proj_short (rows rows' : Rows2) (f : List Int) : (projL rows rows' f).length ≤ 1048576 := by
  cases h : projOk rows rows' f with
  | true => obtain ⟨g, hg⟩ := proj_ex h; obtain ⟨_, hd, _, h2, _⟩ := pairB_iff.1 hg; rw [(proj_yes hg).2, h2.1]; have := (dom_ok hd).len; omega
  | false => rw [proj_nil h]; exact Nat.zero_le _

set_option maxRecDepth 100000 in
set_option maxHeartbeats 16000000 in
theorem law_projOf (v0 : Value) (v1 : Value) (v2 : Value) (r0 : Rows2) (r1 : Rows2) (x2 : List Int) (w : World) (h0 : RowsAt w v0 r0) (h1 : RowsAt w v1 r1) (h2 : IntsAt w v2 x2) (hT : Tab w) :
    Calls Tryd.prog 6 #[.agg #[v0], .agg #[v1], v2] w (SaysN true w) := by
  have e0 := St.start2 w 33 33 v0 v1
  have H0 := Lib.hid h0
  have H1 := Lib.hid h1
  have H2 := Lib.hid h2
  have HTT := Lib.hid hT
  obtain ⟨A0, C0, rfl, _⟩ := h0
  obtain ⟨A1, C1, rfl, _⟩ := h1
  obtain ⟨A2, C2, rfl, _⟩ := h2
  have E0 := Lib.hid e0
  clear e0 hT
  have hdr : ∀ W : World, W.drew.heap = W.heap := fun _ => rfl
  by_cases hf2 : (1048576 : Int) < (x2.length : Int)
  · go_enter Tryd.func6, Tryd.ntmps6
    go_wp2
    go_ret
    exact ⟨rfl, E0.out.below⟩
  have HL2 := Lib.hid (show x2.length ≤ 1048576 by omega)
  have HM2 := Lib.hid (maxLen_ge HL2.out)
  go_enter Tryd.func6, Tryd.ntmps6
  have hc1 := E0.out.cell 0 rfl
  have hsz := szOrder_any _ r0 1048576 _ (H0.out.below E0.out.below) (by omega) (by omega)
  go_wp2_with fail
  refine hsz.mono ?_
  clear hsz
  rintro e w1 ⟨⟨q0, hr, rfl⟩, hb⟩
  have E1 := Lib.hid (E0.out.step hb)
  clear hb hc1 E0
  by_cases hneg0 : q0 < 0
  · go_wp2
    go_ret
    exact ⟨rfl, E1.out.below⟩
  have hq0 : 0 ≤ q0 ∧ q0 ≤ 1048576 ∧ bulk r0 ≤ 1048576 := by rcases hr with h | h <;> omega
  have HB0 := Lib.hid hq0.2.2
  have HM0 := Lib.hid (maxLen_ge HB0.out)
  have HL0 := Lib.hid (show lens r0 r0.length ≤ 1048576 by have := lens_all r0; have := HB0.out; omega)
  clear hr
  have hc2 := E1.out.cell 1 rfl
  have hsz := szOrder_any _ r1 q0 _ (H1.out.below E1.out.below) hq0.1 hq0.2.1
  go_wp2_with fail
  refine hsz.mono ?_
  clear hsz
  rintro e w2 ⟨⟨q1, hr, rfl⟩, hb⟩
  have E2 := Lib.hid (E1.out.step hb)
  clear hb hc2 E1
  by_cases hneg1 : q1 < 0
  · go_wp2
    go_ret
    exact ⟨rfl, E2.out.below⟩
  have hq1 : 0 ≤ q1 ∧ q1 ≤ 1048576 ∧ bulk r1 ≤ 1048576 := by rcases hr with h | h <;> omega
  have HB1 := Lib.hid hq1.2.2
  have HM1 := Lib.hid (maxLen_ge HB1.out)
  have HL1 := Lib.hid (show lens r1 r1.length ≤ 1048576 by have := lens_all r1; have := HB1.out; omega)
  clear hr
  clear hq0 hq1
  have hspec : ∀ W u0 u1 u2, RowsAt W u0 r0 → RowsAt W u1 r1 → IntsAt W u2 x2 → Calls Tryd.prog 26 #[.agg #[u0], .agg #[u1], u2] W (OwnB (projL r0 r1 x2) (projOk r0 r1 x2) W) := fun W u0 u1 u2 k0 k1 k2 => specProj_any u0 u1 u2 r0 r1 x2 W k0 k1 k2 HB0.out HB1.out
  have himpl : ∀ W u0 u1 u2, RowsAt W u0 r0 → RowsAt W u1 r1 → IntsAt W u2 x2 → Tab W → Calls Tryd.prog 27 #[.agg #[u0], .agg #[u1], u2] W (OwnB (projL r0 r1 x2) (projOk r0 r1 x2) W) := fun W u0 u1 u2 k0 k1 k2 kT => implProj_any u0 u1 u2 r0 r1 x2 W k0 k1 k2 kT HB0.out HB1.out
  have hxl := proj_short r0 r1 x2
  generalize projL r0 r1 x2 = xs at hspec himpl hxl
  generalize projOk r0 r1 x2 = t at hspec himpl
  have HX := Lib.hid hxl
  have HS := Lib.hid hspec
  have HI := Lib.hid himpl
  have hne : (t != t) = false := bne_self_eq_false t
  clear hspec himpl hxl
  have hc3 := E2.out.cell 0 rfl
  have hc4 := E2.out.cell 1 rfl
  go_wp2_with fail
  go_region_held3 (fun W' : World => W'.cell? ⟨w.heap.size, 0, none⟩ = some (.slice A0 r0.length C0) ∧ W'.cell? ⟨w.heap.size + 1, 0, none⟩ = some (.slice A1 r1.length C1)) (first | exact ⟨E6.out.cell 0 rfl, E6.out.cell 1 rfl⟩ | exact ⟨E5.out.cell 0 rfl, E5.out.cell 1 rfl⟩ | exact ⟨E4.out.cell 0 rfl, E4.out.cell 1 rfl⟩ | exact ⟨E3.out.cell 0 rfl, E3.out.cell 1 rfl⟩ | exact ⟨E2.out.drew.cell 0 rfl, E2.out.drew.cell 1 rfl⟩) (first | (go_at_call_of 18 (Value.slice A0 (List.length r0) C0); refine (toOrder_any _ r0 _ (H0.out.below E2.out.drew.below) HB0.out).mono ?_; rintro e w3 ⟨gw3, Gw3, rfl, hg, ho, hb⟩; have hE := E2.out.drew.copyR HM0.out hg ho hb; simp only [List.cons_append, List.nil_append] at hE; have E3 := Lib.hid hE; clear hE; clear hg ho hb) | (go_at_call_of 18 (Value.slice A1 (List.length r1) C1); refine (toOrder_any _ r1 _ (H1.out.below E3.out.below) HB1.out).mono ?_; rintro e w4 ⟨gw4, Gw4, rfl, hg, ho, hb⟩; have hE := E3.out.copyR HM1.out hg ho hb; simp only [List.cons_append, List.nil_append] at hE; have E4 := Lib.hid hE; clear hE; clear hg ho hb) | (go_at_call_of 19 (Value.slice A2 (List.length x2) C2); refine (toIntS_any _ x2 _ (H2.out.below E4.out.below) HL2.out).mono ?_; rintro e w5 ⟨rfl, ho, hz, hb⟩; have hE := E4.out.copyI HM2.out ho hz hb; simp only [List.cons_append, List.nil_append] at hE; have E5 := Lib.hid hE; clear hE; clear ho hz hb) | (go_at_call 26; refine (HS.out _ _ _ _ (E5.out.rows 2 rfl) (E5.out.rows 3 rfl) (E5.out.ints 4 rfl)).mono ?_; rintro e w6 ⟨u, rfl, hu, hb⟩; obtain ⟨aU, CU, rfl⟩ := hu.form; have hE := (E5.out.take 2).pushI hb hu; simp only [List.cons_append, List.nil_append, List.take_succ_cons, List.take_zero] at hE; have E6 := Lib.hid hE; clear hE; clear hb hu))
  clear hc3 hc4
  have hc5 := E6.out.cell 0 rfl
  go_wp2_with fail
  refine (toOrder_any _ r0 _ (H0.out.below E6.out.below) HB0.out).mono ?_
  rintro e w7 ⟨gw7, Gw7, rfl, hg, ho, hb⟩
  have hE := (E6.out.copyR HM0.out hg ho hb).box 25 (whole gw7 r0.length)
  simp only [List.cons_append, List.nil_append] at hE
  have E7 := Lib.hid hE
  clear hE hg ho hb hc5 E6
  have hc6 := E7.out.cell 1 rfl
  go_wp2_with fail
  refine (toOrder_any _ r1 _ (H1.out.below E7.out.below) HB1.out).mono ?_
  rintro e w8 ⟨gw8, Gw8, rfl, hg, ho, hb⟩
  have hE := (E7.out.copyR HM1.out hg ho hb).box 25 (whole gw8 r1.length)
  simp only [List.cons_append, List.nil_append] at hE
  have E8 := Lib.hid hE
  clear hE hg ho hb hc6 E7
  go_wp2_with fail
  refine (toIntS_any _ x2 _ (H2.out.below E8.out.below) HL2.out).mono ?_
  rintro e w9 ⟨rfl, ho, hz, hb⟩
  have hE := E8.out.copyI HM2.out ho hz hb
  simp only [World.size_alloc] at hE
  simp only [List.cons_append, List.nil_append] at hE
  have E9 := Lib.hid hE
  clear hE ho hz hb E8
  have hc7 := E9.out.cell 4 rfl
  have hc8 := E9.out.cell 6 rfl
  go_wp2_with fail
  refine (HI.out _ _ _ _ (E9.out.rows 3 rfl) (E9.out.rows 5 rfl) (E9.out.ints 7 rfl) (HTT.out.below E9.out.below)).mono ?_
  rintro e w10 ⟨u, rfl, hu, hb⟩
  obtain ⟨aG, CG, rfl⟩ := hu.form
  have hE := E9.out.pushI hb hu; simp only [List.cons_append, List.nil_append] at hE; have E10 := Lib.hid hE; clear hE
  clear hb hu E9 hc7 hc8
  have heq := eqIntS_any _ _ xs xs _ (E10.out.ints 8 rfl) (E10.out.ints 2 rfl)
  rw [decide_eq_true (rfl : xs = xs)] at heq
  go_wp2_with fail
  refine heq.mono ?_
  clear heq
  rintro e w11 ⟨rfl, nw11, rfl⟩
  have hE := E10.out.drewN nw11
  generalize World.drewN _ nw11 = Ww11 at hE ⊢
  have E11 := Lib.hid hE
  clear hE E10
  have hc9 := E11.out.cell 4 rfl
  have hc10 := E11.out.cell 0 rfl
  go_wp2_with fail
  go_region_held3 (fun W' : World => W'.cell? ⟨w7.heap.size, 0, none⟩ = some (whole gw7 r0.length) ∧ W'.cell? ⟨w.heap.size, 0, none⟩ = some (.slice A0 r0.length C0)) (first | exact ⟨E13.out.cell 4 rfl, E13.out.cell 0 rfl⟩ | exact ⟨E12.out.cell 4 rfl, E12.out.cell 0 rfl⟩ | exact ⟨E11.out.drew.cell 4 rfl, E11.out.drew.cell 0 rfl⟩) (first | (go_at_call 18; refine (toOrder_any _ r0 _ (H0.out.below E11.out.drew.below) HB0.out).mono ?_; rintro e w12 ⟨gw12, Gw12, rfl, hg, ho, hb⟩; have hE := E11.out.drew.copyR HM0.out hg ho hb; simp only [List.cons_append, List.nil_append] at hE; have E12 := Lib.hid hE; clear hE; have heq := eqOrder_any _ _ r0 r0 w12 (E12.out.rows 3 rfl) (E12.out.rows 9 rfl); rw [decide_eq_true (rfl : r0 = r0)] at heq; have HEQ := Lib.hid heq; clear heq hg ho hb) | (go_at_call 11; refine HEQ.out.mono ?_; clear HEQ; rintro e w13 ⟨rfl, hb⟩; have hE := (E12.out.take 9).step hb; simp only [List.take_succ_cons, List.take_zero] at hE; have E13 := Lib.hid hE; clear hE; clear hb))
  clear hc9 hc10
  have hc11 := E13.out.cell 6 rfl
  have hc12 := E13.out.cell 1 rfl
  go_wp2_with fail
  go_region_held3 (fun W' : World => W'.cell? ⟨w8.heap.size, 0, none⟩ = some (whole gw8 r1.length) ∧ W'.cell? ⟨w.heap.size + 1, 0, none⟩ = some (.slice A1 r1.length C1)) (first | exact ⟨E15.out.cell 6 rfl, E15.out.cell 1 rfl⟩ | exact ⟨E14.out.cell 6 rfl, E14.out.cell 1 rfl⟩ | exact ⟨E13.out.drew.cell 6 rfl, E13.out.drew.cell 1 rfl⟩) (first | (go_at_call 18; refine (toOrder_any _ r1 _ (H1.out.below E13.out.drew.below) HB1.out).mono ?_; rintro e w14 ⟨gw14, Gw14, rfl, hg, ho, hb⟩; have hE := E13.out.drew.copyR HM1.out hg ho hb; simp only [List.cons_append, List.nil_append] at hE; have E14 := Lib.hid hE; clear hE; have heq := eqOrder_any _ _ r1 r1 w14 (E14.out.rows 5 rfl) (E14.out.rows 9 rfl); rw [decide_eq_true (rfl : r1 = r1)] at heq; have HEQ := Lib.hid heq; clear heq hg ho hb) | (go_at_call 11; refine HEQ.out.mono ?_; clear HEQ; rintro e w15 ⟨rfl, hb⟩; have hE := (E14.out.take 9).step hb; simp only [List.take_succ_cons, List.take_zero] at hE; have E15 := Lib.hid hE; clear hE; clear hb))
  clear hc11 hc12
  go_wp2_with fail
  refine (toIntS_any _ x2 _ (H2.out.below E15.out.below) HL2.out).mono ?_
  rintro e w16 ⟨rfl, ho, hz, hb⟩
  have hE := E15.out.copyI HM2.out ho hz hb; simp only [List.cons_append, List.nil_append] at hE; have E16 := Lib.hid hE; clear hE
  have heq := eqIntS_any _ _ x2 x2 w16 (E16.out.ints 7 rfl) (E16.out.ints 9 rfl)
  rw [decide_eq_true (rfl : x2 = x2)] at heq
  clear ho hz hb E15
  go_wp2_with fail
  refine heq.mono ?_
  clear heq
  rintro e w17 ⟨rfl, nw17, rfl⟩
  have hE := (E16.out.take 9).drewN nw17
  simp only [List.take_succ_cons, List.take_zero] at hE
  generalize World.drewN _ nw17 = Ww17 at hE ⊢
  have E17 := Lib.hid hE
  clear hE E16
  have hc13 := E17.out.cell 4 rfl
  have hmk := markOrder_any _ r0 (1) _ _ _ (E17.out.ownR 3 rfl) (E17.out.boundsR 3 rfl).1 (E17.out.boundsR 3 rfl).2 (by omega) (by have := HL0.out; have := HL1.out; have := HL2.out; omega)
  go_wp2_with fail
  refine hmk.mono ?_
  clear hmk
  rintro e w18 ⟨rfl, ho, ht⟩
  have hE := E17.out.turnR 3 rfl ht ho; simp only [List.set_cons_succ, List.set_cons_zero] at hE; have E18 := Lib.hid hE; clear hE
  clear ho ht hc13 E17
  have hc14 := E18.out.cell 6 rfl
  have hmk := markOrder_any _ r1 (1 + ((lens r0 r0.length : Nat) : Int)) _ _ _ (E18.out.ownR 5 rfl) (E18.out.boundsR 5 rfl).1 (E18.out.boundsR 5 rfl).2 (by omega) (by have := HL0.out; have := HL1.out; have := HL2.out; omega)
  go_wp2_with fail
  refine hmk.mono ?_
  clear hmk
  rintro e w19 ⟨rfl, ho, ht⟩
  have hE := E18.out.turnR 5 rfl ht ho; simp only [List.set_cons_succ, List.set_cons_zero] at hE; have E19 := Lib.hid hE; clear hE
  clear ho ht hc14 E18
  have hmk := markIntS_any _ x2 (1 + ((lens r0 r0.length : Nat) : Int) + ((lens r1 r1.length : Nat) : Int)) _ _ _ (E19.out.ownI 7 rfl) (by omega) (by have := HL0.out; have := HL1.out; have := HL2.out; omega)
  go_wp2_with fail
  refine hmk.mono ?_
  clear hmk
  rintro e w20 ⟨rfl, ho, hg⟩
  have hE := E19.out.turnI 7 rfl hg ho; simp only [List.set_cons_succ, List.set_cons_zero] at hE; have E20 := Lib.hid hE; clear hE
  clear ho hg E19
  have hpos : ¬ (1 + ((lens r0 r0.length : Nat) : Int) + ((lens r1 r1.length : Nat) : Int) + (x2.length : Int) < 0) := by omega
  have heq := eqIntS_any _ _ xs xs _ (E20.out.ints 8 rfl) (E20.out.ints 2 rfl)
  rw [decide_eq_true (rfl : xs = xs)] at heq
  go_wp2_with fail
  refine heq.mono ?_
  clear heq
  rintro e w21 ⟨rfl, nw21, rfl⟩
  have hE := E20.out.drewN nw21
  generalize World.drewN _ nw21 = Ww21 at hE ⊢
  have E21 := Lib.hid hE
  clear hE E20
  have hmk := markIntS_any _ xs 1 _ _ _ (E21.out.ownI 8 rfl) (by omega) (by have := HX.out; omega)
  go_wp2_with fail
  refine hmk.mono ?_
  clear hmk
  rintro e w22 ⟨rfl, ho, hg⟩
  have hE := E21.out.turnI 8 rfl hg ho; simp only [List.set_cons_succ, List.set_cons_zero] at hE; have E22 := Lib.hid hE; clear hE
  clear ho hg E21
  have hpos2 : ¬ (1 + (xs.length : Int) < 0) := by omega
  have hq : ((1 + (xs.length : Int)) != (1 + (xs.length : Int))) = false := bne_self_eq_false _
  have hhd := heldIntS_any _ 1 xs.length _ (E22.out.ints 8 rfl) (by omega) (by have := HX.out; omega)
  go_wp2_with fail
  refine hhd.mono ?_
  clear hhd
  rintro e w23 ⟨rfl, nw23, rfl⟩
  have hE := E22.out.drewN nw23
  generalize World.drewN _ nw23 = Ww23 at hE ⊢
  have E23 := Lib.hid hE
  clear hE E22
  have HQ := Lib.hid hq
  have HPP := Lib.hid hpos2
  have HNE := Lib.hid hne
  clear hq hpos hpos2 hne
  have hc15 := E23.out.cell 0 rfl
  have hc16 := E23.out.cell 1 rfl
  go_wp2_with fail
  go_region_held3 (fun W' : World => W'.cell? ⟨w.heap.size, 0, none⟩ = some (.slice A0 r0.length C0) ∧ W'.cell? ⟨w.heap.size + 1, 0, none⟩ = some (.slice A1 r1.length C1)) (first | exact ⟨E27.out.cell 0 rfl, E27.out.cell 1 rfl⟩ | exact ⟨E26.out.cell 0 rfl, E26.out.cell 1 rfl⟩ | exact ⟨E25.out.cell 0 rfl, E25.out.cell 1 rfl⟩ | exact ⟨E24.out.cell 0 rfl, E24.out.cell 1 rfl⟩ | exact ⟨E23.out.drew.cell 0 rfl, E23.out.drew.cell 1 rfl⟩) (first | (go_at_call_of 18 (Value.slice A0 (List.length r0) C0); refine (toOrder_any _ r0 _ (H0.out.below E23.out.drew.below) HB0.out).mono ?_; rintro e w24 ⟨gw24, Gw24, rfl, hg, ho, hb⟩; have hE := E23.out.drew.copyR HM0.out hg ho hb; simp only [List.cons_append, List.nil_append] at hE; have E24 := Lib.hid hE; clear hE; clear hg ho hb) | (go_at_call_of 18 (Value.slice A1 (List.length r1) C1); refine (toOrder_any _ r1 _ (H1.out.below E24.out.below) HB1.out).mono ?_; rintro e w25 ⟨gw25, Gw25, rfl, hg, ho, hb⟩; have hE := E24.out.copyR HM1.out hg ho hb; simp only [List.cons_append, List.nil_append] at hE; have E25 := Lib.hid hE; clear hE; clear hg ho hb) | (go_at_call_of 19 (Value.slice A2 (List.length x2) C2); refine (toIntS_any _ x2 _ (H2.out.below E25.out.below) HL2.out).mono ?_; rintro e w26 ⟨rfl, ho, hz, hb⟩; have hE := E25.out.copyI HM2.out ho hz hb; simp only [List.cons_append, List.nil_append] at hE; have E26 := Lib.hid hE; clear hE; clear ho hz hb) | (go_at_call 27; refine (HI.out _ _ _ _ (E26.out.rows 9 rfl) (E26.out.rows 10 rfl) (E26.out.ints 11 rfl) (HTT.out.below E26.out.below)).mono ?_; rintro e w27 ⟨u, rfl, hu, hb⟩; obtain ⟨aV, CV, rfl⟩ := hu.form; have hE := (E26.out.take 9).pushI hb hu; simp only [List.cons_append, List.nil_append, List.take_succ_cons, List.take_zero] at hE; have E27 := Lib.hid hE; clear hE; clear hb hu))
  clear hc15 hc16
  have hq := HQ.out
  have hpos2 := HPP.out
  have hne := HNE.out
  have heq := eqIntS_any _ _ xs xs _ (E27.out.ints 9 rfl) (E27.out.ints 2 rfl)
  rw [decide_eq_true (rfl : xs = xs)] at heq
  go_wp2_with fail
  refine heq.mono ?_
  clear heq
  rintro e w28 ⟨rfl, nw28, rfl⟩
  have hE := E27.out.drewN nw28
  generalize World.drewN _ nw28 = Ww28 at hE ⊢
  have E28 := Lib.hid hE
  clear hE E27
  have hhd := heldIntS_any _ 1 xs.length _ (E28.out.ints 8 rfl) (by omega) (by have := HX.out; omega)
  go_wp2_with fail
  refine hhd.mono ?_
  clear hhd
  rintro e w29 ⟨rfl, nw29, rfl⟩
  have hE := E28.out.drewN nw29
  generalize World.drewN _ nw29 = Ww29 at hE ⊢
  have E29 := Lib.hid hE
  clear hE E28
  go_wp2
  go_ret
  exact ⟨rfl, E29.out.below⟩
end Go.Proofs.YtpjkmiinpjhdnaaDoor
