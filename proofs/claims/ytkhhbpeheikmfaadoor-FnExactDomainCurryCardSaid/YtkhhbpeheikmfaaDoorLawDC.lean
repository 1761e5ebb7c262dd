/- The law of DomainCurry: model and program answer alike, the arguments are left alone, and the answer owns its memory. -/
import Derived.Test.YtkhhbpeheikmfaaDoorMidFg
import Derived.Test.YtkhhbpeheikmfaaDoorEnv
import Derived.Test.YtkhhbpeheikmfaaDoorTo
import Derived.Deep.RegionHeld3
namespace Go.Proofs.YtkhhbpeheikmfaaDoor
open Go.RowKit Go.Deep

set_option maxRecDepth 100000 in
set_option maxHeartbeats 16000000 in
theorem law_curry (v0 : Value) (v1 : Value) (v2 : Value) (v3 : Value) (r0 : Rows2) (r1 : Rows2) (r2 : Rows2) (x3 : List Int) (w : World) (h0 : RowsAt w v0 r0) (h1 : RowsAt w v1 r1) (h2 : RowsAt w v2 r2) (h3 : IntsAt w v3 x3) (hT : Tab w) :
    Calls Tryd.prog 6 #[.agg #[v0], .agg #[v1], .agg #[v2], v3] w (SaysN true w) := by
  have e0 := St.start3 w 24 24 24 v0 v1 v2
  have H0 := Lib.hid h0
  have H1 := Lib.hid h1
  have H2 := Lib.hid h2
  have H3 := Lib.hid h3
  have HTT := Lib.hid hT
  obtain ⟨A0, C0, rfl, _⟩ := h0
  obtain ⟨A1, C1, rfl, _⟩ := h1
  obtain ⟨A2, C2, rfl, _⟩ := h2
  obtain ⟨A3, C3, rfl, _⟩ := h3
  have E0 := Lib.hid e0
  clear e0 hT
  have hdr : ∀ W : World, W.drew.heap = W.heap := fun _ => rfl
  by_cases hf3 : (1048576 : Int) < (x3.length : Int)
  · go_enter Tryd.func6, Tryd.ntmps6
    go_wp2
    go_ret
    exact ⟨rfl, E0.out.below⟩
  have HL3 := Lib.hid (show x3.length ≤ 1048576 by omega)
  have HM3 := Lib.hid (maxLen_ge HL3.out)
  go_enter Tryd.func6, Tryd.ntmps6
  have hc1 := E0.out.cell 0 rfl
  have hsz := szOrder_any _ r0 1048576 _ (H0.out.below E0.out.below) (by omega) (by omega)
  go_wp2_with fail
  refine hsz.mono ?_
  clear hsz
  rintro e w1 ⟨⟨q0, hr, rfl⟩, hb⟩
  have E1 := Lib.hid (E0.out.step hb)
  clear hb hc1 E0
  by_cases hneg0 : q0 < 0
  · go_wp2
    go_ret
    exact ⟨rfl, E1.out.below⟩
  have hq0 : 0 ≤ q0 ∧ q0 ≤ 1048576 ∧ bulk r0 ≤ 1048576 := by rcases hr with h | h <;> omega
  have HB0 := Lib.hid hq0.2.2
  have HM0 := Lib.hid (maxLen_ge HB0.out)
  have HL0 := Lib.hid (show lens r0 r0.length ≤ 1048576 by have := lens_all r0; have := HB0.out; omega)
  clear hr
  have hc2 := E1.out.cell 1 rfl
  have hsz := szOrder_any _ r1 q0 _ (H1.out.below E1.out.below) hq0.1 hq0.2.1
  go_wp2_with fail
  refine hsz.mono ?_
  clear hsz
  rintro e w2 ⟨⟨q1, hr, rfl⟩, hb⟩
  have E2 := Lib.hid (E1.out.step hb)
  clear hb hc2 E1
  by_cases hneg1 : q1 < 0
  · go_wp2
    go_ret
    exact ⟨rfl, E2.out.below⟩
  have hq1 : 0 ≤ q1 ∧ q1 ≤ 1048576 ∧ bulk r1 ≤ 1048576 := by rcases hr with h | h <;> omega
  have HB1 := Lib.hid hq1.2.2
  have HM1 := Lib.hid (maxLen_ge HB1.out)
  have HL1 := Lib.hid (show lens r1 r1.length ≤ 1048576 by have := lens_all r1; have := HB1.out; omega)
  clear hr
  have hc3 := E2.out.cell 2 rfl
  have hsz := szOrder_any _ r2 q1 _ (H2.out.below E2.out.below) hq1.1 hq1.2.1
  go_wp2_with fail
  refine hsz.mono ?_
  clear hsz
  rintro e w3 ⟨⟨q2, hr, rfl⟩, hb⟩
  have E3 := Lib.hid (E2.out.step hb)
  clear hb hc3 E2
  by_cases hneg2 : q2 < 0
  · go_wp2
    go_ret
    exact ⟨rfl, E3.out.below⟩
  have hq2 : 0 ≤ q2 ∧ q2 ≤ 1048576 ∧ bulk r2 ≤ 1048576 := by rcases hr with h | h <;> omega
  have HB2 := Lib.hid hq2.2.2
  have HM2 := Lib.hid (maxLen_ge HB2.out)
  have HL2 := Lib.hid (show lens r2 r2.length ≤ 1048576 by have := lens_all r2; have := HB2.out; omega)
  clear hr
  clear hq0 hq1 hq2
  have hspec : ∀ W u0 u1 u2 u3, RowsAt W u0 r0 → RowsAt W u1 r1 → RowsAt W u2 r2 → IntsAt W u3 x3 → Calls Tryd.prog 25 #[.agg #[u0], .agg #[u1], .agg #[u2], u3] W (OwnB (curL r0 r1 r2 x3) (curB r0 r1 r2 x3) W) := fun W u0 u1 u2 u3 k0 k1 k2 k3 => specCur_any u0 u1 u2 u3 r0 r1 r2 x3 W k0 k1 k2 k3 HB0.out HB1.out HB2.out
  have himpl : ∀ W u0 u1 u2 u3, RowsAt W u0 r0 → RowsAt W u1 r1 → RowsAt W u2 r2 → IntsAt W u3 x3 → Tab W → Calls Tryd.prog 26 #[.agg #[u0], .agg #[u1], .agg #[u2], u3] W (OwnB (curL r0 r1 r2 x3) (curB r0 r1 r2 x3) W) := fun W u0 u1 u2 u3 k0 k1 k2 k3 kT => implCur_any u0 u1 u2 u3 r0 r1 r2 x3 W k0 k1 k2 k3 kT HB0.out HB1.out HB2.out
  have hxl := cur_short r0 r1 r2 x3
  generalize curL r0 r1 r2 x3 = xs at hspec himpl hxl
  generalize curB r0 r1 r2 x3 = t at hspec himpl
  have HX := Lib.hid hxl
  have HS := Lib.hid hspec
  have HI := Lib.hid himpl
  have hne : (t != t) = false := bne_self_eq_false t
  clear hspec himpl hxl
  have hc4 := E3.out.cell 0 rfl
  have hc5 := E3.out.cell 1 rfl
  have hc6 := E3.out.cell 2 rfl
  go_wp2_with fail
  go_region_held3 (fun W' : World => W'.cell? ⟨w.heap.size, 0, none⟩ = some (.slice A0 r0.length C0) ∧ W'.cell? ⟨w.heap.size + 1, 0, none⟩ = some (.slice A1 r1.length C1) ∧ W'.cell? ⟨w.heap.size + 2, 0, none⟩ = some (.slice A2 r2.length C2)) (first | exact ⟨E8.out.cell 0 rfl, E8.out.cell 1 rfl, E8.out.cell 2 rfl⟩ | exact ⟨E7.out.cell 0 rfl, E7.out.cell 1 rfl, E7.out.cell 2 rfl⟩ | exact ⟨E6.out.cell 0 rfl, E6.out.cell 1 rfl, E6.out.cell 2 rfl⟩ | exact ⟨E5.out.cell 0 rfl, E5.out.cell 1 rfl, E5.out.cell 2 rfl⟩ | exact ⟨E4.out.cell 0 rfl, E4.out.cell 1 rfl, E4.out.cell 2 rfl⟩ | exact ⟨E3.out.drew.cell 0 rfl, E3.out.drew.cell 1 rfl, E3.out.drew.cell 2 rfl⟩) (first | (go_at_call_of 11 (Value.slice A0 (List.length r0) C0); refine (toOrder_any _ r0 _ (H0.out.below E3.out.drew.below) HB0.out).mono ?_; rintro e w4 ⟨gw4, Gw4, rfl, hg, ho, hb⟩; have hE := E3.out.drew.copyR HM0.out hg ho hb; simp only [List.cons_append, List.nil_append] at hE; have E4 := Lib.hid hE; clear hE; clear hg ho hb) | (go_at_call_of 11 (Value.slice A1 (List.length r1) C1); refine (toOrder_any _ r1 _ (H1.out.below E4.out.below) HB1.out).mono ?_; rintro e w5 ⟨gw5, Gw5, rfl, hg, ho, hb⟩; have hE := E4.out.copyR HM1.out hg ho hb; simp only [List.cons_append, List.nil_append] at hE; have E5 := Lib.hid hE; clear hE; clear hg ho hb) | (go_at_call_of 11 (Value.slice A2 (List.length r2) C2); refine (toOrder_any _ r2 _ (H2.out.below E5.out.below) HB2.out).mono ?_; rintro e w6 ⟨gw6, Gw6, rfl, hg, ho, hb⟩; have hE := E5.out.copyR HM2.out hg ho hb; simp only [List.cons_append, List.nil_append] at hE; have E6 := Lib.hid hE; clear hE; clear hg ho hb) | (go_at_call_of 22 (Value.slice A3 (List.length x3) C3); refine (toIntS_any _ x3 _ (H3.out.below E6.out.below) HL3.out).mono ?_; rintro e w7 ⟨rfl, ho, hz, hb⟩; have hE := E6.out.copyI HM3.out ho hz hb; simp only [List.cons_append, List.nil_append] at hE; have E7 := Lib.hid hE; clear hE; clear ho hz hb) | (go_at_call 25; refine (HS.out _ _ _ _ _ (E7.out.rows 3 rfl) (E7.out.rows 4 rfl) (E7.out.rows 5 rfl) (E7.out.ints 6 rfl)).mono ?_; rintro e w8 ⟨u, rfl, hu, hb⟩; obtain ⟨aU, CU, rfl⟩ := hu.form; have hE := (E7.out.take 3).pushI hb hu; simp only [List.cons_append, List.nil_append, List.take_succ_cons, List.take_zero] at hE; have E8 := Lib.hid hE; clear hE; clear hb hu))
  clear hc4 hc5 hc6
  have hc7 := E8.out.cell 0 rfl
  go_wp2_with fail
  refine (toOrder_any _ r0 _ (H0.out.below E8.out.below) HB0.out).mono ?_
  rintro e w9 ⟨gw9, Gw9, rfl, hg, ho, hb⟩
  have hE := (E8.out.copyR HM0.out hg ho hb).box 26 (whole gw9 r0.length)
  simp only [List.cons_append, List.nil_append] at hE
  have E9 := Lib.hid hE
  clear hE hg ho hb hc7 E8
  have hc8 := E9.out.cell 1 rfl
  go_wp2_with fail
  refine (toOrder_any _ r1 _ (H1.out.below E9.out.below) HB1.out).mono ?_
  rintro e w10 ⟨gw10, Gw10, rfl, hg, ho, hb⟩
  have hE := (E9.out.copyR HM1.out hg ho hb).box 26 (whole gw10 r1.length)
  simp only [List.cons_append, List.nil_append] at hE
  have E10 := Lib.hid hE
  clear hE hg ho hb hc8 E9
  have hc9 := E10.out.cell 2 rfl
  go_wp2_with fail
  refine (toOrder_any _ r2 _ (H2.out.below E10.out.below) HB2.out).mono ?_
  rintro e w11 ⟨gw11, Gw11, rfl, hg, ho, hb⟩
  have hE := (E10.out.copyR HM2.out hg ho hb).box 26 (whole gw11 r2.length)
  simp only [List.cons_append, List.nil_append] at hE
  have E11 := Lib.hid hE
  clear hE hg ho hb hc9 E10
  go_wp2_with fail
  refine (toIntS_any _ x3 _ (H3.out.below E11.out.below) HL3.out).mono ?_
  rintro e w12 ⟨rfl, ho, hz, hb⟩
  have hE := E11.out.copyI HM3.out ho hz hb
  simp only [World.size_alloc] at hE
  simp only [List.cons_append, List.nil_append] at hE
  have E12 := Lib.hid hE
  clear hE ho hz hb E11
  have hc10 := E12.out.cell 5 rfl
  have hc11 := E12.out.cell 7 rfl
  have hc12 := E12.out.cell 9 rfl
  go_wp2_with fail
  refine (HI.out _ _ _ _ _ (E12.out.rows 4 rfl) (E12.out.rows 6 rfl) (E12.out.rows 8 rfl) (E12.out.ints 10 rfl) (HTT.out.below E12.out.below)).mono ?_
  rintro e w13 ⟨u, rfl, hu, hb⟩
  obtain ⟨aG, CG, rfl⟩ := hu.form
  have hE := E12.out.pushI hb hu; simp only [List.cons_append, List.nil_append] at hE; have E13 := Lib.hid hE; clear hE
  clear hb hu E12 hc10 hc11 hc12
  have heq := eqIntS_any _ _ xs xs _ (E13.out.ints 11 rfl) (E13.out.ints 3 rfl)
  rw [decide_eq_true (rfl : xs = xs)] at heq
  go_wp2_with fail
  refine heq.mono ?_
  clear heq
  rintro e w14 ⟨rfl, nw14, rfl⟩
  have hE := E13.out.drewN nw14
  generalize World.drewN _ nw14 = Ww14 at hE ⊢
  have E14 := Lib.hid hE
  clear hE E13
  have hc13 := E14.out.cell 5 rfl
  have hc14 := E14.out.cell 0 rfl
  go_wp2_with fail
  go_region_held3 (fun W' : World => W'.cell? ⟨w9.heap.size, 0, none⟩ = some (whole gw9 r0.length) ∧ W'.cell? ⟨w.heap.size, 0, none⟩ = some (.slice A0 r0.length C0)) (first | exact ⟨E16.out.cell 5 rfl, E16.out.cell 0 rfl⟩ | exact ⟨E15.out.cell 5 rfl, E15.out.cell 0 rfl⟩ | exact ⟨E14.out.drew.cell 5 rfl, E14.out.drew.cell 0 rfl⟩) (first | (go_at_call 11; refine (toOrder_any _ r0 _ (H0.out.below E14.out.drew.below) HB0.out).mono ?_; rintro e w15 ⟨gw15, Gw15, rfl, hg, ho, hb⟩; have hE := E14.out.drew.copyR HM0.out hg ho hb; simp only [List.cons_append, List.nil_append] at hE; have E15 := Lib.hid hE; clear hE; have heq := eqOrder_any _ _ r0 r0 w15 (E15.out.rows 4 rfl) (E15.out.rows 12 rfl); rw [decide_eq_true (rfl : r0 = r0)] at heq; have HEQ := Lib.hid heq; clear heq hg ho hb) | (go_at_call 13; refine HEQ.out.mono ?_; clear HEQ; rintro e w16 ⟨rfl, hb⟩; have hE := (E15.out.take 12).step hb; simp only [List.take_succ_cons, List.take_zero] at hE; have E16 := Lib.hid hE; clear hE; clear hb))
  clear hc13 hc14
  have hc15 := E16.out.cell 7 rfl
  have hc16 := E16.out.cell 1 rfl
  go_wp2_with fail
  go_region_held3 (fun W' : World => W'.cell? ⟨w10.heap.size, 0, none⟩ = some (whole gw10 r1.length) ∧ W'.cell? ⟨w.heap.size + 1, 0, none⟩ = some (.slice A1 r1.length C1)) (first | exact ⟨E18.out.cell 7 rfl, E18.out.cell 1 rfl⟩ | exact ⟨E17.out.cell 7 rfl, E17.out.cell 1 rfl⟩ | exact ⟨E16.out.drew.cell 7 rfl, E16.out.drew.cell 1 rfl⟩) (first | (go_at_call 11; refine (toOrder_any _ r1 _ (H1.out.below E16.out.drew.below) HB1.out).mono ?_; rintro e w17 ⟨gw17, Gw17, rfl, hg, ho, hb⟩; have hE := E16.out.drew.copyR HM1.out hg ho hb; simp only [List.cons_append, List.nil_append] at hE; have E17 := Lib.hid hE; clear hE; have heq := eqOrder_any _ _ r1 r1 w17 (E17.out.rows 6 rfl) (E17.out.rows 12 rfl); rw [decide_eq_true (rfl : r1 = r1)] at heq; have HEQ := Lib.hid heq; clear heq hg ho hb) | (go_at_call 13; refine HEQ.out.mono ?_; clear HEQ; rintro e w18 ⟨rfl, hb⟩; have hE := (E17.out.take 12).step hb; simp only [List.take_succ_cons, List.take_zero] at hE; have E18 := Lib.hid hE; clear hE; clear hb))
  clear hc15 hc16
  have hc17 := E18.out.cell 9 rfl
  have hc18 := E18.out.cell 2 rfl
  go_wp2_with fail
  go_region_held3 (fun W' : World => W'.cell? ⟨w11.heap.size, 0, none⟩ = some (whole gw11 r2.length) ∧ W'.cell? ⟨w.heap.size + 2, 0, none⟩ = some (.slice A2 r2.length C2)) (first | exact ⟨E20.out.cell 9 rfl, E20.out.cell 2 rfl⟩ | exact ⟨E19.out.cell 9 rfl, E19.out.cell 2 rfl⟩ | exact ⟨E18.out.drew.cell 9 rfl, E18.out.drew.cell 2 rfl⟩) (first | (go_at_call 11; refine (toOrder_any _ r2 _ (H2.out.below E18.out.drew.below) HB2.out).mono ?_; rintro e w19 ⟨gw19, Gw19, rfl, hg, ho, hb⟩; have hE := E18.out.drew.copyR HM2.out hg ho hb; simp only [List.cons_append, List.nil_append] at hE; have E19 := Lib.hid hE; clear hE; have heq := eqOrder_any _ _ r2 r2 w19 (E19.out.rows 8 rfl) (E19.out.rows 12 rfl); rw [decide_eq_true (rfl : r2 = r2)] at heq; have HEQ := Lib.hid heq; clear heq hg ho hb) | (go_at_call 13; refine HEQ.out.mono ?_; clear HEQ; rintro e w20 ⟨rfl, hb⟩; have hE := (E19.out.take 12).step hb; simp only [List.take_succ_cons, List.take_zero] at hE; have E20 := Lib.hid hE; clear hE; clear hb))
  clear hc17 hc18
  go_wp2_with fail
  refine (toIntS_any _ x3 _ (H3.out.below E20.out.below) HL3.out).mono ?_
  rintro e w21 ⟨rfl, ho, hz, hb⟩
  have hE := E20.out.copyI HM3.out ho hz hb; simp only [List.cons_append, List.nil_append] at hE; have E21 := Lib.hid hE; clear hE
  have heq := eqIntS_any _ _ x3 x3 w21 (E21.out.ints 10 rfl) (E21.out.ints 12 rfl)
  rw [decide_eq_true (rfl : x3 = x3)] at heq
  clear ho hz hb E20
  go_wp2_with fail
  refine heq.mono ?_
  clear heq
  rintro e w22 ⟨rfl, nw22, rfl⟩
  have hE := (E21.out.take 12).drewN nw22
  simp only [List.take_succ_cons, List.take_zero] at hE
  generalize World.drewN _ nw22 = Ww22 at hE ⊢
  have E22 := Lib.hid hE
  clear hE E21
  have hc19 := E22.out.cell 5 rfl
  have hmk := markOrder_any _ r0 (1) _ _ _ (E22.out.ownR 4 rfl) (E22.out.boundsR 4 rfl).1 (E22.out.boundsR 4 rfl).2 (by omega) (by have := HL0.out; have := HL1.out; have := HL2.out; have := HL3.out; omega)
  go_wp2_with fail
  refine hmk.mono ?_
  clear hmk
  rintro e w23 ⟨rfl, ho, ht⟩
  have hE := E22.out.turnR 4 rfl ht ho; simp only [List.set_cons_succ, List.set_cons_zero] at hE; have E23 := Lib.hid hE; clear hE
  clear ho ht hc19 E22
  have hc20 := E23.out.cell 7 rfl
  have hmk := markOrder_any _ r1 (1 + ((lens r0 r0.length : Nat) : Int)) _ _ _ (E23.out.ownR 6 rfl) (E23.out.boundsR 6 rfl).1 (E23.out.boundsR 6 rfl).2 (by omega) (by have := HL0.out; have := HL1.out; have := HL2.out; have := HL3.out; omega)
  go_wp2_with fail
  refine hmk.mono ?_
  clear hmk
  rintro e w24 ⟨rfl, ho, ht⟩
  have hE := E23.out.turnR 6 rfl ht ho; simp only [List.set_cons_succ, List.set_cons_zero] at hE; have E24 := Lib.hid hE; clear hE
  clear ho ht hc20 E23
  have hc21 := E24.out.cell 9 rfl
  have hmk := markOrder_any _ r2 (1 + ((lens r0 r0.length : Nat) : Int) + ((lens r1 r1.length : Nat) : Int)) _ _ _ (E24.out.ownR 8 rfl) (E24.out.boundsR 8 rfl).1 (E24.out.boundsR 8 rfl).2 (by omega) (by have := HL0.out; have := HL1.out; have := HL2.out; have := HL3.out; omega)
  go_wp2_with fail
  refine hmk.mono ?_
  clear hmk
  rintro e w25 ⟨rfl, ho, ht⟩
  have hE := E24.out.turnR 8 rfl ht ho; simp only [List.set_cons_succ, List.set_cons_zero] at hE; have E25 := Lib.hid hE; clear hE
  clear ho ht hc21 E24
  have hmk := markIntS_any _ x3 (1 + ((lens r0 r0.length : Nat) : Int) + ((lens r1 r1.length : Nat) : Int) + ((lens r2 r2.length : Nat) : Int)) _ _ _ (E25.out.ownI 10 rfl) (by omega) (by have := HL0.out; have := HL1.out; have := HL2.out; have := HL3.out; omega)
  go_wp2_with fail
  refine hmk.mono ?_
  clear hmk
  rintro e w26 ⟨rfl, ho, hg⟩
  have hE := E25.out.turnI 10 rfl hg ho; simp only [List.set_cons_succ, List.set_cons_zero] at hE; have E26 := Lib.hid hE; clear hE
  clear ho hg E25
  have hpos : ¬ (1 + ((lens r0 r0.length : Nat) : Int) + ((lens r1 r1.length : Nat) : Int) + ((lens r2 r2.length : Nat) : Int) + (x3.length : Int) < 0) := by omega
  have heq := eqIntS_any _ _ xs xs _ (E26.out.ints 11 rfl) (E26.out.ints 3 rfl)
  rw [decide_eq_true (rfl : xs = xs)] at heq
  go_wp2_with fail
  refine heq.mono ?_
  clear heq
  rintro e w27 ⟨rfl, nw27, rfl⟩
  have hE := E26.out.drewN nw27
  generalize World.drewN _ nw27 = Ww27 at hE ⊢
  have E27 := Lib.hid hE
  clear hE E26
  have hmk := markIntS_any _ xs 1 _ _ _ (E27.out.ownI 11 rfl) (by omega) (by have := HX.out; omega)
  go_wp2_with fail
  refine hmk.mono ?_
  clear hmk
  rintro e w28 ⟨rfl, ho, hg⟩
  have hE := E27.out.turnI 11 rfl hg ho; simp only [List.set_cons_succ, List.set_cons_zero] at hE; have E28 := Lib.hid hE; clear hE
  clear ho hg E27
  have hpos2 : ¬ (1 + (xs.length : Int) < 0) := by omega
  have hq : ((1 + (xs.length : Int)) != (1 + (xs.length : Int))) = false := bne_self_eq_false _
  have hhd := heldIntS_any _ 1 xs.length _ (E28.out.ints 11 rfl) (by omega) (by have := HX.out; omega)
  go_wp2_with fail
  refine hhd.mono ?_
  clear hhd
  rintro e w29 ⟨rfl, nw29, rfl⟩
  have hE := E28.out.drewN nw29
  generalize World.drewN _ nw29 = Ww29 at hE ⊢
  have E29 := Lib.hid hE
  clear hE E28
  have HQ := Lib.hid hq
  have HPP := Lib.hid hpos2
  have HNE := Lib.hid hne
  clear hq hpos hpos2 hne
  have hc22 := E29.out.cell 0 rfl
  have hc23 := E29.out.cell 1 rfl
  have hc24 := E29.out.cell 2 rfl
  go_wp2_with fail
  go_region_held3 (fun W' : World => W'.cell? ⟨w.heap.size, 0, none⟩ = some (.slice A0 r0.length C0) ∧ W'.cell? ⟨w.heap.size + 1, 0, none⟩ = some (.slice A1 r1.length C1) ∧ W'.cell? ⟨w.heap.size + 2, 0, none⟩ = some (.slice A2 r2.length C2)) (first | exact ⟨E34.out.cell 0 rfl, E34.out.cell 1 rfl, E34.out.cell 2 rfl⟩ | exact ⟨E33.out.cell 0 rfl, E33.out.cell 1 rfl, E33.out.cell 2 rfl⟩ | exact ⟨E32.out.cell 0 rfl, E32.out.cell 1 rfl, E32.out.cell 2 rfl⟩ | exact ⟨E31.out.cell 0 rfl, E31.out.cell 1 rfl, E31.out.cell 2 rfl⟩ | exact ⟨E30.out.cell 0 rfl, E30.out.cell 1 rfl, E30.out.cell 2 rfl⟩ | exact ⟨E29.out.drew.cell 0 rfl, E29.out.drew.cell 1 rfl, E29.out.drew.cell 2 rfl⟩) (first | (go_at_call_of 11 (Value.slice A0 (List.length r0) C0); refine (toOrder_any _ r0 _ (H0.out.below E29.out.drew.below) HB0.out).mono ?_; rintro e w30 ⟨gw30, Gw30, rfl, hg, ho, hb⟩; have hE := E29.out.drew.copyR HM0.out hg ho hb; simp only [List.cons_append, List.nil_append] at hE; have E30 := Lib.hid hE; clear hE; clear hg ho hb) | (go_at_call_of 11 (Value.slice A1 (List.length r1) C1); refine (toOrder_any _ r1 _ (H1.out.below E30.out.below) HB1.out).mono ?_; rintro e w31 ⟨gw31, Gw31, rfl, hg, ho, hb⟩; have hE := E30.out.copyR HM1.out hg ho hb; simp only [List.cons_append, List.nil_append] at hE; have E31 := Lib.hid hE; clear hE; clear hg ho hb) | (go_at_call_of 11 (Value.slice A2 (List.length r2) C2); refine (toOrder_any _ r2 _ (H2.out.below E31.out.below) HB2.out).mono ?_; rintro e w32 ⟨gw32, Gw32, rfl, hg, ho, hb⟩; have hE := E31.out.copyR HM2.out hg ho hb; simp only [List.cons_append, List.nil_append] at hE; have E32 := Lib.hid hE; clear hE; clear hg ho hb) | (go_at_call_of 22 (Value.slice A3 (List.length x3) C3); refine (toIntS_any _ x3 _ (H3.out.below E32.out.below) HL3.out).mono ?_; rintro e w33 ⟨rfl, ho, hz, hb⟩; have hE := E32.out.copyI HM3.out ho hz hb; simp only [List.cons_append, List.nil_append] at hE; have E33 := Lib.hid hE; clear hE; clear ho hz hb) | (go_at_call 26; refine (HI.out _ _ _ _ _ (E33.out.rows 12 rfl) (E33.out.rows 13 rfl) (E33.out.rows 14 rfl) (E33.out.ints 15 rfl) (HTT.out.below E33.out.below)).mono ?_; rintro e w34 ⟨u, rfl, hu, hb⟩; obtain ⟨aV, CV, rfl⟩ := hu.form; have hE := (E33.out.take 12).pushI hb hu; simp only [List.cons_append, List.nil_append, List.take_succ_cons, List.take_zero] at hE; have E34 := Lib.hid hE; clear hE; clear hb hu))
  clear hc22 hc23 hc24
  have hq := HQ.out
  have hpos2 := HPP.out
  have hne := HNE.out
  have heq := eqIntS_any _ _ xs xs _ (E34.out.ints 12 rfl) (E34.out.ints 3 rfl)
  rw [decide_eq_true (rfl : xs = xs)] at heq
  go_wp2_with fail
  refine heq.mono ?_
  clear heq
  rintro e w35 ⟨rfl, nw35, rfl⟩
  have hE := E34.out.drewN nw35
  generalize World.drewN _ nw35 = Ww35 at hE ⊢
  have E35 := Lib.hid hE
  clear hE E34
  have hhd := heldIntS_any _ 1 xs.length _ (E35.out.ints 11 rfl) (by omega) (by have := HX.out; omega)
  go_wp2_with fail
  refine hhd.mono ?_
  clear hhd
  rintro e w36 ⟨rfl, nw36, rfl⟩
  have hE := E35.out.drewN nw36
  generalize World.drewN _ nw36 = Ww36 at hE ⊢
  have E36 := Lib.hid hE
  clear hE E35
  go_wp2
  go_ret
  exact ⟨rfl, E36.out.below⟩
end Go.Proofs.YtkhhbpeheikmfaaDoor
