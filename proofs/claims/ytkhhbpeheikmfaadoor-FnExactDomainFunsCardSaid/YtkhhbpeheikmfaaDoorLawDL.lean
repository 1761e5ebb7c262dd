/- The law of DomainFuns: model and program answer alike, the arguments are left alone, and the answer owns its memory. -/
import Derived.Test.YtkhhbpeheikmfaaDoorMidFe
import Derived.Test.YtkhhbpeheikmfaaDoorEnv
import Derived.Test.YtkhhbpeheikmfaaDoorTo
import Derived.Deep.RegionHeld3
namespace Go.Proofs.YtkhhbpeheikmfaaDoor
open Go.RowKit Go.Deep

set_option maxRecDepth 100000 in
set_option maxHeartbeats 16000000 in
theorem law_funs (v0 : Value) (v1 : Value) (r0 : Rows2) (r1 : Rows2) (w : World) (h0 : RowsAt w v0 r0) (h1 : RowsAt w v1 r1) (hT : Tab w) :
    Calls Tryd.prog 4 #[.agg #[v0], .agg #[v1]] w (SaysN true w) := by
  have e0 := St.start2 w 24 24 v0 v1
  have H0 := Lib.hid h0
  have H1 := Lib.hid h1
  have HTT := Lib.hid hT
  obtain ⟨A0, C0, rfl, _⟩ := h0
  obtain ⟨A1, C1, rfl, _⟩ := h1
  have E0 := Lib.hid e0
  clear e0 hT
  have hdr : ∀ W : World, W.drew.heap = W.heap := fun _ => rfl
  go_enter Tryd.func4, Tryd.ntmps4
  have hc1 := E0.out.cell 0 rfl
  have hsz := szOrder_any _ r0 1048576 _ (H0.out.below E0.out.below) (by omega) (by omega)
  go_wp2_with fail
  refine hsz.mono ?_
  clear hsz
  rintro e w1 ⟨⟨q0, hr, rfl⟩, hb⟩
  have E1 := Lib.hid (E0.out.step hb)
  clear hb hc1 E0
  by_cases hneg0 : q0 < 0
  · go_wp2
    go_ret
    exact ⟨rfl, E1.out.below⟩
  have hq0 : 0 ≤ q0 ∧ q0 ≤ 1048576 ∧ bulk r0 ≤ 1048576 := by rcases hr with h | h <;> omega
  have HB0 := Lib.hid hq0.2.2
  have HM0 := Lib.hid (maxLen_ge HB0.out)
  have HL0 := Lib.hid (show lens r0 r0.length ≤ 1048576 by have := lens_all r0; have := HB0.out; omega)
  clear hr
  have hc2 := E1.out.cell 1 rfl
  have hsz := szOrder_any _ r1 q0 _ (H1.out.below E1.out.below) hq0.1 hq0.2.1
  go_wp2_with fail
  refine hsz.mono ?_
  clear hsz
  rintro e w2 ⟨⟨q1, hr, rfl⟩, hb⟩
  have E2 := Lib.hid (E1.out.step hb)
  clear hb hc2 E1
  by_cases hneg1 : q1 < 0
  · go_wp2
    go_ret
    exact ⟨rfl, E2.out.below⟩
  have hq1 : 0 ≤ q1 ∧ q1 ≤ 1048576 ∧ bulk r1 ≤ 1048576 := by rcases hr with h | h <;> omega
  have HB1 := Lib.hid hq1.2.2
  have HM1 := Lib.hid (maxLen_ge HB1.out)
  have HL1 := Lib.hid (show lens r1 r1.length ≤ 1048576 by have := lens_all r1; have := HB1.out; omega)
  clear hr
  clear hq0 hq1
  have hspec : ∀ W u0 u1, RowsAt W u0 r0 → RowsAt W u1 r1 → Calls Tryd.prog 16 #[.agg #[u0], .agg #[u1]] W (OwnRB (funsL r0 r1) (funB r0 r1) W) := fun W u0 u1 k0 k1 => specFuns_any u0 u1 r0 r1 W k0 k1 HB0.out HB1.out
  have himpl : ∀ W u0 u1, RowsAt W u0 r0 → RowsAt W u1 r1 → Tab W → Calls Tryd.prog 17 #[.agg #[u0], .agg #[u1]] W (OwnRB (funsL r0 r1) (funB r0 r1) W) := fun W u0 u1 k0 k1 kT => implFuns_any u0 u1 r0 r1 W k0 k1 kT HB0.out HB1.out
  have hxl := funs_bulk r0 r1
  generalize funsL r0 r1 = xs at hspec himpl hxl
  generalize funB r0 r1 = t at hspec himpl
  have HX := Lib.hid hxl
  have HXL := Lib.hid (show lens xs xs.length ≤ 1048576 by have := lens_all xs; have := HX.out; omega)
  have HS := Lib.hid hspec
  have HI := Lib.hid himpl
  have hne : (t != t) = false := bne_self_eq_false t
  clear hspec himpl hxl
  have hc3 := E2.out.cell 0 rfl
  have hc4 := E2.out.cell 1 rfl
  go_wp2_with fail
  go_region_held3 (fun W' : World => W'.cell? ⟨w.heap.size, 0, none⟩ = some (.slice A0 r0.length C0) ∧ W'.cell? ⟨w.heap.size + 1, 0, none⟩ = some (.slice A1 r1.length C1)) (first | exact ⟨E5.out.cell 0 rfl, E5.out.cell 1 rfl⟩ | exact ⟨E4.out.cell 0 rfl, E4.out.cell 1 rfl⟩ | exact ⟨E3.out.cell 0 rfl, E3.out.cell 1 rfl⟩ | exact ⟨E2.out.drew.cell 0 rfl, E2.out.drew.cell 1 rfl⟩) (first | (go_at_call_of 11 (Value.slice A0 (List.length r0) C0); refine (toOrder_any _ r0 _ (H0.out.below E2.out.drew.below) HB0.out).mono ?_; rintro e w3 ⟨gw3, Gw3, rfl, hg, ho, hb⟩; have hE := E2.out.drew.copyR HM0.out hg ho hb; simp only [List.cons_append, List.nil_append] at hE; have E3 := Lib.hid hE; clear hE; clear hg ho hb) | (go_at_call_of 11 (Value.slice A1 (List.length r1) C1); refine (toOrder_any _ r1 _ (H1.out.below E3.out.below) HB1.out).mono ?_; rintro e w4 ⟨gw4, Gw4, rfl, hg, ho, hb⟩; have hE := E3.out.copyR HM1.out hg ho hb; simp only [List.cons_append, List.nil_append] at hE; have E4 := Lib.hid hE; clear hE; clear hg ho hb) | (go_at_call 16; refine (HS.out _ _ _ (E4.out.rows 2 rfl) (E4.out.rows 3 rfl)).mono ?_; rintro e w5 ⟨u, rfl, hu, hb⟩; obtain ⟨aU, CU, rfl⟩ := hu.form; have hE := (E4.out.take 2).pushR hb hu; simp only [List.cons_append, List.nil_append, List.take_succ_cons, List.take_zero] at hE; have E5 := Lib.hid hE; clear hE; clear hb hu))
  clear hc3 hc4
  have hc5 := E5.out.cell 0 rfl
  go_wp2_with fail
  refine (toOrder_any _ r0 _ (H0.out.below E5.out.below) HB0.out).mono ?_
  rintro e w6 ⟨gw6, Gw6, rfl, hg, ho, hb⟩
  have hE := (E5.out.copyR HM0.out hg ho hb).box 26 (whole gw6 r0.length)
  simp only [List.cons_append, List.nil_append] at hE
  have E6 := Lib.hid hE
  clear hE hg ho hb hc5 E5
  have hc6 := E6.out.cell 1 rfl
  go_wp2_with fail
  refine (toOrder_any _ r1 _ (H1.out.below E6.out.below) HB1.out).mono ?_
  rintro e w7 ⟨gw7, Gw7, rfl, hg, ho, hb⟩
  have hE := (E6.out.copyR HM1.out hg ho hb).box 26 (whole gw7 r1.length)
  simp only [List.cons_append, List.nil_append] at hE
  have E7 := Lib.hid hE
  clear hE hg ho hb hc6 E6
  have hc7 := E7.out.cell 4 rfl
  have hc8 := E7.out.cell 6 rfl
  go_wp2_with fail
  refine (HI.out _ _ _ (E7.out.rows 3 rfl) (E7.out.rows 5 rfl) (HTT.out.below E7.out.below)).mono ?_
  rintro e w8 ⟨u, rfl, hu, hb⟩
  obtain ⟨aG, CG, rfl⟩ := hu.form
  have hE := E7.out.pushR hb hu; simp only [List.cons_append, List.nil_append] at hE; have E8 := Lib.hid hE; clear hE
  clear hb hu E7 hc7 hc8
  have heq := eqIntSS_any _ _ xs xs _ (E8.out.rows 7 rfl) (E8.out.rows 2 rfl)
  rw [decide_eq_true (rfl : xs = xs)] at heq
  go_wp2_with fail
  refine heq.mono ?_
  clear heq
  rintro e w9 ⟨rfl, nw9, rfl⟩
  have hE := E8.out.drewN nw9
  generalize World.drewN _ nw9 = Ww9 at hE ⊢
  have E9 := Lib.hid hE
  clear hE E8
  have hc9 := E9.out.cell 4 rfl
  have hc10 := E9.out.cell 0 rfl
  go_wp2_with fail
  go_region_held3 (fun W' : World => W'.cell? ⟨w6.heap.size, 0, none⟩ = some (whole gw6 r0.length) ∧ W'.cell? ⟨w.heap.size, 0, none⟩ = some (.slice A0 r0.length C0)) (first | exact ⟨E11.out.cell 4 rfl, E11.out.cell 0 rfl⟩ | exact ⟨E10.out.cell 4 rfl, E10.out.cell 0 rfl⟩ | exact ⟨E9.out.drew.cell 4 rfl, E9.out.drew.cell 0 rfl⟩) (first | (go_at_call 11; refine (toOrder_any _ r0 _ (H0.out.below E9.out.drew.below) HB0.out).mono ?_; rintro e w10 ⟨gw10, Gw10, rfl, hg, ho, hb⟩; have hE := E9.out.drew.copyR HM0.out hg ho hb; simp only [List.cons_append, List.nil_append] at hE; have E10 := Lib.hid hE; clear hE; have heq := eqOrder_any _ _ r0 r0 w10 (E10.out.rows 3 rfl) (E10.out.rows 8 rfl); rw [decide_eq_true (rfl : r0 = r0)] at heq; have HEQ := Lib.hid heq; clear heq hg ho hb) | (go_at_call 13; refine HEQ.out.mono ?_; clear HEQ; rintro e w11 ⟨rfl, hb⟩; have hE := (E10.out.take 8).step hb; simp only [List.take_succ_cons, List.take_zero] at hE; have E11 := Lib.hid hE; clear hE; clear hb))
  clear hc9 hc10
  have hc11 := E11.out.cell 6 rfl
  have hc12 := E11.out.cell 1 rfl
  go_wp2_with fail
  go_region_held3 (fun W' : World => W'.cell? ⟨w7.heap.size, 0, none⟩ = some (whole gw7 r1.length) ∧ W'.cell? ⟨w.heap.size + 1, 0, none⟩ = some (.slice A1 r1.length C1)) (first | exact ⟨E13.out.cell 6 rfl, E13.out.cell 1 rfl⟩ | exact ⟨E12.out.cell 6 rfl, E12.out.cell 1 rfl⟩ | exact ⟨E11.out.drew.cell 6 rfl, E11.out.drew.cell 1 rfl⟩) (first | (go_at_call 11; refine (toOrder_any _ r1 _ (H1.out.below E11.out.drew.below) HB1.out).mono ?_; rintro e w12 ⟨gw12, Gw12, rfl, hg, ho, hb⟩; have hE := E11.out.drew.copyR HM1.out hg ho hb; simp only [List.cons_append, List.nil_append] at hE; have E12 := Lib.hid hE; clear hE; have heq := eqOrder_any _ _ r1 r1 w12 (E12.out.rows 5 rfl) (E12.out.rows 8 rfl); rw [decide_eq_true (rfl : r1 = r1)] at heq; have HEQ := Lib.hid heq; clear heq hg ho hb) | (go_at_call 13; refine HEQ.out.mono ?_; clear HEQ; rintro e w13 ⟨rfl, hb⟩; have hE := (E12.out.take 8).step hb; simp only [List.take_succ_cons, List.take_zero] at hE; have E13 := Lib.hid hE; clear hE; clear hb))
  clear hc11 hc12
  have hc13 := E13.out.cell 4 rfl
  have hmk := markOrder_any _ r0 (1) _ _ _ (E13.out.ownR 3 rfl) (E13.out.boundsR 3 rfl).1 (E13.out.boundsR 3 rfl).2 (by omega) (by have := HL0.out; have := HL1.out; omega)
  go_wp2_with fail
  refine hmk.mono ?_
  clear hmk
  rintro e w14 ⟨rfl, ho, ht⟩
  have hE := E13.out.turnR 3 rfl ht ho; simp only [List.set_cons_succ, List.set_cons_zero] at hE; have E14 := Lib.hid hE; clear hE
  clear ho ht hc13 E13
  have hc14 := E14.out.cell 6 rfl
  have hmk := markOrder_any _ r1 (1 + ((lens r0 r0.length : Nat) : Int)) _ _ _ (E14.out.ownR 5 rfl) (E14.out.boundsR 5 rfl).1 (E14.out.boundsR 5 rfl).2 (by omega) (by have := HL0.out; have := HL1.out; omega)
  go_wp2_with fail
  refine hmk.mono ?_
  clear hmk
  rintro e w15 ⟨rfl, ho, ht⟩
  have hE := E14.out.turnR 5 rfl ht ho; simp only [List.set_cons_succ, List.set_cons_zero] at hE; have E15 := Lib.hid hE; clear hE
  clear ho ht hc14 E14
  have hpos : ¬ (1 + ((lens r0 r0.length : Nat) : Int) + ((lens r1 r1.length : Nat) : Int) < 0) := by omega
  have heq := eqIntSS_any _ _ xs xs _ (E15.out.rows 7 rfl) (E15.out.rows 2 rfl)
  rw [decide_eq_true (rfl : xs = xs)] at heq
  go_wp2_with fail
  refine heq.mono ?_
  clear heq
  rintro e w16 ⟨rfl, nw16, rfl⟩
  have hE := E15.out.drewN nw16
  generalize World.drewN _ nw16 = Ww16 at hE ⊢
  have E16 := Lib.hid hE
  clear hE E15
  have hmk := markIntSS_any _ xs 1 _ _ _ (E16.out.ownR 7 rfl) (E16.out.boundsR 7 rfl).1 (by omega) (by have := HXL.out; omega)
  go_wp2_with fail
  refine hmk.mono ?_
  clear hmk
  rintro e w17 ⟨rfl, ho, ht⟩
  have hE := E16.out.turnR 7 rfl ht ho; simp only [List.set_cons_succ, List.set_cons_zero] at hE; have E17 := Lib.hid hE; clear hE
  clear ho ht E16
  have hpos2 : ¬ (1 + ((lens xs xs.length : Nat) : Int) < 0) := by omega
  have hq : ((1 + ((lens xs xs.length : Nat) : Int)) != (1 + ((lens xs xs.length : Nat) : Int))) = false := bne_self_eq_false _
  have hhd := heldIntSS_any _ xs 1 _ _ _ (E17.out.ownR 7 rfl) (by omega) (by have := HXL.out; omega)
  go_wp2_with fail
  refine hhd.mono ?_
  clear hhd
  rintro e w18 ⟨rfl, nw18, rfl⟩
  have hE := E17.out.drewN nw18
  generalize World.drewN _ nw18 = Ww18 at hE ⊢
  have E18 := Lib.hid hE
  clear hE E17
  have HQ := Lib.hid hq
  have HPP := Lib.hid hpos2
  have HNE := Lib.hid hne
  clear hq hpos hpos2 hne
  have hc15 := E18.out.cell 0 rfl
  have hc16 := E18.out.cell 1 rfl
  go_wp2_with fail
  go_region_held3 (fun W' : World => W'.cell? ⟨w.heap.size, 0, none⟩ = some (.slice A0 r0.length C0) ∧ W'.cell? ⟨w.heap.size + 1, 0, none⟩ = some (.slice A1 r1.length C1)) (first | exact ⟨E21.out.cell 0 rfl, E21.out.cell 1 rfl⟩ | exact ⟨E20.out.cell 0 rfl, E20.out.cell 1 rfl⟩ | exact ⟨E19.out.cell 0 rfl, E19.out.cell 1 rfl⟩ | exact ⟨E18.out.drew.cell 0 rfl, E18.out.drew.cell 1 rfl⟩) (first | (go_at_call_of 11 (Value.slice A0 (List.length r0) C0); refine (toOrder_any _ r0 _ (H0.out.below E18.out.drew.below) HB0.out).mono ?_; rintro e w19 ⟨gw19, Gw19, rfl, hg, ho, hb⟩; have hE := E18.out.drew.copyR HM0.out hg ho hb; simp only [List.cons_append, List.nil_append] at hE; have E19 := Lib.hid hE; clear hE; clear hg ho hb) | (go_at_call_of 11 (Value.slice A1 (List.length r1) C1); refine (toOrder_any _ r1 _ (H1.out.below E19.out.below) HB1.out).mono ?_; rintro e w20 ⟨gw20, Gw20, rfl, hg, ho, hb⟩; have hE := E19.out.copyR HM1.out hg ho hb; simp only [List.cons_append, List.nil_append] at hE; have E20 := Lib.hid hE; clear hE; clear hg ho hb) | (go_at_call 17; refine (HI.out _ _ _ (E20.out.rows 8 rfl) (E20.out.rows 9 rfl) (HTT.out.below E20.out.below)).mono ?_; rintro e w21 ⟨u, rfl, hu, hb⟩; obtain ⟨aV, CV, rfl⟩ := hu.form; have hE := (E20.out.take 8).pushR hb hu; simp only [List.cons_append, List.nil_append, List.take_succ_cons, List.take_zero] at hE; have E21 := Lib.hid hE; clear hE; clear hb hu))
  clear hc15 hc16
  have hq := HQ.out
  have hpos2 := HPP.out
  have hne := HNE.out
  have heq := eqIntSS_any _ _ xs xs _ (E21.out.rows 8 rfl) (E21.out.rows 2 rfl)
  rw [decide_eq_true (rfl : xs = xs)] at heq
  go_wp2_with fail
  refine heq.mono ?_
  clear heq
  rintro e w22 ⟨rfl, nw22, rfl⟩
  have hE := E21.out.drewN nw22
  generalize World.drewN _ nw22 = Ww22 at hE ⊢
  have E22 := Lib.hid hE
  clear hE E21
  have hhd := heldIntSS_any _ xs 1 _ _ _ (E22.out.ownR 7 rfl) (by omega) (by have := HXL.out; omega)
  go_wp2_with fail
  refine hhd.mono ?_
  clear hhd
  rintro e w23 ⟨rfl, nw23, rfl⟩
  have hE := E22.out.drewN nw23
  generalize World.drewN _ nw23 = Ww23 at hE ⊢
  have E23 := Lib.hid hE
  clear hE E22
  go_wp2
  go_ret
  exact ⟨rfl, E23.out.below⟩
end Go.Proofs.YtkhhbpeheikmfaaDoor
