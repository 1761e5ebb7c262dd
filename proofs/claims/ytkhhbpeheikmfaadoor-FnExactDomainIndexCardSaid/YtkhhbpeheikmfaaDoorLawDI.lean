/- The law of DomainIndex: model and program answer alike, and the arguments are left alone. -/
import Derived.Test.YtkhhbpeheikmfaaDoorMidFd
import Derived.Test.YtkhhbpeheikmfaaDoorEnv
import Derived.Test.YtkhhbpeheikmfaaDoorTo
import Derived.Deep.RegionHeld3
namespace Go.Proofs.YtkhhbpeheikmfaaDoor
open Go.RowKit Go.Deep

set_option maxRecDepth 100000 in
set_option maxHeartbeats 16000000 in
theorem law_index (v0 : Value) (v1 : Value) (v2 : Value) (r0 : Rows2) (r1 : Rows2) (x2 : List Int) (w : World) (h0 : RowsAt w v0 r0) (h1 : RowsAt w v1 r1) (h2 : IntsAt w v2 x2) (hT : Tab w) :
    Calls Tryd.prog 5 #[.agg #[v0], .agg #[v1], v2] w (SaysN true w) := by
  have e0 := St.start2 w 24 24 v0 v1
  have H0 := Lib.hid h0
  have H1 := Lib.hid h1
  have H2 := Lib.hid h2
  have HTT := Lib.hid hT
  obtain ⟨A0, C0, rfl, _⟩ := h0
  obtain ⟨A1, C1, rfl, _⟩ := h1
  obtain ⟨A2, C2, rfl, _⟩ := h2
  have E0 := Lib.hid e0
  clear e0 hT
  have hdr : ∀ W : World, W.drew.heap = W.heap := fun _ => rfl
  by_cases hf2 : (1048576 : Int) < (x2.length : Int)
  · go_enter Tryd.func5, Tryd.ntmps5
    go_wp2
    go_ret
    exact ⟨rfl, E0.out.below⟩
  have HL2 := Lib.hid (show x2.length ≤ 1048576 by omega)
  have HM2 := Lib.hid (maxLen_ge HL2.out)
  go_enter Tryd.func5, Tryd.ntmps5
  have hc1 := E0.out.cell 0 rfl
  have hsz := szOrder_any _ r0 1048576 _ (H0.out.below E0.out.below) (by omega) (by omega)
  go_wp2_with fail
  refine hsz.mono ?_
  clear hsz
  rintro e w1 ⟨⟨q0, hr, rfl⟩, hb⟩
  have E1 := Lib.hid (E0.out.step hb)
  clear hb hc1 E0
  by_cases hneg0 : q0 < 0
  · go_wp2
    go_ret
    exact ⟨rfl, E1.out.below⟩
  have hq0 : 0 ≤ q0 ∧ q0 ≤ 1048576 ∧ bulk r0 ≤ 1048576 := by rcases hr with h | h <;> omega
  have HB0 := Lib.hid hq0.2.2
  have HM0 := Lib.hid (maxLen_ge HB0.out)
  have HL0 := Lib.hid (show lens r0 r0.length ≤ 1048576 by have := lens_all r0; have := HB0.out; omega)
  clear hr
  have hc2 := E1.out.cell 1 rfl
  have hsz := szOrder_any _ r1 q0 _ (H1.out.below E1.out.below) hq0.1 hq0.2.1
  go_wp2_with fail
  refine hsz.mono ?_
  clear hsz
  rintro e w2 ⟨⟨q1, hr, rfl⟩, hb⟩
  have E2 := Lib.hid (E1.out.step hb)
  clear hb hc2 E1
  by_cases hneg1 : q1 < 0
  · go_wp2
    go_ret
    exact ⟨rfl, E2.out.below⟩
  have hq1 : 0 ≤ q1 ∧ q1 ≤ 1048576 ∧ bulk r1 ≤ 1048576 := by rcases hr with h | h <;> omega
  have HB1 := Lib.hid hq1.2.2
  have HM1 := Lib.hid (maxLen_ge HB1.out)
  have HL1 := Lib.hid (show lens r1 r1.length ≤ 1048576 by have := lens_all r1; have := HB1.out; omega)
  clear hr
  clear hq0 hq1
  have hspec : ∀ W u0 u1 u2, RowsAt W u0 r0 → RowsAt W u1 r1 → IntsAt W u2 x2 → Calls Tryd.prog 21 #[.agg #[u0], .agg #[u1], u2] W (SaysJ (indexI r0 r1 x2) W) := fun W u0 u1 u2 k0 k1 k2 => specIndex_any u0 u1 u2 r0 r1 x2 W k0 k1 k2 HB0.out HB1.out
  have himpl : ∀ W u0 u1 u2, RowsAt W u0 r0 → RowsAt W u1 r1 → IntsAt W u2 x2 → Tab W → Calls Tryd.prog 23 #[.agg #[u0], .agg #[u1], u2] W (SaysJ (indexI r0 r1 x2) W) := fun W u0 u1 u2 k0 k1 k2 kT => implIndex_any u0 u1 u2 r0 r1 x2 W k0 k1 k2 kT HB0.out HB1.out
  generalize indexI r0 r1 x2 = t at hspec himpl
  have HS := Lib.hid hspec
  have HI := Lib.hid himpl
  have hne : (t != t) = false := bne_self_eq_false t
  clear hspec himpl
  have hc3 := E2.out.cell 0 rfl
  have hc4 := E2.out.cell 1 rfl
  go_wp2_with fail
  go_region_held3 (fun W' : World => W'.cell? ⟨w.heap.size, 0, none⟩ = some (.slice A0 r0.length C0) ∧ W'.cell? ⟨w.heap.size + 1, 0, none⟩ = some (.slice A1 r1.length C1)) (first | exact ⟨E6.out.cell 0 rfl, E6.out.cell 1 rfl⟩ | exact ⟨E5.out.cell 0 rfl, E5.out.cell 1 rfl⟩ | exact ⟨E4.out.cell 0 rfl, E4.out.cell 1 rfl⟩ | exact ⟨E3.out.cell 0 rfl, E3.out.cell 1 rfl⟩ | exact ⟨E2.out.drew.cell 0 rfl, E2.out.drew.cell 1 rfl⟩) (first | (go_at_call_of 11 (Value.slice A0 (List.length r0) C0); refine (toOrder_any _ r0 _ (H0.out.below E2.out.drew.below) HB0.out).mono ?_; rintro e w3 ⟨gw3, Gw3, rfl, hg, ho, hb⟩; have hE := E2.out.drew.copyR HM0.out hg ho hb; simp only [List.cons_append, List.nil_append] at hE; have E3 := Lib.hid hE; clear hE; clear hg ho hb) | (go_at_call_of 11 (Value.slice A1 (List.length r1) C1); refine (toOrder_any _ r1 _ (H1.out.below E3.out.below) HB1.out).mono ?_; rintro e w4 ⟨gw4, Gw4, rfl, hg, ho, hb⟩; have hE := E3.out.copyR HM1.out hg ho hb; simp only [List.cons_append, List.nil_append] at hE; have E4 := Lib.hid hE; clear hE; clear hg ho hb) | (go_at_call_of 22 (Value.slice A2 (List.length x2) C2); refine (toIntS_any _ x2 _ (H2.out.below E4.out.below) HL2.out).mono ?_; rintro e w5 ⟨rfl, ho, hz, hb⟩; have hE := E4.out.copyI HM2.out ho hz hb; simp only [List.cons_append, List.nil_append] at hE; have E5 := Lib.hid hE; clear hE; clear ho hz hb) | (go_at_call 21; refine (HS.out _ _ _ _ (E5.out.rows 2 rfl) (E5.out.rows 3 rfl) (E5.out.ints 4 rfl)).mono ?_; rintro e w6 ⟨rfl, hb⟩; have hE := (E5.out.take 2).step hb; simp only [List.take_succ_cons, List.take_zero] at hE; have E6 := Lib.hid hE; clear hE; clear hb))
  clear hc3 hc4
  have hc5 := E6.out.cell 0 rfl
  go_wp2_with fail
  refine (toOrder_any _ r0 _ (H0.out.below E6.out.below) HB0.out).mono ?_
  rintro e w7 ⟨gw7, Gw7, rfl, hg, ho, hb⟩
  have hE := (E6.out.copyR HM0.out hg ho hb).box 26 (whole gw7 r0.length)
  simp only [List.cons_append, List.nil_append] at hE
  have E7 := Lib.hid hE
  clear hE hg ho hb hc5 E6
  have hc6 := E7.out.cell 1 rfl
  go_wp2_with fail
  refine (toOrder_any _ r1 _ (H1.out.below E7.out.below) HB1.out).mono ?_
  rintro e w8 ⟨gw8, Gw8, rfl, hg, ho, hb⟩
  have hE := (E7.out.copyR HM1.out hg ho hb).box 26 (whole gw8 r1.length)
  simp only [List.cons_append, List.nil_append] at hE
  have E8 := Lib.hid hE
  clear hE hg ho hb hc6 E7
  go_wp2_with fail
  refine (toIntS_any _ x2 _ (H2.out.below E8.out.below) HL2.out).mono ?_
  rintro e w9 ⟨rfl, ho, hz, hb⟩
  have hE := E8.out.copyI HM2.out ho hz hb
  simp only [World.size_alloc] at hE
  simp only [List.cons_append, List.nil_append] at hE
  have E9 := Lib.hid hE
  clear hE ho hz hb E8
  have hc7 := E9.out.cell 3 rfl
  have hc8 := E9.out.cell 5 rfl
  go_wp2_with fail
  refine (HI.out _ _ _ _ (E9.out.rows 2 rfl) (E9.out.rows 4 rfl) (E9.out.ints 6 rfl) (HTT.out.below E9.out.below)).mono ?_
  rintro e w10 ⟨rfl, hb⟩
  have E10 := Lib.hid (E9.out.step hb)
  clear hb E9 hc7 hc8
  have hc9 := E10.out.cell 3 rfl
  have hc10 := E10.out.cell 0 rfl
  go_wp2_with fail
  go_region_held3 (fun W' : World => W'.cell? ⟨w7.heap.size, 0, none⟩ = some (whole gw7 r0.length) ∧ W'.cell? ⟨w.heap.size, 0, none⟩ = some (.slice A0 r0.length C0)) (first | exact ⟨E12.out.cell 3 rfl, E12.out.cell 0 rfl⟩ | exact ⟨E11.out.cell 3 rfl, E11.out.cell 0 rfl⟩ | exact ⟨E10.out.drew.cell 3 rfl, E10.out.drew.cell 0 rfl⟩) (first | (go_at_call 11; refine (toOrder_any _ r0 _ (H0.out.below E10.out.drew.below) HB0.out).mono ?_; rintro e w11 ⟨gw11, Gw11, rfl, hg, ho, hb⟩; have hE := E10.out.drew.copyR HM0.out hg ho hb; simp only [List.cons_append, List.nil_append] at hE; have E11 := Lib.hid hE; clear hE; have heq := eqOrder_any _ _ r0 r0 w11 (E11.out.rows 2 rfl) (E11.out.rows 7 rfl); rw [decide_eq_true (rfl : r0 = r0)] at heq; have HEQ := Lib.hid heq; clear heq hg ho hb) | (go_at_call 13; refine HEQ.out.mono ?_; clear HEQ; rintro e w12 ⟨rfl, hb⟩; have hE := (E11.out.take 7).step hb; simp only [List.take_succ_cons, List.take_zero] at hE; have E12 := Lib.hid hE; clear hE; clear hb))
  clear hc9 hc10
  have hc11 := E12.out.cell 5 rfl
  have hc12 := E12.out.cell 1 rfl
  go_wp2_with fail
  go_region_held3 (fun W' : World => W'.cell? ⟨w8.heap.size, 0, none⟩ = some (whole gw8 r1.length) ∧ W'.cell? ⟨w.heap.size + 1, 0, none⟩ = some (.slice A1 r1.length C1)) (first | exact ⟨E14.out.cell 5 rfl, E14.out.cell 1 rfl⟩ | exact ⟨E13.out.cell 5 rfl, E13.out.cell 1 rfl⟩ | exact ⟨E12.out.drew.cell 5 rfl, E12.out.drew.cell 1 rfl⟩) (first | (go_at_call 11; refine (toOrder_any _ r1 _ (H1.out.below E12.out.drew.below) HB1.out).mono ?_; rintro e w13 ⟨gw13, Gw13, rfl, hg, ho, hb⟩; have hE := E12.out.drew.copyR HM1.out hg ho hb; simp only [List.cons_append, List.nil_append] at hE; have E13 := Lib.hid hE; clear hE; have heq := eqOrder_any _ _ r1 r1 w13 (E13.out.rows 4 rfl) (E13.out.rows 7 rfl); rw [decide_eq_true (rfl : r1 = r1)] at heq; have HEQ := Lib.hid heq; clear heq hg ho hb) | (go_at_call 13; refine HEQ.out.mono ?_; clear HEQ; rintro e w14 ⟨rfl, hb⟩; have hE := (E13.out.take 7).step hb; simp only [List.take_succ_cons, List.take_zero] at hE; have E14 := Lib.hid hE; clear hE; clear hb))
  clear hc11 hc12
  go_wp2_with fail
  refine (toIntS_any _ x2 _ (H2.out.below E14.out.below) HL2.out).mono ?_
  rintro e w15 ⟨rfl, ho, hz, hb⟩
  have hE := E14.out.copyI HM2.out ho hz hb; simp only [List.cons_append, List.nil_append] at hE; have E15 := Lib.hid hE; clear hE
  have heq := eqIntS_any _ _ x2 x2 w15 (E15.out.ints 6 rfl) (E15.out.ints 7 rfl)
  rw [decide_eq_true (rfl : x2 = x2)] at heq
  clear ho hz hb E14
  go_wp2_with fail
  refine heq.mono ?_
  clear heq
  rintro e w16 ⟨rfl, nw16, rfl⟩
  have hE := (E15.out.take 7).drewN nw16
  simp only [List.take_succ_cons, List.take_zero] at hE
  generalize World.drewN _ nw16 = Ww16 at hE ⊢
  have E16 := Lib.hid hE
  clear hE E15
  go_wp2
  go_ret
  exact ⟨rfl, E16.out.below⟩
end Go.Proofs.YtkhhbpeheikmfaaDoor
