/- The law of DomainFun: model and program answer alike, the arguments are left alone, and the answer owns its memory. -/
import Derived.Test.YtkhhbpeheikmfaaDoorMidFc
import Derived.Test.YtkhhbpeheikmfaaDoorEnvO
import Derived.Test.YtkhhbpeheikmfaaDoorTo
import Derived.Deep.RegionHeld3
namespace Go.Proofs.YtkhhbpeheikmfaaDoor
open Go.RowKit Go.Deep

set_option maxRecDepth 100000 in
set_option maxHeartbeats 16000000 in
theorem law_fun (v0 : Value) (v1 : Value) (r0 : Rows2) (r1 : Rows2) (w : World) (h0 : RowsAt w v0 r0) (h1 : RowsAt w v1 r1) (hT : Tab w) :
    Calls Tryd.prog 3 #[.agg #[v0], .agg #[v1]] w (SaysN true w) := by
  have e0 := St.start2 w 24 24 v0 v1
  have H0 := Lib.hid h0
  have H1 := Lib.hid h1
  have HTT := Lib.hid hT
  obtain ⟨A0, C0, rfl, _⟩ := h0
  obtain ⟨A1, C1, rfl, _⟩ := h1
  have E0 := Lib.hid e0
  clear e0 hT
  have hdr : ∀ W : World, W.drew.heap = W.heap := fun _ => rfl
  go_enter Tryd.func3, Tryd.ntmps3
  have hc1 := E0.out.cell 0 rfl
  have hsz := szOrder_any _ r0 1048576 _ (H0.out.below E0.out.below) (by omega) (by omega)
  go_wp2_with fail
  refine hsz.mono ?_
  clear hsz
  rintro e w1 ⟨⟨q0, hr, rfl⟩, hb⟩
  have E1 := Lib.hid (E0.out.step hb)
  clear hb hc1 E0
  by_cases hneg0 : q0 < 0
  · go_wp2
    go_ret
    exact ⟨rfl, E1.out.below⟩
  have hq0 : 0 ≤ q0 ∧ q0 ≤ 1048576 ∧ bulk r0 ≤ 1048576 := by rcases hr with h | h <;> omega
  have HB0 := Lib.hid hq0.2.2
  have HM0 := Lib.hid (maxLen_ge HB0.out)
  have HL0 := Lib.hid (show lens r0 r0.length ≤ 1048576 by have := lens_all r0; have := HB0.out; omega)
  clear hr
  have hc2 := E1.out.cell 1 rfl
  have hsz := szOrder_any _ r1 q0 _ (H1.out.below E1.out.below) hq0.1 hq0.2.1
  go_wp2_with fail
  refine hsz.mono ?_
  clear hsz
  rintro e w2 ⟨⟨q1, hr, rfl⟩, hb⟩
  have E2 := Lib.hid (E1.out.step hb)
  clear hb hc2 E1
  by_cases hneg1 : q1 < 0
  · go_wp2
    go_ret
    exact ⟨rfl, E2.out.below⟩
  have hq1 : 0 ≤ q1 ∧ q1 ≤ 1048576 ∧ bulk r1 ≤ 1048576 := by rcases hr with h | h <;> omega
  have HB1 := Lib.hid hq1.2.2
  have HM1 := Lib.hid (maxLen_ge HB1.out)
  have HL1 := Lib.hid (show lens r1 r1.length ≤ 1048576 by have := lens_all r1; have := HB1.out; omega)
  clear hr
  clear hq0 hq1
  have hspec : ∀ W u0 u1, RowsAt W u0 r0 → RowsAt W u1 r1 → Calls Tryd.prog 10 #[.agg #[u0], .agg #[u1]] W (OrderP (funL r0 r1) (funB r0 r1) W) := fun W u0 u1 k0 k1 => specFun_any u0 u1 r0 r1 W k0 k1 HB0.out HB1.out
  have himpl : ∀ W u0 u1, RowsAt W u0 r0 → RowsAt W u1 r1 → Tab W → Calls Tryd.prog 12 #[.agg #[u0], .agg #[u1]] W (OrderP (funL r0 r1) (funB r0 r1) W) := fun W u0 u1 k0 k1 kT => implFun_any u0 u1 r0 r1 W k0 k1 kT HB0.out HB1.out
  have hxl := fun_bulk r0 r1
  generalize funL r0 r1 = xs at hspec himpl hxl
  generalize funB r0 r1 = t at hspec himpl
  have HX := Lib.hid hxl
  have HXL := Lib.hid (show lens xs xs.length ≤ 1048576 by have := lens_all xs; have := HX.out; omega)
  have HS := Lib.hid hspec
  have HI := Lib.hid himpl
  have hne : (t != t) = false := bne_self_eq_false t
  clear hspec himpl hxl
  have hc3 := E2.out.cell 0 rfl
  have hc4 := E2.out.cell 1 rfl
  obtain ⟨IS, hIS, hI9⟩ := St.name E2.out
  have HIS := Lib.hid hIS
  clear hIS hI9
  go_upto_region 8 with fail
  go_cut [6, 7] (fun sb st wx => ∃ b lo hi a C, sb = .pointer (some ⟨b, 0, none⟩) ∧ st = .bool t ∧ St w (IS ++ [ItO b (.slice a xs.length C) xs.length (rowsF xs) lo hi]) wx)
  case first =>
    go_region_held3 (fun W' : World => W'.cell? ⟨w.heap.size, 0, none⟩ = some (.slice A0 r0.length C0) ∧ W'.cell? ⟨w.heap.size + 1, 0, none⟩ = some (.slice A1 r1.length C1)) (first | exact ⟨(E5.out.setB 2 rfl _).cell 0 rfl, (E5.out.setB 2 rfl _).cell 1 rfl⟩ | exact ⟨(E5.out.setB 3 rfl _).cell 0 rfl, (E5.out.setB 3 rfl _).cell 1 rfl⟩ | exact ⟨(E5.out.setB 4 rfl _).cell 0 rfl, (E5.out.setB 4 rfl _).cell 1 rfl⟩ | exact ⟨(E5.out.box 26 _).cell 0 rfl, (E5.out.box 26 _).cell 1 rfl⟩ | exact ⟨E5.out.cell 0 rfl, E5.out.cell 1 rfl⟩ | exact ⟨(E4.out.box 26 _).cell 0 rfl, (E4.out.box 26 _).cell 1 rfl⟩ | exact ⟨E4.out.cell 0 rfl, E4.out.cell 1 rfl⟩ | exact ⟨(E3.out.box 26 _).cell 0 rfl, (E3.out.box 26 _).cell 1 rfl⟩ | exact ⟨E3.out.cell 0 rfl, E3.out.cell 1 rfl⟩ | exact ⟨(E2.out.drew.box 26 _).cell 0 rfl, (E2.out.drew.box 26 _).cell 1 rfl⟩ | exact ⟨E2.out.drew.cell 0 rfl, E2.out.drew.cell 1 rfl⟩) (first | (go_at_call_of 11 (Value.slice A0 (List.length r0) C0); first | (refine (toOrder_any _ r0 _ (H0.out.below (E2.out.drew).below) HB0.out).mono ?_; rintro e w3 ⟨gw3, Gw3, rfl, hg, ho, hb⟩; have hE := (E2.out.drew).copyR HM0.out hg ho hb; simp only [List.cons_append, List.nil_append] at hE; have E3 := Lib.hid hE; clear hE hg ho hb) | (refine (toOrder_any _ r0 _ (H0.out.below ((E2.out.drew.box 26 (Value.slice none 0 0))).below) HB0.out).mono ?_; rintro e w3 ⟨gw3, Gw3, rfl, hg, ho, hb⟩; have hE := ((E2.out.drew.box 26 (Value.slice none 0 0))).copyR HM0.out hg ho hb; simp only [List.cons_append, List.nil_append] at hE; have E3 := Lib.hid hE; clear hE hg ho hb)) | (go_at_call_of 11 (Value.slice A1 (List.length r1) C1); first | (refine (toOrder_any _ r1 _ (H1.out.below (E3.out).below) HB1.out).mono ?_; rintro e w4 ⟨gw4, Gw4, rfl, hg, ho, hb⟩; have hE := (E3.out).copyR HM1.out hg ho hb; simp only [List.cons_append, List.nil_append] at hE; have E4 := Lib.hid hE; clear hE hg ho hb) | (refine (toOrder_any _ r1 _ (H1.out.below ((E3.out.box 26 (Value.slice none 0 0))).below) HB1.out).mono ?_; rintro e w4 ⟨gw4, Gw4, rfl, hg, ho, hb⟩; have hE := ((E3.out.box 26 (Value.slice none 0 0))).copyR HM1.out hg ho hb; simp only [List.cons_append, List.nil_append] at hE; have E4 := Lib.hid hE; clear hE hg ho hb)) | (go_at_call 10; first | (refine (HS.out _ _ _ (E4.out.rows 2 rfl) (E4.out.rows 3 rfl)).mono ?_; rintro e w5 ⟨u, rfl, hu, hb⟩; obtain ⟨aU, CU, rfl⟩ := hu.form; have hE := (E4.out).pushR hb hu; simp only [List.cons_append, List.nil_append] at hE; have E5 := Lib.hid hE; clear hE hb hu) | (refine (HS.out _ _ _ (E4.out.rows 3 rfl) (E4.out.rows 4 rfl)).mono ?_; rintro e w5 ⟨u, rfl, hu, hb⟩; obtain ⟨aU, CU, rfl⟩ := hu.form; have hE := (E4.out).pushR hb hu; simp only [List.cons_append, List.nil_append] at hE; have E5 := Lib.hid hE; clear hE hb hu; have hcb := (E5.out.boxed 2 rfl).cell; have hfb := (E5.out.boxed 2 rfl).frozen; try simp only [hdr] at hcb hfb) | (refine (HS.out _ _ _ (E4.out.rows 2 rfl) (E4.out.rows 4 rfl)).mono ?_; rintro e w5 ⟨u, rfl, hu, hb⟩; obtain ⟨aU, CU, rfl⟩ := hu.form; have hE := (E4.out).pushR hb hu; simp only [List.cons_append, List.nil_append] at hE; have E5 := Lib.hid hE; clear hE hb hu; have hcb := (E5.out.boxed 3 rfl).cell; have hfb := (E5.out.boxed 3 rfl).frozen; try simp only [hdr] at hcb hfb) | (refine (HS.out _ _ _ ((E4.out.box 26 (Value.slice none 0 0)).rows 2 rfl) ((E4.out.box 26 (Value.slice none 0 0)).rows 3 rfl)).mono ?_; rintro e w5 ⟨u, rfl, hu, hb⟩; obtain ⟨aU, CU, rfl⟩ := hu.form; have hE := ((E4.out.box 26 (Value.slice none 0 0))).pushR hb hu; simp only [List.cons_append, List.nil_append] at hE; have E5 := Lib.hid hE; clear hE hb hu; have hcb := (E5.out.boxed 4 rfl).cell; have hfb := (E5.out.boxed 4 rfl).frozen; try simp only [hdr] at hcb hfb)))
    all_goals
      go_wp2_with fail
      go_meet
    all_goals first | (obtain ⟨lo', hi', hE⟩ := (E5.out.box 26 _).packO 2 5 4 (by omega) (by omega) rfl rfl; exact ⟨_, _, _, _, _, rfl, rfl, by rw [HIS.out]; exact hE⟩) | (obtain ⟨lo', hi', hE⟩ := (E5.out.setB 2 rfl _).packO 2 2 5 (by omega) (by omega) rfl rfl; exact ⟨_, _, _, _, _, rfl, rfl, by rw [HIS.out]; exact hE⟩) | (obtain ⟨lo', hi', hE⟩ := (E5.out.setB 3 rfl _).packO 2 3 5 (by omega) (by omega) rfl rfl; exact ⟨_, _, _, _, _, rfl, rfl, by rw [HIS.out]; exact hE⟩) | (obtain ⟨lo', hi', hE⟩ := (E5.out.setB 4 rfl _).packO 2 4 5 (by omega) (by omega) rfl rfl; exact ⟨_, _, _, _, _, rfl, rfl, by rw [HIS.out]; exact hE⟩)
  obtain ⟨bU, loU, hiU, aU, CU, rfl, rfl, hE⟩ := hcut
  rw [HIS.out] at hE
  simp only [List.cons_append, List.nil_append] at hE
  have E6 := Lib.hid hE
  clear hE hc3 hc4
  clear E2 HIS IS
  have hc5 := E6.out.cell 0 rfl
  go_wp2_with fail
  refine (toOrder_any _ r0 _ (H0.out.below E6.out.below) HB0.out).mono ?_
  rintro e w7 ⟨gw7, Gw7, rfl, hg, ho, hb⟩
  have hE := (E6.out.copyR HM0.out hg ho hb).box 26 (whole gw7 r0.length)
  simp only [List.cons_append, List.nil_append] at hE
  have E7 := Lib.hid hE
  clear hE hg ho hb hc5 E6
  have hc6 := E7.out.cell 1 rfl
  go_wp2_with fail
  refine (toOrder_any _ r1 _ (H1.out.below E7.out.below) HB1.out).mono ?_
  rintro e w8 ⟨gw8, Gw8, rfl, hg, ho, hb⟩
  have hE := (E7.out.copyR HM1.out hg ho hb).box 26 (whole gw8 r1.length)
  simp only [List.cons_append, List.nil_append] at hE
  have E8 := Lib.hid hE
  clear hE hg ho hb hc6 E7
  have hc7 := E8.out.cell 4 rfl
  have hc8 := E8.out.cell 6 rfl
  go_wp2_with fail
  refine (HI.out _ _ _ (E8.out.rows 3 rfl) (E8.out.rows 5 rfl) (HTT.out.below E8.out.below)).mono ?_
  rintro e w9 ⟨u, rfl, hu, hb⟩
  obtain ⟨aG, CG, rfl⟩ := hu.form
  have hE := E8.out.pushR hb hu; simp only [List.cons_append, List.nil_append] at hE; have E9 := Lib.hid hE; clear hE
  clear hb hu E8 hc7 hc8
  have hE := E9.out.box 26 (Value.slice aG xs.length CG); simp only [List.cons_append, List.nil_append] at hE; have E10 := Lib.hid hE; clear hE
  clear E9
  have heq := eqOrder_any _ _ xs xs _ (E10.out.rows 7 rfl) (E10.out.rowsO 2 rfl)
  rw [decide_eq_true (rfl : xs = xs)] at heq
  have hc9 := E10.out.cell 8 rfl
  have hc10 := E10.out.cellO 2 rfl
  go_wp2_with fail
  refine heq.mono ?_
  clear heq
  rintro e w11 ⟨rfl, hb⟩
  have E11 := Lib.hid (E10.out.step hb)
  clear hb E10
  clear hc9 hc10
  have hc11 := E11.out.cell 4 rfl
  have hc12 := E11.out.cell 0 rfl
  go_wp2_with fail
  go_region_held3 (fun W' : World => W'.cell? ⟨w7.heap.size, 0, none⟩ = some (whole gw7 r0.length) ∧ W'.cell? ⟨w.heap.size, 0, none⟩ = some (.slice A0 r0.length C0)) (first | exact ⟨E13.out.cell 4 rfl, E13.out.cell 0 rfl⟩ | exact ⟨E12.out.cell 4 rfl, E12.out.cell 0 rfl⟩ | exact ⟨E11.out.drew.cell 4 rfl, E11.out.drew.cell 0 rfl⟩) (first | (go_at_call 11; refine (toOrder_any _ r0 _ (H0.out.below E11.out.drew.below) HB0.out).mono ?_; rintro e w12 ⟨gw12, Gw12, rfl, hg, ho, hb⟩; have hE := E11.out.drew.copyR HM0.out hg ho hb; simp only [List.cons_append, List.nil_append] at hE; have E12 := Lib.hid hE; clear hE; have heq := eqOrder_any _ _ r0 r0 w12 (E12.out.rows 3 rfl) (E12.out.rows 9 rfl); rw [decide_eq_true (rfl : r0 = r0)] at heq; have HEQ := Lib.hid heq; clear heq hg ho hb) | (go_at_call 13; refine HEQ.out.mono ?_; clear HEQ; rintro e w13 ⟨rfl, hb⟩; have hE := (E12.out.take 9).step hb; simp only [List.take_succ_cons, List.take_zero] at hE; have E13 := Lib.hid hE; clear hE; clear hb))
  clear hc11 hc12
  have hc13 := E13.out.cell 6 rfl
  have hc14 := E13.out.cell 1 rfl
  go_wp2_with fail
  go_region_held3 (fun W' : World => W'.cell? ⟨w8.heap.size, 0, none⟩ = some (whole gw8 r1.length) ∧ W'.cell? ⟨w.heap.size + 1, 0, none⟩ = some (.slice A1 r1.length C1)) (first | exact ⟨E15.out.cell 6 rfl, E15.out.cell 1 rfl⟩ | exact ⟨E14.out.cell 6 rfl, E14.out.cell 1 rfl⟩ | exact ⟨E13.out.drew.cell 6 rfl, E13.out.drew.cell 1 rfl⟩) (first | (go_at_call 11; refine (toOrder_any _ r1 _ (H1.out.below E13.out.drew.below) HB1.out).mono ?_; rintro e w14 ⟨gw14, Gw14, rfl, hg, ho, hb⟩; have hE := E13.out.drew.copyR HM1.out hg ho hb; simp only [List.cons_append, List.nil_append] at hE; have E14 := Lib.hid hE; clear hE; have heq := eqOrder_any _ _ r1 r1 w14 (E14.out.rows 5 rfl) (E14.out.rows 9 rfl); rw [decide_eq_true (rfl : r1 = r1)] at heq; have HEQ := Lib.hid heq; clear heq hg ho hb) | (go_at_call 13; refine HEQ.out.mono ?_; clear HEQ; rintro e w15 ⟨rfl, hb⟩; have hE := (E14.out.take 9).step hb; simp only [List.take_succ_cons, List.take_zero] at hE; have E15 := Lib.hid hE; clear hE; clear hb))
  clear hc13 hc14
  have hc15 := E15.out.cell 4 rfl
  have hmk := markOrder_any _ r0 (1) _ _ _ (E15.out.ownR 3 rfl) (E15.out.boundsR 3 rfl).1 (E15.out.boundsR 3 rfl).2 (by omega) (by have := HL0.out; have := HL1.out; omega)
  go_wp2_with fail
  refine hmk.mono ?_
  clear hmk
  rintro e w16 ⟨rfl, ho, ht⟩
  have hE := E15.out.turnR 3 rfl ht ho; simp only [List.set_cons_succ, List.set_cons_zero] at hE; have E16 := Lib.hid hE; clear hE
  clear ho ht hc15 E15
  have hc16 := E16.out.cell 6 rfl
  have hmk := markOrder_any _ r1 (1 + ((lens r0 r0.length : Nat) : Int)) _ _ _ (E16.out.ownR 5 rfl) (E16.out.boundsR 5 rfl).1 (E16.out.boundsR 5 rfl).2 (by omega) (by have := HL0.out; have := HL1.out; omega)
  go_wp2_with fail
  refine hmk.mono ?_
  clear hmk
  rintro e w17 ⟨rfl, ho, ht⟩
  have hE := E16.out.turnR 5 rfl ht ho; simp only [List.set_cons_succ, List.set_cons_zero] at hE; have E17 := Lib.hid hE; clear hE
  clear ho ht hc16 E16
  have hpos : ¬ (1 + ((lens r0 r0.length : Nat) : Int) + ((lens r1 r1.length : Nat) : Int) < 0) := by omega
  have heq := eqOrder_any _ _ xs xs _ (E17.out.rows 7 rfl) (E17.out.rowsO 2 rfl)
  rw [decide_eq_true (rfl : xs = xs)] at heq
  have hc17 := E17.out.cell 8 rfl
  have hc18 := E17.out.cellO 2 rfl
  go_wp2_with fail
  refine heq.mono ?_
  clear heq
  rintro e w18 ⟨rfl, hb⟩
  have E18 := Lib.hid (E17.out.step hb)
  clear hb E17
  clear hc17 hc18
  have hc19 := E18.out.cell 8 rfl
  have hmk := markOrder_any _ xs 1 _ _ _ (E18.out.ownR 7 rfl) (E18.out.boundsR 7 rfl).1 (E18.out.boundsR 7 rfl).2 (by omega) (by have := HXL.out; omega)
  go_wp2_with fail
  refine hmk.mono ?_
  clear hmk
  rintro e w19 ⟨rfl, ho, ht⟩
  have hE := E18.out.turnR 7 rfl ht ho; simp only [List.set_cons_succ, List.set_cons_zero] at hE; have E19 := Lib.hid hE; clear hE
  clear ho ht hc19 E18
  have hpos2 : ¬ (1 + ((lens xs xs.length : Nat) : Int) < 0) := by omega
  have hq : ((1 + ((lens xs xs.length : Nat) : Int)) != (1 + ((lens xs xs.length : Nat) : Int))) = false := bne_self_eq_false _
  have hc20 := E19.out.cell 8 rfl
  have hhd := heldOrder_any _ xs 1 _ _ _ (E19.out.ownR 7 rfl) (E19.out.boundsR 7 rfl).2 (by omega) (by have := HXL.out; omega)
  go_wp2_with fail
  refine hhd.mono ?_
  clear hhd
  rintro e w20 ⟨rfl, hb⟩
  have E20 := Lib.hid (E19.out.step hb)
  clear hb E19 hc20
  have HQ := Lib.hid hq
  have HPP := Lib.hid hpos2
  have HNE := Lib.hid hne
  clear hq hpos hpos2 hne
  have hc21 := E20.out.cell 0 rfl
  have hc22 := E20.out.cell 1 rfl
  obtain ⟨IS, hIS, hI9⟩ := St.name E20.out
  have HIS := Lib.hid hIS
  clear hIS hI9
  go_upto_region 31 with fail
  go_cut [15, 16] (fun sb st wx => ∃ b lo hi a C, sb = .pointer (some ⟨b, 0, none⟩) ∧ st = .bool t ∧ St w (IS ++ [ItO b (.slice a xs.length C) xs.length (rowsF xs) lo hi]) wx)
  case first =>
    go_region_held3 (fun W' : World => W'.cell? ⟨w.heap.size, 0, none⟩ = some (.slice A0 r0.length C0) ∧ W'.cell? ⟨w.heap.size + 1, 0, none⟩ = some (.slice A1 r1.length C1)) (first | exact ⟨(E23.out.setB 9 rfl _).cell 0 rfl, (E23.out.setB 9 rfl _).cell 1 rfl⟩ | exact ⟨(E23.out.setB 10 rfl _).cell 0 rfl, (E23.out.setB 10 rfl _).cell 1 rfl⟩ | exact ⟨(E23.out.setB 11 rfl _).cell 0 rfl, (E23.out.setB 11 rfl _).cell 1 rfl⟩ | exact ⟨(E23.out.box 26 _).cell 0 rfl, (E23.out.box 26 _).cell 1 rfl⟩ | exact ⟨E23.out.cell 0 rfl, E23.out.cell 1 rfl⟩ | exact ⟨(E22.out.box 26 _).cell 0 rfl, (E22.out.box 26 _).cell 1 rfl⟩ | exact ⟨E22.out.cell 0 rfl, E22.out.cell 1 rfl⟩ | exact ⟨(E21.out.box 26 _).cell 0 rfl, (E21.out.box 26 _).cell 1 rfl⟩ | exact ⟨E21.out.cell 0 rfl, E21.out.cell 1 rfl⟩ | exact ⟨(E20.out.drew.box 26 _).cell 0 rfl, (E20.out.drew.box 26 _).cell 1 rfl⟩ | exact ⟨E20.out.drew.cell 0 rfl, E20.out.drew.cell 1 rfl⟩) (first | (go_at_call_of 11 (Value.slice A0 (List.length r0) C0); first | (refine (toOrder_any _ r0 _ (H0.out.below (E20.out.drew).below) HB0.out).mono ?_; rintro e w21 ⟨gw21, Gw21, rfl, hg, ho, hb⟩; have hE := (E20.out.drew).copyR HM0.out hg ho hb; simp only [List.cons_append, List.nil_append] at hE; have E21 := Lib.hid hE; clear hE hg ho hb) | (refine (toOrder_any _ r0 _ (H0.out.below ((E20.out.drew.box 26 (Value.slice none 0 0))).below) HB0.out).mono ?_; rintro e w21 ⟨gw21, Gw21, rfl, hg, ho, hb⟩; have hE := ((E20.out.drew.box 26 (Value.slice none 0 0))).copyR HM0.out hg ho hb; simp only [List.cons_append, List.nil_append] at hE; have E21 := Lib.hid hE; clear hE hg ho hb)) | (go_at_call_of 11 (Value.slice A1 (List.length r1) C1); first | (refine (toOrder_any _ r1 _ (H1.out.below (E21.out).below) HB1.out).mono ?_; rintro e w22 ⟨gw22, Gw22, rfl, hg, ho, hb⟩; have hE := (E21.out).copyR HM1.out hg ho hb; simp only [List.cons_append, List.nil_append] at hE; have E22 := Lib.hid hE; clear hE hg ho hb) | (refine (toOrder_any _ r1 _ (H1.out.below ((E21.out.box 26 (Value.slice none 0 0))).below) HB1.out).mono ?_; rintro e w22 ⟨gw22, Gw22, rfl, hg, ho, hb⟩; have hE := ((E21.out.box 26 (Value.slice none 0 0))).copyR HM1.out hg ho hb; simp only [List.cons_append, List.nil_append] at hE; have E22 := Lib.hid hE; clear hE hg ho hb)) | (go_at_call 12; first | (refine (HI.out _ _ _ (E22.out.rows 9 rfl) (E22.out.rows 10 rfl) (HTT.out.below (E22.out).below)).mono ?_; rintro e w23 ⟨u, rfl, hu, hb⟩; obtain ⟨aV, CV, rfl⟩ := hu.form; have hE := (E22.out).pushR hb hu; simp only [List.cons_append, List.nil_append] at hE; have E23 := Lib.hid hE; clear hE hb hu) | (refine (HI.out _ _ _ (E22.out.rows 10 rfl) (E22.out.rows 11 rfl) (HTT.out.below (E22.out).below)).mono ?_; rintro e w23 ⟨u, rfl, hu, hb⟩; obtain ⟨aV, CV, rfl⟩ := hu.form; have hE := (E22.out).pushR hb hu; simp only [List.cons_append, List.nil_append] at hE; have E23 := Lib.hid hE; clear hE hb hu; have hcb := (E23.out.boxed 9 rfl).cell; have hfb := (E23.out.boxed 9 rfl).frozen; try simp only [hdr] at hcb hfb) | (refine (HI.out _ _ _ (E22.out.rows 9 rfl) (E22.out.rows 11 rfl) (HTT.out.below (E22.out).below)).mono ?_; rintro e w23 ⟨u, rfl, hu, hb⟩; obtain ⟨aV, CV, rfl⟩ := hu.form; have hE := (E22.out).pushR hb hu; simp only [List.cons_append, List.nil_append] at hE; have E23 := Lib.hid hE; clear hE hb hu; have hcb := (E23.out.boxed 10 rfl).cell; have hfb := (E23.out.boxed 10 rfl).frozen; try simp only [hdr] at hcb hfb) | (refine (HI.out _ _ _ ((E22.out.box 26 (Value.slice none 0 0)).rows 9 rfl) ((E22.out.box 26 (Value.slice none 0 0)).rows 10 rfl) (HTT.out.below ((E22.out.box 26 (Value.slice none 0 0))).below)).mono ?_; rintro e w23 ⟨u, rfl, hu, hb⟩; obtain ⟨aV, CV, rfl⟩ := hu.form; have hE := ((E22.out.box 26 (Value.slice none 0 0))).pushR hb hu; simp only [List.cons_append, List.nil_append] at hE; have E23 := Lib.hid hE; clear hE hb hu; have hcb := (E23.out.boxed 11 rfl).cell; have hfb := (E23.out.boxed 11 rfl).frozen; try simp only [hdr] at hcb hfb)))
    all_goals
      go_wp2_with fail
      go_meet
    all_goals first | (obtain ⟨lo', hi', hE⟩ := (E23.out.box 26 _).packO 9 12 11 (by omega) (by omega) rfl rfl; exact ⟨_, _, _, _, _, rfl, rfl, by rw [HIS.out]; exact hE⟩) | (obtain ⟨lo', hi', hE⟩ := (E23.out.setB 9 rfl _).packO 9 9 12 (by omega) (by omega) rfl rfl; exact ⟨_, _, _, _, _, rfl, rfl, by rw [HIS.out]; exact hE⟩) | (obtain ⟨lo', hi', hE⟩ := (E23.out.setB 10 rfl _).packO 9 10 12 (by omega) (by omega) rfl rfl; exact ⟨_, _, _, _, _, rfl, rfl, by rw [HIS.out]; exact hE⟩) | (obtain ⟨lo', hi', hE⟩ := (E23.out.setB 11 rfl _).packO 9 11 12 (by omega) (by omega) rfl rfl; exact ⟨_, _, _, _, _, rfl, rfl, by rw [HIS.out]; exact hE⟩)
  obtain ⟨bV, loV, hiV, aV, CV, rfl, rfl, hE⟩ := hcut
  rw [HIS.out] at hE
  simp only [List.cons_append, List.nil_append] at hE
  have E24 := Lib.hid hE
  clear hE hc21 hc22
  clear E20 HIS IS
  have hq := HQ.out
  have hpos2 := HPP.out
  have hne := HNE.out
  have heq := eqOrder_any _ _ xs xs _ (E24.out.rowsO 9 rfl) (E24.out.rowsO 2 rfl)
  rw [decide_eq_true (rfl : xs = xs)] at heq
  have hc23 := E24.out.cellO 9 rfl
  have hc24 := E24.out.cellO 2 rfl
  go_wp2_with fail
  refine heq.mono ?_
  clear heq
  rintro e w25 ⟨rfl, hb⟩
  have E25 := Lib.hid (E24.out.step hb)
  clear hb E24
  clear hc23 hc24
  have hc25 := E25.out.cell 8 rfl
  have hhd := heldOrder_any _ xs 1 _ _ _ (E25.out.ownR 7 rfl) (E25.out.boundsR 7 rfl).2 (by omega) (by have := HXL.out; omega)
  go_wp2_with fail
  refine hhd.mono ?_
  clear hhd
  rintro e w26 ⟨rfl, hb⟩
  have E26 := Lib.hid (E25.out.step hb)
  clear hb E25 hc25
  go_wp2
  go_ret
  exact ⟨rfl, E26.out.below⟩
end Go.Proofs.YtkhhbpeheikmfaaDoor
