/- The law of PowerOne: model and program answer alike, the arguments are left alone, and the answer owns its memory. -/
import Derived.Test.YtfgpnmdmbhfdmaaDoorMidWc
import Derived.Test.YtfgpnmdmbhfdmaaDoorMidWa
import Derived.Test.YtfgpnmdmbhfdmaaDoorTo
import Derived.Deep.RegionHeld3
namespace Go.Proofs.YtfgpnmdmbhfdmaaDoor
open Go.RowKit Go.Deep

set_option maxRecDepth 100000 in
set_option maxHeartbeats 16000000 in
theorem law_pone (v0 : Value) (r0 : Rows2) (z1 : ByteArray) (w : World) (h0 : RowsAt w v0 r0) (hT : Tab w) :
    Calls Tryd.prog 6 #[.agg #[v0], .string z1] w (SaysN true w) := by
  have e0 := St.start1 w 24 v0
  have H0 := Lib.hid h0
  have HTT := Lib.hid hT
  obtain ⟨A0, C0, rfl, _⟩ := h0
  have E0 := Lib.hid e0
  clear e0 hT
  have hdr : ∀ W : World, W.drew.heap = W.heap := fun _ => rfl
  by_cases hf1 : (1048576 : Int) < (z1.size : Int)
  · go_enter Tryd.func6, Tryd.ntmps6
    go_wp2
    go_ret
    exact ⟨rfl, E0.out.below⟩
  go_enter Tryd.func6, Tryd.ntmps6
  have hc1 := E0.out.cell 0 rfl
  have hsz := szOrder_any _ r0 1048576 _ (H0.out.below E0.out.below) (by omega) (by omega)
  go_wp2_with fail
  refine hsz.mono ?_
  clear hsz
  rintro e w1 ⟨⟨q0, hr, rfl⟩, hb⟩
  have E1 := Lib.hid (E0.out.step hb)
  clear hb hc1 E0
  by_cases hneg0 : q0 < 0
  · go_wp2
    go_ret
    exact ⟨rfl, E1.out.below⟩
  have hq0 : 0 ≤ q0 ∧ q0 ≤ 1048576 ∧ bulk r0 ≤ 1048576 := by rcases hr with h | h <;> omega
  have HB0 := Lib.hid hq0.2.2
  have HM0 := Lib.hid (maxLen_ge HB0.out)
  have HL0 := Lib.hid (show lens r0 r0.length ≤ 1048576 by have := lens_all r0; have := HB0.out; omega)
  clear hr
  clear hq0
  have hspec : ∀ W u0, RowsAt W u0 r0 → Calls Tryd.prog 25 #[.agg #[u0], .string z1] W (OwnB (oneL r0 z1) (fitB r0 z1) W) := fun W u0 k0 => specOne_any u0 r0 z1 W k0 HB0.out
  have himpl : ∀ W u0, RowsAt W u0 r0 → Tab W → Calls Tryd.prog 26 #[.agg #[u0], .string z1] W (OwnB (oneL r0 z1) (fitB r0 z1) W) := fun W u0 k0 kT => implOne_any u0 r0 z1 W k0 kT HB0.out
  have hxl := one_short r0 z1
  generalize oneL r0 z1 = xs at hspec himpl hxl
  generalize fitB r0 z1 = t at hspec himpl
  have HX := Lib.hid hxl
  have HS := Lib.hid hspec
  have HI := Lib.hid himpl
  have hne : (t != t) = false := bne_self_eq_false t
  clear hspec himpl hxl
  have hc2 := E1.out.cell 0 rfl
  go_wp2_with fail
  refine (toOrder_any _ r0 _ (H0.out.below E1.out.below) HB0.out).mono ?_
  rintro e w2 ⟨gw2, Gw2, rfl, hg, ho, hb⟩
  have hE := E1.out.copyR HM0.out hg ho hb; simp only [List.cons_append, List.nil_append] at hE; have E2 := Lib.hid hE; clear hE
  clear hg ho hb
  clear hc2
  go_wp2_with fail
  refine (HS.out _ _ (E2.out.rows 1 rfl)).mono ?_
  rintro e w3 ⟨u, rfl, hu, hb⟩
  obtain ⟨aU, CU, rfl⟩ := hu.form; have hE := (E2.out.take 1).pushI hb hu; simp only [List.cons_append, List.nil_append, List.take_succ_cons, List.take_zero] at hE; have E3 := Lib.hid hE; clear hE; clear hb hu
  have hc3 := E3.out.cell 0 rfl
  go_wp2_with fail
  refine (toOrder_any _ r0 _ (H0.out.below E3.out.below) HB0.out).mono ?_
  rintro e w4 ⟨gw4, Gw4, rfl, hg, ho, hb⟩
  have hE := (E3.out.copyR HM0.out hg ho hb).box 29 (whole gw4 r0.length)
  simp only [List.cons_append, List.nil_append] at hE
  have E4 := Lib.hid hE
  clear hE hg ho hb hc3 E3
  have hc4 := E4.out.cell 3 rfl
  go_wp2_with fail
  refine (HI.out _ _ (E4.out.rows 2 rfl) (HTT.out.below E4.out.below)).mono ?_
  rintro e w5 ⟨u, rfl, hu, hb⟩
  obtain ⟨aG, CG, rfl⟩ := hu.form
  have hE := E4.out.pushI hb hu; simp only [List.cons_append, List.nil_append] at hE; have E5 := Lib.hid hE; clear hE
  clear hb hu E4 hc4
  have heq := eqIntS_any _ _ xs xs _ (E5.out.ints 4 rfl) (E5.out.ints 1 rfl)
  rw [decide_eq_true (rfl : xs = xs)] at heq
  go_wp2_with fail
  refine heq.mono ?_
  clear heq
  rintro e w6 ⟨rfl, nw6, rfl⟩
  have hE := E5.out.drewN nw6
  generalize World.drewN _ nw6 = Ww6 at hE ⊢
  have E6 := Lib.hid hE
  clear hE E5
  have hc5 := E6.out.cell 3 rfl
  have hc6 := E6.out.cell 0 rfl
  go_wp2_with fail
  go_region_held3 (fun W' : World => W'.cell? ⟨w4.heap.size, 0, none⟩ = some (whole gw4 r0.length) ∧ W'.cell? ⟨w.heap.size, 0, none⟩ = some (.slice A0 r0.length C0)) (first | exact ⟨E8.out.cell 3 rfl, E8.out.cell 0 rfl⟩ | exact ⟨E7.out.cell 3 rfl, E7.out.cell 0 rfl⟩ | exact ⟨E6.out.drew.cell 3 rfl, E6.out.drew.cell 0 rfl⟩) (first | (go_at_call 13; refine (toOrder_any _ r0 _ (H0.out.below E6.out.drew.below) HB0.out).mono ?_; rintro e w7 ⟨gw7, Gw7, rfl, hg, ho, hb⟩; have hE := E6.out.drew.copyR HM0.out hg ho hb; simp only [List.cons_append, List.nil_append] at hE; have E7 := Lib.hid hE; clear hE; have heq := eqOrder_any _ _ r0 r0 w7 (E7.out.rows 2 rfl) (E7.out.rows 5 rfl); rw [decide_eq_true (rfl : r0 = r0)] at heq; have HEQ := Lib.hid heq; clear heq hg ho hb) | (go_at_call 16; refine HEQ.out.mono ?_; clear HEQ; rintro e w8 ⟨rfl, hb⟩; have hE := (E7.out.take 5).step hb; simp only [List.take_succ_cons, List.take_zero] at hE; have E8 := Lib.hid hE; clear hE; clear hb))
  clear hc5 hc6
  have hc7 := E8.out.cell 3 rfl
  have hmk := markOrder_any _ r0 (1) _ _ _ (E8.out.ownR 2 rfl) (E8.out.boundsR 2 rfl).1 (E8.out.boundsR 2 rfl).2 (by omega) (by have := HL0.out; omega)
  go_wp2_with fail
  refine hmk.mono ?_
  clear hmk
  rintro e w9 ⟨rfl, ho, ht⟩
  have hE := E8.out.turnR 2 rfl ht ho; simp only [List.set_cons_succ, List.set_cons_zero] at hE; have E9 := Lib.hid hE; clear hE
  clear ho ht hc7 E8
  have hpos : ¬ (1 + ((lens r0 r0.length : Nat) : Int) < 0) := by omega
  have heq := eqIntS_any _ _ xs xs _ (E9.out.ints 4 rfl) (E9.out.ints 1 rfl)
  rw [decide_eq_true (rfl : xs = xs)] at heq
  go_wp2_with fail
  refine heq.mono ?_
  clear heq
  rintro e w10 ⟨rfl, nw10, rfl⟩
  have hE := E9.out.drewN nw10
  generalize World.drewN _ nw10 = Ww10 at hE ⊢
  have E10 := Lib.hid hE
  clear hE E9
  have hmk := markIntS_any _ xs 1 _ _ _ (E10.out.ownI 4 rfl) (by omega) (by have := HX.out; omega)
  go_wp2_with fail
  refine hmk.mono ?_
  clear hmk
  rintro e w11 ⟨rfl, ho, hg⟩
  have hE := E10.out.turnI 4 rfl hg ho; simp only [List.set_cons_succ, List.set_cons_zero] at hE; have E11 := Lib.hid hE; clear hE
  clear ho hg E10
  have hpos2 : ¬ (1 + (xs.length : Int) < 0) := by omega
  have hq : ((1 + (xs.length : Int)) != (1 + (xs.length : Int))) = false := bne_self_eq_false _
  have hhd := heldIntS_any _ 1 xs.length _ (E11.out.ints 4 rfl) (by omega) (by have := HX.out; omega)
  go_wp2_with fail
  refine hhd.mono ?_
  clear hhd
  rintro e w12 ⟨rfl, nw12, rfl⟩
  have hE := E11.out.drewN nw12
  generalize World.drewN _ nw12 = Ww12 at hE ⊢
  have E12 := Lib.hid hE
  clear hE E11
  have HQ := Lib.hid hq
  have HPP := Lib.hid hpos2
  have HNE := Lib.hid hne
  clear hq hpos hpos2 hne
  have hc8 := E12.out.cell 0 rfl
  go_wp2_with fail
  refine (toOrder_any _ r0 _ (H0.out.below E12.out.below) HB0.out).mono ?_
  rintro e w13 ⟨gw13, Gw13, rfl, hg, ho, hb⟩
  have hE := E12.out.copyR HM0.out hg ho hb; simp only [List.cons_append, List.nil_append] at hE; have E13 := Lib.hid hE; clear hE
  clear hg ho hb
  clear hc8
  go_wp2_with fail
  refine (HI.out _ _ (E13.out.rows 5 rfl) (HTT.out.below E13.out.below)).mono ?_
  rintro e w14 ⟨u, rfl, hu, hb⟩
  obtain ⟨aV, CV, rfl⟩ := hu.form; have hE := (E13.out.take 5).pushI hb hu; simp only [List.cons_append, List.nil_append, List.take_succ_cons, List.take_zero] at hE; have E14 := Lib.hid hE; clear hE; clear hb hu
  have hq := HQ.out
  have hpos2 := HPP.out
  have hne := HNE.out
  have heq := eqIntS_any _ _ xs xs _ (E14.out.ints 5 rfl) (E14.out.ints 1 rfl)
  rw [decide_eq_true (rfl : xs = xs)] at heq
  go_wp2_with fail
  refine heq.mono ?_
  clear heq
  rintro e w15 ⟨rfl, nw15, rfl⟩
  have hE := E14.out.drewN nw15
  generalize World.drewN _ nw15 = Ww15 at hE ⊢
  have E15 := Lib.hid hE
  clear hE E14
  have hhd := heldIntS_any _ 1 xs.length _ (E15.out.ints 4 rfl) (by omega) (by have := HX.out; omega)
  go_wp2_with fail
  refine hhd.mono ?_
  clear hhd
  rintro e w16 ⟨rfl, nw16, rfl⟩
  have hE := E15.out.drewN nw16
  generalize World.drewN _ nw16 = Ww16 at hE ⊢
  have E16 := Lib.hid hE
  clear hE E15
  go_wp2
  go_ret
  exact ⟨rfl, E16.out.below⟩
end Go.Proofs.YtfgpnmdmbhfdmaaDoor
