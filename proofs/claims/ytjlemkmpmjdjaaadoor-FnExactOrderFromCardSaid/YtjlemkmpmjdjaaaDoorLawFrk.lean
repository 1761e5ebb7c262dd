/- The law of OrderFrom: model and program answer alike, the argument is left alone, and the answer owns its memory. -/
import Derived.Test.YtjlemkmpmjdjaaaDoorFromIk
import Derived.Test.YtjlemkmpmjdjaaaDoorPa8
import Derived.Test.YtjlemkmpmjdjaaaDoorPa1
namespace Go.Proofs.YtjlemkmpmjdjaaaDoor
open Go.RowKit Go.Deep

theorem from_bulk2 (rows : Rows2) : bulk (fromL rows) ≤ 1048576 := by
  cases h : fromT rows with
  | false => rw [fromL_false h]; decide
  | true =>
    rw [fromL_true h]
    exact made_small (from_ok h).2.1

set_option maxRecDepth 100000 in
set_option maxHeartbeats 16000000 in
theorem law_from (v0 : Value) (r0 : Rows2) (w : World) (h0 : RowsAt w v0 r0) (hT : Tab w) :
    Calls Tryd.prog 14 #[v0] w (SaysN true w) := by
  have e0 := St.start w
  have H0 := Lib.hid h0
  have HTT := Lib.hid hT
  obtain ⟨A0, C0, rfl, _⟩ := h0
  have E0 := Lib.hid e0
  clear e0 hT
  have hdr : ∀ W : World, W.drew.heap = W.heap := fun _ => rfl
  have hsz := szIntSS_any _ r0 1048576 _ H0.out (by omega) (by omega)
  go_enter Tryd.func14, Tryd.ntmps14
  go_wp2_with (go_at_call 53; refine hsz.mono ?_; clear hsz; rintro e w1 ⟨⟨q0, hr, rfl⟩, hw1⟩; obtain rfl : w = w1 := (by first | exact hw1 | exact hw1.symm); by_cases hneg0 : q0 < 0)
  · go_ret
    exact ⟨rfl, Below.refl _ _⟩
  have hq0 : 0 ≤ q0 ∧ q0 ≤ 1048576 ∧ bulk r0 ≤ 1048576 := by rcases hr with h | h <;> omega
  have HB0 := Lib.hid hq0.2.2
  have HM0 := Lib.hid (maxLen_ge HB0.out)
  have HL0 := Lib.hid (show lens r0 r0.length ≤ 1048576 by have := lens_all r0; have := HB0.out; omega)
  have hspec : ∀ W u0, RowsAt W u0 r0 → Calls Tryd.prog 39 #[u0] W (OrderP (fromL r0) (fromT r0) W) := fun W u0 k0 => specFrom_any u0 r0 W k0 HB0.out
  have himpl : ∀ W u0, RowsAt W u0 r0 → Tab W → Calls Tryd.prog 36 #[u0] W (OrderP (fromL r0) (fromT r0) W) := fun W u0 k0 kT => implFrom_any u0 r0 W k0 kT HB0.out
  have hxl := from_bulk2 r0
  generalize fromL r0 = xs at hspec himpl hxl
  generalize fromT r0 = t at hspec himpl
  have HX := Lib.hid hxl
  have HXL := Lib.hid (show lens xs xs.length ≤ 1048576 by have := lens_all xs; have := HX.out; omega)
  have HS := Lib.hid hspec
  have HI := Lib.hid himpl
  have hne : (t != t) = false := bne_self_eq_false t
  clear hspec himpl hxl hr hq0 hw1
  refine (toIntSS_any _ r0 _ H0.out HB0.out).mono ?_
  rintro e w2 ⟨rfl, ho, hb⟩
  have hE := E0.out.copyR HM0.out (Nat.le_refl _) ho hb; simp only [List.nil_append] at hE; have E2 := Lib.hid hE; clear hE
  clear ho hb
  go_wp2_with fail
  refine (HS.out _ _ (E2.out.rows 0 rfl)).mono ?_
  rintro e w3 ⟨u, rfl, hu, hb⟩
  obtain ⟨aU, CU, rfl⟩ := hu.form; have hE := (E2.out.take 0).pushR hb hu; simp only [List.nil_append, List.take_zero] at hE; have E3 := Lib.hid hE; clear hE; clear hb hu
  have hE := E3.out.box 25 (Value.slice aU xs.length CU); simp only [List.cons_append, List.nil_append] at hE; have E4 := Lib.hid hE; clear hE
  go_wp2_with fail
  refine (toIntSS_any _ r0 _ (H0.out.below E4.out.below) HB0.out).mono ?_
  rintro e w5 ⟨rfl, ho, hb⟩
  have hE := E4.out.copyR HM0.out (Nat.le_refl _) ho hb; simp only [List.cons_append, List.nil_append, World.size_alloc] at hE; have E5 := Lib.hid hE; clear hE
  clear ho hb E4
  go_wp2_with fail
  refine (HI.out _ _ (E5.out.rows 2 rfl) (HTT.out.below E5.out.below)).mono ?_
  rintro e w6 ⟨u, rfl, hu, hb⟩
  obtain ⟨aG, CG, rfl⟩ := hu.form
  have hE := E5.out.pushR hb hu; simp only [List.cons_append, List.nil_append] at hE; have E6 := Lib.hid hE; clear hE
  clear hb hu E5
  have hE := E6.out.box 25 (Value.slice aG xs.length CG); simp only [List.cons_append, List.nil_append] at hE; have E7 := Lib.hid hE; clear hE
  clear E6
  have heq := eqOrder_any _ _ xs xs _ (E7.out.rows 3 rfl) (E7.out.rows 0 rfl)
  rw [decide_eq_true (rfl : xs = xs)] at heq
  have hc5 := E7.out.cell 4 rfl
  have hc6 := E7.out.cell 1 rfl
  go_wp2_with fail
  refine heq.mono ?_
  clear heq
  rintro e w8 ⟨rfl, hb⟩
  have E8 := Lib.hid (E7.out.step hb)
  clear hb E7
  clear hc5 hc6
  go_wp2_with fail
  refine (toIntSS_any _ r0 _ (H0.out.below E8.out.below) HB0.out).mono ?_
  rintro e w9 ⟨rfl, ho, hb⟩
  have hE := E8.out.copyR HM0.out (Nat.le_refl _) ho hb; simp only [List.cons_append, List.nil_append] at hE; have E9 := Lib.hid hE; clear hE
  clear ho hb
  have heq := eqIntSS_any _ _ r0 r0 w9 (E9.out.rows 2 rfl) (E9.out.rows 5 rfl)
  rw [decide_eq_true (rfl : r0 = r0)] at heq
  go_wp2_with fail
  refine heq.mono ?_
  clear heq
  rintro e w10 ⟨rfl, nq, rfl⟩
  have hE := (E9.out.take 5).drewN nq; simp only [List.take_succ_cons, List.take_zero] at hE; have E10 := Lib.hid hE; clear hE
  have hmk := markIntSS_any _ r0 (1) _ _ _ (E10.out.ownR 2 rfl) (E10.out.boundsR 2 rfl).1 (by omega) (by have := HL0.out; omega)
  clear E9 E8
  generalize w9.drewN nq = w10 at E10 hmk ⊢
  go_wp2_with fail
  refine hmk.mono ?_
  clear hmk
  rintro e w11 ⟨rfl, ho, ht⟩
  have hE := E10.out.turnR 2 rfl ht ho; simp only [List.set_cons_succ, List.set_cons_zero] at hE; have E11 := Lib.hid hE; clear hE
  clear ho ht E10
  have hpos : ¬ (1 + ((lens r0 r0.length : Nat) : Int) < 0) := by omega
  have heq := eqOrder_any _ _ xs xs _ (E11.out.rows 3 rfl) (E11.out.rows 0 rfl)
  rw [decide_eq_true (rfl : xs = xs)] at heq
  have hc10 := E11.out.cell 4 rfl
  have hc11 := E11.out.cell 1 rfl
  go_wp2_with fail
  refine heq.mono ?_
  clear heq
  rintro e w12 ⟨rfl, hb⟩
  have E12 := Lib.hid (E11.out.step hb)
  clear hb E11
  clear hc10 hc11
  have hc12 := E12.out.cell 4 rfl
  have hmk := markOrder_any _ xs 1 _ _ _ (E12.out.ownR 3 rfl) (E12.out.boundsR 3 rfl).1 (E12.out.boundsR 3 rfl).2 (by omega) (by have := HXL.out; omega)
  go_wp2_with fail
  refine hmk.mono ?_
  clear hmk
  rintro e w13 ⟨rfl, ho, ht⟩
  have hE := E12.out.turnR 3 rfl ht ho; simp only [List.set_cons_succ, List.set_cons_zero] at hE; have E13 := Lib.hid hE; clear hE
  clear ho ht hc12 E12
  have hpos2 : ¬ (1 + ((lens xs xs.length : Nat) : Int) < 0) := by omega
  have hq : ((1 + ((lens xs xs.length : Nat) : Int)) != (1 + ((lens xs xs.length : Nat) : Int))) = false := bne_self_eq_false _
  have hc13 := E13.out.cell 4 rfl
  have hhd := heldOrder_any _ xs 1 _ _ _ (E13.out.ownR 3 rfl) (E13.out.boundsR 3 rfl).2 (by omega) (by have := HXL.out; omega)
  go_wp2_with fail
  refine hhd.mono ?_
  clear hhd
  rintro e w14 ⟨rfl, hb⟩
  have E14 := Lib.hid (E13.out.step hb)
  clear hb E13 hc13
  have HQ := Lib.hid hq
  have HPP := Lib.hid hpos2
  have HNE := Lib.hid hne
  clear hq hpos hpos2 hne
  go_wp2_with fail
  refine (toIntSS_any _ r0 _ (H0.out.below E14.out.below) HB0.out).mono ?_
  rintro e w15 ⟨rfl, ho, hb⟩
  have hE := E14.out.copyR HM0.out (Nat.le_refl _) ho hb; simp only [List.cons_append, List.nil_append] at hE; have E15 := Lib.hid hE; clear hE
  clear ho hb
  go_wp2_with fail
  refine (HI.out _ _ (E15.out.rows 5 rfl) (HTT.out.below E15.out.below)).mono ?_
  rintro e w16 ⟨u, rfl, hu, hb⟩
  obtain ⟨aV, CV, rfl⟩ := hu.form; have hE := (E15.out.take 5).pushR hb hu; simp only [List.cons_append, List.nil_append, List.take_succ_cons, List.take_zero] at hE; have E16 := Lib.hid hE; clear hE; clear hb hu
  have hE := E16.out.box 25 (Value.slice aV xs.length CV); simp only [List.cons_append, List.nil_append] at hE; have E17 := Lib.hid hE; clear hE
  have hq := HQ.out
  have hpos2 := HPP.out
  have hne := HNE.out
  have heq := eqOrder_any _ _ xs xs _ (E17.out.rows 5 rfl) (E17.out.rows 0 rfl)
  rw [decide_eq_true (rfl : xs = xs)] at heq
  have hc15 := E17.out.cell 6 rfl
  have hc16 := E17.out.cell 1 rfl
  go_wp2_with fail
  refine heq.mono ?_
  clear heq
  rintro e w18 ⟨rfl, hb⟩
  have E18 := Lib.hid (E17.out.step hb)
  clear hb E17
  clear hc15 hc16
  have hc17 := E18.out.cell 4 rfl
  have hhd := heldOrder_any _ xs 1 _ _ _ (E18.out.ownR 3 rfl) (E18.out.boundsR 3 rfl).2 (by omega) (by have := HXL.out; omega)
  go_wp2_with fail
  refine hhd.mono ?_
  clear hhd
  rintro e w19 ⟨rfl, hb⟩
  have E19 := Lib.hid (E18.out.step hb)
  clear hb E18 hc17
  go_wp2
  go_ret
  exact ⟨rfl, E19.out.below⟩
end Go.Proofs.YtjlemkmpmjdjaaaDoor
