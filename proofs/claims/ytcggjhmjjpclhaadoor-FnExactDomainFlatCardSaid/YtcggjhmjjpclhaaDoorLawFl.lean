/- The law of DomainFlat: model and program answer alike, and the answer owns its memory. -/
import Derived.Test.YtcggjhmjjpclhaaDoorMidFl
import Derived.Test.YtcggjhmjjpclhaaDoorTo
import Derived.Deep.RegionHeld3
namespace Go.Proofs.YtcggjhmjjpclhaaDoor
open Go.RowKit Go.Deep

set_option maxRecDepth 100000 in
set_option maxHeartbeats 16000000 in
theorem law_flat   (z0 : Int) (w : World)  (hT : Tab w) :
    Calls Tryd.prog 3 #[.int .i64 z0] w (SaysN true w) := by
  have e0 := St.start w
  have HTT := Lib.hid hT
  have E0 := Lib.hid e0
  clear e0 hT
  have hdr : ∀ W : World, W.drew.heap = W.heap := fun _ => rfl
  go_enter Tryd.func3, Tryd.ntmps3
  have hspec : ∀ W , Calls Tryd.prog 5 #[.int .i64 z0] W (OrderP (flatL z0) (flatOk z0) W) := fun W   => specFlat_any z0 W
  have himpl : ∀ W , Tab W → Calls Tryd.prog 6 #[.int .i64 z0] W (OrderP (flatL z0) (flatOk z0) W) := fun W   kT => implFlat_any z0 W kT
  have hxl := flat_bulk z0
  generalize flatL z0 = xs at hspec himpl hxl
  generalize flatOk z0 = t at hspec himpl
  have HX := Lib.hid hxl
  have HXL := Lib.hid (show lens xs xs.length ≤ 1048576 by have := lens_all xs; have := HX.out; omega)
  have HS := Lib.hid hspec
  have HI := Lib.hid himpl
  have hne : (t != t) = false := bne_self_eq_false t
  clear hspec himpl hxl
  go_wp2_with fail
  refine (HS.out _ ).mono ?_
  rintro e w1 ⟨u, rfl, hu, hb⟩
  obtain ⟨aU, CU, rfl⟩ := hu.form; have hE := (E0.out.take 0).pushR hb hu; simp only [List.nil_append, List.take_zero] at hE; have E1 := Lib.hid hE; clear hE; clear hb hu
  have hE := E1.out.box 24 (Value.slice aU xs.length CU); simp only [List.cons_append, List.nil_append] at hE; have E2 := Lib.hid hE; clear hE
  go_wp2_with fail
  refine (HI.out _  (HTT.out.below E2.out.below)).mono ?_
  rintro e w3 ⟨u, rfl, hu, hb⟩
  obtain ⟨aG, CG, rfl⟩ := hu.form
  have hE := E2.out.pushR hb hu; simp only [List.cons_append, List.nil_append] at hE; have E3 := Lib.hid hE; clear hE
  clear hb hu E2
  have hE := E3.out.box 24 (Value.slice aG xs.length CG); simp only [List.cons_append, List.nil_append] at hE; have E4 := Lib.hid hE; clear hE
  clear E3
  have heq := eqOrder_any _ _ xs xs _ (E4.out.rows 2 rfl) (E4.out.rows 0 rfl)
  rw [decide_eq_true (rfl : xs = xs)] at heq
  have hc1 := E4.out.cell 3 rfl
  have hc2 := E4.out.cell 1 rfl
  go_wp2_with fail
  refine heq.mono ?_
  clear heq
  rintro e w5 ⟨rfl, hb⟩
  have E5 := Lib.hid (E4.out.step hb)
  clear hb E4
  clear hc1 hc2
  have hc3 := E5.out.cell 3 rfl
  have hmk := markOrder_any _ xs 1 _ _ _ (E5.out.ownR 2 rfl) (E5.out.boundsR 2 rfl).1 (E5.out.boundsR 2 rfl).2 (by omega) (by have := HXL.out; omega)
  go_wp2_with fail
  refine hmk.mono ?_
  clear hmk
  rintro e w6 ⟨rfl, ho, ht⟩
  have hE := E5.out.turnR 2 rfl ht ho; simp only [List.set_cons_succ, List.set_cons_zero] at hE; have E6 := Lib.hid hE; clear hE
  clear ho ht hc3 E5
  have hpos2 : ¬ (1 + ((lens xs xs.length : Nat) : Int) < 0) := by omega
  have hq : ((1 + ((lens xs xs.length : Nat) : Int)) != (1 + ((lens xs xs.length : Nat) : Int))) = false := bne_self_eq_false _
  have hc4 := E6.out.cell 3 rfl
  have hhd := heldOrder_any _ xs 1 _ _ _ (E6.out.ownR 2 rfl) (E6.out.boundsR 2 rfl).2 (by omega) (by have := HXL.out; omega)
  go_wp2_with fail
  refine hhd.mono ?_
  clear hhd
  rintro e w7 ⟨rfl, hb⟩
  have E7 := Lib.hid (E6.out.step hb)
  clear hb E6 hc4
  have HQ := Lib.hid hq
  have HPP := Lib.hid hpos2
  have HNE := Lib.hid hne
  clear hq hpos2 hne
  go_wp2_with fail
  refine (HI.out _  (HTT.out.below E7.out.below)).mono ?_
  rintro e w8 ⟨u, rfl, hu, hb⟩
  obtain ⟨aV, CV, rfl⟩ := hu.form; have hE := (E7.out.take 4).pushR hb hu; simp only [List.cons_append, List.nil_append, List.take_succ_cons, List.take_zero] at hE; have E8 := Lib.hid hE; clear hE; clear hb hu
  have hE := E8.out.box 24 (Value.slice aV xs.length CV); simp only [List.cons_append, List.nil_append] at hE; have E9 := Lib.hid hE; clear hE
  have hq := HQ.out
  have hpos2 := HPP.out
  have hne := HNE.out
  have heq := eqOrder_any _ _ xs xs _ (E9.out.rows 4 rfl) (E9.out.rows 0 rfl)
  rw [decide_eq_true (rfl : xs = xs)] at heq
  have hc5 := E9.out.cell 5 rfl
  have hc6 := E9.out.cell 1 rfl
  go_wp2_with fail
  refine heq.mono ?_
  clear heq
  rintro e w10 ⟨rfl, hb⟩
  have E10 := Lib.hid (E9.out.step hb)
  clear hb E9
  clear hc5 hc6
  have hc7 := E10.out.cell 3 rfl
  have hhd := heldOrder_any _ xs 1 _ _ _ (E10.out.ownR 2 rfl) (E10.out.boundsR 2 rfl).2 (by omega) (by have := HXL.out; omega)
  go_wp2_with fail
  refine hhd.mono ?_
  clear hhd
  rintro e w11 ⟨rfl, hb⟩
  have E11 := Lib.hid (E10.out.step hb)
  clear hb E10 hc7
  go_wp2
  go_ret
  exact ⟨rfl, E11.out.below⟩
end Go.Proofs.YtcggjhmjjpclhaaDoor
