/- The law FnFunBelow: functions below each other have fixed points below each other. -/
import Derived.Test.YtjfbjfclcpcaiaaDoorKsk
import Derived.Test.YtjfbjfclcpcaiaaDoorDrZk
import Derived.Test.YtjfbjfclcpcaiaaDoorMonoQk
import Derived.Test.YtjfbjfclcpcaiaaDoorLpFixk
import Derived.Test.YtjfbjfclcpcaiaaDoorPb24
import Derived.Test.YtjfbjfclcpcaiaaDoorPb20
import Derived.Test.YtjfbjfclcpcaiaaDoorPb13
namespace Go.Proofs.YtjfbjfclcpcaiaaDoor
open Go.RowKit Go.Deep Go.Shelf

set_option maxRecDepth 100000 in
set_option maxHeartbeats 16000000 in
theorem lawFBelowP (v : Value) (w : World) (hv : CodeAt w.heap.size w v) (hT : Tab w) : Calls Tryd.prog 14 #[v] w (SaysN true w) := by
  have hdraw := drawFBelow_any v w hv
  obtain ⟨a, n, C, rfl, hnC, hCm, _⟩ := hv
  unfold maxLen at hCm
  have HTT := Lib.hid hT
  clear hT
  by_cases hn : 1048576 < n
  · have hz : (1048576 : Int) < (n : Int) := by omega
    clear hdraw
    go_enter Tryd.func14, Tryd.ntmps14
    go_wp2
    go_ret
    exact ⟨rfl, Below.refl _ _⟩
  · have hz : ¬ (1048576 : Int) < (n : Int) := by omega
    go_enter Tryd.func14, Tryd.ntmps14
    go_upto_region 4 with (go_at_call 61; refine hdraw.mono ?_; clear hdraw; rintro e w1 ⟨r0, u0, r1, u1, x2, ux2, x3, ux3, rfl, hr0, hr1, hr2, hr3, hk0, hk1, hk2, hk3, hb⟩; obtain ⟨a0, C0, rfl⟩ := hr0.form; obtain ⟨a1, C1, rfl⟩ := hr1.form; obtain ⟨ax2, Cx2, rfl⟩ := hr2.form; obtain ⟨ax3, Cx3, rfl⟩ := hr3.form; have HBW := Lib.hid hb; have HR0 := Lib.hid hr0.at; have HR1 := Lib.hid hr1.at; have HR2 := Lib.hid hr2.at; have HR3 := Lib.hid hr3.at; clear hb hr0 hr1 hr2 hr3)
    have HB0 := Lib.hid (show bulk r0 ≤ 1048576 by omega)
    have HB1 := Lib.hid (show bulk r1 ≤ 1048576 by omega)
    have HL2 := Lib.hid (show x2.length ≤ 200 from hk2)
    have HL3 := Lib.hid (show x3.length ≤ 200 from hk3)
    clear hk0 hk1 hk2 hk3
    have H0 := Lib.hid ((((((Ks.start w).step HBW.out).push (i := .ints (.slice ax2 x2.length Cx2) x2) HR2.out).push (i := .ints (.slice ax3 x3.length Cx3) x3) HR3.out).push (i := .ord (.slice a0 r0.length C0) r0) HR0.out).push (i := .ord (.slice a1 r1.length C1) r1) HR1.out)
    have HX0 := Lib.hid (H0.out.box (H0.out.ord 1 rfl))
    have HX1 := Lib.hid (HX0.out.box (HX0.out.ord 1 rfl))
    have H1 : Hid (Ks w [.box (w1.heap.size + 1) (.slice a1 r1.length C1) r1, .box (w1.heap.size) (.slice a0 r0.length C0) r0, .ord (.slice a1 r1.length C1) r1, .ord (.slice a0 r0.length C0) r0, .ints (.slice ax3 x3.length Cx3) x3, .ints (.slice ax2 x2.length Cx2) x2] ((w1.alloc (.cells #[.slice a0 r0.length C0] 25)).alloc (.cells #[.slice a1 r1.length C1] 25))) := Lib.hid (by have h := HX1.out; (try simp only [World.size_alloc] at h); exact h)
    clear H0 HX0 HX1 HR0 HR1 HR2 HR3 HBW
    generalize ((w1.alloc (.cells #[.slice a0 r0.length C0] 25)).alloc (.cells #[.slice a1 r1.length C1] 25)) = W1 at H1 ⊢
    generalize w1.heap.size = B at H1 ⊢
    have hc0 := H1.out.cell 1 rfl
    have hc1 := H1.out.cell 0 rfl
    have hci := implFunBelow_any (.slice a0 r0.length C0) (.slice a1 r1.length C1) (.slice ax2 x2.length Cx2) (.slice ax3 x3.length Cx3) r0 r1 x2 x3 W1 (H1.out.rows 1 rfl) (H1.out.rows 0 rfl) (H1.out.ints 5 rfl) (H1.out.ints 4 rfl) (HTT.out.below H1.out.below) HB0.out HB1.out
    go_upto_region 5 with (go_at_call 39; refine hci.mono ?_; clear hci; rintro e W2 ⟨rfl, hb⟩; have H2 := Lib.hid (H1.out.step hb); clear hb)
    clear hc0 hc1
    have hc0 := H2.out.cell 1 rfl
    have hc1 := H2.out.cell 0 rfl
    have hcs := specFunBelow_any (.slice a0 r0.length C0) (.slice a1 r1.length C1) (.slice ax2 x2.length Cx2) (.slice ax3 x3.length Cx3) r0 r1 x2 x3 W2 (H2.out.rows 1 rfl) (H2.out.rows 0 rfl) (H2.out.ints 5 rfl) (H2.out.ints 4 rfl) HB0.out HB1.out
    go_upto_region 6 with (go_at_call 62; refine hcs.mono ?_; clear hcs; rintro e W3 ⟨rfl, hb⟩; have H3 := Lib.hid (H2.out.step hb); clear hb)
    clear hc0 hc1
    clear H1 H2
    have HFACT := Lib.hid (fact_fbelow (rows := r0) (rows' := r1) (f := x2) (g := x3))
    cases hq : fbelowB r0 r1 x2 x3 with
    | false =>
      clear HFACT hq
      go_wp2
      go_ret
      exact ⟨rfl, H3.out.below⟩
    | true =>
      obtain ⟨f1, f2⟩ := HFACT.out hq
      have F1 := Lib.hid f1
      have F2 := Lib.hid f2
      clear HFACT hq f1 f2
      have hc0 := (H3.out.cell 1 rfl)
      have hcF := implFix_all (.slice a0 r0.length C0) (.slice ax2 x2.length Cx2) r0 x2 W3 (H3.out.rows 1 rfl) (H3.out.ints 5 rfl) (HTT.out.below H3.out.below) HB0.out
      go_upto_region 9 with (go_at_call 46; refine hcF.mono ?_; clear hcF; rintro e W4 ⟨rfl, hb⟩; have H4 := Lib.hid (H3.out.step hb); clear hb)
      clear hc0 H3
      have hc0 := (H4.out.cell 1 rfl)
      have hcG := implFix_all (.slice a0 r0.length C0) (.slice ax3 x3.length Cx3) r0 x3 W4 (H4.out.rows 1 rfl) (H4.out.ints 4 rfl) (HTT.out.below H4.out.below) HB0.out
      go_upto_region 10 with (go_at_call 46; refine hcG.mono ?_; clear hcG; rintro e W5 ⟨rfl, hb⟩; have H5 := Lib.hid (H4.out.step hb); clear hb)
      clear hc0 H4
      have hc0 := (H5.out.cell 1 rfl)
      have hc1 := (H5.out.cell 0 rfl)
      obtain ⟨t, ht⟩ : ∃ t : Bool, decide (x2 = x3) = t := ⟨_, rfl⟩
      rw [ht] at F1
      have HSI := Lib.hid (fun W (h : Ks w [.box (B + 1) (.slice a1 r1.length C1) r1, .box (B) (.slice a0 r0.length C0) r0, .ord (.slice a1 r1.length C1) r1, .ord (.slice a0 r0.length C0) r0, .ints (.slice ax3 x3.length Cx3) x3, .ints (.slice ax2 x2.length Cx2) x2] W) => show Calls Tryd.prog 43 #[.slice ax2 x2.length Cx2, .slice ax3 x3.length Cx3] W (SaysN t W) by
        have := sameInts_dec (.slice ax2 x2.length Cx2) (.slice ax3 x3.length Cx3) x2 x3 W (h.ints 5 rfl) (h.ints 4 rfl)
        rw [ht] at this
        exact this)
      clear ht
      have HFB := Lib.hid (fun W (h : Ks w [.box (B + 1) (.slice a1 r1.length C1) r1, .box (B) (.slice a0 r0.length C0) r0, .ord (.slice a1 r1.length C1) r1, .ord (.slice a0 r0.length C0) r0, .ints (.slice ax3 x3.length Cx3) x3, .ints (.slice ax2 x2.length Cx2) x2] W) => show Calls Tryd.prog 39 #[.agg #[.slice a0 r0.length C0], .agg #[.slice a1 r1.length C1], .slice ax3 x3.length Cx3, .slice ax2 x2.length Cx2] W (SaysN t W) by
        have := implFunBelow_any (.slice a0 r0.length C0) (.slice a1 r1.length C1) (.slice ax3 x3.length Cx3) (.slice ax2 x2.length Cx2) r0 r1 x3 x2 W (h.rows 1 rfl) (h.rows 0 rfl) (h.ints 4 rfl) (h.ints 5 rfl) (HTT.out.below h.below) HB0.out HB1.out
        rw [F1.out] at this
        exact this)
      have HOB := Lib.hid (fun W (h : Ks w [.box (B + 1) (.slice a1 r1.length C1) r1, .box (B) (.slice a0 r0.length C0) r0, .ord (.slice a1 r1.length C1) r1, .ord (.slice a0 r0.length C0) r0, .ints (.slice ax3 x3.length Cx3) x3, .ints (.slice ax2 x2.length Cx2) x2] W) => implBelow_any (.slice a0 r0.length C0) r0 (fixX r0 x2) (fixX r0 x3) W (h.rows 1 rfl) (HTT.out.below h.below) HB0.out)
      cases hb1 : monoB r0 r0 x2 with
      | false =>
        go_wp2_with (first | (go_at_call 39; refine (HFB.out _ H5.out).mono ?_; rintro e W6 ⟨rfl, hb⟩; have H6 := Lib.hid (H5.out.step hb); clear hb) | (go_at_call 43; refine (HSI.out _ H6.out).mono ?_; rintro e W7 ⟨rfl, hb⟩; have H7 := Lib.hid (H6.out.step hb); have hd0 := (H7.out.cell 1 rfl); have hd1 := (H7.out.cell 0 rfl); clear hb))
        all_goals
          go_ret
          exact ⟨rfl, H7.out.below⟩
      | true =>
        cases hb2 : monoB r0 r0 x3 with
        | false =>
          go_wp2_with (first | (go_at_call 39; refine (HFB.out _ H5.out).mono ?_; rintro e W6 ⟨rfl, hb⟩; have H6 := Lib.hid (H5.out.step hb); clear hb) | (go_at_call 43; refine (HSI.out _ H6.out).mono ?_; rintro e W7 ⟨rfl, hb⟩; have H7 := Lib.hid (H6.out.step hb); have hd0 := (H7.out.cell 1 rfl); have hd1 := (H7.out.cell 0 rfl); clear hb))
          all_goals
            go_ret
            exact ⟨rfl, H7.out.below⟩
        | true =>
          by_cases hs : r0 = r1
          · have g := F2.out hb1 hb2 hs
            rw [g] at HOB
            have hsd : decide (r0 = r1) = true := decide_eq_true hs
            clear hs g F2
            simp only [if_true]
            go_wp2_with (first | (go_at_call 39; refine (HFB.out _ H5.out).mono ?_; rintro e W6 ⟨rfl, hb⟩; have H6 := Lib.hid (H5.out.step hb); clear hb) | (go_at_call 43; refine (HSI.out _ H6.out).mono ?_; rintro e W7 ⟨rfl, hb⟩; have H7 := Lib.hid (H6.out.step hb); have hd0 := (H7.out.cell 1 rfl); have hd1 := (H7.out.cell 0 rfl); clear hb) | (go_at_call 19; refine (sameOrderP_dec (.slice a0 r0.length C0) (.slice a1 r1.length C1) r0 r1 _ (H7.out.rows 1 rfl) (H7.out.rows 0 rfl)).mono ?_; rintro e W8 ⟨rfl, hb⟩; have H8 := Lib.hid (H7.out.step hb); have he0 := (H8.out.cell 1 rfl); clear hb) | (go_at_call 20; refine (HOB.out _ H8.out).mono ?_; rintro e W9 ⟨rfl, hb⟩; have H9 := Lib.hid (H8.out.step hb); clear hb))
            all_goals
              go_ret
              exact ⟨rfl, H9.out.below⟩
          · have hsd : decide (r0 = r1) = false := decide_eq_false hs
            clear hs F2
            go_wp2_with (first | (go_at_call 39; refine (HFB.out _ H5.out).mono ?_; rintro e W6 ⟨rfl, hb⟩; have H6 := Lib.hid (H5.out.step hb); clear hb) | (go_at_call 43; refine (HSI.out _ H6.out).mono ?_; rintro e W7 ⟨rfl, hb⟩; have H7 := Lib.hid (H6.out.step hb); have hd0 := (H7.out.cell 1 rfl); have hd1 := (H7.out.cell 0 rfl); clear hb) | (go_at_call 19; refine (sameOrderP_dec (.slice a0 r0.length C0) (.slice a1 r1.length C1) r0 r1 _ (H7.out.rows 1 rfl) (H7.out.rows 0 rfl)).mono ?_; rintro e W8 ⟨rfl, hb⟩; have H8 := Lib.hid (H7.out.step hb); have he0 := (H8.out.cell 1 rfl); clear hb))
            all_goals
              go_ret
              exact ⟨rfl, H8.out.below⟩
end Go.Proofs.YtjfbjfclcpcaiaaDoor
