/- The law FnStrict: strict functions of strict functions are strict. -/
import Derived.Test.YtjfbjfclcpcaiaaDoorKsk
import Derived.Test.YtjfbjfclcpcaiaaDoorDrVk
import Derived.Test.YtjfbjfclcpcaiaaDoorMonoQk
import Derived.Test.YtjfbjfclcpcaiaaDoorLpFixk
import Derived.Test.YtjfbjfclcpcaiaaDoorPb24
import Derived.Test.YtjfbjfclcpcaiaaDoorPb20
import Derived.Test.YtjfbjfclcpcaiaaDoorPb21
namespace Go.Proofs.YtjfbjfclcpcaiaaDoor
open Go.RowKit Go.Deep Go.Shelf

set_option maxRecDepth 100000 in
set_option maxHeartbeats 16000000 in
theorem lawStrictP (v : Value) (w : World) (hv : CodeAt w.heap.size w v) (hT : Tab w) : Calls Tryd.prog 10 #[v] w (SaysN true w) := by
  have hdraw := drawStrict_any v w hv
  obtain ⟨a, n, C, rfl, hnC, hCm, _⟩ := hv
  unfold maxLen at hCm
  have HTT := Lib.hid hT
  clear hT
  by_cases hn : 1048576 < n
  · have hz : (1048576 : Int) < (n : Int) := by omega
    clear hdraw
    go_enter Tryd.func10, Tryd.ntmps10
    go_wp2
    go_ret
    exact ⟨rfl, Below.refl _ _⟩
  · have hz : ¬ (1048576 : Int) < (n : Int) := by omega
    go_enter Tryd.func10, Tryd.ntmps10
    go_upto_region 4 with (go_at_call 48; refine hdraw.mono ?_; clear hdraw; rintro e w1 ⟨r0, u0, r1, u1, x2, ux2, rfl, hr0, hr1, hr2, hk0, hk1, hk2, hb⟩; obtain ⟨a0, C0, rfl⟩ := hr0.form; obtain ⟨a1, C1, rfl⟩ := hr1.form; obtain ⟨ax2, Cx2, rfl⟩ := hr2.form; have HBW := Lib.hid hb; have HR0 := Lib.hid hr0.at; have HR1 := Lib.hid hr1.at; have HR2 := Lib.hid hr2.at; clear hb hr0 hr1 hr2)
    have HB0 := Lib.hid (show bulk r0 ≤ 1048576 by omega)
    have HB1 := Lib.hid (show bulk r1 ≤ 1048576 by omega)
    have HL2 := Lib.hid (show x2.length ≤ 200 from hk2)
    clear hk0 hk1 hk2
    have H0 := Lib.hid (((((Ks.start w).step HBW.out).push (i := .ints (.slice ax2 x2.length Cx2) x2) HR2.out).push (i := .ord (.slice a0 r0.length C0) r0) HR0.out).push (i := .ord (.slice a1 r1.length C1) r1) HR1.out)
    have HX0 := Lib.hid (H0.out.box (H0.out.ord 1 rfl))
    have HX1 := Lib.hid (HX0.out.box (HX0.out.ord 1 rfl))
    have H1 : Hid (Ks w [.box (w1.heap.size + 1) (.slice a1 r1.length C1) r1, .box (w1.heap.size) (.slice a0 r0.length C0) r0, .ord (.slice a1 r1.length C1) r1, .ord (.slice a0 r0.length C0) r0, .ints (.slice ax2 x2.length Cx2) x2] ((w1.alloc (.cells #[.slice a0 r0.length C0] 25)).alloc (.cells #[.slice a1 r1.length C1] 25))) := Lib.hid (by have h := HX1.out; (try simp only [World.size_alloc] at h); exact h)
    clear H0 HX0 HX1 HR0 HR1 HR2 HBW
    generalize ((w1.alloc (.cells #[.slice a0 r0.length C0] 25)).alloc (.cells #[.slice a1 r1.length C1] 25)) = W1 at H1 ⊢
    generalize w1.heap.size = B at H1 ⊢
    have hc0 := H1.out.cell 1 rfl
    have hc1 := H1.out.cell 0 rfl
    have hci := implStrict_any (.slice a0 r0.length C0) (.slice a1 r1.length C1) (.slice ax2 x2.length Cx2) r0 r1 x2 W1 (H1.out.rows 1 rfl) (H1.out.rows 0 rfl) (H1.out.ints 4 rfl) (HTT.out.below H1.out.below) HB0.out HB1.out
    go_upto_region 5 with (go_at_call 49; refine hci.mono ?_; clear hci; rintro e W2 ⟨rfl, hb⟩; have H2 := Lib.hid (H1.out.step hb); clear hb)
    clear hc0 hc1
    have hc0 := H2.out.cell 1 rfl
    have hc1 := H2.out.cell 0 rfl
    have hcs := specStrict_any (.slice a0 r0.length C0) (.slice a1 r1.length C1) (.slice ax2 x2.length Cx2) r0 r1 x2 W2 (H2.out.rows 1 rfl) (H2.out.rows 0 rfl) (H2.out.ints 4 rfl) HB0.out HB1.out
    go_upto_region 6 with (go_at_call 50; refine hcs.mono ?_; clear hcs; rintro e W3 ⟨rfl, hb⟩; have H3 := Lib.hid (H2.out.step hb); clear hb)
    clear hc0 hc1
    clear H1 H2
    have HFACT := Lib.hid (fact_strict (rows := r0) (rows' := r1) (f := x2))
    cases hq : strictB r0 r1 x2 with
    | false =>
      clear HFACT hq
      go_wp2
      go_ret
      exact ⟨rfl, H3.out.below⟩
    | true =>
      obtain ⟨f1, ⟨m, f2, hm, f3⟩, f4⟩ := HFACT.out hq
      have hl2 := HL2.out
      have F1 := Lib.hid f1
      clear HFACT hq f1
      have hc0 := (H3.out.cell 1 rfl)
      have hcF := implFix_all (.slice a0 r0.length C0) (.slice ax2 x2.length Cx2) r0 x2 W3 (H3.out.rows 1 rfl) (H3.out.ints 4 rfl) (HTT.out.below H3.out.below) HB0.out
      go_upto_region 9 with (go_at_call 46; refine hcF.mono ?_; clear hcF; rintro e W4 ⟨rfl, hb⟩; have H4 := Lib.hid (H3.out.step hb); clear hb)
      clear hc0 H3
      obtain ⟨bm, om, e5, hcm⟩ := (H4.out.ints 4 rfl).get hm
      cases e5
      rw [f3] at hcm
      have hmz : (m : Int) < (x2.length : Int) := by omega
      have hq0 := fun d os => cell_regrown (H4.out.cell 1 rfl) d os
      have hq1 := fun d os => cell_regrown (H4.out.cell 0 rfl) d os
      have hqm := fun d os => cell_regrown hcm d os
      have hst := fun d os => H4.out.step (below_regrown W4 d os)
      have hcL := fun d os => Calls.regrown_of (d := d) (os := os) (implLeast_any (.slice a0 r0.length C0) r0 _ ((hst d os).rows 1 rfl) (HTT.out.below (hst d os).below) HB0.out)
      have hcL' := fun d os => Calls.regrown_of (d := d) (os := os) (implLeast_any (.slice a1 r1.length C1) r1 _ ((hst d os).rows 0 rfl) (HTT.out.below (hst d os).below) HB1.out)
      have hcM := fun d os => Calls.regrown_of (d := d) (os := os) (implMono_any (.slice a0 r0.length C0) (.slice a1 r1.length C1) (.slice (some ⟨bm, om, none⟩) x2.length Cx2) r0 r1 x2 _ ((hst d os).rows 1 rfl) ((hst d os).rows 0 rfl) ((hst d os).ints 4 rfl) (HTT.out.below (hst d os).below) HB0.out HB1.out)
      have hcS := fun d os => Calls.regrown_of (d := d) (os := os) (sameOrderP_dec (.slice a0 r0.length C0) (.slice a1 r1.length C1) r0 r1 _ ((hst d os).rows 1 rfl) ((hst d os).rows 0 rfl))
      simp only [f2] at hcL f4
      simp only [F1.out] at hcM
      clear hst hcm f2 f3
      generalize leastB r1 = y at hqm hcL'
      cases hb1 : monoB r0 r0 x2 with
      | false =>
        clear f4
        refine wp_region_quiet_below (by kernel_rfl) (by kernel_rfl) ?_
        repeat (first | rw [beq_self_eq_true] | rw [Bool.not_true] | rw [Bool.not_false] | go_big_quiet_step (first | (go_at_call_of 23 (#[Value.agg #[Value.slice a0 r0.length C0]]); exact hcL _ _) | (go_at_call_of 23 (#[Value.agg #[Value.slice a1 r1.length C1]]); exact hcL' _ _) | (go_at_call_of 37 (#[Value.agg #[Value.slice a0 r0.length C0], Value.agg #[Value.slice a1 r1.length C1], Value.slice (some ⟨bm, om, none⟩) x2.length Cx2]); exact hcM _ _)))
        refine wpQuiet_nil ?_
        intro _ hw'
        obtain ⟨⟨dq, osq⟩, hw''⟩ := hw'
        subst hw''
        clear hcL hcL' hcM hcS hq0 hq1 hqm
        go_wp2
        go_ret
        exact ⟨rfl, (H4.out.step (below_regrown W4 dq osq)).below⟩
      | true =>
        by_cases hs : r0 = r1
        · obtain ⟨g1, g2⟩ := f4 hs
          simp only [decide_eq_true hs] at hcS
          simp only [if_true, g1, g2]
          have hz0 : ((0 : Nat) : Int) = 0 := rfl
          clear f4 hs g1 g2
          refine wp_region_quiet_below (by kernel_rfl) (by kernel_rfl) ?_
          repeat (first | rw [beq_self_eq_true] | rw [Bool.not_true] | rw [Bool.not_false] | go_big_quiet_step (first | (go_at_call_of 23 (#[Value.agg #[Value.slice a0 r0.length C0]]); exact hcL _ _) | (go_at_call_of 23 (#[Value.agg #[Value.slice a1 r1.length C1]]); exact hcL' _ _) | (go_at_call_of 37 (#[Value.agg #[Value.slice a0 r0.length C0], Value.agg #[Value.slice a1 r1.length C1], Value.slice (some ⟨bm, om, none⟩) x2.length Cx2]); exact hcM _ _) | (go_at_call_of 19 (#[Value.agg #[Value.slice a0 r0.length C0], Value.agg #[Value.slice a1 r1.length C1]]); exact hcS _ _)))
          refine wpQuiet_nil ?_
          intro _ hw'
          obtain ⟨⟨dq, osq⟩, hw''⟩ := hw'
          subst hw''
          clear hcL hcL' hcM hcS hq0 hq1 hqm
          go_wp2
          go_ret
          exact ⟨rfl, (H4.out.step (below_regrown W4 dq osq)).below⟩
        · simp only [decide_eq_false hs] at hcS
          clear f4 hs
          refine wp_region_quiet_below (by kernel_rfl) (by kernel_rfl) ?_
          repeat (first | rw [beq_self_eq_true] | rw [Bool.not_true] | rw [Bool.not_false] | go_big_quiet_step (first | (go_at_call_of 23 (#[Value.agg #[Value.slice a0 r0.length C0]]); exact hcL _ _) | (go_at_call_of 23 (#[Value.agg #[Value.slice a1 r1.length C1]]); exact hcL' _ _) | (go_at_call_of 37 (#[Value.agg #[Value.slice a0 r0.length C0], Value.agg #[Value.slice a1 r1.length C1], Value.slice (some ⟨bm, om, none⟩) x2.length Cx2]); exact hcM _ _) | (go_at_call_of 19 (#[Value.agg #[Value.slice a0 r0.length C0], Value.agg #[Value.slice a1 r1.length C1]]); exact hcS _ _)))
          refine wpQuiet_nil ?_
          intro _ hw'
          obtain ⟨⟨dq, osq⟩, hw''⟩ := hw'
          subst hw''
          clear hcL hcL' hcM hcS hq0 hq1 hqm
          go_wp2
          go_ret
          exact ⟨rfl, (H4.out.step (below_regrown W4 dq osq)).below⟩
end Go.Proofs.YtjfbjfclcpcaiaaDoor
