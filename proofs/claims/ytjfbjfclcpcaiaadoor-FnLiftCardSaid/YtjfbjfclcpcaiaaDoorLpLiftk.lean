/- The law FnLift: lifts are one higher. -/
import Derived.Test.YtjfbjfclcpcaiaaDoorKsk
import Derived.Test.YtjfbjfclcpcaiaaDoorDrLk
import Derived.Test.YtjfbjfclcpcaiaaDoorLiftQk
import Derived.Test.YtjfbjfclcpcaiaaDoorLpSumk
import Derived.Test.YtjfbjfclcpcaiaaDoorPb23
import Derived.Test.YtjfbjfclcpcaiaaDoorPb30
import Derived.Test.YtjfbjfclcpcaiaaDoorPb22
import Derived.Test.YtjfbjfclcpcaiaaDoorPb13
import Derived.Test.YtjfbjfclcpcaiaaDoorPb21
namespace Go.Proofs.YtjfbjfclcpcaiaaDoor
open Go.RowKit Go.Deep Go.Shelf

theorem lift_all {rows : Rows2} (h : liftOk rows = true) : (∀ a b : Nat, a < rows.length → b < rows.length → belowB (liftL rows) ((a : Int) + 1) ((b : Int) + 1) = belowB rows a b) ∧ domB (liftL rows) = true ∧ ((liftL rows).length = rows.length + 1 ∧ rows.length ≤ 200) ∧ leastB (liftL rows) = 0 ∧
    ∃ h0 : Nat, heightB rows = (h0 : Int) ∧ heightB (liftL rows) = (h0 : Int) + 1 ∧ h0 ≤ 200 := by
  obtain ⟨f1, f2, f3, f4, f5⟩ := fact_lift h
  have hp := h
  unfold liftOk at hp
  rw [Bool.and_eq_true] at hp
  have hok := (domB_iff.1 hp.1).1
  obtain ⟨h0, e0, l0⟩ := height_nat hok
  exact ⟨f1, f2, ⟨f3, hok.len.2⟩, f5, h0, e0, by rw [f4, e0], l0⟩
theorem lift_short (rows : Rows2) : (liftL rows).length ≤ 1048576 := by
  have := lift_bulk rows
  unfold bulk at this
  omega

set_option maxRecDepth 100000 in
set_option maxHeartbeats 16000000 in
theorem lawLiftP (v : Value) (w : World) (hv : CodeAt w.heap.size w v) (hT : Tab w) : Calls Tryd.prog 3 #[v] w (SaysN true w) := by
  have hdraw := drawDLift_any v w hv
  obtain ⟨a, n, C, rfl, hnC, hCm, _⟩ := hv
  unfold maxLen at hCm
  have HTT := Lib.hid hT
  clear hT
  by_cases hn : 1048576 < n
  · have hz : (1048576 : Int) < (n : Int) := by omega
    clear hdraw
    go_enter Tryd.func3, Tryd.ntmps3
    go_wp2
    go_ret
    exact ⟨rfl, Below.refl _ _⟩
  · have hz : ¬ (1048576 : Int) < (n : Int) := by omega
    go_enter Tryd.func3, Tryd.ntmps3
    go_upto_region 4 with (go_at_call 16; refine hdraw.mono ?_; clear hdraw; rintro e w1 ⟨r0, u0, rfl, hr0, hk0, hb⟩; obtain ⟨a0, C0, rfl⟩ := hr0.form; have HBW := Lib.hid hb; have HR0 := Lib.hid hr0.at; clear hb hr0)
    have HB0 := Lib.hid (show bulk r0 ≤ 1048576 by omega)
    clear hk0
    have H0 := Lib.hid (((Ks.start w).step HBW.out).push (i := .ord (.slice a0 r0.length C0) r0) HR0.out)
    have HX0 := Lib.hid (H0.out.box (H0.out.ord 0 rfl))
    have H1 : Hid (Ks w [.box (w1.heap.size) (.slice a0 r0.length C0) r0, .ord (.slice a0 r0.length C0) r0] (w1.alloc (.cells #[.slice a0 r0.length C0] 25))) := Lib.hid (by have h := HX0.out; (try simp only [World.size_alloc] at h); exact h)
    clear H0 HX0 HR0 HBW
    generalize (w1.alloc (.cells #[.slice a0 r0.length C0] 25)) = W1 at H1 ⊢
    generalize w1.heap.size = B at H1 ⊢
    have hc0 := H1.out.cell 0 rfl
    have hci := implLift_any (.slice a0 r0.length C0) r0 W1 (H1.out.rows 0 rfl) (HTT.out.below H1.out.below) HB0.out
    go_upto_region 5 with (go_at_call 17; refine hci.mono ?_; clear hci; rintro e W2 ⟨v2, rfl, ho, hb⟩; have H2 := Lib.hid ((H1.out.step hb).box ho.at); obtain ⟨a2L, C2L, rfl⟩ := ho.form; clear ho hb)
    generalize W2.alloc (.cells #[.slice a2L (liftL r0).length C2L] 25) = W2b at H2 ⊢
    generalize W2.heap.size = bo2 at H2 ⊢
    clear hc0
    have hc0 := H2.out.cell 1 rfl
    have hcs := specLift_any (.slice a0 r0.length C0) r0 W2b (H2.out.rows 1 rfl) HB0.out
    go_upto_region 6 with (go_at_call 18; refine hcs.mono ?_; clear hcs; rintro e W3 ⟨v3, rfl, ho, hb⟩; have H3 := Lib.hid ((H2.out.step hb).box ho.at); obtain ⟨a3L, C3L, rfl⟩ := ho.form; clear ho hb)
    generalize W3.alloc (.cells #[.slice a3L (liftL r0).length C3L] 25) = W3b at H3 ⊢
    generalize W3.heap.size = bo3 at H3 ⊢
    clear hc0
    clear H1 H2
    have hco2 := H3.out.cell 1 rfl
    have hco3 := H3.out.cell 0 rfl
    have HFACT := Lib.hid (lift_all (rows := r0))
    have HRES0 := Lib.hid (show (liftL r0).length ≤ 1048576 by exact lift_short r0)
    have hres0 := HRES0.out
    cases hq : liftOk r0 with
    | false =>
      clear HFACT hq
      go_wp2_with (first | (go_at_call 19; refine (sameOrderP_self (.slice a2L _ C2L) (.slice a3L _ C3L) (liftL r0) _ (H3.out.rows 1 rfl) (H3.out.rows 0 rfl)).mono ?_; rintro e W4 ⟨rfl, hb⟩; have H4 := Lib.hid (H3.out.step hb); have hco2 := H4.out.cell 1 rfl; have hco3 := H4.out.cell 0 rfl; clear hb H3) | (go_at_call 19; refine (sameOrderP_self (.slice a2L _ C2L) (.slice a3L _ C3L) (liftL r0) _ (H4.out.rows 1 rfl) (H4.out.rows 0 rfl)).mono ?_; rintro e W5 ⟨rfl, hb⟩; have H5 := Lib.hid (H4.out.step hb); have hco2 := H5.out.cell 1 rfl; have hco3 := H5.out.cell 0 rfl; clear hb H4))
      go_ret
      exact ⟨rfl, H5.out.below⟩
    | true =>
      obtain ⟨f1, f2, ⟨f3, n0⟩, f4, h0, e0, e1, l0⟩ := HFACT.out hq
      have HBL := Lib.hid (lift_bulk r0)
      have F1 := Lib.hid f1
      have F2 := Lib.hid f2
      have F4 := Lib.hid f4
      have E0 := Lib.hid e0
      have E1 := Lib.hid e1
      clear HFACT hq f1 f2 f4 e0 e1
      generalize hL : liftL r0 = L at H3 HRES0 hres0 F1 F2 F4 E1 f3 hco2 hco3 HBL ⊢
      clear hL
      obtain ⟨N, hN⟩ : ∃ N, N = r0.length + 1 := ⟨_, rfl⟩
      rw [← hN] at f3
      rw [f3] at H3 hco2 hco3 ⊢
      have hN2 : N ≤ 401 := by omega
      have HN := Lib.hid hN
      clear hN f3
      go_upto_region 8 with (go_at_call 19; refine (sameOrderP_self (.slice a2L _ C2L) (.slice a3L _ C3L) (L) _ (H3.out.rows 1 rfl) (H3.out.rows 0 rfl)).mono ?_; rintro e W4 ⟨rfl, hb⟩; have H4 := Lib.hid (H3.out.step hb); have hco2 := H4.out.cell 1 rfl; have hco3 := H4.out.cell 0 rfl; clear hb H3)
      clear hco3 hco2
      have hcb := (H4.out.cell 2 rfl)
      go_wp2
      clear hcb
      go_loopw [8] (fun iv wr => ∃ i : Nat, i ≤ r0.length ∧ iv = .int .i64 i ∧ Ks w [.box bo3 (.slice a3L N C3L) (L), .box bo2 (.slice a2L N C2L) (L), .box (B) (.slice a0 r0.length C0) r0, .ord (.slice a0 r0.length C0) r0] wr) (fun iv _ => r0.length - (intOf iv).toNat)
      case atStart => exact ⟨0, Nat.zero_le _, rfl, H4.out⟩
      case round =>
        obtain ⟨i, hi, rfl, hh⟩ := hrel
        have HK := Lib.hid hh
        clear hh H4
        have hcb := (HK.out.cell 2 rfl)
        by_cases hlt : i < r0.length
        · have hltz : (i : Int) < (r0.length : Int) := by omega
          skip
          go_wp2
          clear hcb
          go_loopw [9] (fun jv wr => ∃ j : Nat, j ≤ r0.length ∧ jv = .int .i64 j ∧ Ks w [.box bo3 (.slice a3L N C3L) (L), .box bo2 (.slice a2L N C2L) (L), .box (B) (.slice a0 r0.length C0) r0, .ord (.slice a0 r0.length C0) r0] wr) (fun jv _ => r0.length - (intOf jv).toNat)
          case atStart => exact ⟨0, Nat.zero_le _, rfl, HK.out⟩
          case round =>
            obtain ⟨j, hj, rfl, hh⟩ := hrel
            have HJ := Lib.hid hh
            clear hh HK
            have hcb := (HJ.out.cell 2 rfl)
            by_cases hjl : j < r0.length
            · have hjz : (j : Int) < (r0.length : Int) := by omega
              have hq0 := fun d os => cell_regrown (HJ.out.cell 2 rfl) d os
              have hq2 := fun d os => cell_regrown (HJ.out.cell 1 rfl) d os
              have hst := fun d os => HJ.out.step (below_regrown wr d os)
              have hcL := fun d os => Calls.regrown_of (d := d) (os := os) (implBelow_any (.slice a2L N C2L) L ((i : Int) + 1) ((j : Int) + 1) _ ((hst d os).rows 1 rfl) (HTT.out.below (hst d os).below) HBL.out)
              have hc0 := fun d os => Calls.regrown_of (d := d) (os := os) (implBelow_any (.slice a0 r0.length C0) r0 (i : Int) (j : Int) _ ((hst d os).rows 2 rfl) (HTT.out.below (hst d os).below) HB0.out)
              simp only [F1.out i j hlt hjl] at hcL
              generalize belowB r0 (i : Int) (j : Int) = s at hcL hc0
              have hw1 : IntKind.i64.wrap ((i : Int) + 1) = (i : Int) + 1 := IntWalk.i64_in _ (by omega)
              have hw2 : IntKind.i64.wrap ((j : Int) + 1) = (j : Int) + 1 := IntWalk.i64_in _ (by omega)
              have hw3 : wrap64 ((i : Int) + 1) = (i : Int) + 1 := IntWalk.wrap64_in _ (by omega)
              have hw4 : wrap64 ((j : Int) + 1) = (j : Int) + 1 := IntWalk.wrap64_in _ (by omega)
              clear hst
              have hcb := (HJ.out.cell 2 rfl)
              go_wp2
              clear hcb
              refine wp_region_quiet_below (by kernel_rfl) (by kernel_rfl) ?_
              repeat (first | rw [bne_self_eq_false] | rw [Bool.not_true] | rw [Bool.not_false] | go_big_quiet_step (first | (go_at_call_of 20 (Value.agg #[Value.slice a2L N C2L]); exact hcL _ _) | (go_at_call_of 20 (Value.agg #[Value.slice a0 r0.length C0]); exact hc0 _ _)))
              refine wpQuiet_nil ?_
              intro _ hw'
              obtain ⟨⟨dq, osq⟩, hw''⟩ := hw'
              subst hw''
              clear hcL hc0 hq0 hq2 hw1 hw2 hw3 hw4
              go_wp2
              go_roundw
              case rel => exact ⟨j + 1, by omega, by go_num, HJ.out.step (below_regrown wr dq osq)⟩
              case measure => simp [intOf]; omega
            · have hjz : ¬ (j : Int) < (r0.length : Int) := by omega
              go_wp2
              go_roundw
              case rel => exact ⟨i + 1, by omega, by go_num, HJ.out⟩
              case measure => simp [intOf]; omega
        · have hltz : ¬ (i : Int) < (r0.length : Int) := by omega
          have hq0 := fun d os => cell_regrown (HK.out.cell 2 rfl) d os
          have hq2 := fun d os => cell_regrown (HK.out.cell 1 rfl) d os
          have hst := fun d os => HK.out.step (below_regrown wr d os)
          have hcD := fun d os => Calls.regrown_of (d := d) (os := os) (implDom_any (.slice a2L N C2L) L _ ((hst d os).rows 1 rfl) (HTT.out.below (hst d os).below) HBL.out)
          have hcH := fun d os => Calls.regrown_of (d := d) (os := os) (implHeight_any (.slice a2L N C2L) L _ ((hst d os).rows 1 rfl) (HTT.out.below (hst d os).below) HBL.out)
          have hcH0 := fun d os => Calls.regrown_of (d := d) (os := os) (implHeight_any (.slice a0 r0.length C0) r0 _ ((hst d os).rows 2 rfl) (HTT.out.below (hst d os).below) HB0.out)
          have hcE := fun d os => Calls.regrown_of (d := d) (os := os) (implLeast_any (.slice a2L N C2L) L _ ((hst d os).rows 1 rfl) (HTT.out.below (hst d os).below) HBL.out)
          simp only [F2.out] at hcD
          simp only [F4.out] at hcE
          simp only [E1.out] at hcH
          simp only [E0.out] at hcH0
          have hw1 : IntKind.i64.wrap ((h0 : Int) + 1) = (h0 : Int) + 1 := IntWalk.i64_in _ (by omega)
          have hw2 : wrap64 ((h0 : Int) + 1) = (h0 : Int) + 1 := IntWalk.wrap64_in _ (by omega)
          have hw3 : IntKind.i64.wrap ((r0.length : Int) + 1) = (r0.length : Int) + 1 := IntWalk.i64_in _ (by omega)
          have hw4 : wrap64 ((r0.length : Int) + 1) = (r0.length : Int) + 1 := IntWalk.wrap64_in _ (by omega)
          have hbe : ((N : Int) == (r0.length : Int) + 1) = true := by rw [beq_iff_eq, HN.out]; omega
          clear hst
          have hcb := (HK.out.cell 2 rfl)
          go_upto_region 16 with fail
          clear hcb
          refine wp_region_quiet_below (by kernel_rfl) (by kernel_rfl) ?_
          repeat (first | rw [beq_self_eq_true] | rw [Bool.not_true] | rw [Bool.not_false] | go_big_quiet_step (first | (go_at_call_of 21 (#[Value.agg #[Value.slice a2L N C2L]]); exact hcD _ _) | (go_at_call_of 22 (#[Value.agg #[Value.slice a2L N C2L]]); exact hcH _ _) | (go_at_call_of 22 (#[Value.agg #[Value.slice a0 r0.length C0]]); exact hcH0 _ _) | (go_at_call_of 23 (#[Value.agg #[Value.slice a2L N C2L]]); exact hcE _ _)))
          refine wpQuiet_nil ?_
          intro _ hw'
          obtain ⟨⟨dq, osq⟩, hw''⟩ := hw'
          subst hw''
          clear hcD hcH hcH0 hcE hq0 hq2
          go_wp2
          go_ret
          exact ⟨rfl, (HK.out.step (below_regrown wr dq osq)).below⟩
end Go.Proofs.YtjfbjfclcpcaiaaDoor
