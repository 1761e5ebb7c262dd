/- The law FnSum: sums have both side by side. -/
import Derived.Test.YtjfbjfclcpcaiaaDoorKsk
import Derived.Test.YtjfbjfclcpcaiaaDoorDrXk
import Derived.Test.YtjfbjfclcpcaiaaDoorSumQk
import Derived.Test.YtjfbjfclcpcaiaaDoorProdQk
import Derived.Test.YtjfbjfclcpcaiaaDoorLpProductk
import Derived.Test.YtjfbjfclcpcaiaaDoorPb24
import Derived.Test.YtjfbjfclcpcaiaaDoorPb34
import Derived.Test.YtjfbjfclcpcaiaaDoorPb22
import Derived.Test.YtjfbjfclcpcaiaaDoorPb21
namespace Go.Proofs.YtjfbjfclcpcaiaaDoor
open Go.RowKit Go.Deep Go.Shelf

theorem sum_all {rows rows' : Rows2} (h : sumOk rows rows' = true) : (∀ a b : Nat, 0 < a → a ≤ rows.length → rows.length < b → b < (sumL rows rows').length → joinB (sumL rows rows') a b = -1 ∧ meetB (sumL rows rows') a b = 0) ∧
      domB (sumL rows rows') = true ∧ ((sumL rows rows').length = 1 + rows.length + rows'.length ∧ rows.length ≤ 200 ∧ rows'.length ≤ 200) ∧ ∃ h0 h1 : Nat, heightB rows = (h0 : Int) ∧ heightB rows' = (h1 : Int) ∧ heightB (sumL rows rows') = 1 + max (h0 : Int) (h1 : Int) ∧ h0 ≤ 200 ∧ h1 ≤ 200 := by
  obtain ⟨f1, f2, f3, f4⟩ := fact_sum h
  have hp := h
  unfold sumOk at hp
  rw [Bool.and_eq_true, Bool.and_eq_true] at hp
  have hok := (domB_iff.1 hp.1.1).1
  have hok' := (domB_iff.1 hp.1.2).1
  obtain ⟨h0, e0, l0⟩ := height_nat hok
  obtain ⟨h1, e1, l1⟩ := height_nat hok'
  exact ⟨f1, f2, ⟨f3, hok.len.2, hok'.len.2⟩, h0, h1, e0, e1, by rw [f4, e0, e1], l0, l1⟩
theorem sum_short (rows rows' : Rows2) : (sumL rows rows').length ≤ 1048576 := by
  have := sum_bulk rows rows'
  unfold bulk at this
  omega
theorem two_wraps {a b : Nat} (ha : a ≤ 200) (hb : b ≤ 200) : (IntKind.i64.wrap (1 + (a : Int)) = 1 + (a : Int) ∧ IntKind.i64.wrap (1 + (a : Int) + (b : Int)) = 1 + (a : Int) + (b : Int)) ∧ wrap64 (1 + (a : Int)) = 1 + (a : Int) ∧ wrap64 (1 + (a : Int) + (b : Int)) = 1 + (a : Int) + (b : Int) :=
  ⟨⟨IntWalk.i64_in _ (by omega), IntWalk.i64_in _ (by omega)⟩, IntWalk.wrap64_in _ (by omega), IntWalk.wrap64_in _ (by omega)⟩
theorem one_wraps {m : Int} (h0 : 0 ≤ m) (h : m ≤ 1000) : IntKind.i64.wrap (1 + m) = 1 + m ∧ wrap64 (1 + m) = 1 + m := ⟨IntWalk.i64_in _ (by omega), IntWalk.wrap64_in _ (by omega)⟩

set_option maxRecDepth 100000 in
set_option maxHeartbeats 16000000 in
theorem lawSumP (v : Value) (w : World) (hv : CodeAt w.heap.size w v) (hT : Tab w) : Calls Tryd.prog 5 #[v] w (SaysN true w) := by
  have hdraw := drawSum2_any v w hv
  obtain ⟨a, n, C, rfl, hnC, hCm, _⟩ := hv
  unfold maxLen at hCm
  have HTT := Lib.hid hT
  clear hT
  by_cases hn : 1048576 < n
  · have hz : (1048576 : Int) < (n : Int) := by omega
    clear hdraw
    go_enter Tryd.func5, Tryd.ntmps5
    go_wp2
    go_ret
    exact ⟨rfl, Below.refl _ _⟩
  · have hz : ¬ (1048576 : Int) < (n : Int) := by omega
    go_enter Tryd.func5, Tryd.ntmps5
    go_upto_region 4 with (go_at_call 28; refine hdraw.mono ?_; clear hdraw; rintro e w1 ⟨r0, u0, r1, u1, rfl, hr0, hr1, hk0, hk1, hb⟩; obtain ⟨a0, C0, rfl⟩ := hr0.form; obtain ⟨a1, C1, rfl⟩ := hr1.form; have HBW := Lib.hid hb; have HR0 := Lib.hid hr0.at; have HR1 := Lib.hid hr1.at; clear hb hr0 hr1)
    have HB0 := Lib.hid (show bulk r0 ≤ 1048576 by omega)
    have HB1 := Lib.hid (show bulk r1 ≤ 1048576 by omega)
    clear hk0 hk1
    have H0 := Lib.hid ((((Ks.start w).step HBW.out).push (i := .ord (.slice a0 r0.length C0) r0) HR0.out).push (i := .ord (.slice a1 r1.length C1) r1) HR1.out)
    have HX0 := Lib.hid (H0.out.box (H0.out.ord 1 rfl))
    have HX1 := Lib.hid (HX0.out.box (HX0.out.ord 1 rfl))
    have H1 : Hid (Ks w [.box (w1.heap.size + 1) (.slice a1 r1.length C1) r1, .box (w1.heap.size) (.slice a0 r0.length C0) r0, .ord (.slice a1 r1.length C1) r1, .ord (.slice a0 r0.length C0) r0] ((w1.alloc (.cells #[.slice a0 r0.length C0] 25)).alloc (.cells #[.slice a1 r1.length C1] 25))) := Lib.hid (by have h := HX1.out; (try simp only [World.size_alloc] at h); exact h)
    clear H0 HX0 HX1 HR0 HR1 HBW
    generalize ((w1.alloc (.cells #[.slice a0 r0.length C0] 25)).alloc (.cells #[.slice a1 r1.length C1] 25)) = W1 at H1 ⊢
    generalize w1.heap.size = B at H1 ⊢
    have hc0 := H1.out.cell 1 rfl
    have hc1 := H1.out.cell 0 rfl
    have hci := implSum_any (.slice a0 r0.length C0) (.slice a1 r1.length C1) r0 r1 W1 (H1.out.rows 1 rfl) (H1.out.rows 0 rfl) (HTT.out.below H1.out.below) HB0.out HB1.out
    go_upto_region 5 with (go_at_call 29; refine hci.mono ?_; clear hci; rintro e W2 ⟨v2, rfl, ho, hb⟩; have H2 := Lib.hid ((H1.out.step hb).box ho.at); obtain ⟨a2L, C2L, rfl⟩ := ho.form; clear ho hb)
    generalize W2.alloc (.cells #[.slice a2L (sumL r0 r1).length C2L] 25) = W2b at H2 ⊢
    generalize W2.heap.size = bo2 at H2 ⊢
    clear hc0 hc1
    have hc0 := H2.out.cell 2 rfl
    have hc1 := H2.out.cell 1 rfl
    have hcs := specSum_any (.slice a0 r0.length C0) (.slice a1 r1.length C1) r0 r1 W2b (H2.out.rows 2 rfl) (H2.out.rows 1 rfl) HB0.out HB1.out
    go_upto_region 6 with (go_at_call 30; refine hcs.mono ?_; clear hcs; rintro e W3 ⟨v3, rfl, ho, hb⟩; have H3 := Lib.hid ((H2.out.step hb).box ho.at); obtain ⟨a3L, C3L, rfl⟩ := ho.form; clear ho hb)
    generalize W3.alloc (.cells #[.slice a3L (sumL r0 r1).length C3L] 25) = W3b at H3 ⊢
    generalize W3.heap.size = bo3 at H3 ⊢
    clear hc0 hc1
    clear H1 H2
    have hco2 := H3.out.cell 1 rfl
    have hco3 := H3.out.cell 0 rfl
    have HFACT := Lib.hid (sum_all (rows := r0) (rows' := r1))
    have HRES0 := Lib.hid (show (sumL r0 r1).length ≤ 1048576 by exact sum_short r0 r1)
    have hres0 := HRES0.out
    cases hq : sumOk r0 r1 with
    | false =>
      clear HFACT hq
      go_wp2_with (first | (go_at_call 19; refine (sameOrderP_self (.slice a2L _ C2L) (.slice a3L _ C3L) (sumL r0 r1) _ (H3.out.rows 1 rfl) (H3.out.rows 0 rfl)).mono ?_; rintro e W4 ⟨rfl, hb⟩; have H4 := Lib.hid (H3.out.step hb); have hco2 := H4.out.cell 1 rfl; have hco3 := H4.out.cell 0 rfl; clear hb H3) | (go_at_call 19; refine (sameOrderP_self (.slice a2L _ C2L) (.slice a3L _ C3L) (sumL r0 r1) _ (H4.out.rows 1 rfl) (H4.out.rows 0 rfl)).mono ?_; rintro e W5 ⟨rfl, hb⟩; have H5 := Lib.hid (H4.out.step hb); have hco2 := H5.out.cell 1 rfl; have hco3 := H5.out.cell 0 rfl; clear hb H4))
      go_ret
      exact ⟨rfl, H5.out.below⟩
    | true =>
      obtain ⟨f1, f2, ⟨f3, n0, n1⟩, h0, h1, e0, e1, f4, l0, l1⟩ := HFACT.out hq
      have HBL := Lib.hid (sum_bulk r0 r1)
      have F1 := Lib.hid f1
      have F2 := Lib.hid f2
      have F4 := Lib.hid f4
      have E0 := Lib.hid e0
      have E1 := Lib.hid e1
      clear HFACT hq f1 f2 f4 e0 e1
      generalize hL : sumL r0 r1 = L at H3 HRES0 hres0 F1 F2 F4 f3 hco2 hco3 HBL ⊢
      clear hL
      obtain ⟨N, hN⟩ : ∃ N, N = 1 + r0.length + r1.length := ⟨_, rfl⟩
      rw [← hN] at f3
      rw [f3] at H3 F1 hco2 hco3 ⊢
      have hN2 : N ≤ 401 := by omega
      have HN := Lib.hid hN
      clear hN f3
      go_upto_region 8 with (go_at_call 19; refine (sameOrderP_self (.slice a2L _ C2L) (.slice a3L _ C3L) (L) _ (H3.out.rows 1 rfl) (H3.out.rows 0 rfl)).mono ?_; rintro e W4 ⟨rfl, hb⟩; have H4 := Lib.hid (H3.out.step hb); have hco2 := H4.out.cell 1 rfl; have hco3 := H4.out.cell 0 rfl; clear hb H3)
      clear hco3
      have hc0 := (H4.out.cell 3 rfl)
      go_wp2
      clear hco2 hc0
      go_loopw [10] (fun iv wr => ∃ i : Nat, 1 ≤ i ∧ i ≤ r0.length + 1 ∧ iv = .int .i64 i ∧ Ks w [.box bo3 (.slice a3L N C3L) (L), .box bo2 (.slice a2L N C2L) (L), .box (B + 1) (.slice a1 r1.length C1) r1, .box (B) (.slice a0 r0.length C0) r0, .ord (.slice a1 r1.length C1) r1, .ord (.slice a0 r0.length C0) r0] wr) (fun iv _ => r0.length + 1 - (intOf iv).toNat)
      case atStart => exact ⟨1, Nat.le_refl _, by omega, rfl, H4.out⟩
      case round =>
        obtain ⟨i, hi1, hi, rfl, hh⟩ := hrel
        have HK := Lib.hid hh
        clear hh H4
        by_cases hlt : i ≤ r0.length
        · have hltz : (i : Int) ≤ (r0.length : Int) := by omega
          have hw1 : IntKind.i64.wrap ((r0.length : Int) + 1) = ((r0.length + 1 : Nat) : Int) := IntWalk.i64_in _ (by omega)
          have hco2 := (HK.out.cell 1 rfl)
          go_wp2
          clear hco2
          go_loopw [11] (fun jv wr => ∃ j : Nat, r0.length < j ∧ (j ≤ N ∨ j = r0.length + 1) ∧ jv = .int .i64 j ∧ Ks w [.box bo3 (.slice a3L N C3L) (L), .box bo2 (.slice a2L N C2L) (L), .box (B + 1) (.slice a1 r1.length C1) r1, .box (B) (.slice a0 r0.length C0) r0, .ord (.slice a1 r1.length C1) r1, .ord (.slice a0 r0.length C0) r0] wr) (fun jv _ => N - (intOf jv).toNat)
          case atStart => exact ⟨r0.length + 1, by omega, .inr rfl, by go_num, HK.out⟩
          case round =>
            obtain ⟨j, hj1, hj, rfl, hh⟩ := hrel
            have HJ := Lib.hid hh
            clear hh HK
            have hco2 := (HJ.out.cell 1 rfl)
            by_cases hjl : j < N
            · have hjz : (j : Int) < (N : Int) := by omega
              obtain ⟨g1, g2⟩ := F1.out i j hi1 hlt hj1 hjl
              have hcJ := implJoin_any (.slice a2L N C2L) L (i : Int) (j : Int) wr (HJ.out.rows 1 rfl) (HTT.out.below HJ.out.below) HBL.out
              have hcM := fun W (h : Ks w [.box bo3 (.slice a3L N C3L) (L), .box bo2 (.slice a2L N C2L) (L), .box (B + 1) (.slice a1 r1.length C1) r1, .box (B) (.slice a0 r0.length C0) r0, .ord (.slice a1 r1.length C1) r1, .ord (.slice a0 r0.length C0) r0] W) => implMeet_any (.slice a2L N C2L) L (i : Int) (j : Int) W (h.rows 1 rfl) (HTT.out.below h.below) HBL.out
              rw [g1] at hcJ
              simp only [g2] at hcM
              clear g1 g2
              go_wp2_with (first | (go_at_call 27; refine hcJ.mono ?_; clear hcJ; rintro e w9 ⟨rfl, hb⟩; have H9 := Lib.hid (HJ.out.step hb); have hco9 := (H9.out.cell 1 rfl); clear hb) | (go_at_call 31; refine (hcM _ H9.out).mono ?_; clear hcM; rintro e w10 ⟨rfl, hb⟩; have H10 := Lib.hid (H9.out.step hb); clear hb))
              go_roundw
              case rel => exact ⟨j + 1, by omega, .inl (by omega), by go_num, H10.out⟩
              case measure => simp [intOf]; omega
            · have hjz : ¬ (j : Int) < (N : Int) := by omega
              go_wp2
              go_roundw
              case rel => exact ⟨i + 1, by omega, by omega, by go_num, HJ.out⟩
              case measure => simp [intOf]; omega
        · have hltz : ¬ (i : Int) ≤ (r0.length : Int) := by omega
          have hq0 := fun d os => cell_regrown (HK.out.cell 3 rfl) d os
          have hq1 := fun d os => cell_regrown (HK.out.cell 2 rfl) d os
          have hq2 := fun d os => cell_regrown (HK.out.cell 1 rfl) d os
          have hst := fun d os => HK.out.step (below_regrown wr d os)
          have hcD := fun d os => Calls.regrown_of (d := d) (os := os) (implDom_any (.slice a2L N C2L) L _ ((hst d os).rows 1 rfl) (HTT.out.below (hst d os).below) HBL.out)
          have hcH := fun d os => Calls.regrown_of (d := d) (os := os) (implHeight_any (.slice a2L N C2L) L _ ((hst d os).rows 1 rfl) (HTT.out.below (hst d os).below) HBL.out)
          have hcH0 := fun d os => Calls.regrown_of (d := d) (os := os) (implHeight_any (.slice a0 r0.length C0) r0 _ ((hst d os).rows 3 rfl) (HTT.out.below (hst d os).below) HB0.out)
          have hcH1 := fun d os => Calls.regrown_of (d := d) (os := os) (implHeight_any (.slice a1 r1.length C1) r1 _ ((hst d os).rows 2 rfl) (HTT.out.below (hst d os).below) HB1.out)
          simp only [F2.out] at hcD
          simp only [F4.out] at hcH
          simp only [E0.out] at hcH0
          simp only [E1.out] at hcH1
          obtain ⟨⟨hu1, hu2⟩, hu3, hu4⟩ := two_wraps n0 n1
          have hbe : ((N : Int) == 1 + (r0.length : Int) + (r1.length : Int)) = true := by rw [beq_iff_eq, HN.out]; omega
          clear hst n0 n1 hN2 hi hi1
          rcases Int.lt_or_le (h0 : Int) (h1 : Int) with hz01 | hz01
          · rw [Int.max_eq_right (Int.le_of_lt hz01)] at hcH
            have hz02 : ¬ (h1 : Int) ≤ (h0 : Int) := by omega
            have hz03 : ¬ (h1 : Int) < (h0 : Int) := by omega
            have hz04 : (h0 : Int) ≤ (h1 : Int) := by omega
            obtain ⟨hw1, hw2⟩ := one_wraps (m := (h1 : Int)) (by omega) (by omega)
            clear l0 l1
            go_upto_region 17 with fail
            refine wp_region_quiet_below (by kernel_rfl) (by kernel_rfl) ?_
            repeat (first | rw [beq_self_eq_true] | rw [Bool.not_true] | rw [Bool.not_false] | go_big_quiet_step (first | (go_at_call_of 21 (#[Value.agg #[Value.slice a2L N C2L]]); exact hcD _ _) | (go_at_call_of 22 (#[Value.agg #[Value.slice a2L N C2L]]); exact hcH _ _) | (go_at_call_of 22 (#[Value.agg #[Value.slice a0 r0.length C0]]); exact hcH0 _ _) | (go_at_call_of 22 (#[Value.agg #[Value.slice a1 r1.length C1]]); exact hcH1 _ _)))
            refine wpQuiet_nil ?_
            intro _ hw'
            obtain ⟨⟨dq, osq⟩, hw''⟩ := hw'
            subst hw''
            clear hcD hcH hcH0 hcH1 hq0 hq1 hq2
            go_wp2
            go_ret
            exact ⟨rfl, (HK.out.step (below_regrown wr dq osq)).below⟩
          · rw [Int.max_eq_left hz01] at hcH
            have hz02 : ¬ (h0 : Int) < (h1 : Int) := by omega
            obtain ⟨hw1, hw2⟩ := one_wraps (m := (h0 : Int)) (by omega) (by omega)
            clear l0 l1
            go_upto_region 17 with fail
            refine wp_region_quiet_below (by kernel_rfl) (by kernel_rfl) ?_
            repeat (first | rw [beq_self_eq_true] | rw [Bool.not_true] | rw [Bool.not_false] | go_big_quiet_step (first | (go_at_call_of 21 (#[Value.agg #[Value.slice a2L N C2L]]); exact hcD _ _) | (go_at_call_of 22 (#[Value.agg #[Value.slice a2L N C2L]]); exact hcH _ _) | (go_at_call_of 22 (#[Value.agg #[Value.slice a0 r0.length C0]]); exact hcH0 _ _) | (go_at_call_of 22 (#[Value.agg #[Value.slice a1 r1.length C1]]); exact hcH1 _ _)))
            refine wpQuiet_nil ?_
            intro _ hw'
            obtain ⟨⟨dq, osq⟩, hw''⟩ := hw'
            subst hw''
            clear hcD hcH hcH0 hcH1 hq0 hq1 hq2
            go_wp2
            go_ret
            exact ⟨rfl, (HK.out.step (below_regrown wr dq osq)).below⟩
end Go.Proofs.YtjfbjfclcpcaiaaDoor
