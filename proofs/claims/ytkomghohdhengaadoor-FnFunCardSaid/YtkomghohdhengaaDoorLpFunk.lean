/- The law FnFun: functions of domains are a domain. -/
import Derived.Test.YtkomghohdhengaaDoorKsk
import Derived.Test.YtkomghohdhengaaDoorDrCk
import Derived.Test.YtkomghohdhengaaDoorFunsQk
import Derived.Test.YtkomghohdhengaaDoorPc26
import Derived.Test.YtkomghohdhengaaDoorPc36
import Derived.Test.YtkomghohdhengaaDoorPc37
import Derived.Test.YtkomghohdhengaaDoorPc38
import Derived.Test.YtkomghohdhengaaDoorPc21
import Derived.Test.YtkomghohdhengaaDoorPc20
namespace Go.Proofs.YtkomghohdhengaaDoor
open Go.RowKit Go.Deep Go.Shelf

theorem fun_short (rows rows' : Rows2) : (funL rows rows').length ≤ 1048576 := by
  have := fun_bulk rows rows'
  unfold bulk at this
  omega
theorem fun_count {rows rows' : Rows2} (h : funB rows rows' = true) : countI rows rows' = ((funsR rows rows').length : Int) ∧ (funsR rows rows').length ≤ 200 ∧ rows.length ≤ 200 := by
  obtain ⟨hd, hd', hl⟩ := funB_iff.1 h
  refine ⟨?_, hl, (domB_iff.1 hd).1.len.2⟩
  unfold countI
  rw [hd, hd', if_pos (by rfl), if_pos (by omega)]

set_option maxRecDepth 100000 in
set_option maxHeartbeats 16000000 in
theorem lawFunP (v : Value) (w : World) (hv : CodeAt w.heap.size w v) (hT : Tab w) : Calls Tryd.prog 7 #[v] w (SaysN true w) := by
  have hdraw := drawFun_any v w hv
  obtain ⟨a, n, C, rfl, hnC, hCm, _⟩ := hv
  unfold maxLen at hCm
  have HTT := Lib.hid hT
  clear hT
  by_cases hn : 1048576 < n
  · have hz : (1048576 : Int) < (n : Int) := by omega
    clear hdraw
    go_enter Tryd.func7, Tryd.ntmps7
    go_wp2
    go_ret
    exact ⟨rfl, Below.refl _ _⟩
  · have hz : ¬ (1048576 : Int) < (n : Int) := by omega
    go_enter Tryd.func7, Tryd.ntmps7
    go_upto_region 4 with (go_at_call 35; refine hdraw.mono ?_; clear hdraw; rintro e w1 ⟨r0, u0, r1, u1, rfl, hr0, hr1, hk0, hk1, hb⟩; obtain ⟨a0, C0, rfl⟩ := hr0.form; obtain ⟨a1, C1, rfl⟩ := hr1.form; have HBW := Lib.hid hb; have HR0 := Lib.hid hr0.at; have HR1 := Lib.hid hr1.at; clear hb hr0 hr1)
    have HB0 := Lib.hid (show bulk r0 ≤ 1048576 by omega)
    have HB1 := Lib.hid (show bulk r1 ≤ 1048576 by omega)
    clear hk0 hk1
    have H0 := Lib.hid ((((Ks.start w).step HBW.out).push (i := .ord (.slice a0 r0.length C0) r0) HR0.out).push (i := .ord (.slice a1 r1.length C1) r1) HR1.out)
    have HX0 := Lib.hid (H0.out.box (H0.out.ord 1 rfl))
    have HX1 := Lib.hid (HX0.out.box (HX0.out.ord 1 rfl))
    have H1 : Hid (Ks w [.box (w1.heap.size + 1) (.slice a1 r1.length C1) r1, .box (w1.heap.size) (.slice a0 r0.length C0) r0, .ord (.slice a1 r1.length C1) r1, .ord (.slice a0 r0.length C0) r0] ((w1.alloc (.cells #[.slice a0 r0.length C0] 25)).alloc (.cells #[.slice a1 r1.length C1] 25))) := Lib.hid (by have h := HX1.out; (try simp only [World.size_alloc] at h); exact h)
    clear H0 HX0 HX1 HR0 HR1 HBW
    generalize ((w1.alloc (.cells #[.slice a0 r0.length C0] 25)).alloc (.cells #[.slice a1 r1.length C1] 25)) = W1 at H1 ⊢
    generalize w1.heap.size = B at H1 ⊢
    have hc0 := H1.out.cell 1 rfl
    have hc1 := H1.out.cell 0 rfl
    have hci := implFun_any (.slice a0 r0.length C0) (.slice a1 r1.length C1) r0 r1 W1 (H1.out.rows 1 rfl) (H1.out.rows 0 rfl) (HTT.out.below H1.out.below) HB0.out HB1.out
    go_upto_region 5 with (go_at_call 20; refine hci.mono ?_; clear hci; rintro e W2 ⟨v2, rfl, ho, hb⟩; have H2 := Lib.hid ((H1.out.step hb).box ho.at); obtain ⟨a2L, C2L, rfl⟩ := ho.form; clear ho hb)
    generalize W2.alloc (.cells #[.slice a2L (funL r0 r1).length C2L] 25) = W2b at H2 ⊢
    generalize W2.heap.size = bo2 at H2 ⊢
    clear hc0 hc1
    have hc0 := H2.out.cell 2 rfl
    have hc1 := H2.out.cell 1 rfl
    have hcs := specFun_any (.slice a0 r0.length C0) (.slice a1 r1.length C1) r0 r1 W2b (H2.out.rows 2 rfl) (H2.out.rows 1 rfl) HB0.out HB1.out
    go_upto_region 6 with (go_at_call 36; refine hcs.mono ?_; clear hcs; rintro e W3 ⟨v3, rfl, ho, hb⟩; have H3 := Lib.hid ((H2.out.step hb).box ho.at); obtain ⟨a3L, C3L, rfl⟩ := ho.form; clear ho hb)
    generalize W3.alloc (.cells #[.slice a3L (funL r0 r1).length C3L] 25) = W3b at H3 ⊢
    generalize W3.heap.size = bo3 at H3 ⊢
    clear hc0 hc1
    clear H1 H2
    have hco2 := H3.out.cell 1 rfl
    have hco3 := H3.out.cell 0 rfl
    have HFACT := Lib.hid (fact_fun (rows := r0) (rows' := r1))
    have HRES0 := Lib.hid (show (funL r0 r1).length ≤ 1048576 by exact fun_short r0 r1)
    have hres0 := HRES0.out
    cases hq : funB r0 r1 with
    | false =>
      clear HFACT hq
      go_wp2_with (first | (go_at_call 37; refine (sameOrderP_self (.slice a2L _ C2L) (.slice a3L _ C3L) (funL r0 r1) _ (H3.out.rows 1 rfl) (H3.out.rows 0 rfl)).mono ?_; rintro e W4 ⟨rfl, hb⟩; have H4 := Lib.hid (H3.out.step hb); have hco2 := H4.out.cell 1 rfl; have hco3 := H4.out.cell 0 rfl; clear hb H3) | (go_at_call 37; refine (sameOrderP_self (.slice a2L _ C2L) (.slice a3L _ C3L) (funL r0 r1) _ (H4.out.rows 1 rfl) (H4.out.rows 0 rfl)).mono ?_; rintro e W5 ⟨rfl, hb⟩; have H5 := Lib.hid (H4.out.step hb); have hco2 := H5.out.cell 1 rfl; have hco3 := H5.out.cell 0 rfl; clear hb H4))
      go_ret
      exact ⟨rfl, H5.out.below⟩
    | true =>
      obtain ⟨f1, ⟨f2, f3⟩, k, f4, hk, f5, f6⟩ := HFACT.out hq
      obtain ⟨g1, g2, g3⟩ := fun_count hq
      have hcF0 := fun W h h' hT => implFuns_any (.slice a0 r0.length C0) (.slice a1 r1.length C1) r0 r1 W h h' hT HB0.out HB1.out
      simp only [hq] at hcF0
      have HCF := Lib.hid hcF0
      have HCN := Lib.hid (fun W h h' hT => implCount_any (.slice a0 r0.length C0) (.slice a1 r1.length C1) r0 r1 W h h' hT HB0.out HB1.out)
      rw [g1] at HCN
      have HBL := Lib.hid (fun_bulk r0 r1)
      generalize funsL r0 r1 = FL at f3 hk f5 f6 HCF
      have F1 := Lib.hid f1
      have F4 := Lib.hid f4
      have F5 := Lib.hid f5
      have F6 := Lib.hid f6
      clear HFACT hq f1 f4 f5 f6 g1 hcF0
      generalize hL : funL r0 r1 = L at H3 HRES0 hres0 F1 F4 f2 hco2 hco3 HBL ⊢
      clear hL
      generalize (funsR r0 r1).length = N at f2 f3 g2 HCN
      rw [f2] at H3 hres0 hco2 hco3 ⊢
      have HFL := Lib.hid f3
      have hkN : k < N := by rw [← f3]; exact hk
      have hkz : (k : Int) < (N : Int) := by omega
      clear f2
      go_upto_region 8 with (go_at_call 37; refine (sameOrderP_self (.slice a2L _ C2L) (.slice a3L _ C3L) (L) _ (H3.out.rows 1 rfl) (H3.out.rows 0 rfl)).mono ?_; rintro e W4 ⟨rfl, hb⟩; have H4 := Lib.hid (H3.out.step hb); have hco2 := H4.out.cell 1 rfl; have hco3 := H4.out.cell 0 rfl; clear hb H3)
      clear hco3
      have hc0 := (H4.out.cell 3 rfl)
      have hc1 := (H4.out.cell 2 rfl)
      have hcF := HCF.out W4 (H4.out.rows 3 rfl) (H4.out.rows 2 rfl) (HTT.out.below H4.out.below)
      go_upto_region 9 with (go_at_call 30; refine hcF.mono ?_; clear hcF; rintro e W5 ⟨v5, rfl, ho, hb⟩; have H5 := Lib.hid ((H4.out.step hb).push (i := .ord v5 FL) ho.at); rw [f3] at ho; obtain ⟨a5, C5, rfl⟩ := ho.form; clear ho hb)
      clear hco2 hc0 hc1 f3
      have hco2 := (H5.out.cell 2 rfl)
      have hcE := implLeast_any (.slice a2L N C2L) L W5 (H5.out.rows 2 rfl) (HTT.out.below H5.out.below) HBL.out
      rw [F4.out] at hcE
      go_upto_region 10 with (go_at_call 38; refine hcE.mono ?_; clear hcE; rintro e W6 ⟨rfl, hb⟩; have H6 := Lib.hid (H5.out.step hb); clear hb)
      clear hco2 H5
      have HROW := Lib.hid (fun W (h : RowsAt W (.slice a5 N C5) FL) => (by obtain ⟨A0, C0', e0, _, _, hx⟩ := h; injection e0 with e1 e2 e3; subst e1; exact hx k hk : ∃ b o u, a5 = some ⟨b, o, none⟩ ∧ W.cell? ⟨b, o + k, none⟩ = some u ∧ IntsAt W u FL[k]))
      have hc0 := (H6.out.cell 4 rfl)
      go_wp2
      clear hc0
      go_loopw [12] (fun iv wr => ∃ i : Nat, i ≤ r0.length ∧ iv = .int .i64 i ∧ Ks w (.ord (.slice a5 N C5) FL :: [.box bo3 (.slice a3L N C3L) (L), .box bo2 (.slice a2L N C2L) (L), .box (B + 1) (.slice a1 r1.length C1) r1, .box (B) (.slice a0 r0.length C0) r0, .ord (.slice a1 r1.length C1) r1, .ord (.slice a0 r0.length C0) r0]) wr) (fun iv _ => r0.length - (intOf iv).toNat)
      case atStart => exact ⟨0, Nat.zero_le _, rfl, H6.out⟩
      case round =>
        obtain ⟨i, hi, rfl, hh⟩ := hrel
        have HK := Lib.hid hh
        clear hh H6
        have hc0 := (HK.out.cell 4 rfl)
        by_cases hlt : i < r0.length
        · have hltz : (i : Int) < (r0.length : Int) := by omega
          obtain ⟨b0, o0, u, e, hcu, hu⟩ := HROW.out wr (HK.out.ord 0 rfl)
          cases e
          obtain ⟨A1, C1', rfl, hC1, hm1, _, hy⟩ := hu
          have hif : i < FL[k].length := by rw [F5.out]; exact hlt
          obtain ⟨b1, o1, e, hcx⟩ := hy i hif
          cases e
          rw [F6.out i hif] at hcx
          rw [F5.out] at hcu
          have hst := fun d os => HK.out.step (below_regrown wr d os)
          have hcB := fun d os => Calls.regrown_of (d := d) (os := os) (implLeast_any (.slice a1 r1.length C1) r1 _ ((hst d os).rows 3 rfl) (HTT.out.below (hst d os).below) HB1.out)
          generalize leastB r1 = y at hcx hcB
          have hq0 := fun d os => cell_regrown hcu d os
          have hq1 := fun d os => cell_regrown hcx d os
          have hq2 := fun d os => cell_regrown (HK.out.cell 3 rfl) d os
          clear hy hst hcx
          go_wp2
          clear hc0
          refine wp_region_quiet_below (by kernel_rfl) (by kernel_rfl) ?_
          repeat (first | rw [bne_self_eq_false] | rw [Bool.not_true] | rw [Bool.not_false] | go_big_quiet_step (first | (go_at_call_of 38 (#[Value.agg #[Value.slice a1 r1.length C1]]); exact hcB _ _)))
          refine wpQuiet_nil ?_
          intro _ hw'
          obtain ⟨⟨dq, osq⟩, hw''⟩ := hw'
          subst hw''
          clear hcB hq0 hq1 hq2
          go_wp2
          go_roundw
          case rel => exact ⟨i + 1, by omega, by go_num, HK.out.step (below_regrown wr dq osq)⟩
          case measure => simp [intOf]; omega
        · have hltz : ¬ (i : Int) < (r0.length : Int) := by omega
          have hco2 := (HK.out.cell 2 rfl)
          have hcD := implDom_any (.slice a2L N C2L) L wr (HK.out.rows 2 rfl) (HTT.out.below HK.out.below) HBL.out
          rw [F1.out] at hcD
          go_wp2_with (first | (go_at_call 39; refine hcD.mono ?_; clear hcD; rintro e W9 ⟨rfl, hb⟩; have H9 := Lib.hid (HK.out.step hb); have hd0 := (H9.out.cell 4 rfl); have hd1 := (H9.out.cell 3 rfl); have hdp := (H9.out.cell 2 rfl); clear hb) | (go_at_call 40; refine (HCN.out W9 (H9.out.rows 4 rfl) (H9.out.rows 3 rfl) (HTT.out.below H9.out.below)).mono ?_; rintro e W10 ⟨rfl, hb⟩; have H10 := Lib.hid (H9.out.step hb); clear hb))
          go_ret
          exact ⟨rfl, H10.out.below⟩
end Go.Proofs.YtkomghohdhengaaDoor
