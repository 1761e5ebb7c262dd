/- The law FnFunJoin: joins of functions are joins in the function domain. -/
import Derived.Test.YtkomghohdhengaaDoorKsk
import Derived.Test.YtkomghohdhengaaDoorDrCk
import Derived.Test.YtkomghohdhengaaDoorFunsQk
import Derived.Test.YtkomghohdhengaaDoorPc26
import Derived.Test.YtkomghohdhengaaDoorPc36
import Derived.Test.YtkomghohdhengaaDoorPc37
import Derived.Test.YtkomghohdhengaaDoorPc38
import Derived.Test.YtkomghohdhengaaDoorPc19
import Derived.Test.YtkomghohdhengaaDoorPc20
import Derived.Test.YtkomghohdhengaaDoorPc24
namespace Go.Proofs.YtkomghohdhengaaDoor
open Go.RowKit Go.Deep Go.Shelf

theorem fjoin_len (rows rows' : Rows2) (f g : List Int) (hf : f.length ≤ 200) : (fjoinL rows rows' f g).length ≤ 1048576 := by
  unfold fjoinL
  split
  · rw [bothN_length]; omega
  · exact Nat.zero_le _

set_option maxRecDepth 100000 in
set_option maxHeartbeats 16000000 in
theorem lawFJoinP (v : Value) (w : World) (hv : CodeAt w.heap.size w v) (hT : Tab w) : Calls Tryd.prog 3 #[v] w (SaysN true w) := by
  have hdraw := drawFJoin_any v w hv
  obtain ⟨a, n, C, rfl, hnC, hCm, _⟩ := hv
  unfold maxLen at hCm
  have HTT := Lib.hid hT
  clear hT
  by_cases hn : 1048576 < n
  · have hz : (1048576 : Int) < (n : Int) := by omega
    clear hdraw
    go_enter Tryd.func3, Tryd.ntmps3
    go_wp2
    go_ret
    exact ⟨rfl, Below.refl _ _⟩
  · have hz : ¬ (1048576 : Int) < (n : Int) := by omega
    go_enter Tryd.func3, Tryd.ntmps3
    go_upto_region 4 with (go_at_call 16; refine hdraw.mono ?_; clear hdraw; rintro e w1 ⟨r0, u0, r1, u1, x2, ux2, x3, ux3, rfl, hr0, hr1, hr2, hr3, hk0, hk1, hk2, hk3, hb⟩; obtain ⟨a0, C0, rfl⟩ := hr0.form; obtain ⟨a1, C1, rfl⟩ := hr1.form; obtain ⟨ax2, Cx2, rfl⟩ := hr2.form; obtain ⟨ax3, Cx3, rfl⟩ := hr3.form; have HBW := Lib.hid hb; have HR0 := Lib.hid hr0.at; have HR1 := Lib.hid hr1.at; have HR2 := Lib.hid hr2.at; have HR3 := Lib.hid hr3.at; clear hb hr0 hr1 hr2 hr3)
    have HB0 := Lib.hid (show bulk r0 ≤ 1048576 by omega)
    have HB1 := Lib.hid (show bulk r1 ≤ 1048576 by omega)
    have HL2 := Lib.hid (show x2.length ≤ 200 from hk2)
    have HL3 := Lib.hid (show x3.length ≤ 200 from hk3)
    clear hk0 hk1 hk2 hk3
    have H0 := Lib.hid ((((((Ks.start w).step HBW.out).push (i := .ints (.slice ax2 x2.length Cx2) x2) HR2.out).push (i := .ints (.slice ax3 x3.length Cx3) x3) HR3.out).push (i := .ord (.slice a0 r0.length C0) r0) HR0.out).push (i := .ord (.slice a1 r1.length C1) r1) HR1.out)
    have HX0 := Lib.hid (H0.out.box (H0.out.ord 1 rfl))
    have HX1 := Lib.hid (HX0.out.box (HX0.out.ord 1 rfl))
    have H1 : Hid (Ks w [.box (w1.heap.size + 1) (.slice a1 r1.length C1) r1, .box (w1.heap.size) (.slice a0 r0.length C0) r0, .ord (.slice a1 r1.length C1) r1, .ord (.slice a0 r0.length C0) r0, .ints (.slice ax3 x3.length Cx3) x3, .ints (.slice ax2 x2.length Cx2) x2] ((w1.alloc (.cells #[.slice a0 r0.length C0] 25)).alloc (.cells #[.slice a1 r1.length C1] 25))) := Lib.hid (by have h := HX1.out; (try simp only [World.size_alloc] at h); exact h)
    clear H0 HX0 HX1 HR0 HR1 HR2 HR3 HBW
    generalize ((w1.alloc (.cells #[.slice a0 r0.length C0] 25)).alloc (.cells #[.slice a1 r1.length C1] 25)) = W1 at H1 ⊢
    generalize w1.heap.size = B at H1 ⊢
    have hc0 := H1.out.cell 1 rfl
    have hc1 := H1.out.cell 0 rfl
    have hci := implFunJoin_any (.slice a0 r0.length C0) (.slice a1 r1.length C1) (.slice ax2 x2.length Cx2) (.slice ax3 x3.length Cx3) r0 r1 x2 x3 W1 (H1.out.rows 1 rfl) (H1.out.rows 0 rfl) (H1.out.ints 5 rfl) (H1.out.ints 4 rfl) (HTT.out.below H1.out.below) HB0.out HB1.out
    go_upto_region 5 with (go_at_call 17; refine hci.mono ?_; clear hci; rintro e W2 ⟨v2, rfl, ho, hb⟩; have H2 := Lib.hid ((H1.out.step hb).push (i := .ints v2 (fjoinL r0 r1 x2 x3)) ho.at); obtain ⟨a2L, C2L, rfl⟩ := ho.form; clear ho hb)
    clear hc0 hc1
    have hc0 := H2.out.cell 2 rfl
    have hc1 := H2.out.cell 1 rfl
    have hcs := specFunJoin_any (.slice a0 r0.length C0) (.slice a1 r1.length C1) (.slice ax2 x2.length Cx2) (.slice ax3 x3.length Cx3) r0 r1 x2 x3 W2 (H2.out.rows 2 rfl) (H2.out.rows 1 rfl) (H2.out.ints 6 rfl) (H2.out.ints 5 rfl) HB0.out HB1.out
    go_upto_region 6 with (go_at_call 18; refine hcs.mono ?_; clear hcs; rintro e W3 ⟨v3, rfl, ho, hb⟩; have H3 := Lib.hid ((H2.out.step hb).push (i := .ints v3 (fjoinL r0 r1 x2 x3)) ho.at); obtain ⟨a3L, C3L, rfl⟩ := ho.form; clear ho hb)
    clear hc0 hc1
    clear H1 H2
    have HFACT := Lib.hid (fact_fjoin (rows := r0) (rows' := r1) (f := x2) (g := x3))
    have HRES0 := Lib.hid (show (fjoinL r0 r1 x2 x3).length ≤ 1048576 by exact fjoin_len r0 r1 x2 x3 HL2.out)
    have hres0 := HRES0.out
    cases hq : fjoinOk r0 r1 x2 x3 with
    | false =>
      clear HFACT hq
      go_wp2_with (first | (go_at_call 19; refine (sameInts_self (.slice a2L _ C2L) (.slice a3L _ C3L) (fjoinL r0 r1 x2 x3) _ (H3.out.ints 1 rfl) (H3.out.ints 0 rfl)).mono ?_; rintro e W4 ⟨rfl, hb⟩; have H4 := Lib.hid (H3.out.step hb); clear hb H3) | (go_at_call 19; refine (sameInts_self (.slice a2L _ C2L) (.slice a3L _ C3L) (fjoinL r0 r1 x2 x3) _ (H4.out.ints 1 rfl) (H4.out.ints 0 rfl)).mono ?_; rintro e W5 ⟨rfl, hb⟩; have H5 := Lib.hid (H4.out.step hb); clear hb H4))
      go_ret
      exact ⟨rfl, H5.out.below⟩
    | true =>
      obtain ⟨f1, f2, f3⟩ := HFACT.out hq
      clear HFACT hq
      generalize hL : fjoinL r0 r1 x2 x3 = L at H3 HRES0 hres0 f1 f2 f3 ⊢
      clear hL
      have F1 := Lib.hid f1
      have F2 := Lib.hid f2
      have F3 := Lib.hid f3
      clear f1 f2 f3
      go_upto_region 8 with (go_at_call 19; refine (sameInts_self (.slice a2L _ C2L) (.slice a3L _ C3L) (L) _ (H3.out.ints 1 rfl) (H3.out.ints 0 rfl)).mono ?_; rintro e W4 ⟨rfl, hb⟩; have H4 := Lib.hid (H3.out.step hb); clear hb H3)
      have hc0 := (H4.out.cell 3 rfl)
      have hc1 := (H4.out.cell 2 rfl)
      have hcW := implFun_any (.slice a0 r0.length C0) (.slice a1 r1.length C1) r0 r1 W4 (H4.out.rows 3 rfl) (H4.out.rows 2 rfl) (HTT.out.below H4.out.below) HB0.out HB1.out
      go_upto_region 9 with (go_at_call 20; refine hcW.mono ?_; clear hcW; rintro e W5 ⟨vw, rfl, ho, hb⟩; have H5 := Lib.hid ((H4.out.step hb).box ho.at); obtain ⟨aw, Cw, rfl⟩ := ho.form; clear ho hb)
      have HBW := Lib.hid (fun_bulk r0 r1)
      generalize W5.alloc (.cells #[.slice aw (funL r0 r1).length Cw] 25) = X5 at H5 ⊢
      generalize W5.heap.size = bw at H5 ⊢
      clear hc0 hc1
      have hc0 := (H5.out.cell 4 rfl)
      have hc1 := (H5.out.cell 3 rfl)
      have hcA := implIndex_any (.slice a0 r0.length C0) (.slice a1 r1.length C1) (.slice ax2 x2.length Cx2) r0 r1 x2 X5 (H5.out.rows 4 rfl) (H5.out.rows 3 rfl) (H5.out.ints 8 rfl) (HTT.out.below H5.out.below) HB0.out HB1.out
      go_upto_region 10 with (go_at_call 21; refine hcA.mono ?_; clear hcA; rintro e W6 ⟨rfl, hb⟩; have H6 := Lib.hid (H5.out.step hb); clear hb)
      clear hc0 hc1
      have hc0 := (H6.out.cell 4 rfl)
      have hc1 := (H6.out.cell 3 rfl)
      have hcB := implIndex_any (.slice a0 r0.length C0) (.slice a1 r1.length C1) (.slice ax3 x3.length Cx3) r0 r1 x3 W6 (H6.out.rows 4 rfl) (H6.out.rows 3 rfl) (H6.out.ints 7 rfl) (HTT.out.below H6.out.below) HB0.out HB1.out
      go_upto_region 11 with (go_at_call 21; refine hcB.mono ?_; clear hcB; rintro e W7 ⟨rfl, hb⟩; have H7 := Lib.hid (H6.out.step hb); clear hb)
      clear hc0 hc1
      have hq0 := fun d os => cell_regrown (H7.out.cell 4 rfl) d os
      have hq1 := fun d os => cell_regrown (H7.out.cell 3 rfl) d os
      have hqw := fun d os => cell_regrown (H7.out.cell 0 rfl) d os
      have hst := fun d os => H7.out.step (below_regrown W7 d os)
      have HF1 := fun W (h : Ks w (.box bw (.slice aw (funL r0 r1).length Cw) (funL r0 r1) :: [.ints (.slice a3L (L).length C3L) (L), .ints (.slice a2L (L).length C2L) (L), .box (B + 1) (.slice a1 r1.length C1) r1, .box (B) (.slice a0 r0.length C0) r0, .ord (.slice a1 r1.length C1) r1, .ord (.slice a0 r0.length C0) r0, .ints (.slice ax3 x3.length Cx3) x3, .ints (.slice ax2 x2.length Cx2) x2]) W) => implFunBelow_any (.slice a0 r0.length C0) (.slice a1 r1.length C1) (.slice ax2 x2.length Cx2) (.slice a2L L.length C2L) r0 r1 x2 L W (h.rows 4 rfl) (h.rows 3 rfl) (h.ints 8 rfl) (h.ints 2 rfl) (HTT.out.below h.below) HB0.out HB1.out
      rw [F1.out] at HF1
      have HF2 := fun W (h : Ks w (.box bw (.slice aw (funL r0 r1).length Cw) (funL r0 r1) :: [.ints (.slice a3L (L).length C3L) (L), .ints (.slice a2L (L).length C2L) (L), .box (B + 1) (.slice a1 r1.length C1) r1, .box (B) (.slice a0 r0.length C0) r0, .ord (.slice a1 r1.length C1) r1, .ord (.slice a0 r0.length C0) r0, .ints (.slice ax3 x3.length Cx3) x3, .ints (.slice ax2 x2.length Cx2) x2]) W) => implFunBelow_any (.slice a0 r0.length C0) (.slice a1 r1.length C1) (.slice ax3 x3.length Cx3) (.slice a2L L.length C2L) r0 r1 x3 L W (h.rows 4 rfl) (h.rows 3 rfl) (h.ints 7 rfl) (h.ints 2 rfl) (HTT.out.below h.below) HB0.out HB1.out
      rw [F2.out] at HF2
      have hcF1 := fun d os => Calls.regrown_of (d := d) (os := os) (HF1 _ (hst d os))
      have hcF2 := fun d os => Calls.regrown_of (d := d) (os := os) (HF2 _ (hst d os))
      have hcJ := fun d os => Calls.regrown_of (d := d) (os := os) (implJoin_any (.slice aw (funL r0 r1).length Cw) (funL r0 r1) (indexI r0 r1 x2) (indexI r0 r1 x3) _ ((hst d os).rows 0 rfl) (HTT.out.below (hst d os).below) HBW.out)
      have hcI := fun d os => Calls.regrown_of (d := d) (os := os) (implIndex_any (.slice a0 r0.length C0) (.slice a1 r1.length C1) (.slice a2L L.length C2L) r0 r1 L _ ((hst d os).rows 4 rfl) ((hst d os).rows 3 rfl) ((hst d os).ints 2 rfl) (HTT.out.below (hst d os).below) HB0.out HB1.out)
      clear HF1 HF2 hst
      cases hbf : funB r0 r1 with
      | false =>
        clear F3
        refine wp_region_quiet_below (by kernel_rfl) (by kernel_rfl) ?_
        repeat (first | rw [beq_self_eq_true] | rw [Bool.not_true] | rw [Bool.not_false] | go_big_quiet_step (first | (go_at_call_of 22 (#[Value.agg #[Value.slice a0 r0.length C0], Value.agg #[Value.slice a1 r1.length C1], Value.slice ax2 x2.length Cx2, Value.slice a2L L.length C2L]); exact hcF1 _ _) | (go_at_call_of 22 (#[Value.agg #[Value.slice a0 r0.length C0], Value.agg #[Value.slice a1 r1.length C1], Value.slice ax3 x3.length Cx3, Value.slice a2L L.length C2L]); exact hcF2 _ _)))
        refine wpQuiet_nil ?_
        intro _ hw'
        obtain ⟨⟨dq, osq⟩, hw''⟩ := hw'
        subst hw''
        clear hcF1 hcF2 hcJ hcI hq0 hq1 hqw
        go_wp2
        go_ret
        exact ⟨rfl, (H7.out.step (below_regrown W7 dq osq)).below⟩
      | true =>
        have g := F3.out hbf
        simp only [g] at hcJ
        generalize indexI r0 r1 L = y at hcJ hcI
        generalize indexI r0 r1 x2 = ya at hcJ ⊢
        generalize indexI r0 r1 x3 = yb at hcJ ⊢
        clear F3 g hbf
        refine wp_region_quiet_below (by kernel_rfl) (by kernel_rfl) ?_
        repeat (first | rw [beq_self_eq_true] | rw [Bool.not_true] | rw [Bool.not_false] | go_big_quiet_step (first | (go_at_call_of 22 (#[Value.agg #[Value.slice a0 r0.length C0], Value.agg #[Value.slice a1 r1.length C1], Value.slice ax2 x2.length Cx2, Value.slice a2L L.length C2L]); exact hcF1 _ _) | (go_at_call_of 22 (#[Value.agg #[Value.slice a0 r0.length C0], Value.agg #[Value.slice a1 r1.length C1], Value.slice ax3 x3.length Cx3, Value.slice a2L L.length C2L]); exact hcF2 _ _) | (go_at_call_of 23 (#[Value.agg #[Value.slice aw (funL r0 r1).length Cw], Value.int .i64 ya, Value.int .i64 yb]); exact hcJ _ _) | (go_at_call_of 21 (#[Value.agg #[Value.slice a0 r0.length C0], Value.agg #[Value.slice a1 r1.length C1], Value.slice a2L L.length C2L]); exact hcI _ _)))
        refine wpQuiet_nil ?_
        intro _ hw'
        obtain ⟨⟨dq, osq⟩, hw''⟩ := hw'
        subst hw''
        clear hcF1 hcF2 hcJ hcI hq0 hq1 hqw
        go_wp2
        go_ret
        exact ⟨rfl, (H7.out.step (below_regrown W7 dq osq)).below⟩
end Go.Proofs.YtkomghohdhengaaDoor
