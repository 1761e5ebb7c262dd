/- The law FnStep: a step is the least function that has so much. -/
import Derived.Test.YtjfbjfclcpcaiaaDoorKsk
import Derived.Test.YtjfbjfclcpcaiaaDoorDrXk
import Derived.Test.YtjfbjfclcpcaiaaDoorAfterQk
import Derived.Test.YtjfbjfclcpcaiaaDoorPb25
import Derived.Test.YtjfbjfclcpcaiaaDoorPb20
import Derived.Test.YtjfbjfclcpcaiaaDoorPb24
import Derived.Test.YtjfbjfclcpcaiaaDoorPb13
namespace Go.Proofs.YtjfbjfclcpcaiaaDoor
open Go.RowKit Go.Deep Go.Shelf

theorem step_len (rows rows' : Rows2) (a b : Int) (h : bulk rows ≤ 1048576) : (stepL rows rows' a b).length ≤ 1048576 := by
  unfold stepL
  split
  · rw [stepN_length]; unfold bulk at h; omega
  · exact Nat.zero_le _
theorem top_value {b m n : Nat} (hb : b < 200) (hm : m ≤ 1048576) (hn : 0 < n) : ∃ t : Nat, t < n ∧ (((b : Int) * (m : Int) + (m : Int)) % (n : Int) = (t : Int)) ∧ (IntKind.i64.wrap ((b : Int) * (m : Int)) = (b : Int) * (m : Int) ∧ IntKind.i64.wrap ((b : Int) * (m : Int) + (m : Int)) = (b : Int) * (m : Int) + (m : Int)) ∧ 0 ≤ (b : Int) * (m : Int) + (m : Int) := by
  refine ⟨(b * m + m) % n, Nat.mod_lt _ hn, by rw [Int.natCast_emod, Int.natCast_add, Int.natCast_mul], ?_, ?_⟩
  · have h1 := Nat.mul_le_mul (show b ≤ 200 by omega) hm
    rw [← Int.natCast_mul]
    generalize b * m = q at h1
    exact ⟨IntWalk.i64_in _ (by omega), IntWalk.i64_in _ (by omega)⟩
  · rw [← Int.natCast_mul]
    omega

set_option maxRecDepth 100000 in
set_option maxHeartbeats 16000000 in
theorem lawStepP (v vm : Value) (w : World) (hv : CodeAt w.heap.size w v) (hvm : CodeAt w.heap.size w vm) (hT : Tab w) : Calls Tryd.prog 13 #[v, vm] w (SaysN true w) := by
  have hdraw := drawStep_any v w hv
  obtain ⟨a, n, C, rfl, hnC, hCm, _⟩ := hv
  obtain ⟨am, nm, Cm, rfl, hnCm, hCmm, _⟩ := hvm
  unfold maxLen at hCm hCmm
  have HTT := Lib.hid hT
  clear hT
  by_cases hn : 1048576 < n
  · have hz : (1048576 : Int) < (n : Int) := by omega
    clear hdraw
    go_enter Tryd.func13, Tryd.ntmps13
    go_wp2
    go_ret
    exact ⟨rfl, Below.refl _ _⟩
  · have hz : ¬ (1048576 : Int) < (n : Int) := by omega
    by_cases hnm : 1048576 < nm
    · have hzm : (1048576 : Int) < (nm : Int) := by omega
      clear hdraw
      go_enter Tryd.func13, Tryd.ntmps13
      go_wp2
      go_ret
      exact ⟨rfl, Below.refl _ _⟩
    · have hzm : ¬ (1048576 : Int) < (nm : Int) := by omega
      go_enter Tryd.func13, Tryd.ntmps13
      go_upto_region 4 with (go_at_call 58; refine hdraw.mono ?_; clear hdraw; rintro e w1 ⟨r0, u0, r1, u1, z2, z3, rfl, hr0, hr1, hk0, hk1, hb⟩; obtain ⟨a0, C0, rfl⟩ := hr0.form; obtain ⟨a1, C1, rfl⟩ := hr1.form; have HBW := Lib.hid hb; have HR0 := Lib.hid hr0.at; have HR1 := Lib.hid hr1.at; clear hb hr0 hr1)
      have HB0 := Lib.hid (show bulk r0 ≤ 1048576 by omega)
      have HB1 := Lib.hid (show bulk r1 ≤ 1048576 by omega)
      clear hk0 hk1
      have H0 := Lib.hid ((((Ks.start w).step HBW.out).push (i := .ord (.slice a0 r0.length C0) r0) HR0.out).push (i := .ord (.slice a1 r1.length C1) r1) HR1.out)
      have HX0 := Lib.hid (H0.out.box (H0.out.ord 1 rfl))
      have HX1 := Lib.hid (HX0.out.box (HX0.out.ord 1 rfl))
      have H1 : Hid (Ks w [.box (w1.heap.size + 1) (.slice a1 r1.length C1) r1, .box (w1.heap.size) (.slice a0 r0.length C0) r0, .ord (.slice a1 r1.length C1) r1, .ord (.slice a0 r0.length C0) r0] ((w1.alloc (.cells #[.slice a0 r0.length C0] 25)).alloc (.cells #[.slice a1 r1.length C1] 25))) := Lib.hid (by have h := HX1.out; (try simp only [World.size_alloc] at h); exact h)
      clear H0 HX0 HX1 HR0 HR1 HBW
      generalize ((w1.alloc (.cells #[.slice a0 r0.length C0] 25)).alloc (.cells #[.slice a1 r1.length C1] 25)) = W1 at H1 ⊢
      generalize w1.heap.size = B at H1 ⊢
      have hc0 := H1.out.cell 1 rfl
      have hc1 := H1.out.cell 0 rfl
      have hci := implStep_any (.slice a0 r0.length C0) (.slice a1 r1.length C1) r0 r1 z2 z3 W1 (H1.out.rows 1 rfl) (H1.out.rows 0 rfl) (HTT.out.below H1.out.below) HB0.out HB1.out
      go_upto_region 5 with (go_at_call 59; refine hci.mono ?_; clear hci; rintro e W2 ⟨v2, rfl, ho, hb⟩; have H2 := Lib.hid ((H1.out.step hb).push (i := .ints v2 (stepL r0 r1 z2 z3)) ho.at); obtain ⟨a2L, C2L, rfl⟩ := ho.form; clear ho hb)
      clear hc0 hc1
      have hc0 := H2.out.cell 2 rfl
      have hc1 := H2.out.cell 1 rfl
      have hcs := specStep_any (.slice a0 r0.length C0) (.slice a1 r1.length C1) r0 r1 z2 z3 W2 (H2.out.rows 2 rfl) (H2.out.rows 1 rfl) HB0.out HB1.out
      go_upto_region 6 with (go_at_call 60; refine hcs.mono ?_; clear hcs; rintro e W3 ⟨v3, rfl, ho, hb⟩; have H3 := Lib.hid ((H2.out.step hb).push (i := .ints v3 (stepL r0 r1 z2 z3)) ho.at); obtain ⟨a3L, C3L, rfl⟩ := ho.form; clear ho hb)
      clear hc0 hc1
      clear H1 H2
      have HFACT := Lib.hid (fact_step (rows := r0) (rows' := r1) (a := z2) (b := z3))
      have HRES0 := Lib.hid (show (stepL r0 r1 z2 z3).length ≤ 1048576 by exact step_len r0 r1 z2 z3 HB0.out)
      have hres0 := HRES0.out
      cases hq : stepOk r0 r1 z2 z3 with
      | false =>
        clear HFACT hq
        go_wp2_with (first | (go_at_call 43; refine (sameInts_self (.slice a2L _ C2L) (.slice a3L _ C3L) (stepL r0 r1 z2 z3) _ (H3.out.ints 1 rfl) (H3.out.ints 0 rfl)).mono ?_; rintro e W4 ⟨rfl, hb⟩; have H4 := Lib.hid (H3.out.step hb); clear hb H3) | (go_at_call 43; refine (sameInts_self (.slice a2L _ C2L) (.slice a3L _ C3L) (stepL r0 r1 z2 z3) _ (H4.out.ints 1 rfl) (H4.out.ints 0 rfl)).mono ?_; rintro e W5 ⟨rfl, hb⟩; have H5 := Lib.hid (H4.out.step hb); clear hb H4))
        go_ret
        exact ⟨rfl, H5.out.below⟩
      | true =>
        obtain ⟨i0, hi0, ⟨hi1, f1⟩, f2, hi2, hb, hn, f3⟩ := HFACT.out hq
        subst hi0
        obtain ⟨b0, rfl⟩ : ∃ b0 : Nat, z3 = (b0 : Int) := ⟨z3.toNat, by omega⟩
        obtain ⟨t, ht, e1, ⟨e2, e3⟩, e4⟩ := top_value (b := b0) (m := nm) (n := r1.length) (by omega) (by omega) hn.1
        obtain ⟨f3, f4⟩ := f3 t ht
        clear HFACT hq
        generalize hL : stepL r0 r1 (i0 : Int) (b0 : Int) = L at H3 HRES0 hres0 hi1 f1 f2 f4 ⊢
        clear hL
        have hn1e : ((r1.length : Int) == 0) = false := by rw [beq_eq_false_iff_ne]; omega
        have hr0 : r0.length ≤ 1048576 := by have := HB0.out; unfold bulk at this; omega
        have F1 := Lib.hid f1
        have F2 := Lib.hid f2
        have F3 := Lib.hid f3
        have F4 := Lib.hid f4
        clear f1 f2 f3 f4 hb
        go_upto_region 8 with (go_at_call 43; refine (sameInts_self (.slice a2L _ C2L) (.slice a3L _ C3L) (L) _ (H3.out.ints 1 rfl) (H3.out.ints 0 rfl)).mono ?_; rintro e W4 ⟨rfl, hb⟩; have H4 := Lib.hid (H3.out.step hb); clear hb H3)
        have HMADE := Lib.hid (World.ownsRow_made (e := 3) (size := 1) W4 #[] 0 (base := W4.heap.size) (Nat.le_refl _) (Nat.zero_le _) (by simp))
        have HB := Lib.hid ((Below.refl W4.heap.size W4).alloc (Nat.le_refl _) (.cells #[] 3))
        obtain ⟨j0, hj0, hz0, hz1, hz2⟩ := info_parts infoInt
        go_wp2
        go_loopw [13, 14] (fun rv iv wx => ∃ i : Nat, i ≤ r0.length ∧ iv = .int .i64 i ∧ Below W4.heap.size W4 wx ∧ wx.ownsRow W4.heap.size 3 1 rv i (cellsI (repL i t))) (fun _ iv _ => r0.length - (intOf iv).toNat)
        case atStart => exact ⟨0, Nat.zero_le _, rfl, HB.out, HMADE.out⟩
        case round =>
          obtain ⟨i, hi, rfl, hb, hown⟩ := hrel
          have HBX := Lib.hid hb
          have HOW := Lib.hid hown
          have HX := Lib.hid (H4.out.step hb)
          obtain ⟨ar, Cr, rfl⟩ := owns_form hown
          have hsz := hb.size
          have hc0 := (HX.out.cell 3 rfl)
          have hc1 := (HX.out.cell 2 rfl)
          clear hb hown HB HMADE
          by_cases hlt : i < r0.length
          · have hltz : (i : Int) < (r0.length : Int) := by omega
            go_wp2_with (at_builtin; refine wpList_append_own _ rfl _ _ 42 rfl W4.heap.size 3 j0 (.int .i64 0) 1 8 Tryd.underlying42 hj0 hz0 hz1 hz2 rfl (by decide) _ _ _ rfl (HOW.out.alloc _) ⟨wr.heap.size, 0, none⟩ 1 1 [.int .i64 (t : Int)] rfl rfl (cell_one_new _ _ _) (by simp [Value.oneCell']) (by unfold maxLen; omega) (by omega) (by simp; omega) ?_; intro v' w3 hown' hgrow _)
            go_roundw
            case rel =>
              refine ⟨i + 1, by omega, by go_num, ?_, ?_⟩
              · have hal := (Below.refl wr.heap.size wr).alloc (Nat.le_refl _) (.cells #[.int .i64 (t : Int)] 3)
                exact HBX.out.trans ((hal.mono HBX.out.size).trans ⟨hgrow.os, hgrow.tape, hgrow.output, hgrow.size, fun b hb => hgrow.block b (by rw [World.size_alloc]; omega) (fun e => by have := (HOW.out.lt b e.symm).1; omega)⟩)
              · rw [repL_succ, show cellsI (repL i t ++ [(t : Int)]) = cellsI (repL i t) ++ [.int .i64 (t : Int)] by simp]
                exact hown'
            case measure => simp [intOf]; omega
          · obtain rfl : i = r0.length := by omega
            have hltz : ¬ (r0.length : Int) < (r0.length : Int) := by omega
            have ho : wr.ownsRow W4.heap.size 3 1 (.slice ar r0.length Cr) (repL r0.length t).length (cellsI (repL r0.length t)) := by rw [repL_len]; exact HOW.out
            have hat := (OwnI.of_owns ho (fun y hy => by unfold repL at hy; rw [List.mem_map] at hy; obtain ⟨_, _, rfl⟩ := hy; exact wf_int (by omega) (by omega)) (fun b hb => (HOW.out.lt b hb).2)).at
            have H5 := Lib.hid (HX.out.push (i := .ints (.slice ar r0.length Cr) (repL r0.length t)) hat)
            have hcF := implMono_any (.slice a0 r0.length C0) (.slice a1 r1.length C1) (.slice ar r0.length Cr) r0 r1 (repL r0.length t) wr (H5.out.rows 4 rfl) (H5.out.rows 3 rfl) (H5.out.ints 0 rfl) (HTT.out.below H5.out.below) HB0.out HB1.out
            rw [F3.out] at hcF
            go_upto_region 15 with (go_at_call 37; refine hcF.mono ?_; clear hcF; rintro e W6 ⟨rfl, hb⟩; have H6 := Lib.hid (H5.out.step hb); clear hb)
            clear ho hat hc0 hc1 HX HOW HBX
            have hlz : (i0 : Int) < (L.length : Int) := by omega
            obtain ⟨bl, ol, e5, hcl⟩ := (H6.out.ints 2 rfl).get hi1
            cases e5
            rw [F1.out] at hcl
            have hir : i0 < (repL r0.length t).length := by rw [repL_len]; exact hi2
            have hrz : (i0 : Int) < (r0.length : Int) := by omega
            obtain ⟨bt, ot, e6, hct⟩ := (show ∃ b o, ar = some ⟨b, o, none⟩ ∧ W6.cell? ⟨b, o + i0, none⟩ = some (.int .i64 (t : Int)) by
              have h := H6.out.ints 0 rfl
              obtain ⟨A1, C1', e, _, _, _, hx⟩ := h
              injection e with h1 h2 h3
              subst h1
              obtain ⟨b, o, e2, hc⟩ := hx i0 hir
              rw [repL_get] at hc
              exact ⟨b, o, e2, hc⟩)
            cases e6
            have hq0 := fun d os => cell_regrown (H6.out.cell 4 rfl) d os
            have hq1 := fun d os => cell_regrown (H6.out.cell 3 rfl) d os
            have hql := fun d os => cell_regrown hcl d os
            have hqt := fun d os => cell_regrown hct d os
            have hst := fun d os => H6.out.step (below_regrown W6 d os)
            have hcM := fun d os => Calls.regrown_of (d := d) (os := os) (implMono_any (.slice a0 r0.length C0) (.slice a1 r1.length C1) (.slice (some ⟨bl, ol, none⟩) L.length C2L) r0 r1 L _ ((hst d os).rows 4 rfl) ((hst d os).rows 3 rfl) ((hst d os).ints 2 rfl) (HTT.out.below (hst d os).below) HB0.out HB1.out)
            have hcB := fun d os => Calls.regrown_of (d := d) (os := os) (implFunBelow_any (.slice a0 r0.length C0) (.slice a1 r1.length C1) (.slice (some ⟨bl, ol, none⟩) L.length C2L) (.slice (some ⟨bt, ot, none⟩) r0.length Cr) r0 r1 L (repL r0.length t) _ ((hst d os).rows 4 rfl) ((hst d os).rows 3 rfl) ((hst d os).ints 2 rfl) ((hst d os).ints 0 rfl) (HTT.out.below (hst d os).below) HB0.out HB1.out)
            have hcO := fun d os => Calls.regrown_of (d := d) (os := os) (implBelow_any (.slice a1 r1.length C1) r1 (b0 : Int) (t : Int) _ ((hst d os).rows 3 rfl) (HTT.out.below (hst d os).below) HB1.out)
            simp only [F2.out] at hcM
            simp only [F4.out] at hcB
            generalize belowB r1 (b0 : Int) (t : Int) = s at hcB hcO
            clear hst hcl hct e1 e2 e3 e4 hn1e
            refine wp_region_quiet_below (by kernel_rfl) (by kernel_rfl) ?_
            repeat (first | rw [beq_self_eq_true] | rw [Bool.not_true] | rw [Bool.not_false] | go_big_quiet_step (first | (go_at_call_of 37 (#[Value.agg #[Value.slice a0 r0.length C0], Value.agg #[Value.slice a1 r1.length C1], Value.slice (some ⟨bl, ol, none⟩) L.length C2L]); exact hcM _ _) | (go_at_call_of 39 (#[Value.agg #[Value.slice a0 r0.length C0], Value.agg #[Value.slice a1 r1.length C1], Value.slice (some ⟨bl, ol, none⟩) L.length C2L, Value.slice (some ⟨bt, ot, none⟩) r0.length Cr]); exact hcB _ _) | (go_at_call_of 20 (#[Value.agg #[Value.slice a1 r1.length C1], Value.int .i64 (b0 : Int), Value.int .i64 (t : Int)]); exact hcO _ _)))
            refine wpQuiet_nil ?_
            intro _ hw'
            obtain ⟨⟨dq, osq⟩, hw''⟩ := hw'
            subst hw''
            clear hcM hcB hcO hq0 hq1 hql hqt
            go_wp2
            go_ret
            exact ⟨rfl, (H6.out.step (below_regrown W6 dq osq)).below⟩
end Go.Proofs.YtjfbjfclcpcaiaaDoor
