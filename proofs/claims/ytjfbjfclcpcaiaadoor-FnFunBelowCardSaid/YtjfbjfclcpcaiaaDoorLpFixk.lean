/- The law FnFix: the least fixed point is below all others. -/
import Derived.Test.YtjfbjfclcpcaiaaDoorKsk
import Derived.Test.YtjfbjfclcpcaiaaDoorDrXk
import Derived.Test.YtjfbjfclcpcaiaaDoorMonoQk
import Derived.Test.YtjfbjfclcpcaiaaDoorPb24
import Derived.Test.YtjfbjfclcpcaiaaDoorPb21
import Derived.Test.YtjfbjfclcpcaiaaDoorPb13
namespace Go.Proofs.YtjfbjfclcpcaiaaDoor
open Go.RowKit Go.Deep Go.Shelf

theorem implFix_all (v vf : Value) (rows : Rows2) (f : List Int) (w : World) (hv : RowsAt w v rows) (hf : IntsAt w vf f) (hT : Tab w) (hn : bulk rows ≤ 1048576) :
    Calls Tryd.prog 46 #[.agg #[v], vf] w (FixP (monoB rows rows f) rows f w) := by
  cases hm : monoB rows rows f with
  | false => exact implFix_no v vf rows f w hv hf hT hn hm
  | true => exact implFix_yes v vf rows f w hv hf hT hn hm

set_option maxRecDepth 100000 in
set_option maxHeartbeats 16000000 in
theorem lawFixP (v : Value) (w : World) (hv : CodeAt w.heap.size w v) (hT : Tab w) : Calls Tryd.prog 9 #[v] w (SaysN true w) := by
  have hdraw := drawFix_any v w hv
  obtain ⟨a, n, C, rfl, hnC, hCm, _⟩ := hv
  unfold maxLen at hCm
  have HTT := Lib.hid hT
  clear hT
  by_cases hn : 1048576 < n
  · have hz : (1048576 : Int) < (n : Int) := by omega
    clear hdraw
    go_enter Tryd.func9, Tryd.ntmps9
    go_wp2
    go_ret
    exact ⟨rfl, Below.refl _ _⟩
  · have hz : ¬ (1048576 : Int) < (n : Int) := by omega
    go_enter Tryd.func9, Tryd.ntmps9
    go_upto_region 4 with (go_at_call 45; refine hdraw.mono ?_; clear hdraw; rintro e w1 ⟨r0, u0, x1, ux1, rfl, hr0, hr1, hk0, hk1, hb⟩; obtain ⟨a0, C0, rfl⟩ := hr0.form; obtain ⟨ax1, Cx1, rfl⟩ := hr1.form; have HBW := Lib.hid hb; have HR0 := Lib.hid hr0.at; have HR1 := Lib.hid hr1.at; clear hb hr0 hr1)
    have HB0 := Lib.hid (show bulk r0 ≤ 1048576 by omega)
    have HL1 := Lib.hid (show x1.length ≤ 200 from hk1)
    clear hk0 hk1
    have H0 := Lib.hid ((((Ks.start w).step HBW.out).push (i := .ints (.slice ax1 x1.length Cx1) x1) HR1.out).push (i := .ord (.slice a0 r0.length C0) r0) HR0.out)
    have HX0 := Lib.hid (H0.out.box (H0.out.ord 0 rfl))
    have H1 : Hid (Ks w [.box (w1.heap.size) (.slice a0 r0.length C0) r0, .ord (.slice a0 r0.length C0) r0, .ints (.slice ax1 x1.length Cx1) x1] (w1.alloc (.cells #[.slice a0 r0.length C0] 25))) := Lib.hid (by have h := HX0.out; (try simp only [World.size_alloc] at h); exact h)
    clear H0 HX0 HR0 HR1 HBW
    generalize (w1.alloc (.cells #[.slice a0 r0.length C0] 25)) = W1 at H1 ⊢
    generalize w1.heap.size = B at H1 ⊢
    have hc0 := H1.out.cell 0 rfl
    have hci := implFix_all (.slice a0 r0.length C0) (.slice ax1 x1.length Cx1) r0 x1 W1 (H1.out.rows 0 rfl) (H1.out.ints 2 rfl) (HTT.out.below H1.out.below) HB0.out
    go_upto_region 5 with (go_at_call 46; refine hci.mono ?_; clear hci; rintro e W2 ⟨rfl, hb⟩; have H2 := Lib.hid (H1.out.step hb); clear hb)
    clear hc0
    have hc0 := H2.out.cell 0 rfl
    have hcs := specFix_any (.slice a0 r0.length C0) (.slice ax1 x1.length Cx1) r0 x1 W2 (H2.out.rows 0 rfl) (H2.out.ints 2 rfl) HB0.out
    go_upto_region 6 with (go_at_call 47; refine hcs.mono ?_; clear hcs; rintro e W3 ⟨rfl, hb⟩; have H3 := Lib.hid (H2.out.step hb); clear hb)
    clear hc0
    clear H1 H2
    have HFACT := Lib.hid (fact_fix (rows := r0) (f := x1))
    cases hq : monoB r0 r0 x1 with
    | false =>
      clear HFACT hq
      go_wp2
      go_ret
      exact ⟨rfl, H3.out.below⟩
    | true =>
      obtain ⟨f1, ⟨z, f2, f3, f4⟩, f5⟩ := HFACT.out hq
      rw [f2] at f1
      have F1 := Lib.hid f1
      have HZ := Lib.hid (f4 f3)
      simp only [if_true, f2]
      generalize (fixRun r0 x1).length = nr at f5 ⊢
      have HNR := Lib.hid f5
      clear HFACT hq f1 f2 f4 f5
      have hl2 := HL1.out
      go_wp2
      go_loopw [11] (fun iv wr => ∃ i : Nat, i ≤ x1.length ∧ iv = .int .i64 i ∧ Ks w [.box (B) (.slice a0 r0.length C0) r0, .ord (.slice a0 r0.length C0) r0, .ints (.slice ax1 x1.length Cx1) x1] wr) (fun iv _ => x1.length - (intOf iv).toNat)
      case atStart => exact ⟨0, Nat.zero_le _, rfl, H3.out⟩
      case round =>
        obtain ⟨i, hi, rfl, hh⟩ := hrel
        have HK := Lib.hid hh
        clear hh H3
        by_cases hlt : i < x1.length
        · have hltz : (i : Int) < (x1.length : Int) := by omega
          obtain ⟨bx, ox, rfl, hci⟩ := (HK.out.ints 2 rfl).get hlt
          have hq0 := fun d os => cell_regrown (HK.out.cell 0 rfl) d os
          have hf := F1.out i hlt
          generalize x1[i] = y1 at hci hf
          have hqi := fun d os => cell_regrown hci d os
          have hst := fun d os => HK.out.step (below_regrown wr d os)
          have hcA := fun d os => Calls.regrown_of (d := d) (os := os) (implBelow_any _ r0 y1 (i : Int) _ ((hst d os).rows 0 rfl) (HTT.out.below (hst d os).below) HB0.out)
          have hcB := fun d os => Calls.regrown_of (d := d) (os := os) (implBelow_any _ r0 (z : Int) (i : Int) _ ((hst d os).rows 0 rfl) (HTT.out.below (hst d os).below) HB0.out)
          clear hci hst
          cases hb : belowB r0 y1 (i : Int) with
          | false =>
            simp only [hb] at hcA
            clear hf hb hcB
            go_wp2
            refine wp_region_quiet_below (by kernel_rfl) (by kernel_rfl) ?_
            repeat (first | rw [Bool.not_true] | rw [Bool.not_false] | go_big_quiet_step (first | (go_at_call_of 20 (#[Value.agg #[Value.slice a0 r0.length C0], Value.int .i64 y1, Value.int .i64 (i : Int)]); exact hcA _ _)))
            refine wpQuiet_nil ?_
            intro _ hw'
            obtain ⟨⟨dq, osq⟩, hw''⟩ := hw'
            subst hw''
            clear hcA hq0 hqi
            go_wp2
            go_roundw
            case rel => exact ⟨i + 1, by omega, by go_num, HK.out.step (below_regrown wr dq osq)⟩
            case measure => simp [intOf]; omega
          | true =>
            have hf := hf hb
            simp only [hb] at hcA
            simp only [hf] at hcB
            clear hf hb
            go_wp2
            refine wp_region_quiet_below (by kernel_rfl) (by kernel_rfl) ?_
            repeat (first | rw [Bool.not_true] | rw [Bool.not_false] | go_big_quiet_step (first | (go_at_call_of 20 (#[Value.agg #[Value.slice a0 r0.length C0], Value.int .i64 y1, Value.int .i64 (i : Int)]); exact hcA _ _) | (go_at_call_of 20 (#[Value.agg #[Value.slice a0 r0.length C0], Value.int .i64 (z : Int), Value.int .i64 (i : Int)]); exact hcB _ _)))
            refine wpQuiet_nil ?_
            intro _ hw'
            obtain ⟨⟨dq, osq⟩, hw''⟩ := hw'
            subst hw''
            clear hcA hcB hq0 hqi
            go_wp2
            go_roundw
            case rel => exact ⟨i + 1, by omega, by go_num, HK.out.step (below_regrown wr dq osq)⟩
            case measure => simp [intOf]; omega
        · have hltz : ¬ (i : Int) < (x1.length : Int) := by omega
          obtain ⟨bx, ox, rfl, hci⟩ := (HK.out.ints 2 rfl).get f3
          rw [HZ.out] at hci
          have hzl : (z : Int) < (x1.length : Int) := by omega
          have hn0 : (0 : Int) ≤ (nr : Int) := by omega
          have hnh := HNR.out
          have hcH := implHeight_any _ r0 wr (HK.out.rows 0 rfl) (HTT.out.below HK.out.below) HB0.out
          have hc0 := (HK.out.cell 0 rfl)
          go_wp2_with (go_at_call 22; refine hcH.mono ?_; clear hcH; rintro e w9 ⟨rfl, hb⟩; have H9 := Lib.hid (HK.out.step hb); clear hb)
          go_ret
          exact ⟨rfl, H9.out.below⟩
end Go.Proofs.YtjfbjfclcpcaiaaDoor
