/- The law FnStable: stable functions keep meets of bounded elements. -/
import Derived.Test.YtjfbjfclcpcaiaaDoorKsk
import Derived.Test.YtjfbjfclcpcaiaaDoorDrVk
import Derived.Test.YtjfbjfclcpcaiaaDoorMonoQk
import Derived.Test.YtjfbjfclcpcaiaaDoorPb25
import Derived.Test.YtjfbjfclcpcaiaaDoorPb24
import Derived.Test.YtjfbjfclcpcaiaaDoorPb21
namespace Go.Proofs.YtjfbjfclcpcaiaaDoor
open Go.RowKit Go.Deep Go.Shelf

set_option maxRecDepth 100000 in
set_option maxHeartbeats 16000000 in
theorem lawStableP (v : Value) (w : World) (hv : CodeAt w.heap.size w v) (hT : Tab w) : Calls Tryd.prog 11 #[v] w (SaysN true w) := by
  have hdraw := drawStable_any v w hv
  obtain ⟨a, n, C, rfl, hnC, hCm, _⟩ := hv
  unfold maxLen at hCm
  have HTT := Lib.hid hT
  clear hT
  by_cases hn : 1048576 < n
  · have hz : (1048576 : Int) < (n : Int) := by omega
    clear hdraw
    go_enter Tryd.func11, Tryd.ntmps11
    go_wp2
    go_ret
    exact ⟨rfl, Below.refl _ _⟩
  · have hz : ¬ (1048576 : Int) < (n : Int) := by omega
    go_enter Tryd.func11, Tryd.ntmps11
    go_upto_region 4 with (go_at_call 51; refine hdraw.mono ?_; clear hdraw; rintro e w1 ⟨r0, u0, r1, u1, x2, ux2, rfl, hr0, hr1, hr2, hk0, hk1, hk2, hb⟩; obtain ⟨a0, C0, rfl⟩ := hr0.form; obtain ⟨a1, C1, rfl⟩ := hr1.form; obtain ⟨ax2, Cx2, rfl⟩ := hr2.form; have HBW := Lib.hid hb; have HR0 := Lib.hid hr0.at; have HR1 := Lib.hid hr1.at; have HR2 := Lib.hid hr2.at; clear hb hr0 hr1 hr2)
    have HB0 := Lib.hid (show bulk r0 ≤ 1048576 by omega)
    have HB1 := Lib.hid (show bulk r1 ≤ 1048576 by omega)
    have HL2 := Lib.hid (show x2.length ≤ 200 from hk2)
    clear hk0 hk1 hk2
    have H0 := Lib.hid (((((Ks.start w).step HBW.out).push (i := .ints (.slice ax2 x2.length Cx2) x2) HR2.out).push (i := .ord (.slice a0 r0.length C0) r0) HR0.out).push (i := .ord (.slice a1 r1.length C1) r1) HR1.out)
    have HX0 := Lib.hid (H0.out.box (H0.out.ord 1 rfl))
    have HX1 := Lib.hid (HX0.out.box (HX0.out.ord 1 rfl))
    have H1 : Hid (Ks w [.box (w1.heap.size + 1) (.slice a1 r1.length C1) r1, .box (w1.heap.size) (.slice a0 r0.length C0) r0, .ord (.slice a1 r1.length C1) r1, .ord (.slice a0 r0.length C0) r0, .ints (.slice ax2 x2.length Cx2) x2] ((w1.alloc (.cells #[.slice a0 r0.length C0] 25)).alloc (.cells #[.slice a1 r1.length C1] 25))) := Lib.hid (by have h := HX1.out; (try simp only [World.size_alloc] at h); exact h)
    clear H0 HX0 HX1 HR0 HR1 HR2 HBW
    generalize ((w1.alloc (.cells #[.slice a0 r0.length C0] 25)).alloc (.cells #[.slice a1 r1.length C1] 25)) = W1 at H1 ⊢
    generalize w1.heap.size = B at H1 ⊢
    have hc0 := H1.out.cell 1 rfl
    have hc1 := H1.out.cell 0 rfl
    have hci := implStable_any (.slice a0 r0.length C0) (.slice a1 r1.length C1) (.slice ax2 x2.length Cx2) r0 r1 x2 W1 (H1.out.rows 1 rfl) (H1.out.rows 0 rfl) (H1.out.ints 4 rfl) (HTT.out.below H1.out.below) HB0.out HB1.out
    go_upto_region 5 with (go_at_call 52; refine hci.mono ?_; clear hci; rintro e W2 ⟨rfl, hb⟩; have H2 := Lib.hid (H1.out.step hb); clear hb)
    clear hc0 hc1
    have hc0 := H2.out.cell 1 rfl
    have hc1 := H2.out.cell 0 rfl
    have hcs := specStable_any (.slice a0 r0.length C0) (.slice a1 r1.length C1) (.slice ax2 x2.length Cx2) r0 r1 x2 W2 (H2.out.rows 1 rfl) (H2.out.rows 0 rfl) (H2.out.ints 4 rfl) HB0.out HB1.out
    go_upto_region 6 with (go_at_call 53; refine hcs.mono ?_; clear hcs; rintro e W3 ⟨rfl, hb⟩; have H3 := Lib.hid (H2.out.step hb); clear hb)
    clear hc0 hc1
    clear H1 H2
    have HFACT := Lib.hid (fact_stable (rows := r0) (rows' := r1) (f := x2))
    cases hq : stableB r0 r1 x2 with
    | false =>
      clear HFACT hq
      go_wp2
      go_ret
      exact ⟨rfl, H3.out.below⟩
    | true =>
      obtain ⟨f1, f2⟩ := HFACT.out hq
      have F1 := Lib.hid f2
      have HFM := Lib.hid f1
      clear HFACT hq f1 f2
      have hl2 := HL2.out
      go_wp2
      go_loopw [8] (fun iv wr => ∃ i : Nat, i ≤ x2.length ∧ iv = .int .i64 i ∧ Ks w [.box (B + 1) (.slice a1 r1.length C1) r1, .box (B) (.slice a0 r0.length C0) r0, .ord (.slice a1 r1.length C1) r1, .ord (.slice a0 r0.length C0) r0, .ints (.slice ax2 x2.length Cx2) x2] wr) (fun iv _ => x2.length - (intOf iv).toNat)
      case atStart => exact ⟨0, Nat.zero_le _, rfl, H3.out⟩
      case round =>
        obtain ⟨i, hi, rfl, hh⟩ := hrel
        have HK := Lib.hid hh
        clear hh H3
        by_cases hlt : i < x2.length
        · have hltz : (i : Int) < (x2.length : Int) := by omega
          skip
          go_wp2
          go_loopw [9] (fun jv wr => ∃ j : Nat, j ≤ x2.length ∧ jv = .int .i64 j ∧ Ks w [.box (B + 1) (.slice a1 r1.length C1) r1, .box (B) (.slice a0 r0.length C0) r0, .ord (.slice a1 r1.length C1) r1, .ord (.slice a0 r0.length C0) r0, .ints (.slice ax2 x2.length Cx2) x2] wr) (fun jv _ => x2.length - (intOf jv).toNat)
          case atStart => exact ⟨0, Nat.zero_le _, rfl, HK.out⟩
          case round =>
            obtain ⟨j, hj, rfl, hh⟩ := hrel
            have HJ := Lib.hid hh
            clear hh HK
            by_cases hjl : j < x2.length
            · have hjz : (j : Int) < (x2.length : Int) := by omega
              obtain ⟨bx, ox, rfl, hci, hcj⟩ := (HJ.out.ints 4 rfl).get2 hlt hjl
              have hq0 := fun d os => cell_regrown (HJ.out.cell 1 rfl) d os
              have hq1 := fun d os => cell_regrown (HJ.out.cell 0 rfl) d os
              have hf := F1.out i j hlt hjl
              generalize x2[i] = y1 at hci hf
              generalize x2[j] = y2 at hcj hf
              have hqi := fun d os => cell_regrown hci d os
              have hqj := fun d os => cell_regrown hcj d os
              have hst := fun d os => HJ.out.step (below_regrown wr d os)
              have hcJ := fun d os => Calls.regrown_of (d := d) (os := os) (implJoin_any _ r0 (i : Int) (j : Int) _ ((hst d os).rows 1 rfl) (HTT.out.below (hst d os).below) HB0.out)
              by_cases hb : 0 ≤ joinB r0 (i : Int) (j : Int)
              · obtain ⟨k, e1, hk, e2⟩ := hf hb
                obtain ⟨bk, ok, ek, hck⟩ := (HJ.out.ints 4 rfl).get hk
                cases ek
                have hqk := fun d os => cell_regrown hck d os
                have hkz : (k : Int) < (x2.length : Int) := by omega
                have hcM := fun d os => Calls.regrown_of (d := d) (os := os) (implMeet_any _ r0 (i : Int) (j : Int) _ ((hst d os).rows 1 rfl) (HTT.out.below (hst d os).below) HB0.out)
                have hcN := fun d os => Calls.regrown_of (d := d) (os := os) (implMeet_any _ r1 y1 y2 _ ((hst d os).rows 0 rfl) (HTT.out.below (hst d os).below) HB1.out)
                simp only [e1] at hcM
                simp only [← e2] at hcN
                generalize x2[k] = y3 at hqk hcN
                generalize joinB r0 (i : Int) (j : Int) = yj at hb hcJ
                have hd : decide ((0 : Int) ≤ yj) = true := decide_eq_true hb
                clear hf e1 e2 hci hcj hck hst hb
                go_wp2
                refine wp_region_quiet_below (by kernel_rfl) (by kernel_rfl) ?_
                repeat (first | rw [bne_self_eq_false] | rw [Bool.not_true] | rw [Bool.not_false] | go_big_quiet_step (first | (go_at_call_of 27 (#[Value.agg #[Value.slice a0 r0.length C0], Value.int .i64 (i : Int), Value.int .i64 (j : Int)]); exact hcJ _ _) | (go_at_call_of 31 (#[Value.agg #[Value.slice a0 r0.length C0], Value.int .i64 (i : Int), Value.int .i64 (j : Int)]); exact hcM _ _) | (go_at_call_of 31 (#[Value.agg #[Value.slice a1 r1.length C1], Value.int .i64 y1, Value.int .i64 y2]); exact hcN _ _)))
                refine wpQuiet_nil ?_
                intro _ hw'
                obtain ⟨⟨dq, osq⟩, hw''⟩ := hw'
                subst hw''
                clear hcJ hcM hcN hq0 hq1 hqi hqj hqk
                go_wp2
                go_roundw
                case rel => exact ⟨j + 1, by omega, by go_num, HJ.out.step (below_regrown wr dq osq)⟩
                case measure => simp [intOf]; omega
              · generalize joinB r0 (i : Int) (j : Int) = yj at hb hcJ
                have hd : decide ((0 : Int) ≤ yj) = false := decide_eq_false hb
                clear hf hci hcj hst hb
                go_wp2
                refine wp_region_quiet_below (by kernel_rfl) (by kernel_rfl) ?_
                repeat (first | rw [Bool.not_true] | rw [Bool.not_false] | go_big_quiet_step (first | (go_at_call_of 27 (#[Value.agg #[Value.slice a0 r0.length C0], Value.int .i64 (i : Int), Value.int .i64 (j : Int)]); exact hcJ _ _)))
                refine wpQuiet_nil ?_
                intro _ hw'
                obtain ⟨⟨dq, osq⟩, hw''⟩ := hw'
                subst hw''
                clear hcJ hq0 hq1 hqi hqj
                go_wp2
                go_roundw
                case rel => exact ⟨j + 1, by omega, by go_num, HJ.out.step (below_regrown wr dq osq)⟩
                case measure => simp [intOf]; omega
            · have hjz : ¬ (j : Int) < (x2.length : Int) := by omega
              go_wp2
              go_roundw
              case rel => exact ⟨i + 1, by omega, by go_num, HJ.out⟩
              case measure => simp [intOf]; omega
        · have hltz : ¬ (i : Int) < (x2.length : Int) := by omega
          have hcF := implMono_any _ _ _ r0 r1 x2 wr (HK.out.rows 1 rfl) (HK.out.rows 0 rfl) (HK.out.ints 4 rfl) (HTT.out.below HK.out.below) HB0.out HB1.out
          rw [HFM.out] at hcF
          have hc0 := (HK.out.cell 1 rfl)
          have hc1 := (HK.out.cell 0 rfl)
          go_wp2_with (go_at_call 37; refine hcF.mono ?_; clear hcF; rintro e w9 ⟨rfl, hb⟩; have H9 := Lib.hid (HK.out.step hb); clear hb)
          go_ret
          exact ⟨rfl, H9.out.below⟩
end Go.Proofs.YtjfbjfclcpcaiaaDoor
