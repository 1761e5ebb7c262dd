/- The law FnFrom: what is reached is above. -/
import Derived.Test.YtjfbjfclcpcaiaaDoorKsk
import Derived.Test.YtjfbjfclcpcaiaaDoorDrGk
import Derived.Test.YtjfbjfclcpcaiaaDoorPb23
import Derived.Test.YtjfbjfclcpcaiaaDoorPb26
import Derived.Test.YtjfbjfclcpcaiaaDoorPb13
namespace Go.Proofs.YtjfbjfclcpcaiaaDoor
open Go.RowKit Go.Deep Go.Shelf

theorem from_short (rows : Rows2) : (fromL rows).length ≤ 1048576 := by
  have := fromL_bulk rows
  unfold bulk at this
  omega

set_option maxRecDepth 100000 in
set_option maxHeartbeats 16000000 in
theorem lawFromP (v : Value) (w : World) (hv : CodeAt w.heap.size w v) (hT : Tab w) : Calls Tryd.prog 15 #[v] w (SaysN true w) := by
  have hdraw := drawFrom_any v w hv
  obtain ⟨a, n, C, rfl, hnC, hCm, _⟩ := hv
  unfold maxLen at hCm
  have HTT := Lib.hid hT
  clear hT
  by_cases hn : 1048576 < n
  · have hz : (1048576 : Int) < (n : Int) := by omega
    clear hdraw
    go_enter Tryd.func15, Tryd.ntmps15
    go_wp2
    go_ret
    exact ⟨rfl, Below.refl _ _⟩
  · have hz : ¬ (1048576 : Int) < (n : Int) := by omega
    go_enter Tryd.func15, Tryd.ntmps15
    go_upto_region 4 with (go_at_call 63; refine hdraw.mono ?_; clear hdraw; rintro e W1 ⟨r0, u0, rfl, hr0, hk0, hb⟩; obtain ⟨a0, C0, rfl⟩ := hr0.form; have HBW := Lib.hid hb; have HR0 := Lib.hid hr0.at; clear hb hr0)
    have HB0 := Lib.hid (show bulk r0 ≤ 1048576 by omega)
    clear hk0
    have H0 := Lib.hid (((Ks.start w).step HBW.out).push (i := .ord (.slice a0 r0.length C0) r0) HR0.out)
    have H1 := H0
    clear H0 HBW HR0
    have hci := implFrom_any (.slice a0 r0.length C0) r0 W1 (H1.out.ord 0 rfl) (HTT.out.below H1.out.below) HB0.out
    go_upto_region 5 with (go_at_call 64; refine hci.mono ?_; clear hci; rintro e W2 ⟨v2, rfl, ho, hb⟩; have H2 := Lib.hid ((H1.out.step hb).box ho.at); obtain ⟨a2L, C2L, rfl⟩ := ho.form; clear ho hb)
    generalize W2.alloc (.cells #[.slice a2L (fromL r0).length C2L] 25) = W2b at H2 ⊢
    generalize W2.heap.size = bo2 at H2 ⊢
    have hcs := specFrom_any (.slice a0 r0.length C0) r0 W2b (H2.out.ord 1 rfl) HB0.out
    go_upto_region 6 with (go_at_call 65; refine hcs.mono ?_; clear hcs; rintro e W3 ⟨v3, rfl, ho, hb⟩; have H3 := Lib.hid ((H2.out.step hb).box ho.at); obtain ⟨a3L, C3L, rfl⟩ := ho.form; clear ho hb)
    generalize W3.alloc (.cells #[.slice a3L (fromL r0).length C3L] 25) = W3b at H3 ⊢
    generalize W3.heap.size = bo3 at H3 ⊢
    clear H1 H2
    have hco2 := H3.out.cell 1 rfl
    have hco3 := H3.out.cell 0 rfl
    have HFACT := Lib.hid (fact_from (lists := r0))
    have HRES0 := Lib.hid (show (fromL r0).length ≤ 1048576 by exact from_short r0)
    have hres0 := HRES0.out
    cases hq : fromT r0 with
    | false =>
      clear HFACT hq
      go_wp2_with (first | (go_at_call 19; refine (sameOrderP_self (.slice a2L _ C2L) (.slice a3L _ C3L) (fromL r0) _ (H3.out.rows 1 rfl) (H3.out.rows 0 rfl)).mono ?_; rintro e W4 ⟨rfl, hb⟩; have H4 := Lib.hid (H3.out.step hb); have hco2 := H4.out.cell 1 rfl; have hco3 := H4.out.cell 0 rfl; clear hb H3) | (go_at_call 19; refine (sameOrderP_self (.slice a2L _ C2L) (.slice a3L _ C3L) (fromL r0) _ (H4.out.rows 1 rfl) (H4.out.rows 0 rfl)).mono ?_; rintro e W5 ⟨rfl, hb⟩; have H5 := Lib.hid (H4.out.step hb); have hco2 := H5.out.cell 1 rfl; have hco3 := H5.out.cell 0 rfl; clear hb H4))
      go_ret
      exact ⟨rfl, H5.out.below⟩
    | true =>
      obtain ⟨f1, f2, f3, f4⟩ := HFACT.out hq
      have HBL := Lib.hid (show bulk (fromL r0) ≤ 1048576 by have := fromL_bulk r0; omega)
      have F1 := Lib.hid f1
      have F2 := Lib.hid f2
      have F4 := Lib.hid f4
      have HR0 := Lib.hid (fun i (hi : i < r0.length) => show r0[i].length ≤ 1048576 by have := bulk_row hi; have := HB0.out; omega)
      have HRL := Lib.hid (show r0.length ≤ 1048576 by have := HB0.out; unfold bulk at this; omega)
      clear HFACT hq f1 f2 f4
      generalize hL : fromL r0 = L at H3 HRES0 hres0 F1 F2 F4 f3 hco2 hco3 HBL ⊢
      clear hL
      obtain ⟨N, hN⟩ : ∃ N, L.length = N := ⟨_, rfl⟩
      have HLN := Lib.hid hN
      rw [hN] at H3 hres0 hco2 hco3 ⊢
      clear hN f3
      go_upto_region 8 with (go_at_call 19; refine (sameOrderP_self (.slice a2L _ C2L) (.slice a3L _ C3L) (L) _ (H3.out.rows 1 rfl) (H3.out.rows 0 rfl)).mono ?_; rintro e W4 ⟨rfl, hb⟩; have H4 := Lib.hid (H3.out.step hb); have hco2 := H4.out.cell 1 rfl; have hco3 := H4.out.cell 0 rfl; clear hb H3)
      clear hco3 hco2
      go_wp2
      go_loopw [8] (fun iv wr => ∃ i : Nat, i ≤ r0.length ∧ iv = .int .i64 i ∧ Ks w [.box bo3 (.slice a3L N C3L) (L), .box bo2 (.slice a2L N C2L) (L), .ord (.slice a0 r0.length C0) r0] wr) (fun iv _ => r0.length - (intOf iv).toNat)
      case atStart => exact ⟨0, Nat.zero_le _, rfl, H4.out⟩
      case round =>
        obtain ⟨i, hi, rfl, hh⟩ := hrel
        have HK := Lib.hid hh
        clear hh H4
        have hrl := HRL.out
        by_cases hlt : i < r0.length
        · have hltz : (i : Int) < (r0.length : Int) := by omega
          go_wp2
          go_loopw [9] (fun kv wr => ∃ k : Nat, k ≤ r0[i].length ∧ kv = .int .i64 k ∧ Ks w [.box bo3 (.slice a3L N C3L) (L), .box bo2 (.slice a2L N C2L) (L), .ord (.slice a0 r0.length C0) r0] wr) (fun kv _ => r0[i].length - (intOf kv).toNat)
          case atStart => exact ⟨0, Nat.zero_le _, rfl, HK.out⟩
          case round =>
            obtain ⟨k, hk, rfl, hh⟩ := hrel
            have HJ := Lib.hid hh
            clear hh HK
            have hli := HR0.out i hlt
            obtain ⟨b0, o0, u, e, hcu, hu⟩ := (by obtain ⟨A0, C0', e0, _, _, hx⟩ := (HJ.out.ord 2 rfl); cases e0; exact hx i hlt : ∃ b o u, a0 = some ⟨b, o, none⟩ ∧ wr.cell? ⟨b, o + i, none⟩ = some u ∧ IntsAt wr u r0[i])
            cases e
            obtain ⟨A1, C1, rfl, hC1, hm1, _, hy⟩ := hu
            unfold maxLen at hm1
            by_cases hkl : k < r0[i].length
            · have hkz : (k : Int) < (r0[i].length : Int) := by omega
              obtain ⟨b1, o1, e, hcx⟩ := hy k hkl
              cases e
              have hf := F4.out i hlt r0[i][k] (List.getElem_mem hkl)
              have hst := fun d os => HJ.out.step (below_regrown wr d os)
              have hcB := fun d os => Calls.regrown_of (d := d) (os := os) (implBelow_any (.slice a2L N C2L) L (i : Int) r0[i][k] _ ((hst d os).rows 1 rfl) (HTT.out.below (hst d os).below) HBL.out)
              simp only [hf] at hcB
              generalize r0[i][k] = y at hcx hcB
              have hq0 := fun d os => cell_regrown hcu d os
              have hq1 := fun d os => cell_regrown hcx d os
              have hq2 := fun d os => cell_regrown (HJ.out.cell 1 rfl) d os
              clear hy hf hst hcx
              go_wp2
              refine wp_region_quiet_below (by kernel_rfl) (by kernel_rfl) ?_
              repeat (first | rw [Bool.not_true] | rw [Bool.not_false] | go_big_quiet_step (first | (go_at_call_of 20 (#[Value.agg #[Value.slice a2L N C2L], Value.int .i64 (i : Int), Value.int .i64 y]); exact hcB _ _)))
              refine wpQuiet_nil ?_
              intro _ hw'
              obtain ⟨⟨dq, osq⟩, hw''⟩ := hw'
              subst hw''
              clear hcB hq0 hq1 hq2
              go_wp2
              go_roundw
              case rel => exact ⟨k + 1, by omega, by go_num, HJ.out.step (below_regrown wr dq osq)⟩
              case measure => simp [intOf]; omega
            · have hkz : ¬ (k : Int) < (r0[i].length : Int) := by omega
              clear hy
              go_wp2
              go_roundw
              case rel => exact ⟨i + 1, by omega, by go_num, HJ.out⟩
              case measure => simp [intOf]; omega
        · have hltz : ¬ (i : Int) < (r0.length : Int) := by omega
          have hco2 := (HK.out.cell 1 rfl)
          have hcF := implFrom_any (.slice a2L N C2L) L wr (HK.out.rows 1 rfl) (HTT.out.below HK.out.below) HBL.out
          rw [F1.out, F2.out] at hcF
          have hln := HLN.out
          rw [show OrderP L true wr = fun e w' => ∃ v, e = .returned (.tuple #[.agg #[v], .bool true]) ∧ OwnR 3 42 w' v L.length (rowsF L) wr.heap.size w'.heap.size ∧ Below wr.heap.size wr w' from rfl] at hcF
          go_upto_region 17 with (go_at_call 64; refine hcF.mono ?_; clear hcF; rintro e w9 ⟨v9, rfl, ho, hb⟩; have H9 := Lib.hid ((HK.out.step hb).box ho.at); rw [hln] at ho; obtain ⟨a9, C9, rfl⟩ := ho.form; clear ho hb)
          clear hco2 hln
          generalize w9.alloc (.cells #[.slice a9 N C9] 25) = X9 at H9 ⊢
          generalize w9.heap.size = b9 at H9 ⊢
          have hco2 := (H9.out.cell 2 rfl)
          have hc9 := (H9.out.cell 0 rfl)
          go_wp2_with (go_at_call 19; refine (sameOrderP_self (.slice a9 N C9) (.slice a2L N C2L) L _ (H9.out.rows 0 rfl) (H9.out.rows 2 rfl)).mono ?_; rintro e w10 ⟨rfl, hb⟩; have H10 := Lib.hid (H9.out.step hb); clear hb)
          go_ret
          exact ⟨rfl, H10.out.below⟩
end Go.Proofs.YtjfbjfclcpcaiaaDoor
