/- The model's FunStrict. -/
import Derived.Test.YtnniffjjbekodaaDoorMonoS
import Derived.Lib.QuietBelow
import Derived.BigQuiet
namespace Go.Proofs.YtnniffjjbekodaaDoor
open Go.RowKit Go.Deep

theorem leastI_nat {rows : Rows2} (h : 0 ≤ leastI rows) : ∃ m : Nat, m < rows.length ∧ leastI rows = m := by
  unfold leastI at h ⊢
  cases e : (List.range rows.length).find? (fun i => (rows.getD i []).length == rows.length) with
  | none => rw [e] at h; exact absurd h (by decide)
  | some m => exact ⟨m, List.mem_range.1 (List.mem_of_find?_eq_some e), rfl⟩
theorem dom_least {rows : Rows2} (h : domB rows = true) : ∃ m : Nat, m < rows.length ∧ leastI rows = m := by
  unfold domB domI at h
  rw [Bool.and_eq_true, Bool.and_eq_true, decide_eq_true_iff] at h
  exact leastI_nat h.2.1
theorem monoB_parts {rows rows' : Rows2} {f : List Int} (h : monoB rows rows' f = true) : domB rows = true ∧ domB rows' = true ∧ Mono rows rows' f := by
  classical
  unfold monoB monoI at h
  rw [Bool.and_eq_true, Bool.and_eq_true, decide_eq_true_iff] at h
  exact ⟨h.1.1, h.1.2, h.2⟩

/-- A monotone function that has the least element for the least one. -/
noncomputable def strictB (rows rows' : Rows2) (f : List Int) : Bool := monoB rows rows' f && decide (f.getD (leastI rows).toNat 0 = leastI rows')

set_option maxRecDepth 100000 in
set_option maxHeartbeats 8000000 in
theorem specStrict_any (v v' vf : Value) (rows rows' : Rows2) (f : List Int) (w : World) (hv : RowsAt w v rows) (hv' : RowsAt w v' rows') (hf : IntsAt w vf f)
    (hn : bulk rows ≤ 1048576) (hn' : bulk rows' ≤ 1048576) :
    Calls Tryd.prog 30 #[.agg #[v], .agg #[v'], vf] w (SaysN (strictB rows rows' f) w) := by
  have hT := TwoF.start w 28 28 hv hv' hf
  obtain ⟨A, C, rfl, _⟩ := hv
  obtain ⟨A', C', rfl, _⟩ := hv'
  obtain ⟨Af, Cf, rfl, _⟩ := hf
  have H0 := Lib.hid hT
  clear hT
  go_enter Tryd.func30, Tryd.ntmps30
  go_wp2
  obtain ⟨W0, hW0⟩ : ∃ W0 : World, W0 = (w.alloc (.cells #[.slice A rows.length C] 28)).alloc (.cells #[.slice A' rows'.length C'] 28) := ⟨_, rfl⟩
  rw [← hW0] at H0 ⊢
  clear hW0
  have hc0 := fun d os => cell_regrown H0.out.1.c0 d os
  have hc1 := fun d os => cell_regrown H0.out.1.c1 d os
  have hcM := fun d os => Calls.regrown_of (d := d) (os := os) (specMono_any _ _ _ rows rows' f _ (H0.out.step (below_regrown W0 d os)).1.r0 (H0.out.step (below_regrown W0 d os)).1.r1 (H0.out.step (below_regrown W0 d os)).2 hn hn')
  cases hm : monoB rows rows' f with
  | false =>
    simp only [hm] at hcM
    have HE := Lib.hid (show strictB rows rows' f = false by unfold strictB; rw [hm]; rfl)
    clear hm
    refine wp_region_quiet_below (by kernel_rfl) (by kernel_rfl) ?_
    repeat (go_big_quiet_step (first | (go_at_call 17; exact hcM _ _)))
    refine wpQuiet_nil ?_
    intro _ hw'
    obtain ⟨⟨dq, osq⟩, hw''⟩ := hw'
    subst hw''
    clear hcM hc0 hc1
    go_wp2
    go_ret
    exact ⟨by rw [HE.out]; rfl, (H0.out.step (below_regrown W0 dq osq)).1.below⟩
  | true =>
    obtain ⟨hd, hd', hmo⟩ := monoB_parts hm
    obtain ⟨m, hml, hme⟩ := dom_least hd
    obtain ⟨m', _, hme'⟩ := dom_least hd'
    have hlf : m < f.length := by rw [hmo.1]; exact hml
    have hlf2 : (m : Int) < (f.length : Int) := by omega
    have hcL := fun d os => Calls.regrown_of (d := d) (os := os) (l1Least_any _ rows _ (H0.out.step (below_regrown W0 d os)).1.r0 hn)
    have hcL' := fun d os => Calls.regrown_of (d := d) (os := os) (l1Least_any _ rows' _ (H0.out.step (below_regrown W0 d os)).1.r1 hn')
    obtain ⟨bf, o_f, rfl, hcf⟩ := H0.out.2.get hlf
    have hqf := fun d os => cell_regrown hcf d os
    simp only [hm] at hcM
    simp only [hme] at hcL
    simp only [hme'] at hcL'
    have hE : strictB rows rows' f = decide (f[m] = (m' : Int)) := by
      unfold strictB
      rw [hm, hme, hme', Int.toNat_natCast, getD_lt 0 hlf, Bool.true_and]
    clear hm hme hme' hd hd' hmo hcf
    by_cases he : f[m] = (m' : Int)
    · have hb : (f[m] == (m' : Int)) = true := by rw [beq_iff_eq]; exact he
      rw [decide_eq_true he] at hE
      have HE := Lib.hid hE
      clear hE he
      refine wp_region_quiet_below (by kernel_rfl) (by kernel_rfl) ?_
      repeat (go_big_quiet_step (first | (go_at_call 17; exact hcM _ _) | (go_at_call_of 59 (Value.slice A (List.length rows) C); exact hcL _ _) | (go_at_call_of 59 (Value.slice A' (List.length rows') C'); exact hcL' _ _)))
      refine wpQuiet_nil ?_
      intro _ hw'
      obtain ⟨⟨dq, osq⟩, hw''⟩ := hw'
      subst hw''
      clear hcM hcL hcL' hc0 hc1 hqf
      go_wp2
      go_ret
      exact ⟨by rw [HE.out]; simp_all, (H0.out.step (below_regrown W0 dq osq)).1.below⟩
    · have hb : (f[m] == (m' : Int)) = false := by rw [beq_eq_false_iff_ne]; exact he
      rw [decide_eq_false he] at hE
      have HE := Lib.hid hE
      clear hE he
      refine wp_region_quiet_below (by kernel_rfl) (by kernel_rfl) ?_
      repeat (go_big_quiet_step (first | (go_at_call 17; exact hcM _ _) | (go_at_call_of 59 (Value.slice A (List.length rows) C); exact hcL _ _) | (go_at_call_of 59 (Value.slice A' (List.length rows') C'); exact hcL' _ _)))
      refine wpQuiet_nil ?_
      intro _ hw'
      obtain ⟨⟨dq, osq⟩, hw''⟩ := hw'
      subst hw''
      clear hcM hcL hcL' hc0 hc1 hqf
      go_wp2
      go_ret
      exact ⟨by rw [HE.out]; simp_all, (H0.out.step (below_regrown W0 dq osq)).1.below⟩
end Go.Proofs.YtnniffjjbekodaaDoor
