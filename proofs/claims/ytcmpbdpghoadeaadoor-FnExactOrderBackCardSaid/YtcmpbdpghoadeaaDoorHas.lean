/- Is it an order, with two such elements? The model's l1Has. -/
import Derived.Test.YtcmpbdpghoadeaaDoorValid
namespace Go.Proofs.YtcmpbdpghoadeaaDoor
open Go.RowKit Go.Deep

/-- Is it an order, with two such elements? -/
noncomputable def hasB (rows : Rows2) (a b : Int) : Bool := validB rows && (decide (0 ≤ a ∧ a < rows.length) && decide (0 ≤ b ∧ b < rows.length))
set_option maxHeartbeats 2000000 in
theorem l1Has_any (v : Value) (rows : Rows2) (a b : Int) (w : World) (hv : RowsAt w v rows) (hn : bulk rows ≤ 1048576) :
    Calls Tryd.prog 54 #[.agg #[v], .int .i64 a, .int .i64 b] w (SaysN (hasB rows a b) w) := by
  have hH := Held.start w 27 hv
  have hcall := specValid_any v rows _ hH.2.1 hn
  have hlen : rows.length ≤ 1048576 := by unfold bulk at hn; omega
  obtain ⟨A, C, rfl, hC, hm, _⟩ := hv
  unfold maxLen at hm
  have HH := Lib.hid hH
  clear hH
  cases hval : validB rows with
  | false =>
    have e : hasB rows a b = false := by unfold hasB; rw [hval]; rfl
    rw [hval] at hcall
    rw [e]
    clear e hval
    go_enter Tryd.func54, Tryd.ntmps54
    go_wp2_with (go_at_call 50; refine hcall.mono ?_; clear hcall; rintro e w1 ⟨rfl, hb1⟩; have H1 := Lib.hid (HH.out.below hb1); have hc1 := H1.out.1; clear hb1)
    go_ret
    exact ⟨rfl, H1.out.2.2.1⟩
  | true =>
    rw [hval] at hcall
    have hw : IntKind.i64.wrap ((rows.length : Int) - 1) = (rows.length : Int) - 1 := i64_sub1 _ hlen
    by_cases ha : 0 ≤ a ∧ a < rows.length
    · obtain ⟨ha0, ha1⟩ := ha
      have ha2 : a ≤ (rows.length : Int) - 1 := by omega
      by_cases hb : 0 ≤ b ∧ b < rows.length
      · have e : hasB rows a b = true := by unfold hasB; rw [hval, decide_eq_true ⟨ha0, ha1⟩, decide_eq_true hb]; rfl
        obtain ⟨hb0, hb1⟩ := hb
        have hb2 : b ≤ (rows.length : Int) - 1 := by omega
        rw [e]
        clear e hval
        go_enter Tryd.func54, Tryd.ntmps54
        go_wp2_with (first | (go_at_call 50; refine hcall.mono ?_; clear hcall; rintro e w1 ⟨rfl, hb1⟩; have H1 := Lib.hid (HH.out.below hb1); have hc1 := H1.out.1; clear hb1) | (go_at_call 68; refine (l6In_yes _ _ _ _ (by omega) (by omega)).mono ?_; rintro e w' ⟨rfl, rfl⟩))
        go_ret
        exact ⟨rfl, H1.out.2.2.1⟩
      · have e : hasB rows a b = false := by unfold hasB; rw [decide_eq_false hb]; simp
        have hb2 : ¬ (0 ≤ b ∧ b ≤ (rows.length : Int) - 1) := by omega
        have HB := Lib.hid hb2
        rw [e]
        clear e hval hb hb2
        go_enter Tryd.func54, Tryd.ntmps54
        go_wp2_with (first | (go_at_call 50; refine hcall.mono ?_; clear hcall; rintro e w1 ⟨rfl, hb1⟩; have H1 := Lib.hid (HH.out.below hb1); have hc1 := H1.out.1; clear hb1; have tok := trivial) | (go_at_call 68; have _t := tok; refine (l6In_yes _ _ _ _ (by omega) (by omega)).mono ?_; rintro e w' ⟨rfl, rfl⟩; clear tok _t) | (go_at_call 68; refine (l6In_no _ _ _ _ HB.out).mono ?_; rintro e w' ⟨rfl, rfl⟩))
        go_ret
        exact ⟨rfl, H1.out.2.2.1⟩
    · have e : hasB rows a b = false := by unfold hasB; rw [decide_eq_false ha]; simp
      have ha2 : ¬ (0 ≤ a ∧ a ≤ (rows.length : Int) - 1) := by omega
      have HA := Lib.hid ha2
      rw [e]
      clear e hval ha ha2
      go_enter Tryd.func54, Tryd.ntmps54
      go_wp2_with (first | (go_at_call 50; refine hcall.mono ?_; clear hcall; rintro e w1 ⟨rfl, hb1⟩; have H1 := Lib.hid (HH.out.below hb1); have hc1 := H1.out.1; clear hb1) | (go_at_call 68; refine (l6In_no _ _ _ _ HA.out).mono ?_; rintro e w' ⟨rfl, rfl⟩))
      go_ret
      exact ⟨rfl, H1.out.2.2.1⟩
end Go.Proofs.YtcmpbdpghoadeaaDoor
