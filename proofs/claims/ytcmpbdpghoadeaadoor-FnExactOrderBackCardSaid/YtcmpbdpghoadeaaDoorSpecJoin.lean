/- The model's OrderJoin. -/
import Derived.Test.YtcmpbdpghoadeaaDoorJoinS
import Derived.Test.YtcmpbdpghoadeaaDoorHas
namespace Go.Proofs.YtcmpbdpghoadeaaDoor
open Go.RowKit Go.Deep

/-- What OrderJoin answers. -/
noncomputable def joinB (rows : Rows2) (a b : Int) : Int := if hasB rows a b = true then joinI rows a.toNat b.toNat else -1

theorem has_parts {rows : Rows2} {a b : Int} (h : hasB rows a b = true) : validB rows = true ∧ (0 ≤ a ∧ a < rows.length) ∧ (0 ≤ b ∧ b < rows.length) := by
  unfold hasB at h
  simp only [Bool.and_eq_true, decide_eq_true_eq] at h
  exact h

set_option maxHeartbeats 2000000 in
theorem specJoin_any (v : Value) (rows : Rows2) (a b : Int) (w : World) (hv : RowsAt w v rows) (hn : bulk rows ≤ 1048576) :
    Calls Tryd.prog 21 #[.agg #[v], .int .i64 a, .int .i64 b] w (SaysI (joinB rows a b) w) := by
  have hH := Held.start w 27 hv
  have hcall := l1Has_any v rows a b _ hH.2.1 hn
  obtain ⟨A, C, rfl, _⟩ := hv
  have HH := Lib.hid hH
  clear hH
  unfold joinB
  cases hval : hasB rows a b with
  | false =>
    rw [hval] at hcall
    rw [if_neg (by simp)]
    clear hval
    go_enter Tryd.func21, Tryd.ntmps21
    go_wp2_with (go_at_call 54; refine hcall.mono ?_; clear hcall; rintro e w1 ⟨rfl, hb1⟩; have H1 := Lib.hid (HH.out.below hb1); have hc1 := H1.out.1; clear hb1)
    go_ret
    exact ⟨rfl, H1.out.2.2.1⟩
  | true =>
    rw [hval] at hcall
    rw [if_pos rfl]
    obtain ⟨hvd, ha, hb⟩ := has_parts hval
    have HL := Lib.hid (valid_lists hvd)
    have HA := Lib.hid ha
    have HB := Lib.hid hb
    clear hval hvd ha hb
    go_enter Tryd.func21, Tryd.ntmps21
    go_wp2_with (first | (go_at_call 54; refine hcall.mono ?_; clear hcall; rintro e w1 ⟨rfl, hb1⟩; have H1 := Lib.hid (HH.out.below hb1); have hc1 := H1.out.1; clear hb1) | (go_at_call 55; refine (l1Join_any _ rows a b a.toNat b.toNat _ H1.out.2.1 hn HL.out (by have := HA.out; omega) (by have := HB.out; omega) (by have := HA.out; omega) (by have := HB.out; omega)).mono ?_; rintro e w2 ⟨rfl, hb2⟩; have H2 := Lib.hid (H1.out.below hb2); clear hb2))
    go_ret
    exact ⟨rfl, H2.out.2.2.1⟩
end Go.Proofs.YtcmpbdpghoadeaaDoor
