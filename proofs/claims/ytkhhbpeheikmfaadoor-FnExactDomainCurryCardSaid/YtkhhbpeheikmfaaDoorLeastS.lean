/- The model's OrderLeast. -/
import Derived.Test.YtkhhbpeheikmfaaDoorElemP
import Derived.Test.YtkhhbpeheikmfaaDoorValid
namespace Go.Proofs.YtkhhbpeheikmfaaDoor
open Go.RowKit Go.Deep

theorem leastI_at {rows : Rows2} {i : Nat} (hi : i < rows.length) (h : rows[i].length = rows.length) (hj : ∀ j (hj : j < rows.length), j < i → rows[j].length ≠ rows.length) : leastI rows = i := by
  unfold leastI
  have e : (List.range rows.length).find? (fun i => (rows.getD i []).length == rows.length) = some i := by
    rw [List.find?_range_eq_some]
    refine ⟨by rw [getD_at [] hi]; simpa using h, by simpa using hi, fun j hlt => ?_⟩
    rw [getD_at [] (by omega)]
    simpa using hj j (by omega) hlt
  rw [e]
theorem leastI_none {rows : Rows2} (hj : ∀ j (hj : j < rows.length), rows[j].length ≠ rows.length) : leastI rows = -1 := by
  unfold leastI
  have e : (List.range rows.length).find? (fun i => (rows.getD i []).length == rows.length) = none := by
    rw [List.find?_eq_none]
    intro i hi
    have hi' : i < rows.length := by simpa using hi
    rw [getD_at [] hi']
    simpa using hj i hi'
  rw [e]

set_option maxHeartbeats 2000000 in
theorem l1Least_any (v : Value) (rows : Rows2) (w : World) (hv : RowsAt w v rows) (hn : bulk rows ≤ 1048576) :
    Calls Tryd.prog 62 #[.agg #[v]] w (SaysI (leastI rows) w) := by
  have hH := Held.start w 26 hv
  have hlen : rows.length ≤ 1048576 := by unfold bulk at hn; omega
  obtain ⟨A, C, rfl, hC, hm, _⟩ := hv
  unfold maxLen at hm
  have HH := Lib.hid hH
  clear hH
  go_enter Tryd.func62, Tryd.ntmps62
  go_wp2
  go_loopw [3] (fun kv wr => ∃ k : Nat, k ≤ rows.length ∧ kv = .int .i64 k ∧ (∀ j (hj : j < rows.length), j < k → rows[j].length ≠ rows.length) ∧ Held w (.slice A rows.length C) rows wr) (fun kv _ => rows.length - (intOf kv).toNat)
  case atStart => exact ⟨0, Nat.zero_le _, rfl, fun _ _ h => absurd h (Nat.not_lt_zero _), HH.out⟩
  case round =>
    obtain ⟨k, hk, rfl, hj, hh⟩ := hrel
    have HJ := Lib.hid hj
    have hcell := hh.1
    have HK := Lib.hid hh
    clear hj HH
    by_cases hlt : k < rows.length
    · obtain ⟨_, _, e0, _, _, hx⟩ := hh.2.1
      cases e0
      obtain ⟨b0, o0, u, rfl, hc, hu⟩ := hx k hlt
      obtain ⟨A1, C1, rfl, _, hm1, _, _⟩ := hu
      unfold maxLen at hm1
      clear hh hx
      by_cases hl : rows[k].length = rows.length
      · have hb : ((rows[k].length : Int) == (rows.length : Int)) = true := by rw [beq_iff_eq]; omega
        have hb2 : (rows[k].length == rows.length) = true := by rw [beq_iff_eq]; exact hl
        have HE := Lib.hid (leastI_at hlt hl HJ.out)
        clear hl
        go_wp2
        go_quiet (fail)
        go_wp2
        go_ret
        exact ⟨by rw [HE.out]; rfl, (HK.out.below (below_drewN' _ _ _)).2.2.1⟩
      · have hb : ((rows[k].length : Int) == (rows.length : Int)) = false := by rw [beq_eq_false_iff_ne]; omega
        have hb2 : (rows[k].length == rows.length) = false := by rw [beq_eq_false_iff_ne]; exact hl
        have HL := Lib.hid hl
        clear hl
        go_wp2
        go_quiet (fail)
        go_wp2
        go_roundw
        case rel =>
          refine ⟨k + 1, by omega, by go_num, fun j hj hlt' => ?_, HK.out.below (below_drewN' _ _ _)⟩
          by_cases e : j = k
          · subst e; exact HL.out
          · exact HJ.out j hj (by omega)
        case measure => simp [intOf]; omega
    · obtain rfl : k = rows.length := by omega
      have HE := Lib.hid (leastI_none fun j hj => HJ.out j hj hj)
      clear hh
      go_wp2
      go_ret
      exact ⟨by rw [HE.out]; rfl, HK.out.2.2.1⟩

/-- What OrderLeast answers. -/
noncomputable def leastB (rows : Rows2) : Int := if validB rows = true then leastI rows else -1

end Go.Proofs.YtkhhbpeheikmfaaDoor
