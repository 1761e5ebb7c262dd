/- The laws' own comparisons of lists (sameInts, sameLists, sameOrder). -/
import Derived.Test.YtjlemkmpmjdjaaaDoorPa1
namespace Go.Proofs.YtjlemkmpmjdjaaaDoor
open Go.RowKit Go.Deep

set_option maxHeartbeats 1000000 in
theorem sameInts_any (v u : Value) (xs ys : List Int) (w : World) (hv : IntsAt w v xs) (hu : IntsAt w u ys) :
    Calls Tryd.prog 84 #[v, u] w (SaysB (decide (xs = ys)) w) := by
  obtain ⟨a, C, rfl, hC, hm, _, hx⟩ := hv
  obtain ⟨a', C', rfl, hC', hm', _, hy⟩ := hu
  unfold maxLen at hm hm'
  by_cases hlen : xs.length = ys.length
  · have hL : ((xs.length : Int) != (ys.length : Int)) = false := by simp [hlen]
    have HL := Lib.hid hlen
    clear hlen
    go_enter Tryd.func84, Tryd.ntmps84
    go_wp2
    go_loopw [5] (fun i wr => ∃ k n : Nat, k ≤ xs.length ∧ i = .int .i64 k ∧ xs.take k = ys.take k ∧ wr = w.drewN n) (fun i _ => xs.length - (intOf i).toNat)
    case atStart => exact ⟨0, 0, Nat.zero_le _, rfl, rfl, rfl⟩
    case round =>
      obtain ⟨k, n, hk, rfl, ht, hw⟩ := hrel
      have HT := Lib.hid ht
      have HW := Lib.hid hw
      clear ht
      by_cases hlt : k < xs.length
      · have hlt' : k < ys.length := by have := HL.out; omega
        obtain ⟨b, o, rfl, hc⟩ := hx k hlt
        obtain ⟨b', o', rfl, hc'⟩ := hy k hlt'
        replace hc : wr.cell? ⟨b, o + k, none⟩ = some (.int .i64 xs[k]) := by rw [hw]; exact hc
        replace hc' : wr.cell? ⟨b', o' + k, none⟩ = some (.int .i64 ys[k]) := by rw [hw]; exact hc'
        clear hx hy hw
        by_cases heq : xs[k] = ys[k]
        · have hb : (xs[k] != ys[k]) = false := by simp [heq]
          have HQ := Lib.hid heq
          clear heq
          go_wp2
          go_quiet (fail)
          go_wp2
          go_roundw
          case rel => exact ⟨k + 1, _, by omega, by go_num, by rw [List.take_succ_eq_append_getElem hlt, List.take_succ_eq_append_getElem hlt', HT.out, HQ.out], by rw [HW.out, World.drewN_drewN]⟩
          case measure => simp [intOf]; omega
        · have hb : (xs[k] != ys[k]) = true := by simpa using heq
          have e : decide (xs = ys) = false := by
            rw [decide_eq_false_iff_not]; intro e; subst e; exact heq rfl
          have HE := Lib.hid e
          clear heq e
          go_wp2
          go_quiet (fail)
          go_wp2
          go_ret
          exact ⟨by rw [HE.out]; rfl, _, by rw [HW.out, World.drewN_drewN]⟩
      · have e : decide (xs = ys) = true := by
          have h1 := HT.out
          rw [List.take_of_length_le (by omega), List.take_of_length_le (by have := HL.out; omega)] at h1
          simpa using h1
        have HE := Lib.hid e
        clear e hx hy hw
        go_wp2
        go_ret
        exact ⟨by rw [HE.out]; rfl, _, HW.out⟩
  · have hL : ((xs.length : Int) != (ys.length : Int)) = true := by simp; omega
    have e : decide (xs = ys) = false := by simp; intro e; subst e; exact hlen rfl
    rw [e]
    go_enter Tryd.func84, Tryd.ntmps84
    go_wp2
    go_ret
    exact ⟨rfl, 0, rfl⟩

set_option maxHeartbeats 1000000 in
theorem sameLists_any (v u : Value) (xs ys : Rows2) (w : World) (hv : RowsAt w v xs) (hu : RowsAt w u ys) :
    Calls Tryd.prog 35 #[v, u] w (SaysB (decide (xs = ys)) w) := by
  obtain ⟨a, C, rfl, hC, hm, hx⟩ := hv
  obtain ⟨a', C', rfl, hC', hm', hy⟩ := hu
  unfold maxLen at hm hm'
  by_cases hlen : xs.length = ys.length
  · have hL : ((xs.length : Int) != (ys.length : Int)) = false := by simp [hlen]
    have HL := Lib.hid hlen
    clear hlen
    go_enter Tryd.func35, Tryd.ntmps35
    go_wp2
    go_loopw [5] (fun i wr => ∃ k n : Nat, k ≤ xs.length ∧ i = .int .i64 k ∧ xs.take k = ys.take k ∧ wr = w.drewN n) (fun i _ => xs.length - (intOf i).toNat)
    case atStart => exact ⟨0, 0, Nat.zero_le _, rfl, rfl, rfl⟩
    case round =>
      obtain ⟨k, n, hk, rfl, ht, hw⟩ := hrel
      have HT := Lib.hid ht
      have HW := Lib.hid hw
      clear ht
      by_cases hlt : k < xs.length
      · have hlt' : k < ys.length := by have := HL.out; omega
        obtain ⟨b, o, v1, rfl, hc, hv1⟩ := hx k hlt
        obtain ⟨b', o', u1, rfl, hc', hu1⟩ := hy k hlt'
        replace hc : wr.cell? ⟨b, o + k, none⟩ = some v1 := by rw [hw]; exact hc
        replace hc' : wr.cell? ⟨b', o' + k, none⟩ = some u1 := by rw [hw]; exact hc'
        replace hv1 : IntsAt wr v1 xs[k] := by rw [hw]; exact hv1
        replace hu1 : IntsAt wr u1 ys[k] := by rw [hw]; exact hu1
        have hcall : ∀ m, Calls Tryd.prog 84 #[v1, u1] (wr.drewN m) fun e w'' => e = .returned (.bool (decide (xs[k] = ys[k]))) ∧ ∃ j, w'' = wr.drewN j := fun m =>
          (sameInts_any v1 u1 _ _ (wr.drewN m) hv1 hu1).mono fun e w'' ⟨h1, j, h2⟩ => ⟨h1, m + j, by rw [h2, World.drewN_drewN]⟩
        clear hw
        obtain ⟨a1, C1, rfl, _⟩ := hv1
        obtain ⟨a2, C2, rfl, _⟩ := hu1
        clear hx hy
        by_cases heq : xs[k] = ys[k]
        · rw [decide_eq_true heq] at hcall
          have HQ := Lib.hid heq
          clear heq
          go_wp2
          go_quiet ((go_at_call 84; exact hcall _))
          go_wp2
          go_roundw
          case rel => exact ⟨k + 1, _, by omega, by go_num, by rw [List.take_succ_eq_append_getElem hlt, List.take_succ_eq_append_getElem hlt', HT.out, HQ.out], by rw [HW.out, World.drewN_drewN]⟩
          case measure => simp [intOf]; omega
        · have e : decide (xs = ys) = false := by
            rw [decide_eq_false_iff_not]; intro e; subst e; exact heq rfl
          rw [decide_eq_false heq] at hcall
          have HE := Lib.hid e
          clear heq e
          go_wp2
          go_quiet ((go_at_call 84; exact hcall _))
          go_wp2
          go_ret
          exact ⟨by rw [HE.out]; rfl, _, by rw [HW.out, World.drewN_drewN]⟩
      · have e : decide (xs = ys) = true := by
          have h1 := HT.out
          rw [List.take_of_length_le (by omega), List.take_of_length_le (by have := HL.out; omega)] at h1
          simpa using h1
        have HE := Lib.hid e
        clear e hx hy hw
        go_wp2
        go_ret
        exact ⟨by rw [HE.out]; rfl, _, HW.out⟩
  · have hL : ((xs.length : Int) != (ys.length : Int)) = true := by simp; omega
    have e : decide (xs = ys) = false := by simp; intro e; subst e; exact hlen rfl
    rw [e]
    go_enter Tryd.func35, Tryd.ntmps35
    go_wp2
    go_ret
    exact ⟨rfl, 0, rfl⟩

set_option maxHeartbeats 1000000 in
theorem sameOrder_any (v u : Value) (xs ys : Rows2) (w : World) (hv : RowsAt w v xs) (hu : RowsAt w u ys) :
    Calls Tryd.prog 37 #[.agg #[v], .agg #[u]] w (SaysN (decide (xs = ys)) w) := by
  have b2 : Below w.heap.size w ((w.alloc (.cells #[v] 25)).alloc (.cells #[u] 25)) :=
    ((Below.refl _ w).alloc (Nat.le_refl _) _).alloc (by simp) _
  have B2 := Lib.hid b2
  have hcall := sameLists_any v u xs ys _ (hv.below b2) (hu.below b2)
  obtain ⟨a, C, rfl, _⟩ := hv
  obtain ⟨a', C', rfl, _⟩ := hu
  clear b2
  go_enter Tryd.func37, Tryd.ntmps37
  go_wp2_with (go_at_call 35; refine hcall.mono ?_; clear hcall; rintro e w1 ⟨rfl, n, rfl⟩)
  go_ret
  exact ⟨rfl, B2.out.trans (below_drewN' _ n _)⟩
end Go.Proofs.YtjlemkmpmjdjaaaDoor
