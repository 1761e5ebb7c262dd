/- The model's l5Lower: the closure of a set. -/
import Derived.Test.YtiaajegdaipdmaaDoorMidWa
import Derived.Test.YtiaajegdaipdmaaDoorValid
import Derived.Laws.ShiftsVar
import Derived.Laws.ShiftsVarLaws
import Derived.Test.YtiaajegdaipdmaaDoorBackS
import Derived.Deep.RegionHeld3
import Derived.Lib.QuietBelow
import Derived.BigQuiet
import Derived.Test.YtiaajegdaipdmaaDoorEq
import Derived.Test.YtiaajegdaipdmaaDoorDomS
import Derived.Test.YtiaajegdaipdmaaDoorStepS
import Derived.Test.YtiaajegdaipdmaaDoorOwnA
import Derived.Test.YtiaajegdaipdmaaDoorImplDom
import Derived.Test.YtiaajegdaipdmaaDoorIsEl
import Derived.Test.YtiaajegdaipdmaaDoorPowWl
import Derived.Test.YtiaajegdaipdmaaDoorPowWu
import Derived.Test.YtiaajegdaipdmaaDoorPowWc
namespace Go.Proofs.YtiaajegdaipdmaaDoor
open Go.RowKit Go.Deep

set_option maxRecDepth 100000 in
set_option maxHeartbeats 4000000 in
theorem l5Lower_any (v : Value) (rows : Rows2) (s : Nat) (w : World) (hv : RowsAt w v rows) (hok : Ok rows) (h7 : rows.length ≤ 7) (hs : s < 2 ^ 60) :
    Calls Tryd.prog 25 #[.agg #[v], .int .i64 (s : Int)] w (SaysI ((unionF (gridF (backRows rows)) s rows.length : Nat) : Int) w) := by
  have hl := valid_lists (valid_of_ok hok)
  have hn := hok.bulk
  have hLE := Lib.hid (fun a b W (hv : RowsAt W v rows) (ha : a < rows.length) (t : Bool) (ht : (gridF (backRows rows) b).testBit a = t) => le_call hv hl hn (a : Int) (b : Int) (by omega) (by omega) (r := t) (by rw [Int.toNat_natCast, hok.up ha, ← back_bit hok]; exact ht))
  have HSM := Lib.hid (fun k (_ : k < rows.length) => hok.backSmall k)
  have hH := Held.start w 26 hv
  obtain ⟨A, C, rfl, hC, hm, _⟩ := hv
  unfold maxLen at hm
  generalize gridF (backRows rows) = g at hLE HSM ⊢
  have HH := Lib.hid hH
  clear hH hl hn hok
  go_enter Tryd.func25, Tryd.ntmps25
  go_wp2
  go_loopw [5, 6] (fun ov iv wr => ∃ i : Nat, i ≤ rows.length ∧ iv = .int .i64 i ∧ ov = .int .i64 ((partN g s rows.length i 0 : Nat) : Int) ∧ Held w (.slice A rows.length C) rows wr) (fun _ iv _ => rows.length - (intOf iv).toNat)
  case atStart => exact ⟨0, Nat.zero_le _, rfl, by rw [partN_start]; rfl, HH.out⟩
  case round =>
    obtain ⟨i, hi, rfl, rfl, hh⟩ := hrel
    have H1 := Lib.hid hh
    have hcell := hh.1
    clear hh HH
    by_cases hil : i < rows.length
    · have hiz : (i : Int) < (rows.length : Int) := by omega
      go_wp2
      go_loopw [5, 7] (fun ov kv wx => ∃ k : Nat, k ≤ rows.length ∧ kv = .int .i64 k ∧ ov = .int .i64 ((partN g s rows.length i k : Nat) : Int) ∧ Held w (.slice A rows.length C) rows wx) (fun _ kv _ => rows.length - (intOf kv).toNat)
      case atStart => exact ⟨0, Nat.zero_le _, rfl, rfl, H1.out⟩
      case round =>
        obtain ⟨k, hk, rfl, rfl, hh⟩ := hrel
        have H2 := Lib.hid hh
        have hcell := hh.1
        clear hh H1
        by_cases hkl : k < rows.length
        · have hkz : (k : Int) < (rows.length : Int) := by omega
          have ht := bit_test (s := s) k (small_lt hs (by decide))
          have hm64 : k % 64 = k := Nat.mod_eq_of_lt (by omega)
          cases hq : s.testBit k with
          | false =>
            rw [hq] at ht
            have HE := Lib.hid (partN_no (g := g) (s := s) (n := rows.length) (i := i) (k := k) (by rw [hq]; rfl))
            clear hq
            go_wp2
            go_roundw
            case rel => exact ⟨k + 1, by omega, by go_num, by rw [HE.out], H2.out⟩
            case measure => simp [intOf]; omega
          | true =>
            rw [hq] at ht
            cases hb : (g k).testBit i with
            | false =>
              have HE := Lib.hid (partN_no (g := g) (s := s) (n := rows.length) (i := i) (k := k) (by rw [hb, Bool.and_false]))
              have HCALL := Lib.hid (hLE.out i k wr H2.out.2.1 hil false hb)
              clear hq hb
              go_wp2_with (go_at_call 38; refine HCALL.out.mono ?_; clear HCALL; rintro e w2 ⟨rfl, hb2⟩; have H3 := Lib.hid (H2.out.below hb2); clear hb2)
              go_roundw
              case rel => exact ⟨k + 1, by omega, by go_num, by rw [HE.out], H3.out⟩
              case measure => simp [intOf]; omega
            | true =>
              have HE := Lib.hid (partN_yes (g := g) (s := s) (n := rows.length) (i := i) (k := k) hq hb)
              have HCALL := Lib.hid (hLE.out i k wr H2.out.2.1 hil true hb)
              have hi64 : i % 64 = i := Nat.mod_eq_of_lt (by omega)
              obtain ⟨M, hM⟩ : ∃ M : Nat, M = 2 ^ i := ⟨_, rfl⟩
              have hMb : M < 2 ^ 7 := by rw [hM]; exact Nat.pow_lt_pow_right (by decide) (by omega)
              have hp1 : wrap64 ((2 : Int) ^ i) = (M : Int) := by
                rw [show ((2 : Int) ^ i) = (M : Int) by rw [hM]; simp]
                exact IntWalk.wrap64_in _ (by omega)
              have hor := bits_or (a := partN g s rows.length i k) (b := M) (small_lt (partN_lt (fun q hq => HSM.out q hq) hil) (by omega)) (small_lt hMb (by decide))
              rw [← hM] at HE
              clear hq hb hM hMb
              go_wp2_with (go_at_call 38; refine HCALL.out.mono ?_; clear HCALL; rintro e w2 ⟨rfl, hb2⟩; have H3 := Lib.hid (H2.out.below hb2); clear hb2)
              go_roundw
              case rel => exact ⟨k + 1, by omega, by go_num, by rw [HE.out], H3.out⟩
              case measure => simp [intOf]; omega
        · obtain rfl : k = rows.length := by omega
          have hkz : ¬ ((rows.length : Int) < (rows.length : Int)) := by omega
          go_wp2
          go_roundw
          case rel => exact ⟨i + 1, by omega, by go_num, by rw [partN_next], H2.out⟩
          case measure => simp [intOf]; omega
    · obtain rfl : i = rows.length := by omega
      have hiz : ¬ ((rows.length : Int) < (rows.length : Int)) := by omega
      have HD := Lib.hid (partN_done (g := g) (s := s) (n := rows.length) HSM.out)
      go_wp2
      go_ret
      exact ⟨by rw [HD.out]; rfl, H1.out.2.2.1⟩
end Go.Proofs.YtiaajegdaipdmaaDoor

/- The model's closures of the three kinds (l5Close), and their orders (l5Under). -/
namespace Go.Proofs.YtiaajegdaipdmaaDoor
open Go.RowKit Go.Deep

theorem back_rows {rows : Rows2} {W : World} {u : Value} {lo hi : Nat} (ho : OwnR 3 34 W u rows.length (rowsF (backRows rows)) lo hi) : RowsAt W u (backRows rows) := by
  refine OwnR.at (t := 3) (u := 34) (lo := lo) (hi := hi) ?_
  rw [backRows_len]
  exact ho
/-- The upper closure, of the order turned round. -/
theorem l5Upper_any (v : Value) (rows : Rows2) (s : Nat) (w : World) (hv : RowsAt w v (backRows rows)) (hok : Ok rows) (h7 : rows.length ≤ 7) (hs : s < 2 ^ 60) :
    Calls Tryd.prog 25 #[.agg #[v], .int .i64 (s : Int)] w (SaysI ((unionF (gridF rows) s rows.length : Nat) : Int) w) := by
  have h := l5Lower_any v (backRows rows) s w hv hok.back (by rw [backRows_len]; exact h7) hs
  rw [backRows_len, back_back hok] at h
  exact h

set_option maxRecDepth 100000 in
set_option maxHeartbeats 4000000 in
theorem l5Close_any (v : Value) (rows : Rows2) (z : ByteArray) (s : Nat) (w : World) (hv : RowsAt w v rows) (hok : Ok rows) (h7 : rows.length ≤ 7) (hk : kindN z < 3) (hs : s < 2 ^ 60) :
    Calls Tryd.prog 37 #[.agg #[v], .string z, .int .i64 (s : Int)] w (SaysI ((closL rows (kindN z) s : Nat) : Int) w) := by
  have hH := Held.start w 26 hv
  obtain ⟨A, C, rfl, hC, hm, _⟩ := hv
  have HLO := Lib.hid (fun W (h : Held w (.slice A rows.length C) rows W) => l5Lower_any _ rows s W h.2.1 hok h7 hs)
  have HBK := Lib.hid (fun W (h : Held w (.slice A rows.length C) rows W) => l1Back_any _ rows W h.2.1 hok)
  have HUP := Lib.hid (fun u W (h : RowsAt W u (backRows rows)) => l5Upper_any u rows s W h hok h7 hs)
  have H := Lib.hid hH
  have hll := lo_lt hok s
  have hul := up_lt hok s
  clear hok hH
  rcases kind_cases hk with e | e | e
  · have h0 := kind_0 e
    have HE := Lib.hid (show closL rows (kindN z) s = unionF (gridF (backRows rows)) s rows.length by rw [e]; rfl)
    have hcell := H.out.1
    clear e hk
    go_enter Tryd.func37, Tryd.ntmps37
    go_wp2_with (go_at_call 25; refine (HLO.out _ H.out).mono ?_; rintro e w2 ⟨rfl, hb2⟩; have H2 := Lib.hid (H.out.below hb2); clear hb2)
    go_ret
    exact ⟨by rw [HE.out]; rfl, H2.out.2.2.1⟩
  · obtain ⟨h0, h1⟩ := kind_1 e
    have HE := Lib.hid (show closL rows (kindN z) s = unionF (gridF rows) s rows.length by rw [e]; rfl)
    have hcell := H.out.1
    clear e hk
    go_enter Tryd.func37, Tryd.ntmps37
    go_wp2_with fail
    refine (HBK.out _ H.out).mono ?_
    rintro e w2 ⟨u, rfl, ho, hb2⟩
    obtain ⟨a2, C2, rfl⟩ := ho.form
    have HB := Lib.hid (back_rows ho)
    have H2 := Lib.hid (H.out.below hb2)
    clear hb2 ho
    go_wp2_with fail
    refine (HUP.out _ _ HB.out).mono ?_
    rintro e w3 ⟨rfl, hb2⟩
    have H3 := Lib.hid (H2.out.below hb2)
    clear hb2
    go_wp2
    go_ret
    exact ⟨by rw [HE.out]; rfl, H3.out.2.2.1⟩
  · obtain ⟨h0, h1, _⟩ := kind_2 e
    have HE := Lib.hid (show closL rows (kindN z) s = unionF (gridF (backRows rows)) s rows.length &&& unionF (gridF rows) s rows.length by rw [e]; rfl)
    have hcell := H.out.1
    have hand := bits_and (a := unionF (gridF (backRows rows)) s rows.length) (b := unionF (gridF rows) s rows.length) (small_lt (pow7_lt h7 hll) (by decide)) (small_lt (pow7_lt h7 hul) (by decide))
    clear e hk
    go_enter Tryd.func37, Tryd.ntmps37
    go_upto_region 6 with fail
    go_region_held3 (fun W' : World => W'.cell? ⟨w.heap.size, 0, none⟩ = some (.slice A rows.length C)) (first | exact H4.out.1 | exact H3.out.1 | exact H2.out.1 | exact H.out.drew.1) (first | (go_at_call 24; refine (HBK.out _ H2.out).mono ?_; rintro e w3 ⟨u, rfl, ho, hb3⟩; obtain ⟨a2, C2, rfl⟩ := ho.form; have HB := Lib.hid (back_rows ho); have H3 := Lib.hid (H2.out.below hb3); clear hb3 ho) | (go_at_call_of 25 (Value.slice A rows.length C); refine (HLO.out _ H.out.drew).mono ?_; rintro e w2 ⟨rfl, hb2⟩; have H2 := Lib.hid (H.out.drew.below hb2); clear hb2) | (go_at_call 25; refine (HUP.out _ _ HB.out).mono ?_; rintro e w4 ⟨rfl, hb4⟩; have H4 := Lib.hid (H3.out.below hb4); clear hb4))
    go_wp2
    go_ret
    exact ⟨by rw [HE.out]; rfl, H4.out.2.2.1⟩

set_option maxRecDepth 100000 in
set_option maxHeartbeats 4000000 in
theorem l5Under_any (v : Value) (rows : Rows2) (z : ByteArray) (s s' : Nat) (w : World) (hv : RowsAt w v rows) (hok : Ok rows) (h7 : rows.length ≤ 7) (hk : kindN z < 3) (hs : s < 2 ^ 60) (hs' : s' < 2 ^ 60) :
    Calls Tryd.prog 13 #[.agg #[v], .string z, .int .i64 (s : Int), .int .i64 (s' : Int)] w (SaysN (undL rows (kindN z) s s') w) := by
  have hH := Held.start w 26 hv
  obtain ⟨A, C, rfl, hC, hm, _⟩ := hv
  have HLO := Lib.hid (fun x W (h : Held w (.slice A rows.length C) rows W) (hx : x < 2 ^ 60) => l5Lower_any _ rows x W h.2.1 hok h7 hx)
  have HBK := Lib.hid (fun W (h : Held w (.slice A rows.length C) rows W) => l1Back_any _ rows W h.2.1 hok)
  have HUP := Lib.hid (fun u x W (h : RowsAt W u (backRows rows)) (hx : x < 2 ^ 60) => l5Upper_any u rows x W h hok h7 hx)
  have H := Lib.hid hH
  have hl1 := bits_diff (small_lt (pow7_lt h7 (lo_lt hok s)) (by decide)) (small_lt (pow7_lt h7 (lo_lt hok s')) (by decide))
  have hl2 := bits_diff (small_lt (pow7_lt h7 (up_lt hok s')) (by decide)) (small_lt (pow7_lt h7 (up_lt hok s)) (by decide))
  have hU : undL rows (kindN z) s s' = if kindN z = 0 then decide (diff (unionF (gridF (backRows rows)) s rows.length) (unionF (gridF (backRows rows)) s' rows.length) = 0) else if kindN z = 1 then decide (diff (unionF (gridF rows) s' rows.length) (unionF (gridF rows) s rows.length) = 0) else (decide (diff (unionF (gridF (backRows rows)) s rows.length) (unionF (gridF (backRows rows)) s' rows.length) = 0) && decide (diff (unionF (gridF rows) s' rows.length) (unionF (gridF rows) s rows.length) = 0)) := rfl
  have HU := Lib.hid hU
  obtain ⟨da, hda⟩ : ∃ d, d = diff (unionF (gridF (backRows rows)) s rows.length) (unionF (gridF (backRows rows)) s' rows.length) := ⟨_, rfl⟩
  obtain ⟨db, hdb⟩ : ∃ d, d = diff (unionF (gridF rows) s' rows.length) (unionF (gridF rows) s rows.length) := ⟨_, rfl⟩
  rw [← hda] at hl1 HU
  rw [← hdb] at hl2 HU
  obtain ⟨ta, hta⟩ : ∃ t : Bool, t = decide (da = 0) := ⟨_, rfl⟩
  obtain ⟨tb, htb⟩ : ∃ t : Bool, t = decide (db = 0) := ⟨_, rfl⟩
  rw [← hta, ← htb] at HU
  have hza : (((da : Nat) : Int) == 0) = ta := by rw [hta, Bool.eq_iff_iff, beq_iff_eq, decide_eq_true_iff]; omega
  have hzb : (((db : Nat) : Int) == 0) = tb := by rw [htb, Bool.eq_iff_iff, beq_iff_eq, decide_eq_true_iff]; omega
  have hza' : (da == 0) = ta := by rw [hta]; rfl
  have hzb' : (db == 0) = tb := by rw [htb]; rfl
  have hcell := H.out.1
  clear hok hH hU hda hdb hta htb
  go_enter Tryd.func13, Tryd.ntmps13
  go_upto_region 2 with (go_at_call 24; refine (HBK.out _ H.out).mono ?_; rintro e w2 ⟨u, rfl, ho, hb2⟩; obtain ⟨a2, C2, rfl⟩ := ho.form; have HB := Lib.hid (back_rows ho); have H2 := Lib.hid (H.out.below hb2); clear hb2 ho)
  have hb3 := (Below.refl w2.heap.size w2).alloc (Nat.le_refl _) (.cells #[.slice a2 rows.length C2] 26)
  have hbx := Boxed.new w2 26 (.slice a2 rows.length C2)
  have H3 := Lib.hid (H2.out.below hb3)
  have HB3 := Lib.hid (HB.out.below hb3)
  have HBX := Lib.hid hbx
  clear hb3 hbx
  generalize (w2.alloc (.cells #[.slice a2 rows.length C2] 26)) = w3 at H3 HB3 HBX ⊢
  generalize w2.heap.size = G at HBX ⊢
  have hc3 := H3.out.1
  have hd3 := HBX.out.cell
  have hq0 := fun d os => cell_regrown hc3 d os
  have hxS := fun d os => Calls.regrown_of (w := w3) (d := d) (os := os) (HLO.out s _ (H3.out.below (below_regrown w3 d os)) hs)
  have hxT := fun d os => Calls.regrown_of (w := w3) (d := d) (os := os) (HLO.out s' _ (H3.out.below (below_regrown w3 d os)) hs')
  refine wp_region_quiet_below (by kernel_rfl) (by kernel_rfl) ?_
  repeat (go_big_quiet_step (first | (go_at_call_of 25 (Value.int .i64 (s : Int)); exact hxS _ _) | (go_at_call_of 25 (Value.int .i64 (s' : Int)); exact hxT _ _)))
  refine wpQuiet_nil ?_
  intro w4 hw'
  have hb4 : Below w3.heap.size w3 w4 := by
    obtain ⟨⟨dq, osq⟩, hw''⟩ := hw'
    rw [hw'']
    exact below_regrown w3 dq osq
  clear hxS hxT hq0 hw'
  have H4 := Lib.hid (H3.out.below hb4)
  have HB4 := Lib.hid (HB3.out.below hb4)
  have hbx : Boxed w4 G 26 (.slice a2 rows.length C2) := (hb4.block _ HBX.out.lt).trans HBX.out
  have HBX4 := Lib.hid hbx
  clear hb4 hbx hc3 hd3
  have hd4 := HBX4.out.cell
  go_upto_region 3 with fail
  have hq0 := fun d os => cell_regrown hd4 d os
  have hxS := fun d os => Calls.regrown_of (w := w4) (d := d) (os := os) (HUP.out _ s' _ (HB4.out.below (below_regrown w4 d os)) hs')
  have hxT := fun d os => Calls.regrown_of (w := w4) (d := d) (os := os) (HUP.out _ s _ (HB4.out.below (below_regrown w4 d os)) hs)
  refine wp_region_quiet_below (by kernel_rfl) (by kernel_rfl) ?_
  repeat (go_big_quiet_step (first | (go_at_call_of 25 (Value.int .i64 (s' : Int)); exact hxS _ _) | (go_at_call_of 25 (Value.int .i64 (s : Int)); exact hxT _ _)))
  refine wpQuiet_nil ?_
  intro w5 hw'
  have HB5 : Hid (Below w.heap.size w w5) := Lib.hid (by
    obtain ⟨⟨dq, osq⟩, hw''⟩ := hw'
    rw [hw'']
    exact H4.out.2.2.1.trans ((below_regrown w4 dq osq).mono H4.out.2.2.1.size))
  clear hxS hxT hq0 hw' hd4
  rcases kind_cases hk with e | e | e
  · have h0 := kind_0 e
    have HE := Lib.hid (show undL rows (kindN z) s s' = ta by rw [HU.out, e]; rfl)
    clear e hk
    go_wp2
    go_ret
    exact ⟨by rw [HE.out]; rfl, HB5.out⟩
  · obtain ⟨h0, h1⟩ := kind_1 e
    have HE := Lib.hid (show undL rows (kindN z) s s' = tb by rw [HU.out, e]; rfl)
    clear e hk
    go_wp2
    go_ret
    exact ⟨by rw [HE.out]; rfl, HB5.out⟩
  · obtain ⟨h0, h1, _⟩ := kind_2 e
    have HE := Lib.hid (show undL rows (kindN z) s s' = (ta && tb) by rw [HU.out, e]; rfl)
    clear e hk
    cases ta
    · go_wp2
      go_ret
      exact ⟨by rw [HE.out]; rfl, HB5.out⟩
    · go_wp2
      go_ret
      exact ⟨by rw [HE.out]; first | rfl | simp, HB5.out⟩
end Go.Proofs.YtiaajegdaipdmaaDoor

/- An answer of a number and a Boolean. -/
namespace Go.Proofs.YtiaajegdaipdmaaDoor
open Go.RowKit Go.Deep

def SaysNB (n : Int) (t : Bool) (w : World) (e : Ending) (w' : World) : Prop := e = .returned (.tuple #[.int .i64 n, .bool t]) ∧ Below w.heap.size w w'
end Go.Proofs.YtiaajegdaipdmaaDoor

/- The model's l5Fits, PowerClose, PowerBelow. -/
namespace Go.Proofs.YtiaajegdaipdmaaDoor
open Go.RowKit Go.Deep

/-- A domain of few elements, and a kind. -/
noncomputable def fitB (rows : Rows2) (z : ByteArray) : Bool := domB rows && (decide (rows.length ≤ 7) && decide (kindN z < 3))
theorem fit_dom {rows : Rows2} {z : ByteArray} (h : domB rows = false) : fitB rows z = false := by unfold fitB; rw [h, Bool.false_and]
theorem fit_len {rows : Rows2} {z : ByteArray} (h : ¬ rows.length ≤ 7) : fitB rows z = false := by unfold fitB; rw [decide_eq_false h, Bool.false_and, Bool.and_false]
theorem fit_kind {rows : Rows2} {z : ByteArray} (h : ¬ kindN z < 3) : fitB rows z = false := by unfold fitB; rw [decide_eq_false h, Bool.and_false, Bool.and_false]
theorem fit_yes {rows : Rows2} {z : ByteArray} (hd : domB rows = true) (h7 : rows.length ≤ 7) (hk : kindN z < 3) : fitB rows z = true := by unfold fitB; rw [hd, decide_eq_true h7, decide_eq_true hk]; rfl
theorem fit_iff {rows : Rows2} {z : ByteArray} (h : fitB rows z = true) : domB rows = true ∧ Ok rows ∧ rows.length ≤ 7 ∧ kindN z < 3 := by
  unfold fitB at h
  rw [Bool.and_eq_true, Bool.and_eq_true, decide_eq_true_iff, decide_eq_true_iff] at h
  exact ⟨h.1, (domB_iff.1 h.1).1, h.2⟩
/-- A nonempty set of the elements. -/
noncomputable def setB (rows : Rows2) (x : Int) : Bool := decide (1 ≤ x ∧ x < ((2 ^ rows.length : Nat) : Int))
noncomputable def closeOk (rows : Rows2) (z : ByteArray) (x : Int) : Bool := fitB rows z && setB rows x
noncomputable def closeI (rows : Rows2) (z : ByteArray) (x : Int) : Int := if closeOk rows z x = true then ((closL rows (kindN z) x.toNat : Nat) : Int) else 0
noncomputable def powBelow (rows : Rows2) (z : ByteArray) (a b : Int) : Bool := closeOk rows z a && (closeOk rows z b && undL rows (kindN z) a.toNat b.toNat)
theorem closeI_no {rows : Rows2} {z : ByteArray} {x : Int} (h : closeOk rows z x = false) : closeI rows z x = 0 := by unfold closeI; rw [if_neg (by rw [h]; simp)]
/-- A power of two as the walk spells it. -/
theorem pow_walk {n : Nat} (hn : n ≤ 7) : ∃ M : Nat, M = 2 ^ n ∧ (1 ≤ M ∧ M ≤ 128) ∧ wrap64 ((2 : Int) ^ n) = (M : Int) ∧ n % 64 = n := by
  obtain ⟨M, hM⟩ : ∃ M : Nat, M = 2 ^ n := ⟨_, rfl⟩
  have h1 := Nat.pow_le_pow_right (show 0 < 2 by decide) hn
  have h2 := Nat.two_pow_pos n
  rw [← hM] at h1 h2
  refine ⟨M, hM, ⟨h2, h1⟩, ?_, Nat.mod_eq_of_lt (by omega)⟩
  rw [show ((2 : Int) ^ n) = (M : Int) by rw [hM]; simp]
  exact IntWalk.wrap64_in _ (by omega)

set_option maxRecDepth 100000 in
set_option maxHeartbeats 4000000 in
theorem l5Fits_any (v : Value) (rows : Rows2) (z : ByteArray) (w : World) (hv : RowsAt w v rows) (hn : bulk rows ≤ 1048576) :
    Calls Tryd.prog 22 #[.agg #[v], .string z] w (SaysN (fitB rows z) w) := by
  have hH := Held.start w 26 hv
  have hcall := specDom_any v rows _ hH.2.1 hn
  have hlen : rows.length ≤ 1048576 := by unfold bulk at hn; omega
  obtain ⟨A, C, rfl, hC, hm, _⟩ := hv
  unfold maxLen at hm
  have H := Lib.hid hH
  have hcell := hH.1
  clear hH
  cases hd : domB rows with
  | false =>
    rw [hd] at hcall
    have HE := Lib.hid (fit_dom (z := z) hd)
    have HCALL := Lib.hid hcall
    clear hd hcall
    go_enter Tryd.func22, Tryd.ntmps22
    go_wp2_with (go_at_call 36; refine HCALL.out.mono ?_; rintro e w2 ⟨rfl, hb2⟩; have H2 := Lib.hid (H.out.below hb2); clear hb2)
    go_ret
    exact ⟨by rw [HE.out]; rfl, H2.out.2.2.1⟩
  | true =>
    rw [hd] at hcall
    have HCALL := Lib.hid hcall
    clear hcall
    by_cases h7 : rows.length ≤ 7
    · have h7z : (rows.length : Int) ≤ 7 := by omega
      by_cases hk : kindN z < 3
      · have HE := Lib.hid (fit_yes hd h7 hk)
        clear hd
        rcases kind_cases hk with e | e | e
        · have h0 := kind_0 e
          clear e hk
          go_enter Tryd.func22, Tryd.ntmps22
          go_wp2_with (go_at_call 36; refine HCALL.out.mono ?_; rintro e w2 ⟨rfl, hb2⟩; have H2 := Lib.hid (H.out.below hb2); have hcell := H2.out.1; clear hb2)
          go_ret
          exact ⟨by rw [HE.out]; rfl, H2.out.2.2.1⟩
        · obtain ⟨h0, h1⟩ := kind_1 e
          clear e hk
          go_enter Tryd.func22, Tryd.ntmps22
          go_wp2_with (go_at_call 36; refine HCALL.out.mono ?_; rintro e w2 ⟨rfl, hb2⟩; have H2 := Lib.hid (H.out.below hb2); have hcell := H2.out.1; clear hb2)
          go_ret
          exact ⟨by rw [HE.out]; rfl, H2.out.2.2.1⟩
        · obtain ⟨h0, h1, h2⟩ := kind_2 e
          clear e hk
          go_enter Tryd.func22, Tryd.ntmps22
          go_wp2_with (go_at_call 36; refine HCALL.out.mono ?_; rintro e w2 ⟨rfl, hb2⟩; have H2 := Lib.hid (H.out.below hb2); have hcell := H2.out.1; clear hb2)
          go_ret
          exact ⟨by rw [HE.out]; rfl, H2.out.2.2.1⟩
      · have HE := Lib.hid (fit_kind (rows := rows) hk)
        obtain ⟨h0, h1, h2⟩ := kind_3 hk
        clear hk hd
        go_enter Tryd.func22, Tryd.ntmps22
        go_wp2_with (go_at_call 36; refine HCALL.out.mono ?_; rintro e w2 ⟨rfl, hb2⟩; have H2 := Lib.hid (H.out.below hb2); have hcell := H2.out.1; clear hb2)
        go_ret
        exact ⟨by rw [HE.out]; rfl, H2.out.2.2.1⟩
    · have h7z : ¬ ((rows.length : Int) ≤ 7) := by omega
      have HE := Lib.hid (fit_len (z := z) h7)
      clear hd
      go_enter Tryd.func22, Tryd.ntmps22
      go_wp2_with (go_at_call 36; refine HCALL.out.mono ?_; rintro e w2 ⟨rfl, hb2⟩; have H2 := Lib.hid (H.out.below hb2); have hcell := H2.out.1; clear hb2)
      go_ret
      exact ⟨by rw [HE.out]; rfl, H2.out.2.2.1⟩

end Go.Proofs.YtiaajegdaipdmaaDoor

/- The model's l2Row: the indexes that are kept. -/
namespace Go.Proofs.YtiaajegdaipdmaaDoor
open Go.RowKit Go.Deep

/-- The indexes below k that are kept. -/
def keptN (K : Nat → Bool) (k : Nat) : List Int := ((List.range k).filter K).map fun i : Nat => (i : Int)
theorem keptN_succ (K : Nat → Bool) (k : Nat) : keptN K (k + 1) = if K k = true then keptN K k ++ [(k : Int)] else keptN K k := by
  unfold keptN
  rw [List.range_succ, List.filter_append, List.map_append, List.filter_cons]
  cases K k with
  | true => rfl
  | false => simp
theorem keptN_le (K : Nat → Bool) (k : Nat) : (keptN K k).length ≤ k := by
  unfold keptN
  rw [List.length_map]
  have := List.length_filter_le K (List.range k)
  simpa using this
theorem keptN_range {K : Nat → Bool} {k : Nat} : ∀ x ∈ keptN K k, 0 ≤ x ∧ x < (k : Int) := by
  intro x hx
  unfold keptN at hx
  obtain ⟨i, hi, rfl⟩ := List.mem_map.1 hx
  have := List.mem_range.1 (List.mem_filter.1 hi).1
  omega

set_option maxRecDepth 100000 in
set_option maxHeartbeats 2000000 in
theorem l2Row_any (g n C : Nat) (K : Nat → Bool) (w : World) (hn : n ≤ 1048576) (hk : ∀ i, i < n → w.cell? ⟨g, i, none⟩ = some (.bool (K i))) :
    Calls Tryd.prog 14 #[.slice (some ⟨g, 0, none⟩) n C] w (OwnQ (keptN K n) w) := by
  have HC := Lib.hid (fun W (h : Below w.heap.size w W) i (hi : i < n) => (h.cell (p := ⟨g, i, none⟩) (cell_lt (hk i hi))).trans (hk i hi))
  have HO := Lib.hid (World.ownsRow_made (e := 3) (size := 1) w #[] 0 (base := w.heap.size) (Nat.le_refl _) (Nat.zero_le _) (by simp))
  have HB0 := Lib.hid ((Below.refl w.heap.size w).alloc (Nat.le_refl _) (.cells #[] 3))
  obtain ⟨i0, hi0, hz0, hz1, hz2⟩ := info_parts infoInt
  clear hk
  go_enter Tryd.func14, Tryd.ntmps14
  go_wp2
  go_loopw [3, 4] (fun ov iv wr => ∃ i : Nat, i ≤ n ∧ iv = .int .i64 i ∧ wr.ownsRow w.heap.size 3 1 ov (keptN K i).length (cellsI (keptN K i)) ∧ Below w.heap.size w wr) (fun _ iv _ => n - (intOf iv).toNat)
  case atStart => exact ⟨0, Nat.zero_le _, rfl, HO.out, HB0.out⟩
  case round =>
    obtain ⟨i, hi, rfl, hown, hB⟩ := hrel
    have HOWN := Lib.hid hown
    have HB := Lib.hid hB
    have hcl := keptN_le K i
    clear hown hB HO HB0
    by_cases hlt : i < n
    · have hltz : (i : Int) < (n : Int) := by omega
      have hc := HC.out _ HB.out i hlt
      have hbz := HB.out.size
      cases hq : K i with
      | true =>
        rw [hq] at hc
        have HE := Lib.hid (show keptN K (i + 1) = keptN K i ++ [(i : Int)] by rw [keptN_succ, if_pos hq])
        clear hq
        go_wp2_with (at_builtin; refine wpList_append_own _ rfl _ _ 34 rfl w.heap.size 3 i0 (.int .i64 0) 1 8 Tryd.underlying34 hi0 hz0 hz1 hz2 rfl (by decide) _ _ _ rfl (HOWN.out.alloc _) ⟨wr.heap.size, 0, none⟩ 1 1 [.int .i64 (i : Int)] rfl rfl (cell_one_new _ _ _) (by simp [Value.oneCell']) (by unfold maxLen; omega) (by omega) (by simp; omega) ?_; intro v' w1 hown' hgrow _)
        go_roundw
        case rel =>
          refine ⟨i + 1, by omega, by go_num, ?_, (HB.out.alloc HB.out.size _).grown hgrow (by rw [World.size_alloc]; omega) (fun b e => (HOWN.out.lt b e).1)⟩
          rw [HE.out, List.length_append, show cellsI (keptN K i ++ [(i : Int)]) = cellsI (keptN K i) ++ [.int .i64 (i : Int)] by simp]
          exact hown'
        case measure => simp [intOf]; omega
      | false =>
        rw [hq] at hc
        have HE := Lib.hid (show keptN K (i + 1) = keptN K i by rw [keptN_succ, if_neg (by rw [hq]; simp)])
        clear hq
        go_wp2
        go_roundw
        case rel => exact ⟨i + 1, by omega, by go_num, by rw [HE.out]; exact HOWN.out, HB.out⟩
        case measure => simp [intOf]; omega
    · obtain rfl : i = n := by omega
      go_wp2
      go_ret
      refine ⟨_, rfl, OwnI.of_owns HOWN.out (fun y hy => ?_) (fun b hb => (HOWN.out.lt b hb).2), HB.out⟩
      have := keptN_range y hy
      exact wf_int (by omega) (by omega)
end Go.Proofs.YtiaajegdaipdmaaDoor

/- The model's l5Sets, PowerSets. -/
namespace Go.Proofs.YtiaajegdaipdmaaDoor
open Go.RowKit Go.Deep

/-- What PowerSets answers. -/
noncomputable def powSets (rows : Rows2) (z : ByteArray) : List Int := if fitB rows z = true then setsL rows (kindN z) else []
theorem setsL_len {rows : Rows2} (h7 : rows.length ≤ 7) (k : Nat) : (setsL rows k).length ≤ 128 := by
  have h := setsTo_len rows k (2 ^ rows.length)
  have h1 := Nat.pow_le_pow_right (show 0 < 2 by decide) h7
  unfold setsL
  omega
theorem powSets_short (rows : Rows2) (z : ByteArray) : (powSets rows z).length ≤ 1048576 := by
  unfold powSets
  split
  · rename_i h
    have := setsL_len (fit_iff h).2.2.1 (kindN z)
    omega
  · exact Nat.zero_le _
theorem powSets_no {rows : Rows2} {z : ByteArray} (h : fitB rows z = false) : powSets rows z = [] := by unfold powSets; rw [if_neg (by rw [h]; simp)]
theorem powSets_yes {rows : Rows2} {z : ByteArray} (h : fitB rows z = true) : powSets rows z = setsL rows (kindN z) := by unfold powSets; rw [if_pos h]

set_option maxRecDepth 100000 in
set_option maxHeartbeats 4000000 in
theorem l5Sets_any (v : Value) (rows : Rows2) (z : ByteArray) (w : World) (hv : RowsAt w v rows) (hok : Ok rows) (h7 : rows.length ≤ 7) (hk : kindN z < 3) :
    Calls Tryd.prog 23 #[.agg #[v], .string z] w (OwnQ (setsL rows (kindN z)) w) := by
  have hH := Held.start w 26 hv
  obtain ⟨M, hM, hMb, hp1, hm64⟩ := pow_walk h7
  obtain ⟨A, C, rfl, hC, hm, _⟩ := hv
  unfold maxLen at hm
  have hb0 := (Below.refl w.heap.size w).alloc (Nat.le_refl _) (.cells #[.slice A rows.length C] 26)
  have hs1 : (w.alloc (.cells #[.slice A rows.length C] 26)).heap.size = w.heap.size + 1 := World.size_alloc _ _
  obtain ⟨w1, hw1⟩ : ∃ w1, w1 = w.alloc (.cells #[.slice A rows.length C] 26) := ⟨_, rfl⟩
  rw [← hw1] at hH hb0 hs1
  have HCL := Lib.hid (fun (s : Nat) W (h : Held w (.slice A rows.length C) rows W) (hs : s < M) => l5Close_any (.slice A rows.length C) rows z s W h.2.1 hok h7 hk (by omega))
  have HH := Lib.hid (fun W (hb : Below w1.heap.size w1 W) => hH.below hb)
  have HO := Lib.hid (World.ownsRow_made (e := 3) (size := 1) w1 #[] 0 (base := w1.heap.size) (Nat.le_refl _) (Nat.zero_le _) (by simp))
  have HB1 := Lib.hid ((Below.refl w1.heap.size w1).alloc (Nat.le_refl _) (.cells #[] 3))
  have HB0 := Lib.hid hb0
  have HS1 := Lib.hid hs1
  have HM := Lib.hid hM
  have hcell := hH.1
  obtain ⟨i0, hi0, hz0, hz1, hz2⟩ := info_parts infoInt
  generalize hkk : kindN z = k at HCL ⊢
  clear hH hb0 hs1 hM hkk hok hk
  go_enter Tryd.func23, Tryd.ntmps23
  go_upto_region 1 with fail
  rw [← hw1]
  clear hw1
  go_wp2
  go_loopw [5, 6] (fun ov sv wr => ∃ s : Nat, 1 ≤ s ∧ s ≤ M ∧ sv = .int .i64 (s : Int) ∧ wr.ownsRow w1.heap.size 3 1 ov (setsTo rows k s).length (cellsI (setsTo rows k s)) ∧ Below w1.heap.size w1 wr) (fun _ sv _ => M - (intOf sv).toNat)
  case atStart => exact ⟨1, Nat.le_refl _, hMb.1, rfl, by rw [setsTo_one]; exact HO.out, HB1.out⟩
  case round =>
    obtain ⟨s, hs1, hsM, rfl, hown, hb⟩ := hrel
    have HOWN := Lib.hid hown
    have HB := Lib.hid hb
    have hcell := (HH.out wr hb).1
    have hsl := setsTo_len rows k s
    have hbz := hb.size
    clear hown hb HO HB1
    by_cases hlt : s < M
    · have hsz : (s : Int) < (M : Int) := by omega
      have hcall := HCL.out s wr (HH.out wr HB.out) hlt
      obtain ⟨c, hc⟩ : ∃ c, c = closL rows k s := ⟨_, rfl⟩
      rw [← hc] at hcall
      have HCC := Lib.hid hc
      have HCALL := Lib.hid hcall
      clear hcall hc
      by_cases hcs : c = s
      · have q1 : ((c : Int) == (s : Int)) = true := by rw [beq_iff_eq]; omega
        have q2 : (c == s) = true := by rw [beq_iff_eq]; exact hcs
        have HE := Lib.hid (setsTo_yes (rows := rows) (k := k) hs1 (by rw [← HCC.out]; exact hcs))
        clear hcs
        go_upto_region 6 with (go_at_call 37; refine HCALL.out.mono ?_; clear HCALL; rintro e w2 ⟨rfl, hb2⟩; have HB2 := Lib.hid (HB.out.trans (hb2.mono HB.out.size)); have HO2 := Lib.hid (owns_below HOWN.out hb2); clear hb2)
        have hbz2 := HB2.out.size
        go_wp2_with (at_builtin; refine wpList_append_own _ rfl _ _ 34 rfl w1.heap.size 3 i0 (.int .i64 0) 1 8 Tryd.underlying34 hi0 hz0 hz1 hz2 rfl (by decide) _ _ _ rfl (HO2.out.alloc _) ⟨w2.heap.size, 0, none⟩ 1 1 [.int .i64 (s : Int)] rfl rfl (cell_one_new _ _ _) (by simp [Value.oneCell']) (by unfold maxLen; omega) (by omega) (by simp; omega) ?_; intro v' w3 hown' hgrow _)
        go_roundw
        case rel =>
          refine ⟨s + 1, by omega, by omega, by go_num, ?_, (HB2.out.alloc HB2.out.size _).grown hgrow (by rw [World.size_alloc]; omega) (fun b e => (HO2.out.lt b e).1)⟩
          rw [HE.out, List.length_append, show cellsI (setsTo rows k s ++ [(s : Int)]) = cellsI (setsTo rows k s) ++ [.int .i64 (s : Int)] by simp]
          exact hown'
        case measure => simp [intOf]; omega
      · have q1 : ((c : Int) == (s : Int)) = false := by rw [beq_eq_false_iff_ne]; omega
        have q2 : (c == s) = false := by rw [beq_eq_false_iff_ne]; exact hcs
        have HE := Lib.hid (setsTo_no (rows := rows) (k := k) (m := s) (by rw [← HCC.out]; exact hcs))
        clear hcs
        go_wp2_with (go_at_call 37; refine HCALL.out.mono ?_; clear HCALL; rintro e w2 ⟨rfl, hb2⟩; have HB2 := Lib.hid (HB.out.trans (hb2.mono HB.out.size)); have HO2 := Lib.hid (owns_below HOWN.out hb2); clear hb2)
        go_roundw
        case rel => exact ⟨s + 1, by omega, by omega, by go_num, by rw [HE.out]; exact HO2.out, HB2.out⟩
        case measure => simp [intOf]; omega
    · obtain rfl : s = M := by omega
      have hsz : ¬ ((s : Int) < (s : Int)) := by omega
      go_wp2
      go_ret
      refine ⟨_, rfl, ?_, HB0.out.trans (HB.out.mono HB0.out.size)⟩
      have e : setsL rows k = setsTo rows k s := by
        unfold setsL
        rw [← HM.out]
      rw [e]
      exact (OwnI.of_owns HOWN.out (fun y hy => by
        obtain ⟨x, rfl, _, hx, _⟩ := setsTo_mem hy
        exact wf_int (by omega) (by omega)) (fun b hb => (HOWN.out.lt b hb).2)).wider HB0.out.size (Nat.le_refl _)

theorem none_own (W : World) {lo : Nat} (hl : lo ≤ W.heap.size) : OwnI 3 (W.alloc (.cells #[] 3)) (.slice (some ⟨W.heap.size, 0, none⟩) 0 0) [] lo (W.alloc (.cells #[] 3)).heap.size :=
  ⟨fun _ h => (by cases h), .inr ⟨W.heap.size, 0, fun _ => undef, rfl, Nat.le_refl _, Nat.zero_le _, hl, by rw [World.size_alloc]; omega, World.rowIs_alloc W #[] 3 (fun _ => undef) (fun _ h => absurd h (Nat.not_lt_zero _)), fun _ h => absurd h (Nat.not_lt_zero _)⟩⟩

set_option maxRecDepth 100000 in
set_option maxHeartbeats 4000000 in
theorem specPowSets_any (v : Value) (rows : Rows2) (z : ByteArray) (w : World) (hv : RowsAt w v rows) (hn : bulk rows ≤ 1048576) :
    Calls Tryd.prog 12 #[.agg #[v], .string z] w (OwnB (powSets rows z) (fitB rows z) w) := by
  have hH := Held.start w 26 hv
  have hcall := l5Fits_any v rows z _ hH.2.1 hn
  obtain ⟨A, C, rfl, hC, hm, _⟩ := hv
  have H := Lib.hid hH
  have hcell := hH.1
  clear hH
  cases hf : fitB rows z with
  | false =>
    rw [hf] at hcall
    have HI := Lib.hid (powSets_no hf)
    have HCALL := Lib.hid hcall
    clear hf hcall
    go_enter Tryd.func12, Tryd.ntmps12
    go_wp2_with (go_at_call 22; refine HCALL.out.mono ?_; rintro e w2 ⟨rfl, hb2⟩; have H2 := Lib.hid (H.out.below hb2); clear hb2)
    go_ret2
    refine ⟨_, rfl, ?_, H2.out.2.2.1.alloc H2.out.2.2.1.size _⟩
    rw [HI.out]
    exact none_own w2 H2.out.2.2.1.size
  | true =>
    rw [hf] at hcall
    obtain ⟨_, hok, h7, hk⟩ := fit_iff hf
    have HI := Lib.hid (powSets_yes hf)
    have HCL := Lib.hid (fun W (h : Held w (.slice A rows.length C) rows W) => l5Sets_any (.slice A rows.length C) rows z W h.2.1 hok h7 hk)
    have HCALL := Lib.hid hcall
    clear hf hcall hok hk
    go_enter Tryd.func12, Tryd.ntmps12
    go_wp2_with (first | (go_at_call 22; refine HCALL.out.mono ?_; rintro e w2 ⟨rfl, hb2⟩; have H2 := Lib.hid (H.out.below hb2); have hcell := H2.out.1; clear hb2) | (go_at_call 23; refine (HCL.out _ H2.out).mono ?_; rintro e w3 ⟨u, rfl, ho, hb3⟩; have HO := Lib.hid ho; have HB3 := Lib.hid hb3; clear ho hb3))
    go_ret2
    refine ⟨u, rfl, ?_, H2.out.2.2.1.trans (HB3.out.mono H2.out.2.2.1.size)⟩
    rw [HI.out]
    exact HO.out.wider H2.out.2.2.1.size (Nat.le_refl _)
end Go.Proofs.YtiaajegdaipdmaaDoor

/- The program's domainOf. -/
namespace Go.Proofs.YtiaajegdaipdmaaDoor
open Go.RowKit Go.Deep Go.Shelf

/-- What domainOf answers: the grid of a domain, in memory of its own. -/
def DomNo (w : World) (e : Ending) (w' : World) : Prop := e = .returned (.tuple #[.pointer none, .bool false]) ∧ Below w.heap.size w w'
def DomYes (rows : Rows2) (w : World) (e : Ending) (w' : World) : Prop :=
  (∃ p : Nat, e = .returned (.tuple #[.pointer (some ⟨p, 0, none⟩), .bool true]) ∧ w.heap.size ≤ p ∧ GridAt w' p (gridF rows)) ∧ Below w.heap.size w w'

set_option maxRecDepth 100000 in
set_option maxHeartbeats 4000000 in
theorem domainOf_no (v : Value) (rows : Rows2) (w : World) (hv : RowsAt w v rows) (hT : Tab w) (hn : bulk rows ≤ 1048576) (hd : domB rows = false) :
    Calls Tryd.prog 27 #[.agg #[v]] w (DomNo w) := by
  have hH := Held.start w 26 hv
  have hT1 := hT.below ((Below.refl _ w).alloc (Nat.le_refl _) (.cells #[v] 26))
  have hcall := fun t h => gridOf_t v rows _ hH.2.1 hT1 hn (t := t) h
  have hz := (zero_of_info zeroGrid).1
  obtain ⟨A, C, rfl, _⟩ := hv
  have HH := Lib.hid hH
  have HT := Lib.hid hT1
  clear hH hT hT1
  unfold domB at hd
  cases hval : validB rows with
  | false =>
    have hc := hcall false hval
    clear hval hcall hd
    go_enter Tryd.func27, Tryd.ntmps27
    go_wp2_with (first | (go_at_call 39; refine hc.mono ?_; clear hc; rintro e w1 ⟨⟨g, hg, rfl⟩, hb1⟩; have HG := Lib.hid hg; have H1 := Lib.hid (HH.out.below hb1); clear hg hb1) | (refine wpList_store_row rfl 75 (.tmp 4) (.tmp 9) rfl w1.heap.size (gridCells g) rfl rfl 75 (gridCells fun _ => 0) (store_new w1).1 (by rw [gridCells_size]; exact sizeGrid) (by rw [gridCells_size, gridCells_size]) (gridCells_one _) ?_))
    go_ret2
    exact ⟨rfl, (H1.out.below (newGrid_below g w1)).2.2.1⟩
  | true =>
    have hok := ok_of_valid hval
    have hc := hcall true hval
    have hde := isDomF_eq hok
    rw [hval, Bool.true_and, ← hde] at hd
    have HEL := Lib.hid (fun i (_ : i < rows.length) k (hk : k ∈ elems (gridF rows i)) => hok.lt200 ((mem_elems (hok.lt i)).1 hk))
    have HN := Lib.hid hok.gridN
    clear hval hcall hde hok
    go_enter Tryd.func27, Tryd.ntmps27
    go_wp2_with (first | (go_at_call 39; refine hc.mono ?_; clear hc; rintro e w1 ⟨⟨g, hg, rfl⟩, hb1⟩; obtain ⟨hg1, hg2⟩ := hg; obtain rfl := hg2 rfl; clear hg2; have HG := Lib.hid hg1; have H1 := Lib.hid (HH.out.below hb1); have T1 := Lib.hid (HT.out.below hb1); clear hg1 hb1; have H2 := Lib.hid (H1.out.below (newGrid_below (gridF rows) w1)); have T2 := Lib.hid (T1.out.below (newGrid_below (gridF rows) w1)); have G2 := Lib.hid (newGrid_at HG.out w1)) | (refine wpList_store_row rfl 75 (.tmp 4) (.tmp 9) rfl w1.heap.size (gridCells (gridF rows)) rfl rfl 75 (gridCells fun _ => 0) (store_new w1).1 (by rw [gridCells_size]; exact sizeGrid) (by rw [gridCells_size, gridCells_size]) (gridCells_one _) ?_) | (go_at_call 40; have hcd := isDomain_any w1.heap.size rows.length (gridF rows) _ G2.out T2.out HN.out HEL.out; rw [hd] at hcd; refine hcd.mono ?_; clear hcd; rintro e w3 ⟨rfl, hb3⟩; have H3 := Lib.hid (H2.out.below hb3); clear hb3))
    go_ret2
    exact ⟨rfl, H3.out.2.2.1⟩

set_option maxRecDepth 100000 in
set_option maxHeartbeats 4000000 in
theorem domainOf_yes (v : Value) (rows : Rows2) (w : World) (hv : RowsAt w v rows) (hT : Tab w) (hn : bulk rows ≤ 1048576) (hd : domB rows = true) :
    Calls Tryd.prog 27 #[.agg #[v]] w (DomYes rows w) := by
  have hH := Held.start w 26 hv
  have hT1 := hT.below ((Below.refl _ w).alloc (Nat.le_refl _) (.cells #[v] 26))
  have hcall := fun t h => gridOf_t v rows _ hH.2.1 hT1 hn (t := t) h
  have hz := (zero_of_info zeroGrid).1
  obtain ⟨A, C, rfl, _⟩ := hv
  have HH := Lib.hid hH
  have HT := Lib.hid hT1
  clear hH hT hT1
  unfold domB at hd
  rw [Bool.and_eq_true] at hd
  obtain ⟨hval, hd⟩ := hd
  have hok := ok_of_valid hval
  have hc := hcall true hval
  have hde := isDomF_eq hok
  rw [← hde] at hd
  have HEL := Lib.hid (fun i (_ : i < rows.length) k (hk : k ∈ elems (gridF rows i)) => hok.lt200 ((mem_elems (hok.lt i)).1 hk))
  have HN := Lib.hid hok.gridN
  clear hval hcall hde hok
  go_enter Tryd.func27, Tryd.ntmps27
  go_wp2_with (first | (go_at_call 39; refine hc.mono ?_; clear hc; rintro e w1 ⟨⟨g, hg, rfl⟩, hb1⟩; obtain ⟨hg1, hg2⟩ := hg; obtain rfl := hg2 rfl; clear hg2; have HG := Lib.hid hg1; have H1 := Lib.hid (HH.out.below hb1); have T1 := Lib.hid (HT.out.below hb1); clear hg1 hb1; have H2 := Lib.hid (H1.out.below (newGrid_below (gridF rows) w1)); have T2 := Lib.hid (T1.out.below (newGrid_below (gridF rows) w1)); have G2 := Lib.hid (newGrid_at HG.out w1)) | (refine wpList_store_row rfl 75 (.tmp 4) (.tmp 9) rfl w1.heap.size (gridCells (gridF rows)) rfl rfl 75 (gridCells fun _ => 0) (store_new w1).1 (by rw [gridCells_size]; exact sizeGrid) (by rw [gridCells_size, gridCells_size]) (gridCells_one _) ?_) | (go_at_call 40; have hcd := isDomain_any w1.heap.size rows.length (gridF rows) _ G2.out T2.out HN.out HEL.out; rw [hd] at hcd; refine hcd.mono ?_; clear hcd; rintro e w3 ⟨rfl, hb3⟩; have H3 := Lib.hid (H2.out.below hb3); have G3 := Lib.hid (G2.out.below hb3 G2.out.lt); clear hb3))
  go_ret2
  exact ⟨⟨w1.heap.size, rfl, H1.out.2.2.1.size, G3.out⟩, H3.out.2.2.1⟩
end Go.Proofs.YtiaajegdaipdmaaDoor

/- The program's powerOf. -/
namespace Go.Proofs.YtiaajegdaipdmaaDoor
open Go.RowKit Go.Deep Go.Shelf

/-- The zero value of a powerdomain. -/
abbrev pdZero : Array Value := #[.int .i64 0, .slice none 0 0, .nilFunc, .nilFunc]
theorem PwAt.stored {rows : Rows2} {k : Nat} {F1 : FuncId} {lo hi lo' R : Nat} {v : Value} {sb : Nat} {W : World} (h : PwAt rows k F1 lo hi v sb W) (hR : R < lo) (hl : lo' ≤ lo) (hh : hi ≤ W.heap.size) (cs : Array Value) : PwAt rows k F1 lo' W.heap.size v sb (W.setRow R cs) := by
  obtain ⟨lb, ub, A, B, C, D, ho, hp⟩ := h
  refine ⟨lb, ub, A, B, C, D, (ho.kept fun b e => setRow_other W R b cs (by have := (ho.block b e).1; omega)).wider hl hh, fun W' hb hz => hp W' (fun b h1 h2 => (hb b (by omega) (by omega)).trans (setRow_other W R b cs (by omega))) (by omega)⟩
theorem PwAt.step {rows : Rows2} {k : Nat} {F1 : FuncId} {lo : Nat} {v : Value} {sb : Nat} {W W' : World} (h : PwAt rows k F1 lo W.heap.size v sb W) (hb : Below W.heap.size W W') : PwAt rows k F1 lo W.heap.size v sb W' := by
  obtain ⟨lb, ub, A, B, C, D, ho, hp⟩ := h
  exact ⟨lb, ub, A, B, C, D, ho.kept fun b e => hb.block b (ho.block b e).2.1, fun W2 hb2 hz => hp W2 (fun b h1 h2 => (hb2 b h1 h2).trans (hb.block b h2)) hz⟩
theorem PwAt.wider {rows : Rows2} {k : Nat} {F1 : FuncId} {lo hi lo' hi' : Nat} {v : Value} {sb : Nat} {W : World} (h : PwAt rows k F1 lo hi v sb W) (hl : lo' ≤ lo) (hh : hi ≤ hi') : PwAt rows k F1 lo' hi' v sb W := by
  obtain ⟨lb, ub, A, B, C, D, ho, hp⟩ := h
  exact ⟨lb, ub, A, B, C, D, ho.wider hl hh, fun W2 hb2 hz => hp W2 (fun b h1 h2 => hb2 b (by omega) (by omega)) (by omega)⟩
theorem pw_one {n : Nat} {v fc fo : Value} (h : v.oneCell' = true) (h2 : fc.oneCell' = true) (h3 : fo.oneCell' = true) : (#[Value.int .i64 ((n : Nat) : Int), v, fc, fo]).all (·.oneCell') = true := by
  rw [Array.all_eq_true_iff_forall_mem]
  intro x hx
  simp only [List.mem_toArray, List.mem_cons, List.not_mem_nil, or_false] at hx
  rcases hx with rfl | rfl | rfl | rfl
  · rfl
  · exact h
  · exact h2
  · exact h3
theorem sizePD : (Tryd.prog.info? 45).map (·.size) = some 4 := by kernel_rfl
/-- The variables of powerOf. -/
theorem of_start (w : World) (v : Value) : Below w.heap.size w ((w.alloc (.cells #[v] 26)).alloc (.cells pdZero 45)) ∧ ((w.alloc (.cells #[v] 26)).alloc (.cells pdZero 45)).heap[w.heap.size + 1]? = some (.cells pdZero 45 (0, 0)) ∧ ((w.alloc (.cells #[v] 26)).alloc (.cells pdZero 45)).cell? ⟨w.heap.size, 0, none⟩ = some v := by
  have s1 : (w.alloc (.cells #[v] 26)).heap.size = w.heap.size + 1 := World.size_alloc _ _
  refine ⟨((Below.refl _ w).alloc (Nat.le_refl _) _).alloc (by rw [s1]; omega) _, by rw [← s1]; exact heap_alloc_new _ _, cell_alloc_any (Boxed.cell (Boxed.new w 26 v)) _⟩

/-- What powerOf answers. -/
def OfNo (w : World) (e : Ending) (w' : World) : Prop := e = .returned (.tuple #[.agg pdZero, .bool false]) ∧ Below w.heap.size w w'
def OfYes (rows : Rows2) (k : Nat) (F1 F2 F3 : FuncId) (w : World) (e : Ending) (w' : World) : Prop :=
  ∃ v kb sb, e = .returned (.tuple #[pwV rows.length v F2 F3 kb sb, .bool true]) ∧ PwAt rows k F1 w.heap.size w'.heap.size v sb w' ∧ Below w.heap.size w w'

set_option maxRecDepth 100000 in
set_option maxHeartbeats 4000000 in
theorem powerOf_no (v : Value) (rows : Rows2) (z : ByteArray) (w : World) (hv : RowsAt w v rows) (hT : Tab w) (hn : bulk rows ≤ 1048576) (hf : fitB rows z = false) :
    Calls Tryd.prog 16 #[.agg #[v], .string z] w (OfNo w) := by
  obtain ⟨hb0, hr0, hc0⟩ := of_start w v
  have hlen : rows.length ≤ 1048576 := by unfold bulk at hn; omega
  obtain ⟨wB, hwB⟩ : ∃ wB, wB = (w.alloc (.cells #[v] 26)).alloc (.cells pdZero 45) := ⟨_, rfl⟩
  rw [← hwB] at hb0 hr0 hc0
  have hvB := hv.below hb0
  have hTB := hT.below hb0
  have HB := Lib.hid hb0
  have HR := Lib.hid hr0
  have HC := Lib.hid hc0
  have hup := Tryd.underlying45
  have hip := sizePD
  have hRes := fun W (hb : Below wB.heap.size wB W) => (hb.block (w.heap.size + 1) (Array.getElem?_eq_some_iff.1 hr0).1).trans hr0
  have hCes := fun W (hb : Below wB.heap.size wB W) => (hb.cell (p := ⟨w.heap.size, 0, none⟩) (cell_lt hc0)).trans hc0
  have HRS := Lib.hid hRes
  have HCS := Lib.hid hCes
  clear hRes hCes hb0 hr0
  by_cases hd : domB rows = true
  · have hcall := domainOf_yes v rows wB hvB hTB hn hd
    have HCALL := Lib.hid hcall
    obtain ⟨A, C, rfl, hC, hm, _⟩ := hv
    unfold maxLen at hm
    clear hvB hTB hT hn hcall
    by_cases h7 : rows.length ≤ 7
    · have h7z : ¬ ((7 : Int) < (rows.length : Int)) := by omega
      obtain ⟨h0, h1, h2⟩ := kind_3 (z := z) (fun hk => by rw [fit_yes hd h7 hk] at hf; cases hf)
      clear hf hd
      go_enter Tryd.func16, Tryd.ntmps16
      go_upto_region 1 with fail
      rw [← hwB]
      clear hwB
      go_upto_region 11 with (go_at_call 27; refine HCALL.out.mono ?_; clear HCALL; rintro e w2 ⟨⟨p, rfl, hp, hg⟩, hb2⟩; have hcell := HCS.out w2 hb2; have hres := HRS.out w2 hb2; have HB2 := Lib.hid (HB.out.trans (hb2.mono HB.out.size)); clear hb2 hg)
      have hst := setRow_heap w2 (w.heap.size + 1) _ pdZero _ _ hres
      have hld := run_loadVar_row (P := Tryd.prog) (w2.setRow (w.heap.size + 1) pdZero) (w.heap.size + 1) 45 45 pdZero (0, 0) _ hst hup rfl hip
      go_wp2_with (refine wpList_store_row rfl 45 (.tmp 4) (.tmp 35) rfl (w.heap.size + 1) pdZero rfl rfl 45 pdZero hres hip rfl (by simp [Value.oneCell']) ?_)
      refine bodyPost_ret (v := .tuple #[.agg pdZero, .bool false]) (by simp [results, Tryd.results16, asAddr, hld]) rfl ?_
      exact ⟨rfl, below_setRow' HB2.out (Nat.le_succ _) _⟩
    · have h7z : (7 : Int) < (rows.length : Int) := by omega
      clear hf hd
      go_enter Tryd.func16, Tryd.ntmps16
      go_upto_region 1 with fail
      rw [← hwB]
      clear hwB
      go_upto_region 3 with (go_at_call 27; refine HCALL.out.mono ?_; clear HCALL; rintro e w2 ⟨⟨p, rfl, hp, hg⟩, hb2⟩; have hcell := HCS.out w2 hb2; have hres := HRS.out w2 hb2; have HB2 := Lib.hid (HB.out.trans (hb2.mono HB.out.size)); clear hb2 hg)
      have hst := setRow_heap w2 (w.heap.size + 1) _ pdZero _ _ hres
      have hld := run_loadVar_row (P := Tryd.prog) (w2.setRow (w.heap.size + 1) pdZero) (w.heap.size + 1) 45 45 pdZero (0, 0) _ hst hup rfl hip
      go_wp2_with (refine wpList_store_row rfl 45 (.tmp 4) (.tmp 21) rfl (w.heap.size + 1) pdZero rfl rfl 45 pdZero hres hip rfl (by simp [Value.oneCell']) ?_)
      refine bodyPost_ret (v := .tuple #[.agg pdZero, .bool false]) (by simp [results, Tryd.results16, asAddr, hld]) rfl ?_
      exact ⟨rfl, below_setRow' HB2.out (Nat.le_succ _) _⟩
  · have hcall := domainOf_no v rows wB hvB hTB hn (Bool.eq_false_iff.2 hd)
    have HCALL := Lib.hid hcall
    obtain ⟨A, C, rfl, _⟩ := hv
    clear hvB hTB hT hn hcall hd hf
    go_enter Tryd.func16, Tryd.ntmps16
    go_upto_region 1 with fail
    rw [← hwB]
    clear hwB
    go_upto_region 3 with (go_at_call 27; refine HCALL.out.mono ?_; clear HCALL; rintro e w2 ⟨rfl, hb2⟩; have hcell := HCS.out w2 hb2; have hres := HRS.out w2 hb2; have HB2 := Lib.hid (HB.out.trans (hb2.mono HB.out.size)); clear hb2)
    have hst := setRow_heap w2 (w.heap.size + 1) _ pdZero _ _ hres
    have hld := run_loadVar_row (P := Tryd.prog) (w2.setRow (w.heap.size + 1) pdZero) (w.heap.size + 1) 45 45 pdZero (0, 0) _ hst hup rfl hip
    go_wp2_with (refine wpList_store_row rfl 45 (.tmp 4) (.tmp 21) rfl (w.heap.size + 1) pdZero rfl rfl 45 pdZero hres hip rfl (by simp [Value.oneCell']) ?_)
    refine bodyPost_ret (v := .tuple #[.agg pdZero, .bool false]) (by simp [results, Tryd.results16, asAddr, hld]) rfl ?_
    exact ⟨rfl, below_setRow' HB2.out (Nat.le_succ _) _⟩

set_option maxRecDepth 100000 in
set_option maxHeartbeats 4000000 in
theorem lowerOf_any (v : Value) (rows : Rows2) (z : ByteArray) (w : World) (hv : RowsAt w v rows) (hT : Tab w) (hn : bulk rows ≤ 1048576) (hf : fitB rows z = true) (hk : kindN z = 0) :
    Calls Tryd.prog 16 #[.agg #[v], .string z] w (OfYes rows 0 43 45 46 w) := by
  obtain ⟨hb0, hr0, hc0⟩ := of_start w v
  obtain ⟨hd, hok, h7, _⟩ := fit_iff hf
  obtain ⟨wB, hwB⟩ : ∃ wB, wB = (w.alloc (.cells #[v] 26)).alloc (.cells pdZero 45) := ⟨_, rfl⟩
  rw [← hwB] at hb0 hr0 hc0
  have hvB := hv.below hb0
  have hTB := hT.below hb0
  have HB := Lib.hid hb0
  have hup := Tryd.underlying45
  have hip := sizePD
  have HRS := Lib.hid (fun W (hb : Below wB.heap.size wB W) => (hb.block (w.heap.size + 1) (Array.getElem?_eq_some_iff.1 hr0).1).trans hr0)
  have HCS := Lib.hid (fun W (hb : Below wB.heap.size wB W) => (hb.cell (p := ⟨w.heap.size, 0, none⟩) (cell_lt hc0)).trans hc0)
  have HLT := Lib.hid (show w.heap.size + 1 < wB.heap.size from (Array.getElem?_eq_some_iff.1 hr0).1)
  have hcall := domainOf_yes v rows wB hvB hTB hn hd
  have HCALL := Lib.hid hcall
  have HWT := Lib.hid (fun p W (hg : GridAt W p (gridF rows)) (hTW : Tab W) => lowerWith_any p rows W hg hTW hok h7)
  have HTB := Lib.hid hTB
  obtain ⟨A, C, rfl, hC, hm, _⟩ := hv
  unfold maxLen at hm
  have h7z : ¬ ((7 : Int) < (rows.length : Int)) := by omega
  have h0 := kind_0 hk
  clear hvB hTB hT hn hcall hb0 hr0 hf hd hk hok
  go_enter Tryd.func16, Tryd.ntmps16
  go_upto_region 1 with fail
  rw [← hwB]
  clear hwB
  go_upto_region 6 with (go_at_call 27; refine HCALL.out.mono ?_; clear HCALL; rintro e w2 ⟨⟨p, rfl, hp, hg⟩, hb2⟩; have hcell := HCS.out w2 hb2; have HG2 := Lib.hid hg; have HB2 := Lib.hid hb2; clear hb2 hg)
  have hcall := HWT.out p w2 HG2.out (HTB.out.below HB2.out)
  have HCALL := Lib.hid hcall
  clear hcall
  go_wp2_with fail
  refine HCALL.out.mono ?_
  clear HCALL
  rintro e w3 ⟨u, kb, sb, rfl, hpw, hb3⟩
  have hres := HRS.out w3 (HB2.out.trans (hb3.mono HB2.out.size))
  have HB3 := Lib.hid (HB.out.trans ((HB2.out.trans (hb3.mono HB2.out.size)).mono HB.out.size))
  have HPW := Lib.hid hpw
  have hu1 : u.oneCell' = true := by
    obtain ⟨_, _, _, _, _, _, ho, _⟩ := hpw
    obtain ⟨a, C, rfl⟩ := ho.form
    rfl
  have hone := pw_one (n := rows.length) (fc := .func (.func 45) #[] #[.pointer (some ⟨kb, 0, none⟩), .pointer (some ⟨sb, 0, none⟩)]) (fo := .func (.func 46) #[] #[.pointer (some ⟨kb, 0, none⟩), .pointer (some ⟨sb, 0, none⟩)]) hu1 rfl rfl
  have hst := setRow_heap w3 (w.heap.size + 1) _ #[.int .i64 ((rows.length : Nat) : Int), u, .func (.func 45) #[] #[.pointer (some ⟨kb, 0, none⟩), .pointer (some ⟨sb, 0, none⟩)], .func (.func 46) #[] #[.pointer (some ⟨kb, 0, none⟩), .pointer (some ⟨sb, 0, none⟩)]] _ _ hres
  have hld := run_loadVar_row (P := Tryd.prog) _ (w.heap.size + 1) 45 45 _ (0, 0) _ hst hup rfl hip
  have HLE := Lib.hid (show w.heap.size + 1 < w2.heap.size by have := HLT.out; have := HB2.out.size; omega)
  clear hpw hb3 hst hu1
  go_wp2_with (refine wpList_store_row rfl 45 (.tmp 4) (.tmp 26) rfl (w.heap.size + 1) #[.int .i64 ((rows.length : Nat) : Int), u, .func (.func 45) #[] #[.pointer (some ⟨kb, 0, none⟩), .pointer (some ⟨sb, 0, none⟩)], .func (.func 46) #[] #[.pointer (some ⟨kb, 0, none⟩), .pointer (some ⟨sb, 0, none⟩)]] rfl rfl 45 pdZero hres hip rfl hone ?_)
  refine bodyPost_ret (v := .tuple #[pwV rows.length u 45 46 kb sb, .bool true]) (by simp [results, Tryd.results16, asAddr, hld]) rfl ?_
  refine ⟨u, kb, sb, rfl, ?_, below_setRow' HB3.out (Nat.le_succ _) _⟩
  rw [size_setRow]
  exact HPW.out.stored HLE.out (by have := HLE.out; omega) (Nat.le_refl _) _

set_option maxRecDepth 100000 in
set_option maxHeartbeats 4000000 in
theorem upperOf_any (v : Value) (rows : Rows2) (z : ByteArray) (w : World) (hv : RowsAt w v rows) (hT : Tab w) (hn : bulk rows ≤ 1048576) (hf : fitB rows z = true) (hk : kindN z = 1) :
    Calls Tryd.prog 16 #[.agg #[v], .string z] w (OfYes rows 1 48 49 50 w) := by
  obtain ⟨hb0, hr0, hc0⟩ := of_start w v
  obtain ⟨hd, hok, h7, _⟩ := fit_iff hf
  obtain ⟨wB, hwB⟩ : ∃ wB, wB = (w.alloc (.cells #[v] 26)).alloc (.cells pdZero 45) := ⟨_, rfl⟩
  rw [← hwB] at hb0 hr0 hc0
  have hvB := hv.below hb0
  have hTB := hT.below hb0
  have HB := Lib.hid hb0
  have hup := Tryd.underlying45
  have hip := sizePD
  have HRS := Lib.hid (fun W (hb : Below wB.heap.size wB W) => (hb.block (w.heap.size + 1) (Array.getElem?_eq_some_iff.1 hr0).1).trans hr0)
  have HCS := Lib.hid (fun W (hb : Below wB.heap.size wB W) => (hb.cell (p := ⟨w.heap.size, 0, none⟩) (cell_lt hc0)).trans hc0)
  have HLT := Lib.hid (show w.heap.size + 1 < wB.heap.size from (Array.getElem?_eq_some_iff.1 hr0).1)
  have hcall := domainOf_yes v rows wB hvB hTB hn hd
  have HCALL := Lib.hid hcall
  have HWT := Lib.hid (fun p W (hg : GridAt W p (gridF rows)) (hTW : Tab W) => upperWith_any p rows W hg hTW hok h7)
  have HTB := Lib.hid hTB
  obtain ⟨A, C, rfl, hC, hm, _⟩ := hv
  unfold maxLen at hm
  have h7z : ¬ ((7 : Int) < (rows.length : Int)) := by omega
  obtain ⟨h0, h1⟩ := kind_1 hk
  clear hvB hTB hT hn hcall hb0 hr0 hf hd hk hok
  go_enter Tryd.func16, Tryd.ntmps16
  go_upto_region 1 with fail
  rw [← hwB]
  clear hwB
  go_upto_region 8 with (go_at_call 27; refine HCALL.out.mono ?_; clear HCALL; rintro e w2 ⟨⟨p, rfl, hp, hg⟩, hb2⟩; have hcell := HCS.out w2 hb2; have HG2 := Lib.hid hg; have HB2 := Lib.hid hb2; clear hb2 hg)
  have hcall := HWT.out p w2 HG2.out (HTB.out.below HB2.out)
  have HCALL := Lib.hid hcall
  clear hcall
  go_wp2_with fail
  refine HCALL.out.mono ?_
  clear HCALL
  rintro e w3 ⟨u, kb, sb, rfl, hpw, hb3⟩
  have hres := HRS.out w3 (HB2.out.trans (hb3.mono HB2.out.size))
  have HB3 := Lib.hid (HB.out.trans ((HB2.out.trans (hb3.mono HB2.out.size)).mono HB.out.size))
  have HPW := Lib.hid hpw
  have hu1 : u.oneCell' = true := by
    obtain ⟨_, _, _, _, _, _, ho, _⟩ := hpw
    obtain ⟨a, C, rfl⟩ := ho.form
    rfl
  have hone := pw_one (n := rows.length) (fc := .func (.func 49) #[] #[.pointer (some ⟨kb, 0, none⟩), .pointer (some ⟨sb, 0, none⟩)]) (fo := .func (.func 50) #[] #[.pointer (some ⟨kb, 0, none⟩), .pointer (some ⟨sb, 0, none⟩)]) hu1 rfl rfl
  have hst := setRow_heap w3 (w.heap.size + 1) _ #[.int .i64 ((rows.length : Nat) : Int), u, .func (.func 49) #[] #[.pointer (some ⟨kb, 0, none⟩), .pointer (some ⟨sb, 0, none⟩)], .func (.func 50) #[] #[.pointer (some ⟨kb, 0, none⟩), .pointer (some ⟨sb, 0, none⟩)]] _ _ hres
  have hld := run_loadVar_row (P := Tryd.prog) _ (w.heap.size + 1) 45 45 _ (0, 0) _ hst hup rfl hip
  have HLE := Lib.hid (show w.heap.size + 1 < w2.heap.size by have := HLT.out; have := HB2.out.size; omega)
  clear hpw hb3 hst hu1
  go_wp2_with (refine wpList_store_row rfl 45 (.tmp 4) (.tmp 30) rfl (w.heap.size + 1) #[.int .i64 ((rows.length : Nat) : Int), u, .func (.func 49) #[] #[.pointer (some ⟨kb, 0, none⟩), .pointer (some ⟨sb, 0, none⟩)], .func (.func 50) #[] #[.pointer (some ⟨kb, 0, none⟩), .pointer (some ⟨sb, 0, none⟩)]] rfl rfl 45 pdZero hres hip rfl hone ?_)
  refine bodyPost_ret (v := .tuple #[pwV rows.length u 49 50 kb sb, .bool true]) (by simp [results, Tryd.results16, asAddr, hld]) rfl ?_
  refine ⟨u, kb, sb, rfl, ?_, below_setRow' HB3.out (Nat.le_succ _) _⟩
  rw [size_setRow]
  exact HPW.out.stored HLE.out (by have := HLE.out; omega) (Nat.le_refl _) _

set_option maxRecDepth 100000 in
set_option maxHeartbeats 4000000 in
theorem convexOf_any (v : Value) (rows : Rows2) (z : ByteArray) (w : World) (hv : RowsAt w v rows) (hT : Tab w) (hn : bulk rows ≤ 1048576) (hf : fitB rows z = true) (hk : kindN z = 2) :
    Calls Tryd.prog 16 #[.agg #[v], .string z] w (OfYes rows 2 51 52 53 w) := by
  obtain ⟨hb0, hr0, hc0⟩ := of_start w v
  obtain ⟨hd, hok, h7, _⟩ := fit_iff hf
  obtain ⟨wB, hwB⟩ : ∃ wB, wB = (w.alloc (.cells #[v] 26)).alloc (.cells pdZero 45) := ⟨_, rfl⟩
  rw [← hwB] at hb0 hr0 hc0
  have hvB := hv.below hb0
  have hTB := hT.below hb0
  have HB := Lib.hid hb0
  have hup := Tryd.underlying45
  have hip := sizePD
  have HRS := Lib.hid (fun W (hb : Below wB.heap.size wB W) => (hb.block (w.heap.size + 1) (Array.getElem?_eq_some_iff.1 hr0).1).trans hr0)
  have HCS := Lib.hid (fun W (hb : Below wB.heap.size wB W) => (hb.cell (p := ⟨w.heap.size, 0, none⟩) (cell_lt hc0)).trans hc0)
  have HLT := Lib.hid (show w.heap.size + 1 < wB.heap.size from (Array.getElem?_eq_some_iff.1 hr0).1)
  have hcall := domainOf_yes v rows wB hvB hTB hn hd
  have HCALL := Lib.hid hcall
  have HWT := Lib.hid (fun p W (hg : GridAt W p (gridF rows)) (hTW : Tab W) => convexWith_any p rows W hg hTW hok h7)
  have HTB := Lib.hid hTB
  obtain ⟨A, C, rfl, hC, hm, _⟩ := hv
  unfold maxLen at hm
  have h7z : ¬ ((7 : Int) < (rows.length : Int)) := by omega
  obtain ⟨h0, h1, h2⟩ := kind_2 hk
  clear hvB hTB hT hn hcall hb0 hr0 hf hd hk hok
  go_enter Tryd.func16, Tryd.ntmps16
  go_upto_region 1 with fail
  rw [← hwB]
  clear hwB
  go_upto_region 10 with (go_at_call 27; refine HCALL.out.mono ?_; clear HCALL; rintro e w2 ⟨⟨p, rfl, hp, hg⟩, hb2⟩; have hcell := HCS.out w2 hb2; have HG2 := Lib.hid hg; have HB2 := Lib.hid hb2; clear hb2 hg)
  have hcall := HWT.out p w2 HG2.out (HTB.out.below HB2.out)
  have HCALL := Lib.hid hcall
  clear hcall
  go_wp2_with fail
  refine HCALL.out.mono ?_
  clear HCALL
  rintro e w3 ⟨u, kb, sb, rfl, hpw, hb3⟩
  have hres := HRS.out w3 (HB2.out.trans (hb3.mono HB2.out.size))
  have HB3 := Lib.hid (HB.out.trans ((HB2.out.trans (hb3.mono HB2.out.size)).mono HB.out.size))
  have HPW := Lib.hid hpw
  have hu1 : u.oneCell' = true := by
    obtain ⟨_, _, _, _, _, _, ho, _⟩ := hpw
    obtain ⟨a, C, rfl⟩ := ho.form
    rfl
  have hone := pw_one (n := rows.length) (fc := .func (.func 52) #[] #[.pointer (some ⟨kb, 0, none⟩), .pointer (some ⟨sb, 0, none⟩)]) (fo := .func (.func 53) #[] #[.pointer (some ⟨kb, 0, none⟩), .pointer (some ⟨sb, 0, none⟩)]) hu1 rfl rfl
  have hst := setRow_heap w3 (w.heap.size + 1) _ #[.int .i64 ((rows.length : Nat) : Int), u, .func (.func 52) #[] #[.pointer (some ⟨kb, 0, none⟩), .pointer (some ⟨sb, 0, none⟩)], .func (.func 53) #[] #[.pointer (some ⟨kb, 0, none⟩), .pointer (some ⟨sb, 0, none⟩)]] _ _ hres
  have hld := run_loadVar_row (P := Tryd.prog) _ (w.heap.size + 1) 45 45 _ (0, 0) _ hst hup rfl hip
  have HLE := Lib.hid (show w.heap.size + 1 < w2.heap.size by have := HLT.out; have := HB2.out.size; omega)
  clear hpw hb3 hst hu1
  go_wp2_with (refine wpList_store_row rfl 45 (.tmp 4) (.tmp 34) rfl (w.heap.size + 1) #[.int .i64 ((rows.length : Nat) : Int), u, .func (.func 52) #[] #[.pointer (some ⟨kb, 0, none⟩), .pointer (some ⟨sb, 0, none⟩)], .func (.func 53) #[] #[.pointer (some ⟨kb, 0, none⟩), .pointer (some ⟨sb, 0, none⟩)]] rfl rfl 45 pdZero hres hip rfl hone ?_)
  refine bodyPost_ret (v := .tuple #[pwV rows.length u 52 53 kb sb, .bool true]) (by simp [results, Tryd.results16, asAddr, hld]) rfl ?_
  refine ⟨u, kb, sb, rfl, ?_, below_setRow' HB3.out (Nat.le_succ _) _⟩
  rw [size_setRow]
  exact HPW.out.stored HLE.out (by have := HLE.out; omega) (Nat.le_refl _) _
end Go.Proofs.YtiaajegdaipdmaaDoor

/- The program's PowerClose, PowerBelow, PowerSets. -/
namespace Go.Proofs.YtiaajegdaipdmaaDoor
open Go.RowKit Go.Deep Go.Shelf

abbrev pwCells (n : Nat) (v : Value) (F2 F3 : FuncId) (kb sb : Nat) : Array Value := #[.int .i64 ((n : Nat) : Int), v, .func (.func F2) #[] #[.pointer (some ⟨kb, 0, none⟩), .pointer (some ⟨sb, 0, none⟩)], .func (.func F3) #[] #[.pointer (some ⟨kb, 0, none⟩), .pointer (some ⟨sb, 0, none⟩)]]
/-- A powerdomain in a new variable. -/
theorem pw_new (W : World) (cs : Array Value) : ((W.alloc (.cells pdZero 45)).setRow W.heap.size cs).heap[W.heap.size]? = some (.cells cs 45 (0, 0)) ∧ Below W.heap.size W ((W.alloc (.cells pdZero 45)).setRow W.heap.size cs) :=
  ⟨setRow_heap _ W.heap.size _ cs _ _ (heap_alloc_new _ _), below_setRow' ((Below.refl _ W).alloc (Nat.le_refl _) _) (Nat.le_refl _) _⟩
theorem PwAt.pm {rows : Rows2} {k : Nat} {F1 : FuncId} {lo : Nat} {v : Value} {sb : Nat} {W : World} (h : PwAt rows k F1 lo W.heap.size v sb W) : ∃ lb ub A B C D, ∀ W', Below W.heap.size W W' → PM F1 sb lb ub rows.length (gridF (backRows rows)) (gridF rows) A B C D W' := by
  obtain ⟨lb, ub, A, B, C, D, _, hp⟩ := h
  exact ⟨lb, ub, A, B, C, D, fun W' hb => hp W' (fun b _ h2 => hb.block b h2) hb.size⟩
theorem PwAt.own {rows : Rows2} {k : Nat} {F1 : FuncId} {lo hi : Nat} {v : Value} {sb : Nat} {W : World} (h : PwAt rows k F1 lo hi v sb W) : OwnI 3 W v (setsL rows k) lo hi := by
  obtain ⟨_, _, _, _, _, _, ho, _⟩ := h
  exact ho
theorem PwAt.form {rows : Rows2} {k : Nat} {F1 : FuncId} {lo hi : Nat} {v : Value} {sb : Nat} {W : World} (h : PwAt rows k F1 lo hi v sb W) : ∃ a C, v = .slice a (setsL rows k).length C := h.own.form

theorem close_yes {rows : Rows2} {z : ByteArray} {s M : Nat} (hf : fitB rows z = true) (hM : M = 2 ^ rows.length) (h : 1 ≤ s ∧ s < M) : closeOk rows z (s : Int) = true ∧ closeI rows z (s : Int) = ((closL rows (kindN z) s : Nat) : Int) := by
  have hE : closeOk rows z (s : Int) = true := by
    unfold closeOk setB
    rw [hf, ← hM, decide_eq_true (by omega)]
    rfl
  exact ⟨hE, by unfold closeI; rw [if_pos hE, Int.toNat_natCast]⟩
theorem close_no {rows : Rows2} {z : ByteArray} {x : Int} {M : Nat} (hM : M = 2 ^ rows.length) (h : ¬ (1 ≤ x ∧ x < (M : Int))) : closeOk rows z x = false := by
  unfold closeOk setB
  rw [← hM, decide_eq_false h, Bool.and_false]

theorem pw_cells {W : World} {q n : Nat} {v fc fo : Value} (h : W.heap[q]? = some (.cells #[.int .i64 ((n : Nat) : Int), v, fc, fo] 45 (0, 0))) : W.cell? ⟨q, 0, none⟩ = some (.int .i64 ((n : Nat) : Int)) ∧ W.cell? ⟨q, 1, none⟩ = some v ∧ W.cell? ⟨q, 2, none⟩ = some fc ∧ W.cell? ⟨q, 3, none⟩ = some fo :=
  ⟨by rw [cell_of_row W q _ _ _ _ h]; rfl, by rw [cell_of_row W q _ _ _ _ h]; rfl, by rw [cell_of_row W q _ _ _ _ h]; rfl, by rw [cell_of_row W q _ _ _ _ h]; rfl⟩

end Go.Proofs.YtiaajegdaipdmaaDoor
