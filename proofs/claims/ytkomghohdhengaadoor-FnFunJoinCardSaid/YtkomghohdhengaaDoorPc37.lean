import Derived.Test.YtkomghohdhengaaDoorPc25
import Derived.Test.YtkomghohdhengaaDoorPc23
import Derived.Test.YtkomghohdhengaaDoorPc19
import Derived.Test.YtkomghohdhengaaDoorPc13
import Derived.Deep.RegionLaw
import Derived.Deep.AppendLies
import Derived.Laws.EntriesVeiled
import Derived.Test.YtkomghohdhengaaDoorPc24
import Derived.Test.YtkomghohdhengaaDoorPc16
import Derived.Laws.MakeOwn
import Derived.Test.YtkomghohdhengaaDoorPc20
import Derived.Test.YtkomghohdhengaaDoorPc22
import Derived.Test.YtkomghohdhengaaDoorPc11
import Derived.Test.YtkomghohdhengaaDoorPc26
namespace Go.Proofs.YtkomghohdhengaaDoor
open Go.RowKit Go.Deep Go.Shelf

def cmpI (x y : Int) : Int := if x < y then -1 else if y < x then 1 else 0
theorem nan_any (x : Int) (w : World) : Calls Tryd.prog 168 #[.int .i64 x] w (fun e w' => e = .returned (.bool false) ∧ w' = w) := by
  have h : (x != x) = false := by simp
  go_enter Tryd.func168, Tryd.ntmps168
  go_wp2
  go_ret
  exact ⟨rfl, rfl⟩
theorem cmpCompare_any (x y : Int) (w : World) : Calls Tryd.prog 158 #[.int .i64 x, .int .i64 y] w (fun e w' => e = .returned (.int .i64 (cmpI x y)) ∧ w' = w) := by
  by_cases h1 : x < y
  · have HE := Lib.hid (show cmpI x y = -1 from if_pos h1)
    go_enter Tryd.func158, Tryd.ntmps158
    go_wp2_with (go_at_call 168; refine (nan_any _ _).mono ?_; rintro e w' ⟨rfl, rfl⟩)
    go_ret
    exact ⟨by rw [HE.out]; rfl, rfl⟩
  · by_cases h2 : y < x
    · have HE := Lib.hid (show cmpI x y = 1 by unfold cmpI; rw [if_neg h1, if_pos h2])
      go_enter Tryd.func158, Tryd.ntmps158
      go_wp2_with (go_at_call 168; refine (nan_any _ _).mono ?_; rintro e w' ⟨rfl, rfl⟩)
      go_ret
      exact ⟨by rw [HE.out]; rfl, rfl⟩
    · have HE := Lib.hid (show cmpI x y = 0 by unfold cmpI; rw [if_neg h1, if_neg h2])
      go_enter Tryd.func158, Tryd.ntmps158
      go_wp2_with (go_at_call 168; refine (nan_any _ _).mono ?_; rintro e w' ⟨rfl, rfl⟩)
      go_ret
      exact ⟨by rw [HE.out]; rfl, rfl⟩

set_option maxRecDepth 100000 in
set_option maxHeartbeats 4000000 in
theorem compareL_any (v u : Value) (xs ys : List Int) (w : World) (hv : IntsAt w v xs) (hu : IntsAt w u ys) :
    Calls Tryd.prog 136 #[v, u] w (fun e w' => e = .returned (.int .i64 (cmpL xs ys)) ∧ w' = w) := by
  obtain ⟨a, C, rfl, hC, hm, _, hx⟩ := hv
  obtain ⟨a', C', rfl, hC', hm', _, hy⟩ := hu
  unfold maxLen at hm hm'
  have HX := Lib.hid hx
  have HY := Lib.hid hy
  clear hx hy
  go_enter Tryd.func136, Tryd.ntmps136
  go_wp2
  go_loopw [5, 6, 7, 8, 11] (fun _ _ _ _ iv wr => ∃ k : Nat, k ≤ xs.length ∧ k ≤ ys.length ∧ iv = .int .i64 k ∧ cmpL xs ys = cmpL (xs.drop k) (ys.drop k) ∧ wr = w) (fun _ _ _ _ iv _ => xs.length - (intOf iv).toNat)
  case atStart => exact ⟨0, Nat.zero_le _, Nat.zero_le _, rfl, rfl, rfl⟩
  case round =>
    obtain ⟨k, hk, hk', rfl, ht, rfl⟩ := hrel
    have HT := Lib.hid ht
    clear ht
    by_cases hlt : k < xs.length
    · obtain ⟨b, o, rfl, hc⟩ := HX.out k hlt
      by_cases hlt' : k < ys.length
      · obtain ⟨b', o', rfl, hc'⟩ := HY.out k hlt'
        have hd : cmpL xs ys = (if xs[k] < ys[k] then -1 else if ys[k] < xs[k] then 1 else cmpL (xs.drop (k + 1)) (ys.drop (k + 1))) := by
          rw [HT.out, List.drop_eq_getElem_cons hlt, List.drop_eq_getElem_cons hlt', cmpL_cons]
        generalize xs[k] = x at hc hd
        generalize ys[k] = y at hc' hd
        have hge : ¬ ((ys.length : Int) ≤ (k : Int)) := by omega
        by_cases h0 : cmpI x y = 0
        · have HD := Lib.hid (show cmpL xs ys = cmpL (xs.drop (k + 1)) (ys.drop (k + 1)) by
            unfold cmpI at h0
            rw [hd]
            by_cases h1 : x < y
            · rw [if_pos h1] at h0; omega
            · rw [if_neg h1] at h0 ⊢
              by_cases h2 : y < x
              · rw [if_pos h2] at h0; omega
              · rw [if_neg h2])
          have hn0 : (cmpI x y != 0) = false := by simp [h0]
          clear hd
          go_wp2_with (go_at_call 158; refine (cmpCompare_any x y _).mono ?_; rintro e w' ⟨rfl, rfl⟩)
          go_roundw
          case rel => exact ⟨k + 1, by omega, by omega, by go_num, HD.out, by first | trivial | rfl⟩
          case measure => simp [intOf]; omega
        · have HD := Lib.hid (show cmpL xs ys = cmpI x y by
            unfold cmpI at h0 ⊢
            rw [hd]
            by_cases h1 : x < y
            · rw [if_pos h1, if_pos h1]
            · rw [if_neg h1] at h0 ⊢
              by_cases h2 : y < x
              · rw [if_pos h2, if_neg h1, if_pos h2]
              · rw [if_neg h2] at h0; omega)
          have hn0 : (cmpI x y != 0) = true := by simp [h0]
          clear hd
          go_wp2_with (go_at_call 158; refine (cmpCompare_any x y _).mono ?_; rintro e w' ⟨rfl, rfl⟩)
          go_ret
          exact ⟨by rw [HD.out]; rfl, rfl⟩
      · have HD := Lib.hid (show cmpL xs ys = 1 by
          rw [HT.out, (List.drop_eq_nil_of_le (by omega) : ys.drop k = []), List.drop_eq_getElem_cons hlt]
          rfl)
        have hge : (ys.length : Int) ≤ (k : Int) := by omega
        go_wp2
        go_ret
        exact ⟨by rw [HD.out]; rfl, rfl⟩
    · obtain rfl : k = xs.length := by omega
      by_cases hll : xs.length < ys.length
      · have HD := Lib.hid (show cmpL xs ys = -1 by
          rw [HT.out, List.drop_eq_nil_of_le (Nat.le_refl _), List.drop_eq_getElem_cons hll]
          rfl)
        have hgz : (xs.length : Int) < (ys.length : Int) := by omega
        go_wp2
        go_ret
        exact ⟨by rw [HD.out]; rfl, rfl⟩
      · have HD := Lib.hid (show cmpL xs ys = 0 by
          rw [HT.out, List.drop_eq_nil_of_le (Nat.le_refl _), (List.drop_eq_nil_of_le (by omega) : ys.drop xs.length = [])]
          rfl)
        have hgz : ¬ ((xs.length : Int) < (ys.length : Int)) := by omega
        go_wp2
        go_ret
        exact ⟨by rw [HD.out]; rfl, rfl⟩

/-- What the search answers. -/
def SearchP (L : Rows2) (f : List Int) (w : World) (e : Ending) (w' : World) : Prop :=
  (∃ (k : Nat) (t : Bool), e = .returned (.tuple #[.int .i64 k, .bool t]) ∧ (t = true → idxL L f = k) ∧ (t = false → idxL L f = -1)) ∧ w' = w
set_option maxRecDepth 100000 in
set_option maxHeartbeats 4000000 in
theorem searchF_any (v u : Value) (L : Rows2) (f : List Int) (w : World) (hv : RowsAt w v L) (hu : IntsAt w u f) (ha : AscL L) (hlen : L.length ≤ 200) :
    Calls Tryd.prog 135 #[v, u, .func (.func 136) #[] #[]] w (SearchP L f w) := by
  have HC := Lib.hid (fun k (hk : k < L.length) => show ∃ b o r, v = .slice (some ⟨b, o, none⟩) L.length (match v with | .slice _ _ C => C | _ => 0) ∧ w.cell? ⟨b, o + k, none⟩ = some r ∧ Calls Tryd.prog 136 #[r, u] w (fun e w' => e = .returned (.int .i64 (cmpL L[k] f)) ∧ w' = w) from by
    obtain ⟨A, C, rfl, _, _, hx⟩ := hv
    obtain ⟨b, o, r, rfl, hc, hr⟩ := hx k hk
    exact ⟨b, o, r, rfl, hc, compareL_any r u _ f w hr hu⟩)
  obtain ⟨A, C, rfl, hC, hm, _⟩ := hv
  unfold maxLen at hm
  have HA := Lib.hid ha
  clear hu ha
  go_enter Tryd.func135, Tryd.ntmps135
  go_wp2
  go_loopw [9, 10, 11] (fun lv hv _ wr => ∃ lo hi : Nat, lv = .int .i64 (lo : Int) ∧ hv = .int .i64 (hi : Int) ∧ HalfL L f lo hi ∧ wr = w) (fun lv hv _ _ => (intOf hv).toNat - (intOf lv).toNat)
  case atStart => exact ⟨0, L.length, rfl, rfl, HalfL.start L f, rfl⟩
  case round =>
    obtain ⟨lo, hi, rfl, rfl, hh, rfl⟩ := hrel
    have hle := hh.le
    have hhl := hh.len
    have HH := Lib.hid hh
    clear hh
    by_cases hlt : lo < hi
    · have hltz : (lo : Int) < (hi : Int) := by omega
      obtain ⟨m, hm'⟩ : ∃ m, m = (lo + hi) / 2 := ⟨_, rfl⟩
      have d2 : ((lo : Int) + (hi : Int)) / 2 = (m : Int) := by omega
      have hm1 : m < hi := by omega
      have hm2 : lo ≤ m := by omega
      obtain ⟨b, o, r, e, hc, hcall⟩ := HC.out m (by omega)
      injection e with e _ _
      subst e
      have HML : Hid (∃ h : m < L.length, cmpL L[m] f = cmpL L[m] f) := Lib.hid ⟨by omega, rfl⟩
      obtain ⟨q, hq⟩ : ∃ q, q = cmpL (L[m]'(by omega)) f := ⟨_, rfl⟩
      rw [← hq] at hcall
      have HQ := Lib.hid (show ∃ h : m < L.length, q = cmpL L[m] f from ⟨by omega, hq⟩)
      clear hm' hq
      by_cases hyc : q < 0
      · go_wp2_with (go_at_call 136; refine hcall.mono ?_; rintro e w' ⟨rfl, rfl⟩)
        go_roundw
        case rel =>
          obtain ⟨hml, e⟩ := HQ.out
          exact ⟨m + 1, hi, by go_num, rfl, HH.out.right HA.out hm1 hml (by rw [← e]; omega), by first | trivial | rfl⟩
        case measure => simp [intOf]; omega
      · go_wp2_with (go_at_call 136; refine hcall.mono ?_; rintro e w' ⟨rfl, rfl⟩)
        go_roundw
        case rel =>
          obtain ⟨hml, e⟩ := HQ.out
          exact ⟨lo, m, rfl, rfl, HH.out.left HA.out hm2 hm1 hml (by rw [← e]; omega), by first | trivial | rfl⟩
        case measure => simp [intOf]; omega
    · obtain rfl : lo = hi := by omega
      have hltz : ¬ ((lo : Int) < (lo : Int)) := by omega
      by_cases hin : lo < L.length
      · have hinz : (lo : Int) < (L.length : Int) := by omega
        obtain ⟨b, o, r, e, hc, hcall⟩ := HC.out lo hin
        injection e with e _ _
        subst e
        obtain ⟨q, hq⟩ : ∃ q, q = cmpL L[lo] f := ⟨_, rfl⟩
        rw [← hq] at hcall
        have HQ := Lib.hid hq
        clear hq
        by_cases hq0 : q = 0
        · have hb : (q == 0) = true := by simp [hq0]
          have HE := Lib.hid (HH.out.found hin (by rw [← HQ.out]; exact hq0))
          clear hq0
          go_wp2_with (go_at_call 136; refine hcall.mono ?_; rintro e w' ⟨rfl, rfl⟩)
          go_ret2
          exact ⟨⟨lo, true, rfl, fun _ => HE.out, fun h => (by cases h)⟩, rfl⟩
        · have hb : (q == 0) = false := by simp [hq0]
          have HE := Lib.hid (HH.out.missing HA.out (fun hl => by rw [← HQ.out]; exact hq0))
          clear hq0
          go_wp2_with (go_at_call 136; refine hcall.mono ?_; rintro e w' ⟨rfl, rfl⟩)
          go_ret2
          exact ⟨⟨lo, false, rfl, fun h => (by cases h), fun _ => HE.out⟩, rfl⟩
      · have hinz : ¬ ((lo : Int) < (L.length : Int)) := by omega
        have HE := Lib.hid (HH.out.missing HA.out (fun hl => absurd hl hin))
        go_wp2
        go_ret2
        exact ⟨⟨lo, false, rfl, fun h => (by cases h), fun _ => HE.out⟩, rfl⟩

set_option maxRecDepth 100000 in
set_option maxHeartbeats 4000000 in
theorem index_any (p : Nat) (v u : Value) (L : Rows2) (f : List Int) (w : World) (hv : RowsAt w v L) (hu : IntsAt w u f) (ha : AscL L) (hlen : L.length ≤ 200) :
    Calls Tryd.prog 80 #[.agg #[v, gridV p], u] w (SaysJ (idxL L f) w) := by
  have b0 := (Below.refl w.heap.size w).alloc (Nat.le_refl _) (.cells #[v, gridV p] 83)
  obtain ⟨hc, hc'⟩ := fresh2 w v (gridV p) 83
  have hs := searchF_any v u L f _ (hv.below b0) (hu.below b0) ha hlen
  have HB := Lib.hid b0
  obtain ⟨A, C, rfl, _⟩ := hv
  obtain ⟨A', C', rfl, _⟩ := hu
  clear b0 ha
  go_enter Tryd.func80, Tryd.ntmps80
  go_wp2_with fail
  refine hs.mono ?_
  rintro e w1 ⟨⟨k, t, rfl, hy, hn⟩, rfl⟩
  clear hs
  cases t with
  | true =>
    have HE := Lib.hid (hy rfl)
    clear hy hn
    go_wp2
    go_ret
    exact ⟨by rw [HE.out]; rfl, HB.out⟩
  | false =>
    have HE := Lib.hid (hn rfl)
    clear hy hn
    go_wp2
    go_ret
    exact ⟨by rw [HE.out]; rfl, HB.out⟩

/-- What DomainIndex answers. -/
noncomputable def indexI (rows rows' : Rows2) (f : List Int) : Int := if funB rows rows' = true then idxL (I2 (funsR rows rows')) f else -1
set_option maxRecDepth 100000 in
set_option maxHeartbeats 8000000 in
theorem implIndex_any (v v' vf : Value) (rows rows' : Rows2) (f : List Int) (w : World) (hv : RowsAt w v rows) (hv' : RowsAt w v' rows') (hf : IntsAt w vf f) (hT : Tab w) (hn : bulk rows ≤ 1048576) (hn' : bulk rows' ≤ 1048576) :
    Calls Tryd.prog 21 #[.agg #[v], .agg #[v'], vf] w (SaysJ (indexI rows rows' f) w) := by
  have h0 := Two.start w 25 25 hv hv'
  have hfo := funsOf_any _ _ rows rows' _ h0.r0 h0.r1 (hT.below h0.below) hn hn'
  have hc0 := h0.c0
  have hc1 := h0.c1
  have HF := Lib.hid (fun W (h : Below w.heap.size w W) => hf.below h)
  obtain ⟨A, C, rfl, _⟩ := hv
  obtain ⟨A', C', rfl, _⟩ := hv'
  obtain ⟨Af, Cf, rfl, _⟩ := hf
  have H0 := Lib.hid h0
  clear h0 hT
  go_enter Tryd.func21, Tryd.ntmps21
  go_wp2_with fail
  refine hfo.mono ?_
  rintro e w1 ⟨⟨u1, u2, rfl, hyes, hno⟩, hb1⟩
  have H1 := Lib.hid (H0.out.step hb1)
  clear hfo hc0 hc1 hb1
  have hz1 := H1.out.below.size
  cases hfb : funB rows rows' with
  | false =>
    obtain ⟨rfl, rfl⟩ := hno hfb
    have HE := Lib.hid (show indexI rows rows' f = -1 by unfold indexI; rw [if_neg (by rw [hfb]; simp)])
    clear hyes hno
    go_wp2
    go_ret
    exact ⟨by rw [HE.out]; rfl, H1.out.below.alloc hz1 _⟩
  | true =>
    obtain ⟨p', rfl, ho, hg'⟩ := hyes hfb
    obtain ⟨h1, h2, hle⟩ := funB_iff.1 hfb
    obtain ⟨a1, C1, rfl⟩ := ho.form
    have hb2 := (Below.refl w1.heap.size w1).alloc (Nat.le_refl _) (.cells #[.slice a1 (funsR rows rows').length C1, gridV p'] 83)
    have H2 := Lib.hid (H1.out.below.alloc hz1 (.cells #[.slice a1 (funsR rows rows').length C1, gridV p'] 83))
    obtain ⟨n0, n1, n2⟩ := two_new w1 (.slice a1 (funsR rows rows').length C1) (gridV p') 83
    have hix := index_any p' (.slice a1 (funsR rows rows').length C1) _ (I2 (funsR rows rows')) f _ ((I2_at ho).below hb2) (HF.out _ H2.out) (funs_asc rows rows') (by rw [I2_len]; exact hle)
    have HE := Lib.hid (show indexI rows rows' f = idxL (I2 (funsR rows rows')) f from if_pos hfb)
    clear hyes hno ho hg' hb2
    go_wp2_with fail
    refine hix.mono ?_
    rintro e w3 ⟨rfl, hb3⟩
    have H3 := Lib.hid (H2.out.trans (hb3.mono H2.out.size))
    clear hix hb3 n0 n1 n2
    go_wp2
    go_ret
    exact ⟨by rw [HE.out]; rfl, H3.out⟩
end Go.Proofs.YtkomghohdhengaaDoor

namespace Go.Proofs.YtkomghohdhengaaDoor
open Go.RowKit Go.Deep Go.Shelf

set_option maxHeartbeats 1000000 in
theorem l2Equal_any (v u : Value) (xs ys : List Int) (w : World) (hv : IntsAt w v xs) (hu : IntsAt w u ys) :
    Calls Tryd.prog 140 #[v, u] w (SaysB (decide (xs = ys)) w) := by
  obtain ⟨a, C, rfl, hC, hm, _, hx⟩ := hv
  obtain ⟨a', C', rfl, hC', hm', _, hy⟩ := hu
  unfold maxLen at hm hm'
  by_cases hlen : xs.length = ys.length
  · have hL : ((xs.length : Int) != (ys.length : Int)) = false := by simp [hlen]
    have HL := Lib.hid hlen
    clear hlen
    go_enter Tryd.func140, Tryd.ntmps140
    go_wp2
    go_loopw [5] (fun i wr => ∃ k n : Nat, k ≤ xs.length ∧ i = .int .i64 k ∧ xs.take k = ys.take k ∧ wr = w.drewN n) (fun i _ => xs.length - (intOf i).toNat)
    case atStart => exact ⟨0, 0, Nat.zero_le _, rfl, rfl, rfl⟩
    case round =>
      obtain ⟨k, n, hk, rfl, ht, hw⟩ := hrel
      have HT := Lib.hid ht
      have HW := Lib.hid hw
      clear ht
      by_cases hlt : k < xs.length
      · have hlt' : k < ys.length := by have := HL.out; omega
        obtain ⟨b, o, rfl, hc⟩ := hx k hlt
        obtain ⟨b', o', rfl, hc'⟩ := hy k hlt'
        replace hc : wr.cell? ⟨b, o + k, none⟩ = some (.int .i64 xs[k]) := by rw [hw]; exact hc
        replace hc' : wr.cell? ⟨b', o' + k, none⟩ = some (.int .i64 ys[k]) := by rw [hw]; exact hc'
        clear hx hy hw
        by_cases heq : xs[k] = ys[k]
        · have hb : (xs[k] != ys[k]) = false := by simp [heq]
          have HQ := Lib.hid heq
          clear heq
          go_wp2
          go_quiet (fail)
          go_wp2
          go_roundw
          case rel => exact ⟨k + 1, _, by omega, by go_num, by rw [List.take_succ_eq_append_getElem hlt, List.take_succ_eq_append_getElem hlt', HT.out, HQ.out], by rw [HW.out, World.drewN_drewN]⟩
          case measure => simp [intOf]; omega
        · have hb : (xs[k] != ys[k]) = true := by simpa using heq
          have e : decide (xs = ys) = false := by
            rw [decide_eq_false_iff_not]; intro e; subst e; exact heq rfl
          have HE := Lib.hid e
          clear heq e
          go_wp2
          go_quiet (fail)
          go_wp2
          go_ret
          exact ⟨by rw [HE.out]; rfl, _, by rw [HW.out, World.drewN_drewN]⟩
      · have e : decide (xs = ys) = true := by
          have h1 := HT.out
          rw [List.take_of_length_le (by omega), List.take_of_length_le (by have := HL.out; omega)] at h1
          simpa using h1
        have HE := Lib.hid e
        clear e hx hy hw
        go_wp2
        go_ret
        exact ⟨by rw [HE.out]; rfl, _, HW.out⟩
  · have hL : ((xs.length : Int) != (ys.length : Int)) = true := by simp; omega
    have e : decide (xs = ys) = false := by simp; intro e; subst e; exact hlen rfl
    rw [e]
    go_enter Tryd.func140, Tryd.ntmps140
    go_wp2
    go_ret
    exact ⟨rfl, 0, rfl⟩

set_option maxRecDepth 100000 in
set_option maxHeartbeats 4000000 in
theorem l2Index_any (v u : Value) (L : Rows2) (f : List Int) (w : World) (hv : RowsAt w v L) (hu : IntsAt w u f) :
    Calls Tryd.prog 88 #[v, u] w (SaysJ (idxL L f) w) := by
  have HC := Lib.hid (fun W (hb : Below w.heap.size w W) k (hk : k < L.length) => show ∃ b o r, v = .slice (some ⟨b, o, none⟩) L.length (match v with | .slice _ _ C => C | _ => 0) ∧ W.cell? ⟨b, o + k, none⟩ = some r ∧ Calls Tryd.prog 140 #[r, u] W (SaysB (decide (L[k] = f)) W) from by
    have hv2 := hv.below hb
    have hu2 := hu.below hb
    obtain ⟨A, C, rfl, _, _, hx⟩ := hv2
    obtain ⟨b, o, r, rfl, hc, hr⟩ := hx k hk
    exact ⟨b, o, r, rfl, hc, l2Equal_any r u _ f W hr hu2⟩)
  obtain ⟨A, C, rfl, hC, hm, _⟩ := hv
  unfold maxLen at hm
  clear hu
  go_enter Tryd.func88, Tryd.ntmps88
  go_wp2
  go_loopw [5] (fun iv wr => ∃ i : Nat, i ≤ L.length ∧ iv = .int .i64 i ∧ (∀ j (hj : j < L.length), j < i → L[j] ≠ f) ∧ Below w.heap.size w wr) (fun iv _ => L.length - (intOf iv).toNat)
  case atStart => exact ⟨0, Nat.zero_le _, rfl, fun _ _ h => absurd h (Nat.not_lt_zero _), Below.refl _ _⟩
  case round =>
    obtain ⟨i, hi, rfl, ht, hbw⟩ := hrel
    have HT := Lib.hid ht
    have HBW := Lib.hid hbw
    clear ht hbw
    by_cases hlt : i < L.length
    · have hltz : (i : Int) < (L.length : Int) := by omega
      obtain ⟨b, o, r, e, hc, hcall⟩ := HC.out wr HBW.out i hlt
      injection e with e _ _
      subst e
      by_cases he : L[i] = f
      · have HE := Lib.hid (idxL_some hlt he fun j hj => HT.out j (by omega) hj)
        rw [decide_eq_true he] at hcall
        clear he
        go_wp2_with (go_at_call 140; refine hcall.mono ?_; clear hcall; rintro e w2 ⟨rfl, n2, rfl⟩)
        go_ret
        exact ⟨by rw [HE.out]; rfl, HBW.out.trans (below_drewN' _ _ _)⟩
      · have HT2 := Lib.hid (show ∀ j (hj : j < L.length), j < i + 1 → L[j] ≠ f from fun j hj hji => by
          rcases Nat.eq_or_lt_of_le (Nat.le_of_lt_succ hji) with e | e
          · subst e; exact he
          · exact HT.out j hj e)
        rw [decide_eq_false he] at hcall
        clear he
        go_wp2_with (go_at_call 140; refine hcall.mono ?_; clear hcall; rintro e w2 ⟨rfl, n2, rfl⟩)
        go_roundw
        case rel => exact ⟨i + 1, by omega, by go_num, HT2.out, HBW.out.trans (below_drewN' _ _ _)⟩
        case measure => simp [intOf]; omega
    · obtain rfl : i = L.length := by omega
      have HE := Lib.hid (idxL_none fun j hj => HT.out j hj hj)
      go_wp2
      go_ret
      exact ⟨by rw [HE.out]; rfl, HBW.out⟩

set_option maxRecDepth 100000 in
set_option maxHeartbeats 8000000 in
theorem specIndex_any (v v' vf : Value) (rows rows' : Rows2) (f : List Int) (w : World) (hv : RowsAt w v rows) (hv' : RowsAt w v' rows') (hf : IntsAt w vf f) (hn : bulk rows ≤ 1048576) (hn' : bulk rows' ≤ 1048576) :
    Calls Tryd.prog 29 #[.agg #[v], .agg #[v'], vf] w (SaysJ (indexI rows rows' f) w) := by
  have h0 := Two.start w 25 25 hv hv'
  have hall := all2_any _ _ rows rows' _ h0.r0 h0.r1 hn hn'
  have hc0 := h0.c0
  have hc1 := h0.c1
  have HF := Lib.hid (fun W (h : Below w.heap.size w W) => hf.below h)
  obtain ⟨A, C, rfl, _⟩ := hv
  obtain ⟨A', C', rfl, _⟩ := hv'
  obtain ⟨Af, Cf, rfl, _⟩ := hf
  have H0 := Lib.hid h0
  clear h0
  go_enter Tryd.func29, Tryd.ntmps29
  go_wp2_with fail
  refine hall.mono ?_
  rintro e w1 ⟨⟨a1, m1, C1, rfl, hyes⟩, hb1⟩
  have H1 := Lib.hid (H0.out.step hb1)
  clear hall hc0 hc1 hb1
  cases hfb : funB rows rows' with
  | false =>
    have HE := Lib.hid (show indexI rows rows' f = -1 by unfold indexI; rw [if_neg (by rw [hfb]; simp)])
    clear hyes
    go_wp2
    go_ret
    exact ⟨by rw [HE.out]; rfl, H1.out.below⟩
  | true =>
    obtain ⟨rfl, hown⟩ := hyes hfb
    obtain ⟨h1, h2, hle⟩ := funB_iff.1 hfb
    have hix := l2Index_any (.slice a1 (funsR rows rows').length C1) _ (I2 (funsR rows rows')) f w1 (I2_at hown) (HF.out _ H1.out.below)
    have HE := Lib.hid (show indexI rows rows' f = idxL (I2 (funsR rows rows')) f from if_pos hfb)
    clear hyes hown
    go_wp2_with fail
    refine hix.mono ?_
    rintro e w3 ⟨rfl, hb3⟩
    have H3 := Lib.hid (H1.out.below.trans (hb3.mono H1.out.below.size))
    clear hix hb3
    go_wp2
    go_ret
    exact ⟨by rw [HE.out]; rfl, H3.out⟩
end Go.Proofs.YtkomghohdhengaaDoor

namespace Go.Proofs.YtkomghohdhengaaDoor
open Go.RowKit Go.Deep Go.Shelf


set_option maxRecDepth 100000 in
set_option maxHeartbeats 8000000 in
theorem implCount_any (v v' : Value) (rows rows' : Rows2) (w : World) (hv : RowsAt w v rows) (hv' : RowsAt w v' rows') (hT : Tab w) (hn : bulk rows ≤ 1048576) (hn' : bulk rows' ≤ 1048576) :
    Calls Tryd.prog 40 #[.agg #[v], .agg #[v']] w (SaysJ (countI rows rows') w) := by
  have h0 := Two.start w 25 25 hv hv'
  have hft := funTypeOf_any _ _ (.slice none 0 0) rows rows' [] _ h0.r0 h0.r1 ⟨none, 0, rfl, Nat.le_refl _, Nat.zero_le _, fun i hi => absurd hi (Nat.not_lt_zero _)⟩ (hT.below h0.below) hn hn'
  have hc0 := h0.c0
  have hc1 := h0.c1
  obtain ⟨A, C, rfl, _⟩ := hv
  obtain ⟨A', C', rfl, _⟩ := hv'
  have H0 := Lib.hid h0
  have HTA := Lib.hid (fun W (h : Below w.heap.size w W) => hT.below h)
  clear h0 hT
  rw [ftB_nil] at hft
  go_enter Tryd.func40, Tryd.ntmps40
  go_wp2_with fail
  refine hft.mono ?_
  rintro e w1 ⟨⟨q, q', rfl, hq⟩, hb1⟩
  have H1 := Lib.hid (H0.out.step hb1)
  clear hft hc0 hc1 hb1
  cases h1 : (domB rows && domB rows') with
  | false =>
    have HE := Lib.hid (show countI rows rows' = -1 by unfold countI; rw [h1]; rfl)
    have hz1 := H1.out.below.size
    go_wp2
    go_ret
    exact ⟨by rw [HE.out]; rfl, H1.out.below.alloc hz1 _⟩
  | true =>
    obtain ⟨p, p', rfl, rfl, hpz, hpz', hg, hg'⟩ := hq h1
    have h12 := h1
    rw [Bool.and_eq_true] at h12
    have hok := ok_of_valid (show validB rows = true by have h := h12.1; unfold domB at h; rw [Bool.and_eq_true] at h; exact h.1)
    have hb2 := (Below.refl w1.heap.size w1).alloc (Nat.le_refl _) (.cells #[.pointer (some ⟨p, 0, none⟩), .pointer (some ⟨p', 0, none⟩)] 72)
    have B2 := Lib.hid (H1.out.below.trans (hb2.mono H1.out.below.size))
    have hml := lists_any p p' 5000 rows rows' hok h12.2 (Nat.le_refl _) _ (hg.below hb2 hg.lt) (hg'.below hb2 hg'.lt) (HTA.out _ B2.out)
    clear hg hg' hq hb2
    go_wp2_with fail
    refine hml.mono ?_
    rintro e w3 ⟨hres, hb3⟩
    have B3 := Lib.hid (B2.out.trans (hb3.mono B2.out.size))
    clear hml hb3
    rcases hres with ⟨hlt, rfl⟩ | ⟨hle, u, rfl, hu⟩
    · have HE := Lib.hid (show countI rows rows' = -1 by unfold countI; rw [h1, if_pos rfl, if_neg (by omega)])
      go_wp2
      go_ret
      exact ⟨by rw [HE.out]; rfl, B3.out⟩
    · have HE := Lib.hid (show countI rows rows' = ((funsR rows rows').length : Int) by unfold countI; rw [h1, if_pos rfl, if_pos hle])
      obtain ⟨au, Cu, rfl⟩ := hu.form
      clear hu
      go_wp2
      go_ret
      exact ⟨by rw [HE.out]; rfl, B3.out⟩
end Go.Proofs.YtkomghohdhengaaDoor
