/- Places in an ascending list: the model's l4Index, the program's setList.index (slices.BinarySearch). -/
import Derived.Test.YtfgpnmdmbhfdmaaDoorOrd
import Derived.Test.YtfgpnmdmbhfdmaaDoorMem
import Derived.Test.YtfgpnmdmbhfdmaaDoorEq
import Derived.Test.YtfgpnmdmbhfdmaaDoorGrid
import Derived.Lib.SlicesSearch
import Derived.Deep.Cut
import Derived.Test.YtfgpnmdmbhfdmaaDoorMidWb
import Derived.Lib.QuietBelow
import Derived.BigQuiet
import Derived.Deep.RegionHeld3
import Derived.Deep.AppendLies
import Derived.Test.YtfgpnmdmbhfdmaaDoorImplMono
import Derived.Laws.MakeOwn
import Derived.Deep.MidRow
namespace Go.Proofs.YtfgpnmdmbhfdmaaDoor
open Go.RowKit Go.Deep

/-- How many numbers of a list are less; the place of a number, or -1. -/
def cntN (xs : List Int) (c : Int) : Nat := xs.countP fun y => decide (y < c)
def idxI (xs : List Int) (c : Int) : Int := if c ∈ xs then ((cntN xs c : Nat) : Int) else -1
theorem cnt_eq {xs : List Int} {c : Int} {lo : Nat} (hl : lo ≤ xs.length) (h1 : ∀ j (hj : j < xs.length), j < lo → xs[j] < c) (h2 : ∀ j (hj : j < xs.length), lo ≤ j → c ≤ xs[j]) : cntN xs c = lo :=
  Go.Lib.countP_split _ xs lo hl
    (fun j hj => by rw [Go.Lib.getD_lt _ _ (show j < xs.length by omega)]; exact decide_eq_true (h1 j (by omega) hj))
    (fun j hj hjl => by rw [Go.Lib.getD_lt _ _ hjl]; exact decide_eq_false (by have := h2 j hjl hj; omega))
theorem idx_mem {xs : List Int} {c : Int} {lo : Nat} (ha : Asc xs) (h1 : ∀ j (hj : j < xs.length), j < lo → xs[j] < c) (h2 : ∀ j (hj : j < xs.length), lo ≤ j → c ≤ xs[j]) (hl : lo < xs.length) : c ∈ xs ↔ xs[lo] = c := by
  constructor
  · intro h
    obtain ⟨j, hj, e⟩ := List.getElem_of_mem h
    have hlo : lo ≤ j := by
      rcases Nat.lt_or_ge j lo with h3 | h3
      · have := h1 j hj h3; omega
      · exact h3
    have h4 := h2 lo hl (Nat.le_refl _)
    rcases Nat.eq_or_lt_of_le hlo with e2 | h5
    · subst e2; exact e
    · have := ha lo j h5 hj
      omega
  · intro h
    exact h ▸ List.getElem_mem hl
theorem idx_none {xs : List Int} {c : Int} (h1 : ∀ j (hj : j < xs.length), j < xs.length → xs[j] < c) : c ∉ xs := fun h => by
  obtain ⟨j, hj, e⟩ := List.getElem_of_mem h
  have := h1 j hj hj
  omega
/-- What the halving knows. -/
structure Half (xs : List Int) (c : Int) (lo hi : Nat) : Prop where
  le : lo ≤ hi
  len : hi ≤ xs.length
  less : ∀ j (hj : j < xs.length), j < lo → xs[j] < c
  more : ∀ j (hj : j < xs.length), hi ≤ j → c ≤ xs[j]
theorem Half.start (xs : List Int) (c : Int) : Half xs c 0 xs.length := ⟨Nat.zero_le _, Nat.le_refl _, fun _ _ h => absurd h (Nat.not_lt_zero _), fun j hj h => absurd hj (by omega)⟩
theorem Half.right {xs : List Int} {c : Int} {lo hi m : Nat} (h : Half xs c lo hi) (ha : Asc xs) (_h1 : lo ≤ m) (h2 : m < hi) (hm : m < xs.length) (hc : xs[m] < c) : Half xs c (m + 1) hi :=
  ⟨h2, h.len, fun j hj hjm => by
    rcases Nat.eq_or_lt_of_le (Nat.le_of_lt_succ hjm) with e | e
    · subst e; exact hc
    · have := ha j m e hm; omega, h.more⟩
theorem Half.left {xs : List Int} {c : Int} {lo hi m : Nat} (h : Half xs c lo hi) (ha : Asc xs) (h1 : lo ≤ m) (h2 : m < hi) (hm : m < xs.length) (hc : ¬ xs[m] < c) : Half xs c lo m :=
  ⟨h1, Nat.le_trans (Nat.le_of_lt h2) h.len, h.less, fun j hj hjm => by
    rcases Nat.eq_or_lt_of_le hjm with e | e
    · subst e; omega
    · have := ha m j e hj; omega⟩

set_option maxRecDepth 100000 in
set_option maxHeartbeats 4000000 in
theorem l4Index_any (v : Value) (xs : List Int) (c : Int) (w : World) (hv : IntsAt w v xs) (ha : Asc xs) (hlen : xs.length ≤ 1048576) :
    Calls Tryd.prog 50 #[v, .int .i64 c] w (fun e w' => e = .returned (.int .i64 (idxI xs c)) ∧ w' = w) := by
  obtain ⟨A, C, rfl, hC, hm, _, hy⟩ := hv
  unfold maxLen at hm
  have HY := Lib.hid hy
  have HA := Lib.hid ha
  clear hy ha
  go_enter Tryd.func50, Tryd.ntmps50
  go_wp2
  go_loopw [5, 6] (fun lv hv wr => ∃ lo hi : Nat, lv = .int .i64 (lo : Int) ∧ hv = .int .i64 (hi : Int) ∧ Half xs c lo hi ∧ wr = w) (fun lv hv _ => (intOf hv).toNat - (intOf lv).toNat)
  case atStart => exact ⟨0, xs.length, rfl, rfl, Half.start xs c, rfl⟩
  case round =>
    obtain ⟨lo, hi, rfl, rfl, hh, rfl⟩ := hrel
    have hle := hh.le
    have hhl := hh.len
    have HH := Lib.hid hh
    clear hh
    by_cases hlt : lo < hi
    · have hltz : (lo : Int) < (hi : Int) := by omega
      have hmid : (lo + hi) / 2 < hi := by omega
      have hmid2 : lo ≤ (lo + hi) / 2 := by omega
      obtain ⟨b, o, rfl, hc⟩ := HY.out ((lo + hi) / 2) (by omega)
      obtain ⟨m, hm'⟩ : ∃ m, m = (lo + hi) / 2 := ⟨_, rfl⟩
      have d1 : ((lo : Int) + (hi : Int)).tdiv 2 = (m : Int) := by rw [Int.tdiv_eq_ediv_of_nonneg (by omega)]; omega
      have d2 : ((lo : Int) + (hi : Int)) / 2 = (m : Int) := by omega
      obtain ⟨y, hy⟩ : ∃ y, y = xs[(lo + hi) / 2]'(by omega) := ⟨_, rfl⟩
      rw [← hy] at hc
      simp only [← hm'] at hc
      have HYY := Lib.hid (show ∃ h : m < xs.length, xs[m] = y from ⟨by omega, by subst hm'; exact hy.symm⟩)
      have hm1 : m < hi := by omega
      have hm2 : lo ≤ m := by omega
      clear hmid hmid2 hy hm'
      by_cases hyc : y < c
      · go_wp2
        go_roundw
        case rel =>
          obtain ⟨hml, e⟩ := HYY.out
          exact ⟨m + 1, hi, by go_num, rfl, HH.out.right HA.out hm2 hm1 hml (by rw [e]; exact hyc), by first | trivial | rfl⟩
        case measure => simp [intOf]; omega
      · go_wp2
        go_roundw
        case rel =>
          obtain ⟨hml, e⟩ := HYY.out
          exact ⟨lo, m, rfl, rfl, HH.out.left HA.out hm2 hm1 hml (by rw [e]; omega), by first | trivial | rfl⟩
        case measure => simp [intOf]; omega
    · obtain rfl : lo = hi := by omega
      have hltz : ¬ ((lo : Int) < (lo : Int)) := by omega
      have HC := Lib.hid (cnt_eq hhl HH.out.less HH.out.more)
      by_cases hn : lo < xs.length
      · have hnz : (lo : Int) < (xs.length : Int) := by omega
        obtain ⟨b, o, rfl, hc⟩ := HY.out lo hn
        have HM := Lib.hid (idx_mem HA.out HH.out.less HH.out.more hn)
        obtain ⟨y, hy⟩ : ∃ y, y = xs[lo] := ⟨_, rfl⟩
        rw [← hy] at hc HM
        clear hy
        by_cases hyc : y = c
        · subst hyc
          have HE := Lib.hid (show idxI xs y = (lo : Int) by unfold idxI; rw [if_pos (HM.out.2 rfl), HC.out])
          go_wp2
          go_ret
          exact ⟨by rw [HE.out]; rfl, rfl⟩
        · have q : (y == c) = false := by rw [beq_eq_false_iff_ne]; exact hyc
          have HE := Lib.hid (show idxI xs c = -1 by unfold idxI; rw [if_neg (fun h => hyc (HM.out.1 h))])
          go_wp2
          go_ret
          exact ⟨by rw [HE.out]; rfl, rfl⟩
      · have hnz : ¬ ((lo : Int) < (xs.length : Int)) := by omega
        obtain rfl : lo = xs.length := by omega
        have HE := Lib.hid (show idxI xs c = -1 by unfold idxI; rw [if_neg (idx_none HH.out.less)])
        go_wp2
        go_ret
        exact ⟨by rw [HE.out]; rfl, rfl⟩

theorem isNaN_any (f : FuncId) (x : Int) (w : World) (hf : f = 104 ∨ f = 109) : Calls Tryd.prog f #[.int .i64 x] w (fun e w' => e = .returned (.bool false) ∧ w' = w) := by
  have hx : (x != x) = false := bne_self_eq_false x
  rcases hf with rfl | rfl
  · go_enter Tryd.func104, Tryd.ntmps104
    go_wp2
    go_ret
    exact ⟨by first | rfl | simp, rfl⟩
  · go_enter Tryd.func109, Tryd.ntmps109
    go_wp2
    go_ret
    exact ⟨by first | rfl | simp, rfl⟩
theorem less_any (x y : Int) (w : World) : Calls Tryd.prog 103 #[.int .i64 x, .int .i64 y] w (fun e w' => e = .returned (.bool (decide (x < y))) ∧ w' = w) := by
  go_enter Tryd.func103, Tryd.ntmps103
  go_wp2_with (go_at_call 109; refine (isNaN_any _ _ _ (.inr rfl)).mono ?_; rintro e w' ⟨rfl, rfl⟩)
  go_ret
  exact ⟨rfl, rfl⟩

set_option maxRecDepth 100000 in
set_option maxHeartbeats 4000000 in
theorem search_any (v : Value) (xs : List Int) (c : Int) (w : World) (hv : IntsAt w v xs) (ha : Asc xs) (hlen : xs.length ≤ 1048576) :
    Calls Tryd.prog 89 #[v, .int .i64 c] w (fun e w' => e = .returned (.tuple #[.int .i64 ((cntN xs c : Nat) : Int), .bool (decide (c ∈ xs))]) ∧ w' = w) := by
  obtain ⟨A, C, rfl, hC, hm, _, hy⟩ := hv
  unfold maxLen at hm
  have HY := Lib.hid hy
  have HA := Lib.hid ha
  clear hy ha
  go_enter Tryd.func89, Tryd.ntmps89
  go_wp2
  go_loopw [7, 8] (fun lv hv wr => ∃ lo hi : Nat, lv = .int .i64 (lo : Int) ∧ hv = .int .i64 (hi : Int) ∧ Half xs c lo hi ∧ wr = w) (fun lv hv _ => (intOf hv).toNat - (intOf lv).toNat)
  case atStart => exact ⟨0, xs.length, rfl, rfl, Half.start xs c, rfl⟩
  case round =>
    obtain ⟨lo, hi, rfl, rfl, hh, rfl⟩ := hrel
    have hle := hh.le
    have hhl := hh.len
    have HH := Lib.hid hh
    clear hh
    by_cases hlt : lo < hi
    · have hltz : (lo : Int) < (hi : Int) := by omega
      have hmid : (lo + hi) / 2 < hi := by omega
      have hmid2 : lo ≤ (lo + hi) / 2 := by omega
      obtain ⟨b, o, rfl, hc⟩ := HY.out ((lo + hi) / 2) (by omega)
      obtain ⟨m, hm'⟩ : ∃ m, m = (lo + hi) / 2 := ⟨_, rfl⟩
      have d2 : ((lo : Int) + (hi : Int)) / 2 = (m : Int) := by omega
      obtain ⟨y, hy⟩ : ∃ y, y = xs[(lo + hi) / 2]'(by omega) := ⟨_, rfl⟩
      rw [← hy] at hc
      simp only [← hm'] at hc
      have HYY := Lib.hid (show ∃ h : m < xs.length, xs[m] = y from ⟨by omega, by subst hm'; exact hy.symm⟩)
      have hm1 : m < hi := by omega
      have hm2 : lo ≤ m := by omega
      have HD := Lib.hid d2
      clear hmid hmid2 hy hm'
      by_cases hyc : y < c
      · have hdy : decide (y < c) = true := decide_eq_true hyc
        go_wp2_with (go_at_call 103; refine (less_any _ _ _).mono ?_; rintro e w' ⟨rfl, rfl⟩)
        go_roundw
        case rel =>
          obtain ⟨hml, e⟩ := HYY.out
          exact ⟨m + 1, hi, by go_num, rfl, HH.out.right HA.out hm2 hm1 hml (by rw [e]; exact hyc), by first | trivial | rfl⟩
        case measure => simp [intOf]; omega
      · have hdy : decide (y < c) = false := decide_eq_false hyc
        go_wp2_with (go_at_call 103; refine (less_any _ _ _).mono ?_; rintro e w' ⟨rfl, rfl⟩)
        go_roundw
        case rel =>
          obtain ⟨hml, e⟩ := HYY.out
          exact ⟨lo, m, rfl, rfl, HH.out.left HA.out hm2 hm1 hml (by rw [e]; omega), by first | trivial | rfl⟩
        case measure => simp [intOf]; omega
    · obtain rfl : lo = hi := by omega
      have hltz : ¬ ((lo : Int) < (lo : Int)) := by omega
      have HC := Lib.hid (cnt_eq hhl HH.out.less HH.out.more)
      by_cases hn : lo < xs.length
      · have hnz : (lo : Int) < (xs.length : Int) := by omega
        obtain ⟨b, o, rfl, hc⟩ := HY.out lo hn
        have HM := Lib.hid (idx_mem HA.out HH.out.less HH.out.more hn)
        obtain ⟨y, hy⟩ : ∃ y, y = xs[lo] := ⟨_, rfl⟩
        rw [← hy] at hc HM
        clear hy
        by_cases hyc : y = c
        · subst hyc
          have HE := Lib.hid (decide_eq_true (HM.out.2 rfl))
          go_wp2
          go_ret2
          exact ⟨by rw [HE.out, HC.out]; rfl, rfl⟩
        · have q : (y == c) = false := by rw [beq_eq_false_iff_ne]; exact hyc
          have HE := Lib.hid (decide_eq_false (fun h => hyc (HM.out.1 h)))
          go_wp2_with (go_at_call 104; refine (isNaN_any _ _ _ (.inl rfl)).mono ?_; rintro e w' ⟨rfl, rfl⟩)
          go_ret2
          exact ⟨by rw [HE.out, HC.out]; rfl, rfl⟩
      · have hnz : ¬ ((lo : Int) < (xs.length : Int)) := by omega
        obtain rfl : lo = xs.length := by omega
        have HE := Lib.hid (decide_eq_false (idx_none HH.out.less))
        go_wp2
        go_ret2
        exact ⟨by rw [HE.out, HC.out]; rfl, rfl⟩

theorem setIndex_any (v : Value) (xs : List Int) (c : Int) (w : World) (hv : IntsAt w v xs) (ha : Asc xs) (hlen : xs.length ≤ 1048576) :
    Calls Tryd.prog 65 #[v, .int .i64 c] w (fun e w' => e = .returned (.int .i64 (idxI xs c)) ∧ w' = w) := by
  have hcall := search_any v xs c w hv ha hlen
  obtain ⟨A, C, rfl, _⟩ := hv
  by_cases h : c ∈ xs
  · rw [decide_eq_true h] at hcall
    have HE := Lib.hid (show idxI xs c = ((cntN xs c : Nat) : Int) by unfold idxI; rw [if_pos h])
    clear h
    go_enter Tryd.func65, Tryd.ntmps65
    go_wp2_with (go_at_call 89; refine hcall.mono ?_; clear hcall; rintro e w' ⟨rfl, rfl⟩)
    go_ret
    exact ⟨by rw [HE.out]; rfl, rfl⟩
  · rw [decide_eq_false h] at hcall
    have HE := Lib.hid (show idxI xs c = -1 by unfold idxI; rw [if_neg h])
    clear h
    go_enter Tryd.func65, Tryd.ntmps65
    go_wp2_with (go_at_call 89; refine hcall.mono ?_; clear hcall; rintro e w' ⟨rfl, rfl⟩)
    go_ret
    exact ⟨by rw [HE.out]; rfl, rfl⟩
end Go.Proofs.YtfgpnmdmbhfdmaaDoor

/- The model's PowerUnion. -/
namespace Go.Proofs.YtfgpnmdmbhfdmaaDoor
open Go.RowKit Go.Deep

theorem setsTo_asc (rows : Rows2) (k m : Nat) : Asc (setsTo rows k m) := by
  have hp : ((List.range m).filter fun x => decide (1 ≤ x) && decide (closL rows k x = x)).Pairwise (· < ·) := List.Pairwise.filter _ List.pairwise_lt_range
  intro i j hij hj
  unfold setsTo at hj ⊢
  rw [List.length_map] at hj
  rw [List.getElem_map, List.getElem_map]
  have := (List.pairwise_iff_getElem.1 hp) i j (by omega) hj hij
  omega
theorem sets_asc (rows : Rows2) (k : Nat) : Asc (setsL rows k) := setsTo_asc rows k _
theorem sets_at {rows : Rows2} {k i : Nat} (hi : i < (setsL rows k).length) : ∃ s : Nat, (setsL rows k)[i] = (s : Int) ∧ 1 ≤ s ∧ s < 2 ^ rows.length := by
  obtain ⟨x, e, h1, h2, _⟩ := setsTo_mem (List.getElem_mem hi)
  exact ⟨x, e, h1, h2⟩
/-- Two indexes of sets. -/
noncomputable def uniOk (rows : Rows2) (z : ByteArray) (a b : Int) : Bool := fitB rows z && (decide (0 ≤ a ∧ a ≤ ((setsL rows (kindN z)).length : Int) - 1) && decide (0 ≤ b ∧ b ≤ ((setsL rows (kindN z)).length : Int) - 1))
/-- The union of two sets of a list. -/
def orAt (xs : List Int) (a b : Nat) : Nat := (xs.getD a 0).toNat ||| (xs.getD b 0).toNat
/-- The index of the closure of a set. -/
def idxK (rows : Rows2) (k s : Nat) : Int := idxI (setsL rows k) ((closL rows k s : Nat) : Int)
noncomputable def uniI (rows : Rows2) (z : ByteArray) (a b : Int) : Int := if uniOk rows z a b = true then idxK rows (kindN z) (orAt (setsL rows (kindN z)) a.toNat b.toNat) else 0
theorem uniI_no {rows : Rows2} {z : ByteArray} {a b : Int} (h : uniOk rows z a b = false) : uniI rows z a b = 0 := by unfold uniI; rw [if_neg (by rw [h]; simp)]
theorem l4Index_below (v : Value) (xs : List Int) (c : Int) (w : World) (hv : IntsAt w v xs) (ha : Asc xs) (hlen : xs.length ≤ 1048576) : Calls Tryd.prog 50 #[v, .int .i64 c] w (SaysI (idxI xs c) w) :=
  (l4Index_any v xs c w hv ha hlen).mono fun _ _ ⟨he, hw⟩ => ⟨he, by rw [hw]; exact Below.refl _ _⟩

set_option maxRecDepth 100000 in
set_option maxHeartbeats 4000000 in
theorem specUnion_any (v : Value) (rows : Rows2) (z : ByteArray) (a b : Int) (w : World) (hv : RowsAt w v rows) (hn : bulk rows ≤ 1048576) :
    Calls Tryd.prog 27 #[.agg #[v], .string z, .int .i64 a, .int .i64 b] w (SaysNB (uniI rows z a b) (uniOk rows z a b) w) := by
  have hH := Held.start w 29 hv
  have hcall := specPowSets_any v rows z _ hH.2.1 hn
  obtain ⟨A, C, rfl, hC, hm, _⟩ := hv
  have H := Lib.hid hH
  have hcell := hH.1
  clear hH
  cases hf : fitB rows z with
  | false =>
    rw [hf] at hcall
    have hE : uniOk rows z a b = false := by unfold uniOk; rw [hf, Bool.false_and]
    have HE := Lib.hid hE
    have HI := Lib.hid (uniI_no hE)
    have HCALL := Lib.hid hcall
    clear hf hcall hE
    go_enter Tryd.func27, Tryd.ntmps27
    go_wp2_with (go_at_call 12; refine HCALL.out.mono ?_; rintro e w2 ⟨u, rfl, _, hb2⟩; have H2 := Lib.hid (H.out.below hb2); clear hb2)
    go_ret2
    exact ⟨by rw [HE.out, HI.out]; rfl, H2.out.2.2.1⟩
  | true =>
    rw [powSets_yes hf, hf] at hcall
    obtain ⟨_, hok, h7, hk⟩ := fit_iff hf
    obtain ⟨M, hM, hMb, _, _⟩ := pow_walk h7
    have HCALL := Lib.hid hcall
    have hsl := setsL_len h7 (kindN z)
    have HASC := Lib.hid (sets_asc rows (kindN z))
    have HAT := Lib.hid (fun i (hi : i < (setsL rows (kindN z)).length) => sets_at hi)
    have hU : uniOk rows z a b = (decide (0 ≤ a ∧ a ≤ ((setsL rows (kindN z)).length : Int) - 1) && decide (0 ≤ b ∧ b ≤ ((setsL rows (kindN z)).length : Int) - 1)) := by unfold uniOk; rw [hf, Bool.true_and]
    have hV : uniOk rows z a b = true → uniI rows z a b = idxI (setsL rows (kindN z)) ((closL rows (kindN z) (orAt (setsL rows (kindN z)) a.toNat b.toNat) : Nat) : Int) := fun h => by unfold uniI idxK; rw [if_pos h]
    have HCL := Lib.hid (fun (s : Nat) W (h : Held w (.slice A rows.length C) rows W) (hs : s < 2 ^ 60) => l5Close_any (.slice A rows.length C) rows z s W h.2.1 hok h7 hk hs)
    obtain ⟨xs, hxs⟩ : ∃ xs, xs = setsL rows (kindN z) := ⟨_, rfl⟩
    rw [← hxs] at HCALL HASC HAT hsl hU hV
    have hs1 : wrap64 ((xs.length : Int) - 1) = (xs.length : Int) - 1 := IntWalk.wrap64_in _ (by omega)
    have HM := Lib.hid hM
    clear hcall hf hk hok hxs hM
    by_cases ha : 0 ≤ a ∧ a ≤ (xs.length : Int) - 1
    · have HA := Lib.hid (fun W => l6In_yes a 0 ((xs.length : Int) - 1) W ha.1 ha.2)
      by_cases hb : 0 ≤ b ∧ b ≤ (xs.length : Int) - 1
      · have HBI := Lib.hid (fun W => l6In_yes b 0 ((xs.length : Int) - 1) W hb.1 hb.2)
        obtain ⟨p, rfl⟩ : ∃ p : Nat, a = (p : Int) := ⟨a.toNat, by omega⟩
        obtain ⟨q, rfl⟩ : ∃ q : Nat, b = (q : Int) := ⟨b.toNat, by omega⟩
        have hE : uniOk rows z (p : Int) (q : Int) = true := by rw [hU, decide_eq_true ha, decide_eq_true hb]; rfl
        have HE := Lib.hid hE
        have HI := Lib.hid (hV hE)
        rw [Int.toNat_natCast, Int.toNat_natCast] at HI
        have hpl : p < xs.length := by omega
        have hql : q < xs.length := by omega
        obtain ⟨sp, hsp, _, hsp2⟩ := HAT.out p hpl
        obtain ⟨sq, hsq, _, hsq2⟩ := HAT.out q hql
        have HOR := Lib.hid (show orAt xs p q = sp ||| sq by unfold orAt; rw [Go.Lib.getD_lt _ _ hpl, Go.Lib.getD_lt _ _ hql, hsp, hsq]; rfl)
        rw [← HM.out] at hsp2 hsq2
        have hor := bits_or (a := sp) (b := sq) (small_lt (show sp < 2 ^ 7 by omega) (by decide)) (small_lt (show sq < 2 ^ 7 by omega) (by decide))
        have HORL := Lib.hid (show sp ||| sq < 2 ^ 60 from Nat.lt_of_lt_of_le (Nat.or_lt_two_pow (show sp < 2 ^ 7 by omega) (show sq < 2 ^ 7 by omega)) (Nat.pow_le_pow_right (by decide) (by decide)))
        rw [HOR.out] at HI
        obtain ⟨so, hso⟩ : ∃ so, so = sp ||| sq := ⟨_, rfl⟩
        rw [← hso] at hor HI HORL
        have HSP := Lib.hid hsp
        have HSQ := Lib.hid hsq
        clear hE hU hV ha hb hsp2 hsq2 hso hsp hsq
        go_enter Tryd.func27, Tryd.ntmps27
        go_upto_region 4 with (first | (go_at_call 12; refine HCALL.out.mono ?_; clear HCALL; rintro e w2 ⟨u, rfl, ho, hb2⟩; obtain ⟨a2, C2, rfl⟩ := ho.form; have HO := Lib.hid ho; have H2 := Lib.hid (H.out.below hb2); clear hb2 ho hcell) | (go_at_call_of 47 (Value.int .i64 (p : Int)); refine (HA.out _).mono ?_; clear HA; rintro e w3 ⟨rfl, hw3⟩; obtain rfl : w2 = w3 := by first | exact hw3 | exact hw3.symm) | (go_at_call_of 47 (Value.int .i64 (q : Int)); refine (HBI.out _).mono ?_; clear HBI; rintro e w4 ⟨rfl, hw4⟩; obtain rfl : w2 = w4 := by first | exact hw4 | exact hw4.symm))
        have hcell := H2.out.1
        have hints := HO.out.at
        have HIN := Lib.hid hints
        obtain ⟨_, _, e0, _, _, _, hy⟩ := hints
        cases e0
        obtain ⟨b1, o1, rfl, hc1⟩ := hy p hpl
        obtain ⟨b2, o2, e1, hc2⟩ := hy q hql
        cases e1
        rw [HSP.out] at hc1
        rw [HSQ.out] at hc2
        clear hy
        have hq0 := fun d os => cell_regrown hcell d os
        have hq1 := fun d os => cell_regrown hc1 d os
        have hq2 := fun d os => cell_regrown hc2 d os
        have hxS := fun d os => Calls.regrown_of (w := w2) (d := d) (os := os) (HCL.out so _ (H2.out.below (below_regrown w2 d os)) HORL.out)
        have hxT := fun d os => Calls.regrown_of (w := w2) (d := d) (os := os) (l4Index_below _ xs ((closL rows (kindN z) so : Nat) : Int) _ (HIN.out.below (below_regrown w2 d os)) HASC.out (by omega))
        refine wp_region_quiet_below (by kernel_rfl) (by kernel_rfl) ?_
        repeat (go_big_quiet_step (first | (go_at_call 48; exact hxS _ _) | (go_at_call 50; exact hxT _ _)))
        refine wpQuiet_nil ?_
        intro w5 hw'
        have HB5 : Hid (Below w.heap.size w w5) := Lib.hid (by
          obtain ⟨⟨dq, osq⟩, hw''⟩ := hw'
          rw [hw'']
          exact H2.out.2.2.1.trans ((below_regrown w2 dq osq).mono H2.out.2.2.1.size))
        clear hxS hxT hq0 hq1 hq2 hw' hcell hc1 hc2
        go_wp2
        go_ret2
        exact ⟨by rw [HE.out, HI.out]; rfl, HB5.out⟩
      · have hE : uniOk rows z a b = false := by rw [hU, decide_eq_false hb, Bool.and_false]
        have HE := Lib.hid hE
        have HI := Lib.hid (uniI_no hE)
        have HBI := Lib.hid (fun W => l6In_no b 0 ((xs.length : Int) - 1) W hb)
        clear hE hU hV ha hb
        go_enter Tryd.func27, Tryd.ntmps27
        go_wp2_with (first | (go_at_call 12; refine HCALL.out.mono ?_; clear HCALL; rintro e w2 ⟨u, rfl, ho, hb2⟩; obtain ⟨a2, C2, rfl⟩ := ho.form; have H2 := Lib.hid (H.out.below hb2); clear hb2 ho hcell) | (go_at_call_of 47 (Value.int .i64 a); refine (HA.out _).mono ?_; clear HA; rintro e w3 ⟨rfl, hw3⟩; obtain rfl : w2 = w3 := by first | exact hw3 | exact hw3.symm) | (go_at_call_of 47 (Value.int .i64 b); refine (HBI.out _).mono ?_; clear HBI; rintro e w4 ⟨rfl, hw4⟩; obtain rfl : w2 = w4 := by first | exact hw4 | exact hw4.symm))
        go_ret2
        exact ⟨by rw [HE.out, HI.out]; rfl, H2.out.2.2.1⟩
    · have hE : uniOk rows z a b = false := by rw [hU, decide_eq_false ha, Bool.false_and]
      have HE := Lib.hid hE
      have HI := Lib.hid (uniI_no hE)
      have HA := Lib.hid (fun W => l6In_no a 0 ((xs.length : Int) - 1) W ha)
      clear hE hU hV ha
      go_enter Tryd.func27, Tryd.ntmps27
      go_wp2_with (first | (go_at_call 12; refine HCALL.out.mono ?_; clear HCALL; rintro e w2 ⟨u, rfl, ho, hb2⟩; obtain ⟨a2, C2, rfl⟩ := ho.form; have H2 := Lib.hid (H.out.below hb2); clear hb2 ho hcell) | (go_at_call_of 47 (Value.int .i64 a); refine (HA.out _).mono ?_; clear HA; rintro e w3 ⟨rfl, hw3⟩; obtain rfl : w2 = w3 := by first | exact hw3 | exact hw3.symm))
      go_ret2
      exact ⟨by rw [HE.out, HI.out]; rfl, H2.out.2.2.1⟩
end Go.Proofs.YtfgpnmdmbhfdmaaDoor

/- The model's PowerOne. -/
namespace Go.Proofs.YtfgpnmdmbhfdmaaDoor
open Go.RowKit Go.Deep

/-- The indexes of the closures of the first m elements. -/
def oneN (rows : Rows2) (k m : Nat) : List Int := (List.range m).map fun i => idxK rows k (2 ^ i)
theorem oneN_len (rows : Rows2) (k m : Nat) : (oneN rows k m).length = m := by simp [oneN]
theorem oneN_succ (rows : Rows2) (k m : Nat) : oneN rows k (m + 1) = oneN rows k m ++ [idxK rows k (2 ^ m)] := by
  unfold oneN
  rw [List.range_succ, List.map_append]
  rfl
noncomputable def oneL (rows : Rows2) (z : ByteArray) : List Int := if fitB rows z = true then oneN rows (kindN z) rows.length else []
theorem oneL_no {rows : Rows2} {z : ByteArray} (h : fitB rows z = false) : oneL rows z = [] := by unfold oneL; rw [if_neg (by rw [h]; simp)]
theorem oneL_yes {rows : Rows2} {z : ByteArray} (h : fitB rows z = true) : oneL rows z = oneN rows (kindN z) rows.length := by unfold oneL; rw [if_pos h]
theorem one_short (rows : Rows2) (z : ByteArray) : (oneL rows z).length ≤ 1048576 := by
  unfold oneL
  split
  · rename_i h
    have := (fit_iff h).2.2.1
    rw [oneN_len]
    omega
  · exact Nat.zero_le _
theorem idx_range (xs : List Int) (c : Int) : -1 ≤ idxI xs c ∧ idxI xs c ≤ (xs.length : Int) := by
  unfold idxI
  split
  · have := List.countP_le_length (p := fun y => decide (y < c)) (l := xs)
    unfold cntN
    omega
  · omega
theorem one_wf {rows : Rows2} (h7 : rows.length ≤ 7) (k s : Nat) : (Lit.int .i64 (idxK rows k s)).wf = true := by
  have h := idx_range (setsL rows k) ((closL rows k s : Nat) : Int)
  have hl := setsL_len h7 k
  have e1 : IntKind.i64.min = -9223372036854775808 := rfl
  have e2 : IntKind.i64.max = 9223372036854775807 := rfl
  unfold idxK
  simp [Lit.wf, e1, e2]
  omega

set_option maxRecDepth 100000 in
set_option maxHeartbeats 4000000 in
theorem specOne_any (v : Value) (rows : Rows2) (z : ByteArray) (w : World) (hv : RowsAt w v rows) (hn : bulk rows ≤ 1048576) :
    Calls Tryd.prog 25 #[.agg #[v], .string z] w (OwnB (oneL rows z) (fitB rows z) w) := by
  have hH := Held.start w 29 hv
  have hcall := specPowSets_any v rows z _ hH.2.1 hn
  have hlen : rows.length ≤ 1048576 := by unfold bulk at hn; omega
  obtain ⟨A, C, rfl, hC, hm, _⟩ := hv
  unfold maxLen at hm
  have H := Lib.hid hH
  have hcell := hH.1
  obtain ⟨i0, hi0, hz0, hz1, hz2⟩ := info_parts infoInt
  clear hH
  cases hf : fitB rows z with
  | false =>
    rw [hf] at hcall
    have HI := Lib.hid (oneL_no hf)
    have HCALL := Lib.hid hcall
    clear hf hcall
    go_enter Tryd.func25, Tryd.ntmps25
    go_upto_region 3 with (go_at_call 12; refine HCALL.out.mono ?_; clear HCALL; rintro e w2 ⟨u, rfl, ho, hb2⟩; obtain ⟨a2, C2, rfl⟩ := ho.form; have H2 := Lib.hid (H.out.below hb2); clear hb2 ho hcell)
    have hb3 := (Below.refl w2.heap.size w2).alloc (Nat.le_refl _) (.cells #[] 3)
    have H3 := Lib.hid (H2.out.below hb3)
    have HNO := Lib.hid (none_own w2 H2.out.2.2.1.size)
    clear hb3
    generalize (w2.alloc (.cells #[] 3)) = w3 at H3 HNO ⊢
    generalize w2.heap.size = q at HNO ⊢
    have hcell := H3.out.1
    go_wp2
    go_loopw [8, 9] (fun ov iv wx => ov = .slice (some ⟨q, 0, none⟩) 0 0 ∧ iv = .int .i64 0 ∧ wx = w3) (fun _ _ _ => 0)
    case atStart => exact ⟨rfl, rfl, rfl⟩
    case round =>
      obtain ⟨rfl, rfl, rfl⟩ := hrel
      by_cases h0 : 0 < rows.length
      · have h0z : (0 : Int) < (rows.length : Int) := by omega
        go_wp2
        go_ret2
        refine ⟨.slice (some ⟨q, 0, none⟩) 0 0, rfl, ?_, H3.out.2.2.1⟩
        rw [HI.out]
        exact HNO.out
      · have h0z : ¬ ((0 : Int) < (rows.length : Int)) := by omega
        go_wp2
        go_ret2
        refine ⟨.slice (some ⟨q, 0, none⟩) 0 0, rfl, ?_, H3.out.2.2.1⟩
        rw [HI.out]
        exact HNO.out
  | true =>
    rw [powSets_yes hf, hf] at hcall
    obtain ⟨_, hok, h7, hk⟩ := fit_iff hf
    have HCALL := Lib.hid hcall
    have hsl := setsL_len h7 (kindN z)
    have HASC := Lib.hid (sets_asc rows (kindN z))
    have HI := Lib.hid (oneL_yes hf)
    have HWF := Lib.hid (fun s => one_wf h7 (kindN z) s)
    have HCL := Lib.hid (fun (s : Nat) W (h : Held w (.slice A rows.length C) rows W) (hs : s < 2 ^ 60) => l5Close_any (.slice A rows.length C) rows z s W h.2.1 hok h7 hk hs)
    generalize hkk : kindN z = k at HCALL HASC HI HCL hsl HWF
    clear hcall hf hk hok hkk
    go_enter Tryd.func25, Tryd.ntmps25
    go_upto_region 2 with (go_at_call 12; refine HCALL.out.mono ?_; clear HCALL; rintro e w2 ⟨u, rfl, ho, hb2⟩; obtain ⟨a2, C2, rfl⟩ := ho.form; have HO := Lib.hid ho; have H2 := Lib.hid (H.out.below hb2); clear hb2 ho hcell)
    have HN := Lib.hid (World.ownsRow_made (e := 3) (size := 1) w2 #[] 0 (base := w2.heap.size) (Nat.le_refl _) (Nat.zero_le _) (by simp))
    have HB0 := Lib.hid ((Below.refl w2.heap.size w2).alloc (Nat.le_refl _) (.cells #[] 3))
    go_wp2
    generalize (w2.alloc (.cells #[] 3)) = wn at HN HB0 ⊢
    go_loopw [8, 9] (fun ov iv wx => ∃ i : Nat, i ≤ rows.length ∧ iv = .int .i64 (i : Int) ∧ wx.ownsRow w2.heap.size 3 1 ov (oneN rows k i).length (cellsI (oneN rows k i)) ∧ Below w2.heap.size w2 wx) (fun _ iv _ => rows.length - (intOf iv).toNat)
    case atStart => exact ⟨0, Nat.zero_le _, rfl, HN.out, HB0.out⟩
    case round =>
      obtain ⟨ov, hov⟩ : ∃ ov, ov = u8 := ⟨_, rfl⟩
      subst hov
      obtain ⟨i, hi, rfl, hown, hb⟩ := hrel
      have HOWN := Lib.hid hown
      have HB := Lib.hid hb
      have HH := Lib.hid (H2.out.below hb)
      have hcell := HH.out.1
      have hbz := hb.size
      clear hown hb HN HB0
      by_cases hil : i < rows.length
      · have hiz : (i : Int) < (rows.length : Int) := by omega
        obtain ⟨M, hM⟩ : ∃ M : Nat, M = 2 ^ i := ⟨_, rfl⟩
        have hMb : M < 2 ^ 7 := by rw [hM]; exact Nat.pow_lt_pow_right (by decide) (by omega)
        have hp1 : wrap64 ((2 : Int) ^ i) = (M : Int) := by
          rw [show ((2 : Int) ^ i) = (M : Int) by rw [hM]; simp]
          exact IntWalk.wrap64_in _ (by omega)
        have hp3 : IntKind.i64.wrap ((2 : Int) ^ i) = (M : Int) := by
          rw [IntKind.wrap_i64]
          unfold wrap64 at hp1
          exact hp1
        have hi64 : i % 64 = i := Nat.mod_eq_of_lt (by omega)
        have HE := Lib.hid (oneN_succ rows k i)
        rw [← hM] at HE
        have hM60 : M < 2 ^ 60 := Nat.lt_of_lt_of_le hMb (Nat.pow_le_pow_right (by decide) (by decide))
        have hdw : Held w (.slice A rows.length C) rows wr.drew := HH.out.drew
        have HCC := Lib.hid (HCL.out M wr.drew hdw hM60)
        have HIX := Lib.hid (fun W (hb : Below w2.heap.size w2 W) => (show Calls Tryd.prog 50 #[.slice a2 (setsL rows k).length C2, .int .i64 ((closL rows k M : Nat) : Int)] W (SaysI (idxK rows k M) W) from l4Index_below _ _ _ W (HO.out.at.below hb) HASC.out (by omega)))
        have hwf : ((Lit.int .i64 (idxK rows k M)).wf = true) := HWF.out M
        have HWI := Lib.hid hwf
        have holen := oneN_len rows k i
        generalize closL rows k M = c at HCC HIX
        generalize idxK rows k M = r at HIX HE HWI
        clear hM hMb hwf hM60 hdw
        go_upto_region 6 with fail
        refine wp_region_held_drew (S := fun W' : World => W'.cell? ⟨w.heap.size, 0, none⟩ = some (.slice A rows.length C)) (by kernel_rfl) HH.out.drew.1 (fun hHeld => ?_)
        refine wpAnyH_take (i := 0) (v := ov) rfl (by kernel_rfl) (by kernel_rfl) (by kernel_rfl) (fun _ _ _ h => h) (Or.inl ⟨by rfl, ?_⟩) (by assumption) ?_
        · (intro W hSw; go_simp)
        try dsimp only [Act.put]
        refine wpAnyH_take (i := 1) (v := .slice a2 (setsL rows k).length C2) rfl (by kernel_rfl) (by kernel_rfl) (by kernel_rfl) (fun _ _ _ h => h) (Or.inl ⟨by rfl, ?_⟩) (by assumption) ?_
        · (intro W hSw; go_simp)
        try dsimp only [Act.put]
        refine wpAnyH_take (i := 2) (v := .agg #[.slice A rows.length C]) rfl (by kernel_rfl) (by kernel_rfl) (by kernel_rfl) (fun _ _ _ h => h) (Or.inl ⟨by rfl, ?_⟩) (by assumption) ?_
        · (intro W hSw; go_simp)
        try dsimp only [Act.put]
        refine wpAnyH_take (i := 3) (v := .string z) rfl (by kernel_rfl) (by kernel_rfl) (by kernel_rfl) (fun _ _ _ h => h) (Or.inl ⟨by rfl, ?_⟩) (by assumption) ?_
        · (intro W hSw; go_simp)
        try dsimp only [Act.put]
        refine wpAnyH_take (i := 4) (v := .int .i64 (i : Int)) rfl (by kernel_rfl) (by kernel_rfl) (by kernel_rfl) (fun _ _ _ h => h) (Or.inl ⟨by rfl, ?_⟩) (by assumption) ?_
        · (intro W hSw; go_simp)
        try dsimp only [Act.put]
        refine wpAnyH_take (i := 5) (v := .int .i64 (M : Int)) rfl (by kernel_rfl) (by kernel_rfl) (by kernel_rfl) (fun _ _ _ h => h) (Or.inl ⟨by rfl, ?_⟩) (by assumption) ?_
        · (intro W hSw; go_simp)
        try dsimp only [Act.put]
        refine wpAnyH_ready (rs := [6]) (by kernel_rfl) (by simp) ?_
        refine AllReadyH.cons rfl (fun K hK => ?_) ?_
        · go_simp
          refine HCC.out.mono ?_
          rintro e w3 ⟨rfl, hb3⟩
          have HB3 := Lib.hid ((below_drew wr _).trans hb3)
          have HX3 := Lib.hid (HB.out.trans (HB3.out.mono HB.out.size))
          have hcell3 := (HH.out.below HB3.out).1
          clear hb3
          go_wp2_with fail
          refine hK.out _ _ (hcell3) (fun hHeld => ?_)
          clear hK K
          try dsimp only [Act.put]
          refine wpAnyH_ready (rs := [7]) (by kernel_rfl) (by simp) ?_
          refine AllReadyH.cons rfl (fun K hK => ?_) ?_
          · go_simp
            refine (HIX.out w3 HX3.out).mono ?_
            rintro e w4 ⟨rfl, hb4⟩
            have HB4 := Lib.hid (HB3.out.trans (hb4.mono HB3.out.size))
            have HX4 := Lib.hid (HX3.out.trans (hb4.mono HX3.out.size))
            have HW0 := Lib.hid (owns_below HOWN.out HB4.out)
            have hcell4 := (HH.out.below HB4.out).1
            have hcell5 := cell_alloc_any hcell4
            have hz4 := HX4.out.size
            clear hb4
            go_wp2_with fail
            refine hK.out _ _ (hcell4) (fun hHeld => ?_)
            clear hK K
            try dsimp only [Act.put]
            refine wpAnyH_ready (rs := [8]) (by kernel_rfl) (by simp) ?_
            refine AllReadyH.cons rfl (fun K hK => ?_) ?_
            · go_simp
              refine hK.out _ _ (hcell5 _) (fun hHeld => ?_)
              clear hK K
              try dsimp only [Act.put]
              refine wpAnyH_ready (rs := [9]) (by kernel_rfl) (by simp) ?_
              refine AllReadyH.cons rfl (fun K hK => ?_) ?_
              · refine step_append_lies _ (by rfl) _ _ 26 (by rfl) w2.heap.size 3 i0 (.int .i64 0) 1 8 Tryd.underlying26 hi0 hz0 hz1 hz2 rfl (by decide) ov (oneN rows k i).length (cellsI (oneN rows k i)) (by rfl) (HW0.out.alloc _) ⟨w4.heap.size, 0, none⟩ 1 1 [.int .i64 r] (by rfl) rfl (World.news_of_block (heap_alloc_new w4 _)) (by simp [Value.oneCell']) (by omega) (by unfold maxLen; omega) (by omega) (by simp; omega) (w4.heap.size + 1) (by simp) ?_
                intro g' cap' w5 hown hgrow hat hlt'
                have HX5 := Lib.hid ((HX4.out.alloc HX4.out.size _).grown hgrow (by rw [World.size_alloc]; omega) (fun b e => (HW0.out.lt b e).1))
                have hcell6 := (H2.out.below HX5.out).1
                refine hK.out _ _ (hcell6) (fun hHeld => ?_)
                clear hK K
                try dsimp only [Act.put]
                refine wpAnyH_ready (rs := [10]) (by kernel_rfl) (by simp) ?_
                refine AllReadyH.cons rfl (fun K hK => ?_) ?_
                · go_simp
                  refine hK.out _ _ (hcell6) (fun hHeld => ?_)
                  clear hK K
                  try dsimp only [Act.put]
                  refine wpAnyH_done (by kernel_rfl) ?_ _
                  go_wp2_with fail
                  go_roundw
                  case rel =>
                    refine ⟨i + 1, by omega, by go_num, ?_, HX5.out⟩
                    rw [holen] at hown
                    rw [HE.out, List.length_append, holen, show cellsI (oneN rows k i ++ [r]) = cellsI (oneN rows k i) ++ [.int .i64 r] by simp]
                    exact hown
                  case measure => simp [intOf]; omega
                exact AllReadyH.nil
              exact AllReadyH.nil
            exact AllReadyH.nil
          exact AllReadyH.nil
        exact AllReadyH.nil
      · obtain rfl : i = rows.length := by omega
        have hiz : ¬ ((rows.length : Int) < (rows.length : Int)) := by omega
        go_wp2
        go_ret2
        refine ⟨ov, rfl, ?_, H2.out.2.2.1.trans (HB.out.mono H2.out.2.2.1.size)⟩
        rw [HI.out]
        exact (OwnI.of_owns HOWN.out (fun y hy => by
          unfold oneN at hy
          obtain ⟨x, _, rfl⟩ := List.mem_map.1 hy
          exact HWF.out _) (fun b hb => (HOWN.out.lt b hb).2)).wider H2.out.2.2.1.size (Nat.le_refl _)
end Go.Proofs.YtfgpnmdmbhfdmaaDoor

/- The program's PowerUnion. -/
namespace Go.Proofs.YtfgpnmdmbhfdmaaDoor
open Go.RowKit Go.Deep Go.Shelf

theorem setSize_any (a : Option Addr) (n C : Nat) (w : World) : Calls Tryd.prog 68 #[.slice a n C] w (fun e w' => e = .returned (.int .i64 (n : Int)) ∧ w' = w) := by
  go_enter Tryd.func68, Tryd.ntmps68
  go_wp2
  go_ret
  exact ⟨rfl, rfl⟩
theorem powSize_any (n : Nat) (a : Option Addr) (m C : Nat) (fc fo : Value) (w : World) : Calls Tryd.prog 53 #[.agg (pdCells n (.slice a m C) fc fo)] w (SaysI (m : Int) w) := by
  obtain ⟨_, c1, _, _⟩ := fresh4 w n (.slice a m C) fc fo
  have HB := Lib.hid ((Below.refl w.heap.size w).alloc (Nat.le_refl _) (.cells (pdCells n (.slice a m C) fc fo) 55))
  go_enter Tryd.func53, Tryd.ntmps53
  go_wp2_with (go_at_call 68; refine (setSize_any _ _ _ _).mono ?_; rintro e w' ⟨rfl, rfl⟩)
  go_ret
  exact ⟨rfl, HB.out⟩
theorem setIndex_below (v : Value) (xs : List Int) (c : Int) (w : World) (hv : IntsAt w v xs) (ha : Asc xs) (hlen : xs.length ≤ 1048576) : Calls Tryd.prog 65 #[v, .int .i64 c] w (SaysI (idxI xs c) w) :=
  (setIndex_any v xs c w hv ha hlen).mono fun _ _ ⟨he, hw⟩ => ⟨he, by rw [hw]; exact Below.refl _ _⟩
/-- Two numbers in a slice of their own. -/
theorem two_ints {a b : Int} (w : World) (ha : (Lit.int .i64 a).wf = true) (hb : (Lit.int .i64 b).wf = true) : IntsAt (w.alloc (.cells #[.int .i64 a, .int .i64 b] 3)) (.slice (some ⟨w.heap.size, 0, none⟩) 2 2) [a, b] := by
  refine ⟨some ⟨w.heap.size, 0, none⟩, 2, rfl, Nat.le_refl _, by decide, fun x hx => ?_, fun i hi => ?_⟩
  · simp only [List.mem_cons, List.not_mem_nil, or_false] at hx
    rcases hx with rfl | rfl
    · exact ha
    · exact hb
  · refine ⟨w.heap.size, 0, rfl, ?_⟩
    rw [cell_of_row _ w.heap.size (0 + i) _ _ _ (heap_alloc_new _ _)]
    have : i = 0 ∨ i = 1 := by simp at hi; omega
    rcases this with rfl | rfl
    · rfl
    · rfl
theorem two_below {a b : Int} {n : Nat} {t : Bool} (ht : t = (decide (0 ≤ a ∧ a ≤ (n : Int) - 1) && decide (0 ≤ b ∧ b ≤ (n : Int) - 1))) : t = true ↔ ∀ x ∈ [a, b], outN n x = false := by
  rw [ht, Bool.and_eq_true, decide_eq_true_iff, decide_eq_true_iff]
  have e : ∀ x : Int, outN n x = false ↔ (0 ≤ x ∧ x ≤ (n : Int) - 1) := fun x => by
    unfold outN
    rw [Bool.or_eq_false_iff, decide_eq_false_iff_not, decide_eq_false_iff_not]
    omega
  constructor
  · intro h x hx
    simp only [List.mem_cons, List.not_mem_nil, or_false] at hx
    rcases hx with rfl | rfl
    · exact (e _).2 h.1
    · exact (e _).2 h.2
  · intro h
    exact ⟨(e _).1 (h a (by simp)), (e _).1 (h b (by simp))⟩

set_option maxRecDepth 100000 in
set_option maxHeartbeats 4000000 in
theorem noUnion (v : Value) (rows : Rows2) (z : ByteArray) (a b : Int) (w : World) (hv : RowsAt w v rows) (hT : Tab w) (hn : bulk rows ≤ 1048576) (hf : fitB rows z = false) :
    Calls Tryd.prog 28 #[.agg #[v], .string z, .int .i64 a, .int .i64 b] w (SaysNB (uniI rows z a b) (uniOk rows z a b) w) := by
  have hH := Held.start w 29 hv
  have HOF := Lib.hid (powerOf_no v rows z _ hH.2.1 (hT.below ((Below.refl _ w).alloc (Nat.le_refl _) (.cells #[v] 29))) hn hf)
  have hE : uniOk rows z a b = false := by unfold uniOk; rw [hf, Bool.false_and]
  have HE := Lib.hid hE
  have HI := Lib.hid (uniI_no hE)
  obtain ⟨A, C, rfl, _⟩ := hv
  have H := Lib.hid hH
  have hcell := hH.1
  clear hH hT hn hf hE
  go_enter Tryd.func28, Tryd.ntmps28
  go_wp2_with (go_at_call 40; refine HOF.out.mono ?_; clear HOF; rintro e w2 ⟨rfl, hb2⟩; have H2 := Lib.hid (H.out.below hb2); clear hb2)
  go_ret2
  exact ⟨by rw [HE.out, HI.out]; rfl, H2.out.2.2.1.alloc H2.out.2.2.1.size _⟩

set_option maxRecDepth 100000 in
set_option maxHeartbeats 4000000 in
theorem lowerIndex_any (rows : Rows2) (s : Nat) (a : Option Addr) (C kb sb lb ub : Nat) (A2 B2 : Option Addr) (C2 D2 : Nat) (w : World) (hok : Ok rows) (h7 : rows.length ≤ 7) (hs : s < 2 ^ 60) (hi : IntsAt w (.slice a (setsL rows 0).length C) (setsL rows 0))
    (hp : PM 80 sb lb ub rows.length (gridF (backRows rows)) (gridF rows) A2 B2 C2 D2 w) :
    Calls Tryd.prog 51 #[pwV rows.length (.slice a (setsL rows 0).length C) 81 82 kb sb, .int .i64 (s : Int)] w (SaysI (idxK rows 0 s) w) := by
  have hb0 := (Below.refl w.heap.size w).alloc (Nat.le_refl _) (.cells (pdCells rows.length (.slice a (setsL rows 0).length C) (.func (.func 81) #[] #[.pointer (some ⟨kb, 0, none⟩), .pointer (some ⟨sb, 0, none⟩)]) (.func (.func 82) #[] #[.pointer (some ⟨kb, 0, none⟩), .pointer (some ⟨sb, 0, none⟩)])) 55)
  obtain ⟨c0, c1, c2, c3⟩ := fresh4 w rows.length (.slice a (setsL rows 0).length C) (.func (.func 81) #[] #[.pointer (some ⟨kb, 0, none⟩), .pointer (some ⟨sb, 0, none⟩)]) (.func (.func 82) #[] #[.pointer (some ⟨kb, 0, none⟩), .pointer (some ⟨sb, 0, none⟩)])
  have HCL := Lib.hid (fun W (hb : Below w.heap.size w W) => (show Calls Tryd.prog 81 #[.int .i64 (s : Int), .pointer (some ⟨kb, 0, none⟩), .pointer (some ⟨sb, 0, none⟩)] W (SaysI ((closL rows 0 s : Nat) : Int) W) from lowerClosed_any kb sb lb ub rows.length s (gridF (backRows rows)) (gridF rows) A2 B2 C2 D2 W (hp.step hb) (by omega) (fun k _ => pow7_lt h7 (hok.backSmall k)) (fun k _ => pow7_lt h7 (hok.small k)) hs))
  have HIX := Lib.hid (fun W (hb : Below w.heap.size w W) => (show Calls Tryd.prog 65 #[.slice a (setsL rows 0).length C, .int .i64 ((closL rows 0 s : Nat) : Int)] W (SaysI (idxK rows 0 s) W) from setIndex_below _ (setsL rows 0) _ W (hi.below hb) (sets_asc rows 0) (by have := setsL_len h7 0; omega)))
  generalize closL rows 0 s = c at HCL HIX
  generalize idxK rows 0 s = r at HIX ⊢
  generalize (setsL rows 0).length = m at c0 c1 c2 c3 hb0 HIX ⊢
  obtain ⟨w1, hw1⟩ : ∃ w1, w1 = w.alloc (.cells (pdCells rows.length (.slice a m C) (.func (.func 81) #[] #[.pointer (some ⟨kb, 0, none⟩), .pointer (some ⟨sb, 0, none⟩)]) (.func (.func 82) #[] #[.pointer (some ⟨kb, 0, none⟩), .pointer (some ⟨sb, 0, none⟩)])) 55) := ⟨_, rfl⟩
  rw [← hw1] at hb0 c0 c1 c2 c3
  have HB0 := Lib.hid hb0
  clear hb0 hi hp hok
  go_enter Tryd.func51, Tryd.ntmps51
  go_upto_region 1 with fail
  rw [← hw1]
  clear hw1
  have hq1 := fun d os => cell_regrown c1 d os
  have hq2 := fun d os => cell_regrown c2 d os
  have hxS := fun d os => Calls.regrown_of (w := w1) (d := d) (os := os) (HCL.out _ (HB0.out.trans ((below_regrown w1 d os).mono HB0.out.size)))
  have hxT := fun d os => Calls.regrown_of (w := w1) (d := d) (os := os) (HIX.out _ (HB0.out.trans ((below_regrown w1 d os).mono HB0.out.size)))
  refine wp_region_quiet_below (by kernel_rfl) (by kernel_rfl) ?_
  repeat (go_big_quiet_step (first | (go_at_call 81; exact hxS _ _) | (go_at_call 65; exact hxT _ _)))
  refine wpQuiet_nil ?_
  intro w5 hw'
  have HB5 : Hid (Below w.heap.size w w5) := Lib.hid (by
    obtain ⟨⟨dq, osq⟩, hw''⟩ := hw'
    rw [hw'']
    exact HB0.out.trans ((below_regrown w1 dq osq).mono HB0.out.size))
  clear hxS hxT hq1 hq2 hw' c0 c1 c2 c3
  go_wp2
  go_ret
  exact ⟨rfl, HB5.out⟩

set_option maxRecDepth 100000 in
set_option maxHeartbeats 4000000 in
theorem lowerUnion (v : Value) (rows : Rows2) (z : ByteArray) (a b : Int) (w : World) (hv : RowsAt w v rows) (hT : Tab w) (hn : bulk rows ≤ 1048576) (hf : fitB rows z = true) (hk : kindN z = 0) (hwa : (Lit.int .i64 a).wf = true) (hwb : (Lit.int .i64 b).wf = true) :
    Calls Tryd.prog 28 #[.agg #[v], .string z, .int .i64 a, .int .i64 b] w (SaysNB (uniI rows z a b) (uniOk rows z a b) w) := by
  have hH := Held.start w 29 hv
  have HOF := Lib.hid (lowerOf_any v rows z _ hH.2.1 (hT.below ((Below.refl _ w).alloc (Nat.le_refl _) (.cells #[v] 29))) hn hf hk)
  obtain ⟨_, hok, h7, _⟩ := fit_iff hf
  obtain ⟨M, hM, hMb, _, _⟩ := pow_i64 h7
  obtain ⟨A, C, rfl, _⟩ := hv
  have H := Lib.hid hH
  have hcell := hH.1
  have HOK := Lib.hid hok
  have HM := Lib.hid hM
  have hU : uniOk rows z a b = (decide (0 ≤ a ∧ a ≤ ((setsL rows 0).length : Int) - 1) && decide (0 ≤ b ∧ b ≤ ((setsL rows 0).length : Int) - 1)) := by unfold uniOk; rw [hf, Bool.true_and, hk]
  have hV : uniOk rows z a b = true → uniI rows z a b = idxK rows 0 (orAt (setsL rows 0) a.toNat b.toNat) := fun h => by unfold uniI; rw [if_pos h, hk]
  have hsl := setsL_len h7 0
  have HU := Lib.hid hU
  have HV := Lib.hid hV
  have HAB := Lib.hid (fun W (n : Nat) t (ht : t = (decide (0 ≤ a ∧ a ≤ (n : Int) - 1) && decide (0 ≤ b ∧ b ≤ (n : Int) - 1))) q (h : IntsAt W (.slice (some ⟨q, 0, none⟩) 2 2) [a, b]) => allBelow_any (.slice (some ⟨q, 0, none⟩) 2 2) [a, b] n W t (two_below ht) h)
  have HTW := Lib.hid (fun W : World => two_ints W hwa hwb)
  have hup := Tryd.underlying55
  have hip := sizePD
  clear hH hT hn hf hk hok hM hU hV hwa hwb
  go_enter Tryd.func28, Tryd.ntmps28
  go_upto_region 2 with (first | (go_at_call 40; refine HOF.out.mono ?_; clear HOF; rintro e w2 ⟨u, kb, sb, rfl, hpw, hb2⟩; have H2 := Lib.hid (H.out.below hb2); have hnew := heap_alloc_new w2 (.cells pdZero 55); obtain ⟨lb, ub, A2, B2, C2, D2, hpm⟩ := hpw.pm; have HPM := Lib.hid hpm; obtain ⟨ua, uC, rfl⟩ := hpw.form; have HPW := Lib.hid hpw; clear hb2 hpw hpm) | (refine wpList_store_row rfl 55 (.tmp 10) (.tmp 16) rfl w2.heap.size (pwCells rows.length (.slice ua (setsL rows 0).length uC) 81 82 kb sb) rfl rfl 55 pdZero hnew hip rfl (pw_one rfl rfl rfl) ?_))
  obtain ⟨hblk, hb3⟩ := pw_new w2 (pwCells rows.length (.slice ua (setsL rows 0).length uC) 81 82 kb sb)
  have HB3 := Lib.hid hb3
  have H3 := Lib.hid (H2.out.below hb3)
  clear hnew hb3
  generalize ((w2.alloc (.cells pdZero 55)).setRow w2.heap.size (pwCells rows.length (.slice ua (setsL rows 0).length uC) 81 82 kb sb)) = w3 at hblk HB3 H3 ⊢
  have HW := Lib.hid (show ∃ w', w' = w2 from ⟨_, rfl⟩)
  obtain ⟨q, hq⟩ : ∃ q, q = w2.heap.size := ⟨_, rfl⟩
  rw [← hq] at hblk ⊢
  clear hq HW
  have HBL := Lib.hid (fun W (hb : Below w3.heap.size w3 W) => (hb.block q (Array.getElem?_eq_some_iff.1 hblk).1).trans hblk)
  obtain ⟨c0, c1, c2, c3⟩ := pw_cells hblk
  obtain ⟨t, ht⟩ : ∃ t, t = uniOk rows z a b := ⟨_, rfl⟩
  have HTT := Lib.hid ht
  rw [HU.out] at ht
  have HAL := Lib.hid (fun W q' h => HAB.out W _ t ht q' h)
  have c0a := cell_alloc_any c0
  have c1a := cell_alloc_any c1
  have c2a := cell_alloc_any c2
  have c3a := cell_alloc_any c3
  have HTI := Lib.hid (HTW.out w3)
  have hba := (Below.refl w3.heap.size w3).alloc (Nat.le_refl _) (.cells #[.int .i64 a, .int .i64 b] 3)
  have HBA := Lib.hid hba
  have HHA := Lib.hid (H3.out.below hba)
  clear hba hblk
  cases t with
  | false =>
    have HE := Lib.hid HTT.out.symm
    have HI := Lib.hid (uniI_no HTT.out.symm)
    clear ht
    go_wp2_with (first | (go_at_call 53; refine (powSize_any _ _ _ _ _ _ _).mono ?_; rintro e w4 ⟨rfl, hb4⟩; have H4 := Lib.hid (HHA.out.below hb4); have HI4 := Lib.hid (HTI.out.below hb4); clear hb4) | (go_at_call 52; refine (HAL.out _ _ HI4.out).mono ?_; clear HAL; rintro e w5 ⟨rfl, hb5⟩; have H5 := Lib.hid (H4.out.below hb5); clear hb5))
    go_ret2
    exact ⟨by rw [HE.out, HI.out]; rfl, H5.out.2.2.1⟩
  | true =>
    have HE := Lib.hid HTT.out.symm
    have HI := Lib.hid (HV.out HTT.out.symm)
    have ht2 := ht.symm
    rw [Bool.and_eq_true, decide_eq_true_iff, decide_eq_true_iff] at ht2
    obtain ⟨p, rfl⟩ : ∃ p : Nat, a = (p : Int) := ⟨a.toNat, by omega⟩
    obtain ⟨p', rfl⟩ : ∃ p' : Nat, b = (p' : Int) := ⟨b.toNat, by omega⟩
    rw [Int.toNat_natCast, Int.toNat_natCast] at HI
    have hpl : p < (setsL rows 0).length := by omega
    have hql : p' < (setsL rows 0).length := by omega
    obtain ⟨sp, hsp, _, hsp2⟩ := sets_at hpl
    obtain ⟨sq, hsq, _, hsq2⟩ := sets_at hql
    have HOR := Lib.hid (show orAt (setsL rows 0) p p' = sp ||| sq by unfold orAt; rw [Go.Lib.getD_lt _ _ hpl, Go.Lib.getD_lt _ _ hql, hsp, hsq]; rfl)
    rw [← HM.out] at hsp2 hsq2
    have hsp7 : sp < 2 ^ 7 := by omega
    have hsq7 : sq < 2 ^ 7 := by omega
    have hor := bits_or (a := sp) (b := sq) (small_lt hsp7 (by decide)) (small_lt hsq7 (by decide))
    have HORL := Lib.hid (show sp ||| sq < 2 ^ 60 from Nat.lt_of_lt_of_le (Nat.or_lt_two_pow hsp7 hsq7) (Nat.pow_le_pow_right (by decide) (by decide)))
    rw [HOR.out] at HI
    obtain ⟨so, hso⟩ : ∃ so, so = sp ||| sq := ⟨_, rfl⟩
    rw [← hso] at hor HI HORL
    have HSP := Lib.hid hsp
    have HSQ := Lib.hid hsq
    clear ht ht2 hsp2 hsq2 hso hsp hsq hsp7 hsq7
    go_upto_region 4 with (first | (go_at_call 53; refine (powSize_any _ _ _ _ _ _ _).mono ?_; rintro e w4 ⟨rfl, hb4⟩; have H4 := Lib.hid (HHA.out.below hb4); have HI4 := Lib.hid (HTI.out.below hb4); have HB4 := Lib.hid (HBA.out.trans (hb4.mono HBA.out.size)); clear hb4) | (go_at_call 52; refine (HAL.out _ _ HI4.out).mono ?_; clear HAL; rintro e w5 ⟨rfl, hb5⟩; have H5 := Lib.hid (H4.out.below hb5); have HB5 := Lib.hid (HB4.out.trans (hb5.mono HB4.out.size)); clear hb5))
    have HB25 := Lib.hid (HB3.out.trans (HB5.out.mono HB3.out.size))
    clear c0 c1 c2 c3 c0a c1a c2a c3a
    obtain ⟨c0, c1, c2, c3⟩ := pw_cells (HBL.out w5 HB5.out)
    have hints := (HPW.out.own.at).below HB25.out
    have HIN := Lib.hid hints
    obtain ⟨_, _, e0, _, _, _, hy⟩ := hints
    cases e0
    obtain ⟨b1, o1, rfl, hc1⟩ := hy p hpl
    obtain ⟨b2, o2, e1, hc2⟩ := hy p' hql
    cases e1
    rw [HSP.out] at hc1
    rw [HSQ.out] at hc2
    clear hy
    have hq0 := fun d os => cell_regrown c0 d os
    have hq1 := fun d os => cell_regrown c1 d os
    have hq2 := fun d os => cell_regrown c2 d os
    have hq3 := fun d os => cell_regrown c3 d os
    have hq4 := fun d os => cell_regrown hc1 d os
    have hq5 := fun d os => cell_regrown hc2 d os
    have hxS := fun d os => Calls.regrown_of (w := w5) (d := d) (os := os) (lowerIndex_any rows so (some ⟨b1, o1, none⟩) uC kb sb lb ub A2 B2 C2 D2 _ HOK.out h7 HORL.out (HIN.out.below (below_regrown w5 d os)) (HPM.out _ (HB25.out.trans ((below_regrown w5 d os).mono HB25.out.size))))
    refine wp_region_quiet_below (by kernel_rfl) (by kernel_rfl) ?_
    repeat (go_big_quiet_step ((go_at_call 51; exact hxS _ _)))
    refine wpQuiet_nil ?_
    intro w6 hw'
    have HB6 : Hid (Below w.heap.size w w6) := Lib.hid (by
      obtain ⟨⟨dq, osq⟩, hw''⟩ := hw'
      rw [hw'']
      exact H5.out.2.2.1.trans ((below_regrown w5 dq osq).mono H5.out.2.2.1.size))
    clear hxS hq0 hq1 hq2 hq3 hq4 hq5 hw' c0 c1 c2 c3 hc1 hc2
    go_wp2
    go_ret2
    exact ⟨by rw [HE.out, HI.out]; rfl, HB6.out⟩

set_option maxRecDepth 100000 in
set_option maxHeartbeats 4000000 in
theorem upperIndex_any (rows : Rows2) (s : Nat) (a : Option Addr) (C kb sb lb ub : Nat) (A2 B2 : Option Addr) (C2 D2 : Nat) (w : World) (hok : Ok rows) (h7 : rows.length ≤ 7) (hs : s < 2 ^ 60) (hi : IntsAt w (.slice a (setsL rows 1).length C) (setsL rows 1))
    (hp : PM 83 sb lb ub rows.length (gridF (backRows rows)) (gridF rows) A2 B2 C2 D2 w) :
    Calls Tryd.prog 51 #[pwV rows.length (.slice a (setsL rows 1).length C) 84 85 kb sb, .int .i64 (s : Int)] w (SaysI (idxK rows 1 s) w) := by
  have hb0 := (Below.refl w.heap.size w).alloc (Nat.le_refl _) (.cells (pdCells rows.length (.slice a (setsL rows 1).length C) (.func (.func 84) #[] #[.pointer (some ⟨kb, 0, none⟩), .pointer (some ⟨sb, 0, none⟩)]) (.func (.func 85) #[] #[.pointer (some ⟨kb, 0, none⟩), .pointer (some ⟨sb, 0, none⟩)])) 55)
  obtain ⟨c0, c1, c2, c3⟩ := fresh4 w rows.length (.slice a (setsL rows 1).length C) (.func (.func 84) #[] #[.pointer (some ⟨kb, 0, none⟩), .pointer (some ⟨sb, 0, none⟩)]) (.func (.func 85) #[] #[.pointer (some ⟨kb, 0, none⟩), .pointer (some ⟨sb, 0, none⟩)])
  have HCL := Lib.hid (fun W (hb : Below w.heap.size w W) => (show Calls Tryd.prog 84 #[.int .i64 (s : Int), .pointer (some ⟨kb, 0, none⟩), .pointer (some ⟨sb, 0, none⟩)] W (SaysI ((closL rows 1 s : Nat) : Int) W) from upperClosed_any kb sb lb ub rows.length s (gridF (backRows rows)) (gridF rows) A2 B2 C2 D2 W (hp.step hb) (by omega) (fun k _ => pow7_lt h7 (hok.backSmall k)) (fun k _ => pow7_lt h7 (hok.small k)) hs))
  have HIX := Lib.hid (fun W (hb : Below w.heap.size w W) => (show Calls Tryd.prog 65 #[.slice a (setsL rows 1).length C, .int .i64 ((closL rows 1 s : Nat) : Int)] W (SaysI (idxK rows 1 s) W) from setIndex_below _ (setsL rows 1) _ W (hi.below hb) (sets_asc rows 1) (by have := setsL_len h7 1; omega)))
  generalize closL rows 1 s = c at HCL HIX
  generalize idxK rows 1 s = r at HIX ⊢
  generalize (setsL rows 1).length = m at c0 c1 c2 c3 hb0 HIX ⊢
  obtain ⟨w1, hw1⟩ : ∃ w1, w1 = w.alloc (.cells (pdCells rows.length (.slice a m C) (.func (.func 84) #[] #[.pointer (some ⟨kb, 0, none⟩), .pointer (some ⟨sb, 0, none⟩)]) (.func (.func 85) #[] #[.pointer (some ⟨kb, 0, none⟩), .pointer (some ⟨sb, 0, none⟩)])) 55) := ⟨_, rfl⟩
  rw [← hw1] at hb0 c0 c1 c2 c3
  have HB0 := Lib.hid hb0
  clear hb0 hi hp hok
  go_enter Tryd.func51, Tryd.ntmps51
  go_upto_region 1 with fail
  rw [← hw1]
  clear hw1
  have hq1 := fun d os => cell_regrown c1 d os
  have hq2 := fun d os => cell_regrown c2 d os
  have hxS := fun d os => Calls.regrown_of (w := w1) (d := d) (os := os) (HCL.out _ (HB0.out.trans ((below_regrown w1 d os).mono HB0.out.size)))
  have hxT := fun d os => Calls.regrown_of (w := w1) (d := d) (os := os) (HIX.out _ (HB0.out.trans ((below_regrown w1 d os).mono HB0.out.size)))
  refine wp_region_quiet_below (by kernel_rfl) (by kernel_rfl) ?_
  repeat (go_big_quiet_step (first | (go_at_call 84; exact hxS _ _) | (go_at_call 65; exact hxT _ _)))
  refine wpQuiet_nil ?_
  intro w5 hw'
  have HB5 : Hid (Below w.heap.size w w5) := Lib.hid (by
    obtain ⟨⟨dq, osq⟩, hw''⟩ := hw'
    rw [hw'']
    exact HB0.out.trans ((below_regrown w1 dq osq).mono HB0.out.size))
  clear hxS hxT hq1 hq2 hw' c0 c1 c2 c3
  go_wp2
  go_ret
  exact ⟨rfl, HB5.out⟩

set_option maxRecDepth 100000 in
set_option maxHeartbeats 4000000 in
theorem upperUnion (v : Value) (rows : Rows2) (z : ByteArray) (a b : Int) (w : World) (hv : RowsAt w v rows) (hT : Tab w) (hn : bulk rows ≤ 1048576) (hf : fitB rows z = true) (hk : kindN z = 1) (hwa : (Lit.int .i64 a).wf = true) (hwb : (Lit.int .i64 b).wf = true) :
    Calls Tryd.prog 28 #[.agg #[v], .string z, .int .i64 a, .int .i64 b] w (SaysNB (uniI rows z a b) (uniOk rows z a b) w) := by
  have hH := Held.start w 29 hv
  have HOF := Lib.hid (upperOf_any v rows z _ hH.2.1 (hT.below ((Below.refl _ w).alloc (Nat.le_refl _) (.cells #[v] 29))) hn hf hk)
  obtain ⟨_, hok, h7, _⟩ := fit_iff hf
  obtain ⟨M, hM, hMb, _, _⟩ := pow_i64 h7
  obtain ⟨A, C, rfl, _⟩ := hv
  have H := Lib.hid hH
  have hcell := hH.1
  have HOK := Lib.hid hok
  have HM := Lib.hid hM
  have hU : uniOk rows z a b = (decide (0 ≤ a ∧ a ≤ ((setsL rows 1).length : Int) - 1) && decide (0 ≤ b ∧ b ≤ ((setsL rows 1).length : Int) - 1)) := by unfold uniOk; rw [hf, Bool.true_and, hk]
  have hV : uniOk rows z a b = true → uniI rows z a b = idxK rows 1 (orAt (setsL rows 1) a.toNat b.toNat) := fun h => by unfold uniI; rw [if_pos h, hk]
  have hsl := setsL_len h7 1
  have HU := Lib.hid hU
  have HV := Lib.hid hV
  have HAB := Lib.hid (fun W (n : Nat) t (ht : t = (decide (0 ≤ a ∧ a ≤ (n : Int) - 1) && decide (0 ≤ b ∧ b ≤ (n : Int) - 1))) q (h : IntsAt W (.slice (some ⟨q, 0, none⟩) 2 2) [a, b]) => allBelow_any (.slice (some ⟨q, 0, none⟩) 2 2) [a, b] n W t (two_below ht) h)
  have HTW := Lib.hid (fun W : World => two_ints W hwa hwb)
  have hup := Tryd.underlying55
  have hip := sizePD
  clear hH hT hn hf hk hok hM hU hV hwa hwb
  go_enter Tryd.func28, Tryd.ntmps28
  go_upto_region 2 with (first | (go_at_call 40; refine HOF.out.mono ?_; clear HOF; rintro e w2 ⟨u, kb, sb, rfl, hpw, hb2⟩; have H2 := Lib.hid (H.out.below hb2); have hnew := heap_alloc_new w2 (.cells pdZero 55); obtain ⟨lb, ub, A2, B2, C2, D2, hpm⟩ := hpw.pm; have HPM := Lib.hid hpm; obtain ⟨ua, uC, rfl⟩ := hpw.form; have HPW := Lib.hid hpw; clear hb2 hpw hpm) | (refine wpList_store_row rfl 55 (.tmp 10) (.tmp 16) rfl w2.heap.size (pwCells rows.length (.slice ua (setsL rows 1).length uC) 84 85 kb sb) rfl rfl 55 pdZero hnew hip rfl (pw_one rfl rfl rfl) ?_))
  obtain ⟨hblk, hb3⟩ := pw_new w2 (pwCells rows.length (.slice ua (setsL rows 1).length uC) 84 85 kb sb)
  have HB3 := Lib.hid hb3
  have H3 := Lib.hid (H2.out.below hb3)
  clear hnew hb3
  generalize ((w2.alloc (.cells pdZero 55)).setRow w2.heap.size (pwCells rows.length (.slice ua (setsL rows 1).length uC) 84 85 kb sb)) = w3 at hblk HB3 H3 ⊢
  have HW := Lib.hid (show ∃ w', w' = w2 from ⟨_, rfl⟩)
  obtain ⟨q, hq⟩ : ∃ q, q = w2.heap.size := ⟨_, rfl⟩
  rw [← hq] at hblk ⊢
  clear hq HW
  have HBL := Lib.hid (fun W (hb : Below w3.heap.size w3 W) => (hb.block q (Array.getElem?_eq_some_iff.1 hblk).1).trans hblk)
  obtain ⟨c0, c1, c2, c3⟩ := pw_cells hblk
  obtain ⟨t, ht⟩ : ∃ t, t = uniOk rows z a b := ⟨_, rfl⟩
  have HTT := Lib.hid ht
  rw [HU.out] at ht
  have HAL := Lib.hid (fun W q' h => HAB.out W _ t ht q' h)
  have c0a := cell_alloc_any c0
  have c1a := cell_alloc_any c1
  have c2a := cell_alloc_any c2
  have c3a := cell_alloc_any c3
  have HTI := Lib.hid (HTW.out w3)
  have hba := (Below.refl w3.heap.size w3).alloc (Nat.le_refl _) (.cells #[.int .i64 a, .int .i64 b] 3)
  have HBA := Lib.hid hba
  have HHA := Lib.hid (H3.out.below hba)
  clear hba hblk
  cases t with
  | false =>
    have HE := Lib.hid HTT.out.symm
    have HI := Lib.hid (uniI_no HTT.out.symm)
    clear ht
    go_wp2_with (first | (go_at_call 53; refine (powSize_any _ _ _ _ _ _ _).mono ?_; rintro e w4 ⟨rfl, hb4⟩; have H4 := Lib.hid (HHA.out.below hb4); have HI4 := Lib.hid (HTI.out.below hb4); clear hb4) | (go_at_call 52; refine (HAL.out _ _ HI4.out).mono ?_; clear HAL; rintro e w5 ⟨rfl, hb5⟩; have H5 := Lib.hid (H4.out.below hb5); clear hb5))
    go_ret2
    exact ⟨by rw [HE.out, HI.out]; rfl, H5.out.2.2.1⟩
  | true =>
    have HE := Lib.hid HTT.out.symm
    have HI := Lib.hid (HV.out HTT.out.symm)
    have ht2 := ht.symm
    rw [Bool.and_eq_true, decide_eq_true_iff, decide_eq_true_iff] at ht2
    obtain ⟨p, rfl⟩ : ∃ p : Nat, a = (p : Int) := ⟨a.toNat, by omega⟩
    obtain ⟨p', rfl⟩ : ∃ p' : Nat, b = (p' : Int) := ⟨b.toNat, by omega⟩
    rw [Int.toNat_natCast, Int.toNat_natCast] at HI
    have hpl : p < (setsL rows 1).length := by omega
    have hql : p' < (setsL rows 1).length := by omega
    obtain ⟨sp, hsp, _, hsp2⟩ := sets_at hpl
    obtain ⟨sq, hsq, _, hsq2⟩ := sets_at hql
    have HOR := Lib.hid (show orAt (setsL rows 1) p p' = sp ||| sq by unfold orAt; rw [Go.Lib.getD_lt _ _ hpl, Go.Lib.getD_lt _ _ hql, hsp, hsq]; rfl)
    rw [← HM.out] at hsp2 hsq2
    have hsp7 : sp < 2 ^ 7 := by omega
    have hsq7 : sq < 2 ^ 7 := by omega
    have hor := bits_or (a := sp) (b := sq) (small_lt hsp7 (by decide)) (small_lt hsq7 (by decide))
    have HORL := Lib.hid (show sp ||| sq < 2 ^ 60 from Nat.lt_of_lt_of_le (Nat.or_lt_two_pow hsp7 hsq7) (Nat.pow_le_pow_right (by decide) (by decide)))
    rw [HOR.out] at HI
    obtain ⟨so, hso⟩ : ∃ so, so = sp ||| sq := ⟨_, rfl⟩
    rw [← hso] at hor HI HORL
    have HSP := Lib.hid hsp
    have HSQ := Lib.hid hsq
    clear ht ht2 hsp2 hsq2 hso hsp hsq hsp7 hsq7
    go_upto_region 4 with (first | (go_at_call 53; refine (powSize_any _ _ _ _ _ _ _).mono ?_; rintro e w4 ⟨rfl, hb4⟩; have H4 := Lib.hid (HHA.out.below hb4); have HI4 := Lib.hid (HTI.out.below hb4); have HB4 := Lib.hid (HBA.out.trans (hb4.mono HBA.out.size)); clear hb4) | (go_at_call 52; refine (HAL.out _ _ HI4.out).mono ?_; clear HAL; rintro e w5 ⟨rfl, hb5⟩; have H5 := Lib.hid (H4.out.below hb5); have HB5 := Lib.hid (HB4.out.trans (hb5.mono HB4.out.size)); clear hb5))
    have HB25 := Lib.hid (HB3.out.trans (HB5.out.mono HB3.out.size))
    clear c0 c1 c2 c3 c0a c1a c2a c3a
    obtain ⟨c0, c1, c2, c3⟩ := pw_cells (HBL.out w5 HB5.out)
    have hints := (HPW.out.own.at).below HB25.out
    have HIN := Lib.hid hints
    obtain ⟨_, _, e0, _, _, _, hy⟩ := hints
    cases e0
    obtain ⟨b1, o1, rfl, hc1⟩ := hy p hpl
    obtain ⟨b2, o2, e1, hc2⟩ := hy p' hql
    cases e1
    rw [HSP.out] at hc1
    rw [HSQ.out] at hc2
    clear hy
    have hq0 := fun d os => cell_regrown c0 d os
    have hq1 := fun d os => cell_regrown c1 d os
    have hq2 := fun d os => cell_regrown c2 d os
    have hq3 := fun d os => cell_regrown c3 d os
    have hq4 := fun d os => cell_regrown hc1 d os
    have hq5 := fun d os => cell_regrown hc2 d os
    have hxS := fun d os => Calls.regrown_of (w := w5) (d := d) (os := os) (upperIndex_any rows so (some ⟨b1, o1, none⟩) uC kb sb lb ub A2 B2 C2 D2 _ HOK.out h7 HORL.out (HIN.out.below (below_regrown w5 d os)) (HPM.out _ (HB25.out.trans ((below_regrown w5 d os).mono HB25.out.size))))
    refine wp_region_quiet_below (by kernel_rfl) (by kernel_rfl) ?_
    repeat (go_big_quiet_step ((go_at_call 51; exact hxS _ _)))
    refine wpQuiet_nil ?_
    intro w6 hw'
    have HB6 : Hid (Below w.heap.size w w6) := Lib.hid (by
      obtain ⟨⟨dq, osq⟩, hw''⟩ := hw'
      rw [hw'']
      exact H5.out.2.2.1.trans ((below_regrown w5 dq osq).mono H5.out.2.2.1.size))
    clear hxS hq0 hq1 hq2 hq3 hq4 hq5 hw' c0 c1 c2 c3 hc1 hc2
    go_wp2
    go_ret2
    exact ⟨by rw [HE.out, HI.out]; rfl, HB6.out⟩

set_option maxRecDepth 100000 in
set_option maxHeartbeats 4000000 in
theorem convexIndex_any (rows : Rows2) (s : Nat) (a : Option Addr) (C kb sb lb ub : Nat) (A2 B2 : Option Addr) (C2 D2 : Nat) (w : World) (hok : Ok rows) (h7 : rows.length ≤ 7) (hs : s < 2 ^ 60) (hi : IntsAt w (.slice a (setsL rows 2).length C) (setsL rows 2))
    (hp : PM 86 sb lb ub rows.length (gridF (backRows rows)) (gridF rows) A2 B2 C2 D2 w) :
    Calls Tryd.prog 51 #[pwV rows.length (.slice a (setsL rows 2).length C) 87 88 kb sb, .int .i64 (s : Int)] w (SaysI (idxK rows 2 s) w) := by
  have hb0 := (Below.refl w.heap.size w).alloc (Nat.le_refl _) (.cells (pdCells rows.length (.slice a (setsL rows 2).length C) (.func (.func 87) #[] #[.pointer (some ⟨kb, 0, none⟩), .pointer (some ⟨sb, 0, none⟩)]) (.func (.func 88) #[] #[.pointer (some ⟨kb, 0, none⟩), .pointer (some ⟨sb, 0, none⟩)])) 55)
  obtain ⟨c0, c1, c2, c3⟩ := fresh4 w rows.length (.slice a (setsL rows 2).length C) (.func (.func 87) #[] #[.pointer (some ⟨kb, 0, none⟩), .pointer (some ⟨sb, 0, none⟩)]) (.func (.func 88) #[] #[.pointer (some ⟨kb, 0, none⟩), .pointer (some ⟨sb, 0, none⟩)])
  have HCL := Lib.hid (fun W (hb : Below w.heap.size w W) => (show Calls Tryd.prog 87 #[.int .i64 (s : Int), .pointer (some ⟨kb, 0, none⟩), .pointer (some ⟨sb, 0, none⟩)] W (SaysI ((closL rows 2 s : Nat) : Int) W) from convexClosed_any kb sb lb ub rows.length s (gridF (backRows rows)) (gridF rows) A2 B2 C2 D2 W (hp.step hb) (by omega) (fun k _ => pow7_lt h7 (hok.backSmall k)) (fun k _ => pow7_lt h7 (hok.small k)) hs))
  have HIX := Lib.hid (fun W (hb : Below w.heap.size w W) => (show Calls Tryd.prog 65 #[.slice a (setsL rows 2).length C, .int .i64 ((closL rows 2 s : Nat) : Int)] W (SaysI (idxK rows 2 s) W) from setIndex_below _ (setsL rows 2) _ W (hi.below hb) (sets_asc rows 2) (by have := setsL_len h7 2; omega)))
  generalize closL rows 2 s = c at HCL HIX
  generalize idxK rows 2 s = r at HIX ⊢
  generalize (setsL rows 2).length = m at c0 c1 c2 c3 hb0 HIX ⊢
  obtain ⟨w1, hw1⟩ : ∃ w1, w1 = w.alloc (.cells (pdCells rows.length (.slice a m C) (.func (.func 87) #[] #[.pointer (some ⟨kb, 0, none⟩), .pointer (some ⟨sb, 0, none⟩)]) (.func (.func 88) #[] #[.pointer (some ⟨kb, 0, none⟩), .pointer (some ⟨sb, 0, none⟩)])) 55) := ⟨_, rfl⟩
  rw [← hw1] at hb0 c0 c1 c2 c3
  have HB0 := Lib.hid hb0
  clear hb0 hi hp hok
  go_enter Tryd.func51, Tryd.ntmps51
  go_upto_region 1 with fail
  rw [← hw1]
  clear hw1
  have hq1 := fun d os => cell_regrown c1 d os
  have hq2 := fun d os => cell_regrown c2 d os
  have hxS := fun d os => Calls.regrown_of (w := w1) (d := d) (os := os) (HCL.out _ (HB0.out.trans ((below_regrown w1 d os).mono HB0.out.size)))
  have hxT := fun d os => Calls.regrown_of (w := w1) (d := d) (os := os) (HIX.out _ (HB0.out.trans ((below_regrown w1 d os).mono HB0.out.size)))
  refine wp_region_quiet_below (by kernel_rfl) (by kernel_rfl) ?_
  repeat (go_big_quiet_step (first | (go_at_call 87; exact hxS _ _) | (go_at_call 65; exact hxT _ _)))
  refine wpQuiet_nil ?_
  intro w5 hw'
  have HB5 : Hid (Below w.heap.size w w5) := Lib.hid (by
    obtain ⟨⟨dq, osq⟩, hw''⟩ := hw'
    rw [hw'']
    exact HB0.out.trans ((below_regrown w1 dq osq).mono HB0.out.size))
  clear hxS hxT hq1 hq2 hw' c0 c1 c2 c3
  go_wp2
  go_ret
  exact ⟨rfl, HB5.out⟩

set_option maxRecDepth 100000 in
set_option maxHeartbeats 4000000 in
theorem convexUnion (v : Value) (rows : Rows2) (z : ByteArray) (a b : Int) (w : World) (hv : RowsAt w v rows) (hT : Tab w) (hn : bulk rows ≤ 1048576) (hf : fitB rows z = true) (hk : kindN z = 2) (hwa : (Lit.int .i64 a).wf = true) (hwb : (Lit.int .i64 b).wf = true) :
    Calls Tryd.prog 28 #[.agg #[v], .string z, .int .i64 a, .int .i64 b] w (SaysNB (uniI rows z a b) (uniOk rows z a b) w) := by
  have hH := Held.start w 29 hv
  have HOF := Lib.hid (convexOf_any v rows z _ hH.2.1 (hT.below ((Below.refl _ w).alloc (Nat.le_refl _) (.cells #[v] 29))) hn hf hk)
  obtain ⟨_, hok, h7, _⟩ := fit_iff hf
  obtain ⟨M, hM, hMb, _, _⟩ := pow_i64 h7
  obtain ⟨A, C, rfl, _⟩ := hv
  have H := Lib.hid hH
  have hcell := hH.1
  have HOK := Lib.hid hok
  have HM := Lib.hid hM
  have hU : uniOk rows z a b = (decide (0 ≤ a ∧ a ≤ ((setsL rows 2).length : Int) - 1) && decide (0 ≤ b ∧ b ≤ ((setsL rows 2).length : Int) - 1)) := by unfold uniOk; rw [hf, Bool.true_and, hk]
  have hV : uniOk rows z a b = true → uniI rows z a b = idxK rows 2 (orAt (setsL rows 2) a.toNat b.toNat) := fun h => by unfold uniI; rw [if_pos h, hk]
  have hsl := setsL_len h7 2
  have HU := Lib.hid hU
  have HV := Lib.hid hV
  have HAB := Lib.hid (fun W (n : Nat) t (ht : t = (decide (0 ≤ a ∧ a ≤ (n : Int) - 1) && decide (0 ≤ b ∧ b ≤ (n : Int) - 1))) q (h : IntsAt W (.slice (some ⟨q, 0, none⟩) 2 2) [a, b]) => allBelow_any (.slice (some ⟨q, 0, none⟩) 2 2) [a, b] n W t (two_below ht) h)
  have HTW := Lib.hid (fun W : World => two_ints W hwa hwb)
  have hup := Tryd.underlying55
  have hip := sizePD
  clear hH hT hn hf hk hok hM hU hV hwa hwb
  go_enter Tryd.func28, Tryd.ntmps28
  go_upto_region 2 with (first | (go_at_call 40; refine HOF.out.mono ?_; clear HOF; rintro e w2 ⟨u, kb, sb, rfl, hpw, hb2⟩; have H2 := Lib.hid (H.out.below hb2); have hnew := heap_alloc_new w2 (.cells pdZero 55); obtain ⟨lb, ub, A2, B2, C2, D2, hpm⟩ := hpw.pm; have HPM := Lib.hid hpm; obtain ⟨ua, uC, rfl⟩ := hpw.form; have HPW := Lib.hid hpw; clear hb2 hpw hpm) | (refine wpList_store_row rfl 55 (.tmp 10) (.tmp 16) rfl w2.heap.size (pwCells rows.length (.slice ua (setsL rows 2).length uC) 87 88 kb sb) rfl rfl 55 pdZero hnew hip rfl (pw_one rfl rfl rfl) ?_))
  obtain ⟨hblk, hb3⟩ := pw_new w2 (pwCells rows.length (.slice ua (setsL rows 2).length uC) 87 88 kb sb)
  have HB3 := Lib.hid hb3
  have H3 := Lib.hid (H2.out.below hb3)
  clear hnew hb3
  generalize ((w2.alloc (.cells pdZero 55)).setRow w2.heap.size (pwCells rows.length (.slice ua (setsL rows 2).length uC) 87 88 kb sb)) = w3 at hblk HB3 H3 ⊢
  have HW := Lib.hid (show ∃ w', w' = w2 from ⟨_, rfl⟩)
  obtain ⟨q, hq⟩ : ∃ q, q = w2.heap.size := ⟨_, rfl⟩
  rw [← hq] at hblk ⊢
  clear hq HW
  have HBL := Lib.hid (fun W (hb : Below w3.heap.size w3 W) => (hb.block q (Array.getElem?_eq_some_iff.1 hblk).1).trans hblk)
  obtain ⟨c0, c1, c2, c3⟩ := pw_cells hblk
  obtain ⟨t, ht⟩ : ∃ t, t = uniOk rows z a b := ⟨_, rfl⟩
  have HTT := Lib.hid ht
  rw [HU.out] at ht
  have HAL := Lib.hid (fun W q' h => HAB.out W _ t ht q' h)
  have c0a := cell_alloc_any c0
  have c1a := cell_alloc_any c1
  have c2a := cell_alloc_any c2
  have c3a := cell_alloc_any c3
  have HTI := Lib.hid (HTW.out w3)
  have hba := (Below.refl w3.heap.size w3).alloc (Nat.le_refl _) (.cells #[.int .i64 a, .int .i64 b] 3)
  have HBA := Lib.hid hba
  have HHA := Lib.hid (H3.out.below hba)
  clear hba hblk
  cases t with
  | false =>
    have HE := Lib.hid HTT.out.symm
    have HI := Lib.hid (uniI_no HTT.out.symm)
    clear ht
    go_wp2_with (first | (go_at_call 53; refine (powSize_any _ _ _ _ _ _ _).mono ?_; rintro e w4 ⟨rfl, hb4⟩; have H4 := Lib.hid (HHA.out.below hb4); have HI4 := Lib.hid (HTI.out.below hb4); clear hb4) | (go_at_call 52; refine (HAL.out _ _ HI4.out).mono ?_; clear HAL; rintro e w5 ⟨rfl, hb5⟩; have H5 := Lib.hid (H4.out.below hb5); clear hb5))
    go_ret2
    exact ⟨by rw [HE.out, HI.out]; rfl, H5.out.2.2.1⟩
  | true =>
    have HE := Lib.hid HTT.out.symm
    have HI := Lib.hid (HV.out HTT.out.symm)
    have ht2 := ht.symm
    rw [Bool.and_eq_true, decide_eq_true_iff, decide_eq_true_iff] at ht2
    obtain ⟨p, rfl⟩ : ∃ p : Nat, a = (p : Int) := ⟨a.toNat, by omega⟩
    obtain ⟨p', rfl⟩ : ∃ p' : Nat, b = (p' : Int) := ⟨b.toNat, by omega⟩
    rw [Int.toNat_natCast, Int.toNat_natCast] at HI
    have hpl : p < (setsL rows 2).length := by omega
    have hql : p' < (setsL rows 2).length := by omega
    obtain ⟨sp, hsp, _, hsp2⟩ := sets_at hpl
    obtain ⟨sq, hsq, _, hsq2⟩ := sets_at hql
    have HOR := Lib.hid (show orAt (setsL rows 2) p p' = sp ||| sq by unfold orAt; rw [Go.Lib.getD_lt _ _ hpl, Go.Lib.getD_lt _ _ hql, hsp, hsq]; rfl)
    rw [← HM.out] at hsp2 hsq2
    have hsp7 : sp < 2 ^ 7 := by omega
    have hsq7 : sq < 2 ^ 7 := by omega
    have hor := bits_or (a := sp) (b := sq) (small_lt hsp7 (by decide)) (small_lt hsq7 (by decide))
    have HORL := Lib.hid (show sp ||| sq < 2 ^ 60 from Nat.lt_of_lt_of_le (Nat.or_lt_two_pow hsp7 hsq7) (Nat.pow_le_pow_right (by decide) (by decide)))
    rw [HOR.out] at HI
    obtain ⟨so, hso⟩ : ∃ so, so = sp ||| sq := ⟨_, rfl⟩
    rw [← hso] at hor HI HORL
    have HSP := Lib.hid hsp
    have HSQ := Lib.hid hsq
    clear ht ht2 hsp2 hsq2 hso hsp hsq hsp7 hsq7
    go_upto_region 4 with (first | (go_at_call 53; refine (powSize_any _ _ _ _ _ _ _).mono ?_; rintro e w4 ⟨rfl, hb4⟩; have H4 := Lib.hid (HHA.out.below hb4); have HI4 := Lib.hid (HTI.out.below hb4); have HB4 := Lib.hid (HBA.out.trans (hb4.mono HBA.out.size)); clear hb4) | (go_at_call 52; refine (HAL.out _ _ HI4.out).mono ?_; clear HAL; rintro e w5 ⟨rfl, hb5⟩; have H5 := Lib.hid (H4.out.below hb5); have HB5 := Lib.hid (HB4.out.trans (hb5.mono HB4.out.size)); clear hb5))
    have HB25 := Lib.hid (HB3.out.trans (HB5.out.mono HB3.out.size))
    clear c0 c1 c2 c3 c0a c1a c2a c3a
    obtain ⟨c0, c1, c2, c3⟩ := pw_cells (HBL.out w5 HB5.out)
    have hints := (HPW.out.own.at).below HB25.out
    have HIN := Lib.hid hints
    obtain ⟨_, _, e0, _, _, _, hy⟩ := hints
    cases e0
    obtain ⟨b1, o1, rfl, hc1⟩ := hy p hpl
    obtain ⟨b2, o2, e1, hc2⟩ := hy p' hql
    cases e1
    rw [HSP.out] at hc1
    rw [HSQ.out] at hc2
    clear hy
    have hq0 := fun d os => cell_regrown c0 d os
    have hq1 := fun d os => cell_regrown c1 d os
    have hq2 := fun d os => cell_regrown c2 d os
    have hq3 := fun d os => cell_regrown c3 d os
    have hq4 := fun d os => cell_regrown hc1 d os
    have hq5 := fun d os => cell_regrown hc2 d os
    have hxS := fun d os => Calls.regrown_of (w := w5) (d := d) (os := os) (convexIndex_any rows so (some ⟨b1, o1, none⟩) uC kb sb lb ub A2 B2 C2 D2 _ HOK.out h7 HORL.out (HIN.out.below (below_regrown w5 d os)) (HPM.out _ (HB25.out.trans ((below_regrown w5 d os).mono HB25.out.size))))
    refine wp_region_quiet_below (by kernel_rfl) (by kernel_rfl) ?_
    repeat (go_big_quiet_step ((go_at_call 51; exact hxS _ _)))
    refine wpQuiet_nil ?_
    intro w6 hw'
    have HB6 : Hid (Below w.heap.size w w6) := Lib.hid (by
      obtain ⟨⟨dq, osq⟩, hw''⟩ := hw'
      rw [hw'']
      exact H5.out.2.2.1.trans ((below_regrown w5 dq osq).mono H5.out.2.2.1.size))
    clear hxS hq0 hq1 hq2 hq3 hq4 hq5 hw' c0 c1 c2 c3 hc1 hc2
    go_wp2
    go_ret2
    exact ⟨by rw [HE.out, HI.out]; rfl, HB6.out⟩

theorem implUnion_any (v : Value) (rows : Rows2) (z : ByteArray) (a b : Int) (w : World) (hv : RowsAt w v rows) (hT : Tab w) (hn : bulk rows ≤ 1048576) (hwa : (Lit.int .i64 a).wf = true) (hwb : (Lit.int .i64 b).wf = true) :
    Calls Tryd.prog 28 #[.agg #[v], .string z, .int .i64 a, .int .i64 b] w (SaysNB (uniI rows z a b) (uniOk rows z a b) w) := by
  cases hf : fitB rows z with
  | false => exact noUnion v rows z a b w hv hT hn hf
  | true =>
    rcases kind_cases (fit_iff hf).2.2.2 with e | e | e
    · exact lowerUnion v rows z a b w hv hT hn hf e hwa hwb
    · exact upperUnion v rows z a b w hv hT hn hf e hwa hwb
    · exact convexUnion v rows z a b w hv hT hn hf e hwa hwb
end Go.Proofs.YtfgpnmdmbhfdmaaDoor

/- The program's PowerOne. -/
namespace Go.Proofs.YtfgpnmdmbhfdmaaDoor
open Go.RowKit Go.Deep Go.Shelf

theorem pw_range {W : World} {q : Nat} {a b c d : Value} (h : W.heap[q]? = some (.cells #[a, b, c, d] 55 (0, 0))) : W.rangeAt q 0 [a, b, c, d] := fun j v hv => by
  rw [Nat.zero_add, cell_of_row W q j _ _ _ h, ← hv]
  simp

set_option maxRecDepth 100000 in
set_option maxHeartbeats 4000000 in
theorem noOne (v : Value) (rows : Rows2) (z : ByteArray) (w : World) (hv : RowsAt w v rows) (hT : Tab w) (hn : bulk rows ≤ 1048576) (hf : fitB rows z = false) :
    Calls Tryd.prog 26 #[.agg #[v], .string z] w (OwnB (oneL rows z) (fitB rows z) w) := by
  have hH := Held.start w 29 hv
  have HOF := Lib.hid (powerOf_no v rows z _ hH.2.1 (hT.below ((Below.refl _ w).alloc (Nat.le_refl _) (.cells #[v] 29))) hn hf)
  have HE := Lib.hid hf
  have HI := Lib.hid (oneL_no hf)
  obtain ⟨A, C, rfl, _⟩ := hv
  have H := Lib.hid hH
  have hcell := hH.1
  clear hH hT hn hf
  go_enter Tryd.func26, Tryd.ntmps26
  go_wp2_with (go_at_call 40; refine HOF.out.mono ?_; clear HOF; rintro e w2 ⟨rfl, hb2⟩; have H2 := Lib.hid (H.out.below hb2); clear hb2)
  go_ret2
  refine ⟨.slice none 0 0, by rw [HE.out]; rfl, ?_, H2.out.2.2.1.alloc H2.out.2.2.1.size _⟩
  rw [HI.out]
  exact OwnI.nil _ _ _ _

set_option maxRecDepth 100000 in
set_option maxHeartbeats 4000000 in
theorem lowerOne (v : Value) (rows : Rows2) (z : ByteArray) (w : World) (hv : RowsAt w v rows) (hT : Tab w) (hn : bulk rows ≤ 1048576) (hf : fitB rows z = true) (hk : kindN z = 0) :
    Calls Tryd.prog 26 #[.agg #[v], .string z] w (OwnB (oneL rows z) (fitB rows z) w) := by
  have hH := Held.start w 29 hv
  have HOF := Lib.hid (lowerOf_any v rows z _ hH.2.1 (hT.below ((Below.refl _ w).alloc (Nat.le_refl _) (.cells #[v] 29))) hn hf hk)
  obtain ⟨_, hok, h7, _⟩ := fit_iff hf
  obtain ⟨A, C, rfl, _⟩ := hv
  have H := Lib.hid hH
  have hcell := hH.1
  have HOK := Lib.hid hok
  have HF := Lib.hid hf
  have HI := Lib.hid (show oneL rows z = oneN rows 0 rows.length by rw [oneL_yes hf, hk])
  have HWF := Lib.hid (fun s => one_wf h7 0 s)
  have hup := Tryd.underlying55
  have hip := sizePD
  have hmk := run_make_row' (P := Tryd.prog) 26 3 (.int .i64 0) 8 Tryd.underlying26 infoInt rfl .i64 .i64 rows.length (by omega) (by omega)
  clear hH hT hn hf hk hok
  go_enter Tryd.func26, Tryd.ntmps26
  go_upto_region 2 with (first | (go_at_call 40; refine HOF.out.mono ?_; clear HOF; rintro e w2 ⟨u, kb, sb, rfl, hpw, hb2⟩; have H2 := Lib.hid (H.out.below hb2); have hnew := heap_alloc_new w2 (.cells pdZero 55); obtain ⟨lb, ub, A2, B2, C2, D2, hpm⟩ := hpw.pm; have HPM := Lib.hid hpm; obtain ⟨ua, uC, rfl⟩ := hpw.form; have HPW := Lib.hid hpw; clear hb2 hpw hpm) | (refine wpList_store_row rfl 55 (.tmp 6) (.tmp 14) rfl w2.heap.size (pwCells rows.length (.slice ua (setsL rows 0).length uC) 81 82 kb sb) rfl rfl 55 pdZero hnew hip rfl (pw_one rfl rfl rfl) ?_))
  obtain ⟨hblk, hb3⟩ := pw_new w2 (pwCells rows.length (.slice ua (setsL rows 0).length uC) 81 82 kb sb)
  have HB3 := Lib.hid hb3
  have H3 := Lib.hid (H2.out.below hb3)
  clear hnew hb3
  generalize ((w2.alloc (.cells pdZero 55)).setRow w2.heap.size (pwCells rows.length (.slice ua (setsL rows 0).length uC) 81 82 kb sb)) = w3 at hblk HB3 H3 ⊢
  have HW := Lib.hid (show ∃ w', w' = w2 from ⟨_, rfl⟩)
  obtain ⟨q, hq⟩ : ∃ q, q = w2.heap.size := ⟨_, rfl⟩
  rw [← hq] at hblk ⊢
  clear hq HW
  have HBL := Lib.hid (fun W (hb : Below w3.heap.size w3 W) => (hb.block q (Array.getElem?_eq_some_iff.1 hblk).1).trans hblk)
  have HQ := Lib.hid (show q < w3.heap.size from (Array.getElem?_eq_some_iff.1 hblk).1)
  obtain ⟨c0, c1, c2, c3⟩ := pw_cells hblk
  clear hblk
  go_upto_region 5 with fail
  clear hmk c0 c1 c2 c3
  have HRW := Lib.hid (World.rowIs_made w3 (.int .i64 0) rows.length 3)
  have HB0 := Lib.hid ((Below.refl w3.heap.size w3).alloc (Nat.le_refl _) (.cells (madeCells #[.int .i64 0] rows.length) 3))
  generalize (w3.alloc (.cells (madeCells #[.int .i64 0] rows.length) 3)) = wm at HRW HB0 ⊢
  go_wp2
  go_loopw [9, 23] (fun _ kv wr => ∃ k : Nat, k ≤ rows.length ∧ kv = .int .i64 (k : Int) ∧ wr.rowIs w3.heap.size 3 rows.length (fun i => if i < k then .int .i64 (idxK rows 0 (2 ^ i)) else .int .i64 0) ∧ Below w3.heap.size w3 wr) (fun _ kv _ => rows.length - (intOf kv).toNat)
  case atStart => exact ⟨0, Nat.zero_le _, rfl, HRW.out.congr (fun i _ => by rw [if_neg (Nat.not_lt_zero i)]), HB0.out⟩
  case round =>
    obtain ⟨k, hk, rfl, hr, hb⟩ := hrel
    have HR := Lib.hid hr
    have HB := Lib.hid hb
    clear HRW HB0 hb
    by_cases hlt : k < rows.length
    · have hkz : (k : Int) < (rows.length : Int) := by omega
      have hc := hr.cell hlt
      have hfz := hr.frozen k
      rw [if_neg (Nat.lt_irrefl k)] at hc
      obtain ⟨M, hM⟩ : ∃ M : Nat, M = 2 ^ k := ⟨_, rfl⟩
      have hMb : M < 2 ^ 7 := by rw [hM]; exact Nat.pow_lt_pow_right (by decide) (by omega)
      have hp1 : wrap64 ((2 : Int) ^ k) = (M : Int) := by
        rw [show ((2 : Int) ^ k) = (M : Int) by rw [hM]; simp]
        exact IntWalk.wrap64_in _ (by omega)
      have hp3 : IntKind.i64.wrap ((2 : Int) ^ k) = (M : Int) := by
        rw [IntKind.wrap_i64]
        unfold wrap64 at hp1
        exact hp1
      have hi64 : k % 64 = k := Nat.mod_eq_of_lt (by omega)
      have hM60 : M < 2 ^ 60 := Nat.lt_of_lt_of_le hMb (Nat.pow_le_pow_right (by decide) (by decide))
      have HMM := Lib.hid hM
      have HBD := Lib.hid (HB.out.trans ((below_drew wr _).mono HB.out.size))
      have HIX := Lib.hid (lowerIndex_any rows M ua uC kb sb lb ub A2 B2 C2 D2 wr.drew HOK.out h7 hM60 ((HPW.out.own.at).below (HB3.out.trans (HBD.out.mono HB3.out.size))) (HPM.out _ (HB3.out.trans (HBD.out.mono HB3.out.size))))
      have HRNG := Lib.hid (fun W (hb : Below w3.heap.size w3 W) => pw_range (HBL.out W hb))
      clear hM hMb hM60 hr
      obtain ⟨cs, hcs⟩ : ∃ cs : List Value, cs = [.int .i64 ((rows.length : Nat) : Int), .slice ua (setsL rows 0).length uC, .func (.func 81) #[] #[.pointer (some ⟨kb, 0, none⟩), .pointer (some ⟨sb, 0, none⟩)], .func (.func 82) #[] #[.pointer (some ⟨kb, 0, none⟩), .pointer (some ⟨sb, 0, none⟩)]] := ⟨_, rfl⟩
      have hic : (Tryd.prog.info? 55).map (·.size) = some cs.length := by rw [hcs]; exact hip
      have HCS := Lib.hid (show Value.agg cs.toArray = pwV rows.length (.slice ua (setsL rows 0).length uC) 81 82 kb sb by rw [hcs])
      rw [← hcs] at HRNG
      clear hcs
      have HIX2 := Lib.hid (show Calls Tryd.prog 51 #[.agg cs.toArray, .int .i64 (M : Int)] wr.drew (SaysI (idxK rows 0 M) wr.drew) by rw [HCS.out]; exact HIX.out)
      generalize hrr : idxK rows 0 M = r at HIX2
      have HRR := Lib.hid hrr
      clear hrr
      go_upto_region 8 with fail
      refine wp_region_held_drew (S := fun W' : World => W'.rangeAt q 0 cs) (by kernel_rfl) (HRNG.out _ HBD.out) (fun hHeld => ?_)
      have HRQ := Lib.hid (show wr.drew.rowIs w3.heap.size 3 rows.length (fun i => if i < k then .int .i64 (idxK rows 0 (2 ^ i)) else .int .i64 0) from HR.out)
      generalize wr.drew = wq at HBD HIX2 HRQ hHeld ⊢
      refine wpAnyH_take (i := 0) (v := .slice (some ⟨w3.heap.size, 0, none⟩) rows.length rows.length) rfl (by kernel_rfl) (by kernel_rfl) (by kernel_rfl) (fun _ _ _ h => h) (Or.inl ⟨by rfl, ?_⟩) (by assumption) ?_
      · (intro W hSw; go_simp)
      try dsimp only [Act.put]
      refine wpAnyH_take (i := 1) (v := .int .i64 (k : Int)) rfl (by kernel_rfl) (by kernel_rfl) (by kernel_rfl) (fun _ _ _ h => h) (Or.inl ⟨by rfl, ?_⟩) (by assumption) ?_
      · (intro W hSw; go_simp)
      try dsimp only [Act.put]
      refine wpAnyH_take (i := 2) (v := .agg cs.toArray) rfl (by kernel_rfl) (by kernel_rfl) (by kernel_rfl) (fun _ _ _ h => h) (yieldsIf_load_mid (by rfl) 55 (.tmp 6) rfl q 0 rfl cs _ (fun W hS => hS) hup rfl hic) (by assumption) ?_
      try dsimp only [Act.put]
      refine wpAnyH_take (i := 3) (v := .int .i64 (k : Int)) rfl (by kernel_rfl) (by kernel_rfl) (by kernel_rfl) (fun _ _ _ h => h) (Or.inl ⟨by rfl, ?_⟩) (by assumption) ?_
      · (intro W hSw; go_simp)
      try dsimp only [Act.put]
      refine wpAnyH_take (i := 4) (v := .int .i64 (M : Int)) rfl (by kernel_rfl) (by kernel_rfl) (by kernel_rfl) (fun _ _ _ h => h) (Or.inl ⟨by rfl, ?_⟩) (by assumption) ?_
      · (intro W hSw; go_simp)
      try dsimp only [Act.put]
      refine wpAnyH_ready (rs := [5]) (by kernel_rfl) (by simp) ?_
      refine AllReadyH.cons rfl (fun K hK => ?_) ?_
      · go_simp
        refine HIX2.out.mono ?_
        rintro e w5 ⟨rfl, hb5⟩
        have HB5 := Lib.hid (HBD.out.trans (hb5.mono HBD.out.size))
        have HR5 := Lib.hid (HRQ.out.of_block (hb5.block _ HRQ.out.lt))
        have hc5 := HR5.out.cell hlt
        have hf5 := HR5.out.frozen k
        rw [if_neg (Nat.lt_irrefl k)] at hc5
        clear hb5
        go_wp2_with fail
        refine hK.out _ _ (HRNG.out _ HB5.out) (fun hHeld => ?_)
        clear hK K
        try dsimp only [Act.put]
        refine wpAnyH_ready (rs := [6]) (by kernel_rfl) (by simp) ?_
        refine AllReadyH.cons rfl (fun K hK => ?_) ?_
        · go_simp
          refine hK.out _ _ (HRNG.out _ HB5.out) (fun hHeld => ?_)
          clear hK K
          try dsimp only [Act.put]
          refine wpAnyH_ready (rs := [7]) (by kernel_rfl) (by simp) ?_
          refine AllReadyH.cons rfl (fun K hK => ?_) ?_
          · go_simp
            have HB6 := Lib.hid (HB5.out.setCell (p := ⟨w3.heap.size, k, none⟩) (Nat.le_refl _) (.int .i64 r))
            refine hK.out _ _ (HRNG.out _ HB6.out) (fun hHeld => ?_)
            clear hK K
            try dsimp only [Act.put]
            refine wpAnyH_done (by kernel_rfl) ?_ _
            go_wp2_with fail
            go_roundw
            case rel =>
              refine ⟨k + 1, by omega, by go_num, (HR5.out.set k (.int .i64 r)).congr (fun i hi => ?_), HB6.out⟩
              by_cases e : i = k
              · subst e; rw [if_pos (Nat.lt_succ_self i), ← HMM.out, HRR.out]; simp
              · by_cases e2 : i < k
                · simp [e, e2, show i < k + 1 by omega]
                · simp [e, e2, show ¬ i < k + 1 by omega]
            case measure => simp [intOf]; omega
          exact AllReadyH.nil
        exact AllReadyH.nil
      exact AllReadyH.nil
    · obtain rfl : k = rows.length := by omega
      have hkz : ¬ ((rows.length : Int) < (rows.length : Int)) := by omega
      clear hr
      go_wp2
      go_ret2
      refine ⟨.slice (some ⟨w3.heap.size, 0, none⟩) rows.length rows.length, by rw [HF.out]; rfl, ?_, H3.out.2.2.1.trans (HB.out.mono H3.out.2.2.1.size)⟩
      rw [HI.out]
      refine ⟨fun y hy => ?_, .inr ⟨w3.heap.size, rows.length, _, by rw [oneN_len], by rw [oneN_len]; exact Nat.le_refl _, by unfold maxLen; omega, H3.out.2.2.1.size, HR.out.lt, HR.out, fun i hi => ?_⟩⟩
      · unfold oneN at hy
        obtain ⟨x, _, rfl⟩ := List.mem_map.1 hy
        exact HWF.out _
      · rw [oneN_len] at hi
        simp [oneN, hi]

set_option maxRecDepth 100000 in
set_option maxHeartbeats 4000000 in
theorem upperOne (v : Value) (rows : Rows2) (z : ByteArray) (w : World) (hv : RowsAt w v rows) (hT : Tab w) (hn : bulk rows ≤ 1048576) (hf : fitB rows z = true) (hk : kindN z = 1) :
    Calls Tryd.prog 26 #[.agg #[v], .string z] w (OwnB (oneL rows z) (fitB rows z) w) := by
  have hH := Held.start w 29 hv
  have HOF := Lib.hid (upperOf_any v rows z _ hH.2.1 (hT.below ((Below.refl _ w).alloc (Nat.le_refl _) (.cells #[v] 29))) hn hf hk)
  obtain ⟨_, hok, h7, _⟩ := fit_iff hf
  obtain ⟨A, C, rfl, _⟩ := hv
  have H := Lib.hid hH
  have hcell := hH.1
  have HOK := Lib.hid hok
  have HF := Lib.hid hf
  have HI := Lib.hid (show oneL rows z = oneN rows 1 rows.length by rw [oneL_yes hf, hk])
  have HWF := Lib.hid (fun s => one_wf h7 1 s)
  have hup := Tryd.underlying55
  have hip := sizePD
  have hmk := run_make_row' (P := Tryd.prog) 26 3 (.int .i64 0) 8 Tryd.underlying26 infoInt rfl .i64 .i64 rows.length (by omega) (by omega)
  clear hH hT hn hf hk hok
  go_enter Tryd.func26, Tryd.ntmps26
  go_upto_region 2 with (first | (go_at_call 40; refine HOF.out.mono ?_; clear HOF; rintro e w2 ⟨u, kb, sb, rfl, hpw, hb2⟩; have H2 := Lib.hid (H.out.below hb2); have hnew := heap_alloc_new w2 (.cells pdZero 55); obtain ⟨lb, ub, A2, B2, C2, D2, hpm⟩ := hpw.pm; have HPM := Lib.hid hpm; obtain ⟨ua, uC, rfl⟩ := hpw.form; have HPW := Lib.hid hpw; clear hb2 hpw hpm) | (refine wpList_store_row rfl 55 (.tmp 6) (.tmp 14) rfl w2.heap.size (pwCells rows.length (.slice ua (setsL rows 1).length uC) 84 85 kb sb) rfl rfl 55 pdZero hnew hip rfl (pw_one rfl rfl rfl) ?_))
  obtain ⟨hblk, hb3⟩ := pw_new w2 (pwCells rows.length (.slice ua (setsL rows 1).length uC) 84 85 kb sb)
  have HB3 := Lib.hid hb3
  have H3 := Lib.hid (H2.out.below hb3)
  clear hnew hb3
  generalize ((w2.alloc (.cells pdZero 55)).setRow w2.heap.size (pwCells rows.length (.slice ua (setsL rows 1).length uC) 84 85 kb sb)) = w3 at hblk HB3 H3 ⊢
  have HW := Lib.hid (show ∃ w', w' = w2 from ⟨_, rfl⟩)
  obtain ⟨q, hq⟩ : ∃ q, q = w2.heap.size := ⟨_, rfl⟩
  rw [← hq] at hblk ⊢
  clear hq HW
  have HBL := Lib.hid (fun W (hb : Below w3.heap.size w3 W) => (hb.block q (Array.getElem?_eq_some_iff.1 hblk).1).trans hblk)
  have HQ := Lib.hid (show q < w3.heap.size from (Array.getElem?_eq_some_iff.1 hblk).1)
  obtain ⟨c0, c1, c2, c3⟩ := pw_cells hblk
  clear hblk
  go_upto_region 5 with fail
  clear hmk c0 c1 c2 c3
  have HRW := Lib.hid (World.rowIs_made w3 (.int .i64 0) rows.length 3)
  have HB0 := Lib.hid ((Below.refl w3.heap.size w3).alloc (Nat.le_refl _) (.cells (madeCells #[.int .i64 0] rows.length) 3))
  generalize (w3.alloc (.cells (madeCells #[.int .i64 0] rows.length) 3)) = wm at HRW HB0 ⊢
  go_wp2
  go_loopw [9, 23] (fun _ kv wr => ∃ k : Nat, k ≤ rows.length ∧ kv = .int .i64 (k : Int) ∧ wr.rowIs w3.heap.size 3 rows.length (fun i => if i < k then .int .i64 (idxK rows 1 (2 ^ i)) else .int .i64 0) ∧ Below w3.heap.size w3 wr) (fun _ kv _ => rows.length - (intOf kv).toNat)
  case atStart => exact ⟨0, Nat.zero_le _, rfl, HRW.out.congr (fun i _ => by rw [if_neg (Nat.not_lt_zero i)]), HB0.out⟩
  case round =>
    obtain ⟨k, hk, rfl, hr, hb⟩ := hrel
    have HR := Lib.hid hr
    have HB := Lib.hid hb
    clear HRW HB0 hb
    by_cases hlt : k < rows.length
    · have hkz : (k : Int) < (rows.length : Int) := by omega
      have hc := hr.cell hlt
      have hfz := hr.frozen k
      rw [if_neg (Nat.lt_irrefl k)] at hc
      obtain ⟨M, hM⟩ : ∃ M : Nat, M = 2 ^ k := ⟨_, rfl⟩
      have hMb : M < 2 ^ 7 := by rw [hM]; exact Nat.pow_lt_pow_right (by decide) (by omega)
      have hp1 : wrap64 ((2 : Int) ^ k) = (M : Int) := by
        rw [show ((2 : Int) ^ k) = (M : Int) by rw [hM]; simp]
        exact IntWalk.wrap64_in _ (by omega)
      have hp3 : IntKind.i64.wrap ((2 : Int) ^ k) = (M : Int) := by
        rw [IntKind.wrap_i64]
        unfold wrap64 at hp1
        exact hp1
      have hi64 : k % 64 = k := Nat.mod_eq_of_lt (by omega)
      have hM60 : M < 2 ^ 60 := Nat.lt_of_lt_of_le hMb (Nat.pow_le_pow_right (by decide) (by decide))
      have HMM := Lib.hid hM
      have HBD := Lib.hid (HB.out.trans ((below_drew wr _).mono HB.out.size))
      have HIX := Lib.hid (upperIndex_any rows M ua uC kb sb lb ub A2 B2 C2 D2 wr.drew HOK.out h7 hM60 ((HPW.out.own.at).below (HB3.out.trans (HBD.out.mono HB3.out.size))) (HPM.out _ (HB3.out.trans (HBD.out.mono HB3.out.size))))
      have HRNG := Lib.hid (fun W (hb : Below w3.heap.size w3 W) => pw_range (HBL.out W hb))
      clear hM hMb hM60 hr
      obtain ⟨cs, hcs⟩ : ∃ cs : List Value, cs = [.int .i64 ((rows.length : Nat) : Int), .slice ua (setsL rows 1).length uC, .func (.func 84) #[] #[.pointer (some ⟨kb, 0, none⟩), .pointer (some ⟨sb, 0, none⟩)], .func (.func 85) #[] #[.pointer (some ⟨kb, 0, none⟩), .pointer (some ⟨sb, 0, none⟩)]] := ⟨_, rfl⟩
      have hic : (Tryd.prog.info? 55).map (·.size) = some cs.length := by rw [hcs]; exact hip
      have HCS := Lib.hid (show Value.agg cs.toArray = pwV rows.length (.slice ua (setsL rows 1).length uC) 84 85 kb sb by rw [hcs])
      rw [← hcs] at HRNG
      clear hcs
      have HIX2 := Lib.hid (show Calls Tryd.prog 51 #[.agg cs.toArray, .int .i64 (M : Int)] wr.drew (SaysI (idxK rows 1 M) wr.drew) by rw [HCS.out]; exact HIX.out)
      generalize hrr : idxK rows 1 M = r at HIX2
      have HRR := Lib.hid hrr
      clear hrr
      go_upto_region 8 with fail
      refine wp_region_held_drew (S := fun W' : World => W'.rangeAt q 0 cs) (by kernel_rfl) (HRNG.out _ HBD.out) (fun hHeld => ?_)
      have HRQ := Lib.hid (show wr.drew.rowIs w3.heap.size 3 rows.length (fun i => if i < k then .int .i64 (idxK rows 1 (2 ^ i)) else .int .i64 0) from HR.out)
      generalize wr.drew = wq at HBD HIX2 HRQ hHeld ⊢
      refine wpAnyH_take (i := 0) (v := .slice (some ⟨w3.heap.size, 0, none⟩) rows.length rows.length) rfl (by kernel_rfl) (by kernel_rfl) (by kernel_rfl) (fun _ _ _ h => h) (Or.inl ⟨by rfl, ?_⟩) (by assumption) ?_
      · (intro W hSw; go_simp)
      try dsimp only [Act.put]
      refine wpAnyH_take (i := 1) (v := .int .i64 (k : Int)) rfl (by kernel_rfl) (by kernel_rfl) (by kernel_rfl) (fun _ _ _ h => h) (Or.inl ⟨by rfl, ?_⟩) (by assumption) ?_
      · (intro W hSw; go_simp)
      try dsimp only [Act.put]
      refine wpAnyH_take (i := 2) (v := .agg cs.toArray) rfl (by kernel_rfl) (by kernel_rfl) (by kernel_rfl) (fun _ _ _ h => h) (yieldsIf_load_mid (by rfl) 55 (.tmp 6) rfl q 0 rfl cs _ (fun W hS => hS) hup rfl hic) (by assumption) ?_
      try dsimp only [Act.put]
      refine wpAnyH_take (i := 3) (v := .int .i64 (k : Int)) rfl (by kernel_rfl) (by kernel_rfl) (by kernel_rfl) (fun _ _ _ h => h) (Or.inl ⟨by rfl, ?_⟩) (by assumption) ?_
      · (intro W hSw; go_simp)
      try dsimp only [Act.put]
      refine wpAnyH_take (i := 4) (v := .int .i64 (M : Int)) rfl (by kernel_rfl) (by kernel_rfl) (by kernel_rfl) (fun _ _ _ h => h) (Or.inl ⟨by rfl, ?_⟩) (by assumption) ?_
      · (intro W hSw; go_simp)
      try dsimp only [Act.put]
      refine wpAnyH_ready (rs := [5]) (by kernel_rfl) (by simp) ?_
      refine AllReadyH.cons rfl (fun K hK => ?_) ?_
      · go_simp
        refine HIX2.out.mono ?_
        rintro e w5 ⟨rfl, hb5⟩
        have HB5 := Lib.hid (HBD.out.trans (hb5.mono HBD.out.size))
        have HR5 := Lib.hid (HRQ.out.of_block (hb5.block _ HRQ.out.lt))
        have hc5 := HR5.out.cell hlt
        have hf5 := HR5.out.frozen k
        rw [if_neg (Nat.lt_irrefl k)] at hc5
        clear hb5
        go_wp2_with fail
        refine hK.out _ _ (HRNG.out _ HB5.out) (fun hHeld => ?_)
        clear hK K
        try dsimp only [Act.put]
        refine wpAnyH_ready (rs := [6]) (by kernel_rfl) (by simp) ?_
        refine AllReadyH.cons rfl (fun K hK => ?_) ?_
        · go_simp
          refine hK.out _ _ (HRNG.out _ HB5.out) (fun hHeld => ?_)
          clear hK K
          try dsimp only [Act.put]
          refine wpAnyH_ready (rs := [7]) (by kernel_rfl) (by simp) ?_
          refine AllReadyH.cons rfl (fun K hK => ?_) ?_
          · go_simp
            have HB6 := Lib.hid (HB5.out.setCell (p := ⟨w3.heap.size, k, none⟩) (Nat.le_refl _) (.int .i64 r))
            refine hK.out _ _ (HRNG.out _ HB6.out) (fun hHeld => ?_)
            clear hK K
            try dsimp only [Act.put]
            refine wpAnyH_done (by kernel_rfl) ?_ _
            go_wp2_with fail
            go_roundw
            case rel =>
              refine ⟨k + 1, by omega, by go_num, (HR5.out.set k (.int .i64 r)).congr (fun i hi => ?_), HB6.out⟩
              by_cases e : i = k
              · subst e; rw [if_pos (Nat.lt_succ_self i), ← HMM.out, HRR.out]; simp
              · by_cases e2 : i < k
                · simp [e, e2, show i < k + 1 by omega]
                · simp [e, e2, show ¬ i < k + 1 by omega]
            case measure => simp [intOf]; omega
          exact AllReadyH.nil
        exact AllReadyH.nil
      exact AllReadyH.nil
    · obtain rfl : k = rows.length := by omega
      have hkz : ¬ ((rows.length : Int) < (rows.length : Int)) := by omega
      clear hr
      go_wp2
      go_ret2
      refine ⟨.slice (some ⟨w3.heap.size, 0, none⟩) rows.length rows.length, by rw [HF.out]; rfl, ?_, H3.out.2.2.1.trans (HB.out.mono H3.out.2.2.1.size)⟩
      rw [HI.out]
      refine ⟨fun y hy => ?_, .inr ⟨w3.heap.size, rows.length, _, by rw [oneN_len], by rw [oneN_len]; exact Nat.le_refl _, by unfold maxLen; omega, H3.out.2.2.1.size, HR.out.lt, HR.out, fun i hi => ?_⟩⟩
      · unfold oneN at hy
        obtain ⟨x, _, rfl⟩ := List.mem_map.1 hy
        exact HWF.out _
      · rw [oneN_len] at hi
        simp [oneN, hi]

set_option maxRecDepth 100000 in
set_option maxHeartbeats 4000000 in
theorem convexOne (v : Value) (rows : Rows2) (z : ByteArray) (w : World) (hv : RowsAt w v rows) (hT : Tab w) (hn : bulk rows ≤ 1048576) (hf : fitB rows z = true) (hk : kindN z = 2) :
    Calls Tryd.prog 26 #[.agg #[v], .string z] w (OwnB (oneL rows z) (fitB rows z) w) := by
  have hH := Held.start w 29 hv
  have HOF := Lib.hid (convexOf_any v rows z _ hH.2.1 (hT.below ((Below.refl _ w).alloc (Nat.le_refl _) (.cells #[v] 29))) hn hf hk)
  obtain ⟨_, hok, h7, _⟩ := fit_iff hf
  obtain ⟨A, C, rfl, _⟩ := hv
  have H := Lib.hid hH
  have hcell := hH.1
  have HOK := Lib.hid hok
  have HF := Lib.hid hf
  have HI := Lib.hid (show oneL rows z = oneN rows 2 rows.length by rw [oneL_yes hf, hk])
  have HWF := Lib.hid (fun s => one_wf h7 2 s)
  have hup := Tryd.underlying55
  have hip := sizePD
  have hmk := run_make_row' (P := Tryd.prog) 26 3 (.int .i64 0) 8 Tryd.underlying26 infoInt rfl .i64 .i64 rows.length (by omega) (by omega)
  clear hH hT hn hf hk hok
  go_enter Tryd.func26, Tryd.ntmps26
  go_upto_region 2 with (first | (go_at_call 40; refine HOF.out.mono ?_; clear HOF; rintro e w2 ⟨u, kb, sb, rfl, hpw, hb2⟩; have H2 := Lib.hid (H.out.below hb2); have hnew := heap_alloc_new w2 (.cells pdZero 55); obtain ⟨lb, ub, A2, B2, C2, D2, hpm⟩ := hpw.pm; have HPM := Lib.hid hpm; obtain ⟨ua, uC, rfl⟩ := hpw.form; have HPW := Lib.hid hpw; clear hb2 hpw hpm) | (refine wpList_store_row rfl 55 (.tmp 6) (.tmp 14) rfl w2.heap.size (pwCells rows.length (.slice ua (setsL rows 2).length uC) 87 88 kb sb) rfl rfl 55 pdZero hnew hip rfl (pw_one rfl rfl rfl) ?_))
  obtain ⟨hblk, hb3⟩ := pw_new w2 (pwCells rows.length (.slice ua (setsL rows 2).length uC) 87 88 kb sb)
  have HB3 := Lib.hid hb3
  have H3 := Lib.hid (H2.out.below hb3)
  clear hnew hb3
  generalize ((w2.alloc (.cells pdZero 55)).setRow w2.heap.size (pwCells rows.length (.slice ua (setsL rows 2).length uC) 87 88 kb sb)) = w3 at hblk HB3 H3 ⊢
  have HW := Lib.hid (show ∃ w', w' = w2 from ⟨_, rfl⟩)
  obtain ⟨q, hq⟩ : ∃ q, q = w2.heap.size := ⟨_, rfl⟩
  rw [← hq] at hblk ⊢
  clear hq HW
  have HBL := Lib.hid (fun W (hb : Below w3.heap.size w3 W) => (hb.block q (Array.getElem?_eq_some_iff.1 hblk).1).trans hblk)
  have HQ := Lib.hid (show q < w3.heap.size from (Array.getElem?_eq_some_iff.1 hblk).1)
  obtain ⟨c0, c1, c2, c3⟩ := pw_cells hblk
  clear hblk
  go_upto_region 5 with fail
  clear hmk c0 c1 c2 c3
  have HRW := Lib.hid (World.rowIs_made w3 (.int .i64 0) rows.length 3)
  have HB0 := Lib.hid ((Below.refl w3.heap.size w3).alloc (Nat.le_refl _) (.cells (madeCells #[.int .i64 0] rows.length) 3))
  generalize (w3.alloc (.cells (madeCells #[.int .i64 0] rows.length) 3)) = wm at HRW HB0 ⊢
  go_wp2
  go_loopw [9, 23] (fun _ kv wr => ∃ k : Nat, k ≤ rows.length ∧ kv = .int .i64 (k : Int) ∧ wr.rowIs w3.heap.size 3 rows.length (fun i => if i < k then .int .i64 (idxK rows 2 (2 ^ i)) else .int .i64 0) ∧ Below w3.heap.size w3 wr) (fun _ kv _ => rows.length - (intOf kv).toNat)
  case atStart => exact ⟨0, Nat.zero_le _, rfl, HRW.out.congr (fun i _ => by rw [if_neg (Nat.not_lt_zero i)]), HB0.out⟩
  case round =>
    obtain ⟨k, hk, rfl, hr, hb⟩ := hrel
    have HR := Lib.hid hr
    have HB := Lib.hid hb
    clear HRW HB0 hb
    by_cases hlt : k < rows.length
    · have hkz : (k : Int) < (rows.length : Int) := by omega
      have hc := hr.cell hlt
      have hfz := hr.frozen k
      rw [if_neg (Nat.lt_irrefl k)] at hc
      obtain ⟨M, hM⟩ : ∃ M : Nat, M = 2 ^ k := ⟨_, rfl⟩
      have hMb : M < 2 ^ 7 := by rw [hM]; exact Nat.pow_lt_pow_right (by decide) (by omega)
      have hp1 : wrap64 ((2 : Int) ^ k) = (M : Int) := by
        rw [show ((2 : Int) ^ k) = (M : Int) by rw [hM]; simp]
        exact IntWalk.wrap64_in _ (by omega)
      have hp3 : IntKind.i64.wrap ((2 : Int) ^ k) = (M : Int) := by
        rw [IntKind.wrap_i64]
        unfold wrap64 at hp1
        exact hp1
      have hi64 : k % 64 = k := Nat.mod_eq_of_lt (by omega)
      have hM60 : M < 2 ^ 60 := Nat.lt_of_lt_of_le hMb (Nat.pow_le_pow_right (by decide) (by decide))
      have HMM := Lib.hid hM
      have HBD := Lib.hid (HB.out.trans ((below_drew wr _).mono HB.out.size))
      have HIX := Lib.hid (convexIndex_any rows M ua uC kb sb lb ub A2 B2 C2 D2 wr.drew HOK.out h7 hM60 ((HPW.out.own.at).below (HB3.out.trans (HBD.out.mono HB3.out.size))) (HPM.out _ (HB3.out.trans (HBD.out.mono HB3.out.size))))
      have HRNG := Lib.hid (fun W (hb : Below w3.heap.size w3 W) => pw_range (HBL.out W hb))
      clear hM hMb hM60 hr
      obtain ⟨cs, hcs⟩ : ∃ cs : List Value, cs = [.int .i64 ((rows.length : Nat) : Int), .slice ua (setsL rows 2).length uC, .func (.func 87) #[] #[.pointer (some ⟨kb, 0, none⟩), .pointer (some ⟨sb, 0, none⟩)], .func (.func 88) #[] #[.pointer (some ⟨kb, 0, none⟩), .pointer (some ⟨sb, 0, none⟩)]] := ⟨_, rfl⟩
      have hic : (Tryd.prog.info? 55).map (·.size) = some cs.length := by rw [hcs]; exact hip
      have HCS := Lib.hid (show Value.agg cs.toArray = pwV rows.length (.slice ua (setsL rows 2).length uC) 87 88 kb sb by rw [hcs])
      rw [← hcs] at HRNG
      clear hcs
      have HIX2 := Lib.hid (show Calls Tryd.prog 51 #[.agg cs.toArray, .int .i64 (M : Int)] wr.drew (SaysI (idxK rows 2 M) wr.drew) by rw [HCS.out]; exact HIX.out)
      generalize hrr : idxK rows 2 M = r at HIX2
      have HRR := Lib.hid hrr
      clear hrr
      go_upto_region 8 with fail
      refine wp_region_held_drew (S := fun W' : World => W'.rangeAt q 0 cs) (by kernel_rfl) (HRNG.out _ HBD.out) (fun hHeld => ?_)
      have HRQ := Lib.hid (show wr.drew.rowIs w3.heap.size 3 rows.length (fun i => if i < k then .int .i64 (idxK rows 2 (2 ^ i)) else .int .i64 0) from HR.out)
      generalize wr.drew = wq at HBD HIX2 HRQ hHeld ⊢
      refine wpAnyH_take (i := 0) (v := .slice (some ⟨w3.heap.size, 0, none⟩) rows.length rows.length) rfl (by kernel_rfl) (by kernel_rfl) (by kernel_rfl) (fun _ _ _ h => h) (Or.inl ⟨by rfl, ?_⟩) (by assumption) ?_
      · (intro W hSw; go_simp)
      try dsimp only [Act.put]
      refine wpAnyH_take (i := 1) (v := .int .i64 (k : Int)) rfl (by kernel_rfl) (by kernel_rfl) (by kernel_rfl) (fun _ _ _ h => h) (Or.inl ⟨by rfl, ?_⟩) (by assumption) ?_
      · (intro W hSw; go_simp)
      try dsimp only [Act.put]
      refine wpAnyH_take (i := 2) (v := .agg cs.toArray) rfl (by kernel_rfl) (by kernel_rfl) (by kernel_rfl) (fun _ _ _ h => h) (yieldsIf_load_mid (by rfl) 55 (.tmp 6) rfl q 0 rfl cs _ (fun W hS => hS) hup rfl hic) (by assumption) ?_
      try dsimp only [Act.put]
      refine wpAnyH_take (i := 3) (v := .int .i64 (k : Int)) rfl (by kernel_rfl) (by kernel_rfl) (by kernel_rfl) (fun _ _ _ h => h) (Or.inl ⟨by rfl, ?_⟩) (by assumption) ?_
      · (intro W hSw; go_simp)
      try dsimp only [Act.put]
      refine wpAnyH_take (i := 4) (v := .int .i64 (M : Int)) rfl (by kernel_rfl) (by kernel_rfl) (by kernel_rfl) (fun _ _ _ h => h) (Or.inl ⟨by rfl, ?_⟩) (by assumption) ?_
      · (intro W hSw; go_simp)
      try dsimp only [Act.put]
      refine wpAnyH_ready (rs := [5]) (by kernel_rfl) (by simp) ?_
      refine AllReadyH.cons rfl (fun K hK => ?_) ?_
      · go_simp
        refine HIX2.out.mono ?_
        rintro e w5 ⟨rfl, hb5⟩
        have HB5 := Lib.hid (HBD.out.trans (hb5.mono HBD.out.size))
        have HR5 := Lib.hid (HRQ.out.of_block (hb5.block _ HRQ.out.lt))
        have hc5 := HR5.out.cell hlt
        have hf5 := HR5.out.frozen k
        rw [if_neg (Nat.lt_irrefl k)] at hc5
        clear hb5
        go_wp2_with fail
        refine hK.out _ _ (HRNG.out _ HB5.out) (fun hHeld => ?_)
        clear hK K
        try dsimp only [Act.put]
        refine wpAnyH_ready (rs := [6]) (by kernel_rfl) (by simp) ?_
        refine AllReadyH.cons rfl (fun K hK => ?_) ?_
        · go_simp
          refine hK.out _ _ (HRNG.out _ HB5.out) (fun hHeld => ?_)
          clear hK K
          try dsimp only [Act.put]
          refine wpAnyH_ready (rs := [7]) (by kernel_rfl) (by simp) ?_
          refine AllReadyH.cons rfl (fun K hK => ?_) ?_
          · go_simp
            have HB6 := Lib.hid (HB5.out.setCell (p := ⟨w3.heap.size, k, none⟩) (Nat.le_refl _) (.int .i64 r))
            refine hK.out _ _ (HRNG.out _ HB6.out) (fun hHeld => ?_)
            clear hK K
            try dsimp only [Act.put]
            refine wpAnyH_done (by kernel_rfl) ?_ _
            go_wp2_with fail
            go_roundw
            case rel =>
              refine ⟨k + 1, by omega, by go_num, (HR5.out.set k (.int .i64 r)).congr (fun i hi => ?_), HB6.out⟩
              by_cases e : i = k
              · subst e; rw [if_pos (Nat.lt_succ_self i), ← HMM.out, HRR.out]; simp
              · by_cases e2 : i < k
                · simp [e, e2, show i < k + 1 by omega]
                · simp [e, e2, show ¬ i < k + 1 by omega]
            case measure => simp [intOf]; omega
          exact AllReadyH.nil
        exact AllReadyH.nil
      exact AllReadyH.nil
    · obtain rfl : k = rows.length := by omega
      have hkz : ¬ ((rows.length : Int) < (rows.length : Int)) := by omega
      clear hr
      go_wp2
      go_ret2
      refine ⟨.slice (some ⟨w3.heap.size, 0, none⟩) rows.length rows.length, by rw [HF.out]; rfl, ?_, H3.out.2.2.1.trans (HB.out.mono H3.out.2.2.1.size)⟩
      rw [HI.out]
      refine ⟨fun y hy => ?_, .inr ⟨w3.heap.size, rows.length, _, by rw [oneN_len], by rw [oneN_len]; exact Nat.le_refl _, by unfold maxLen; omega, H3.out.2.2.1.size, HR.out.lt, HR.out, fun i hi => ?_⟩⟩
      · unfold oneN at hy
        obtain ⟨x, _, rfl⟩ := List.mem_map.1 hy
        exact HWF.out _
      · rw [oneN_len] at hi
        simp [oneN, hi]

theorem implOne_any (v : Value) (rows : Rows2) (z : ByteArray) (w : World) (hv : RowsAt w v rows) (hT : Tab w) (hn : bulk rows ≤ 1048576) :
    Calls Tryd.prog 26 #[.agg #[v], .string z] w (OwnB (oneL rows z) (fitB rows z) w) := by
  cases hf : fitB rows z with
  | false => rw [← hf]; exact noOne v rows z w hv hT hn hf
  | true =>
    rw [← hf]
    rcases kind_cases (fit_iff hf).2.2.2 with e | e | e
    · exact lowerOne v rows z w hv hT hn hf e
    · exact upperOne v rows z w hv hT hn hf e
    · exact convexOne v rows z w hv hT hn hf e
end Go.Proofs.YtfgpnmdmbhfdmaaDoor
