/- The model's FunSteps. -/
import Derived.Test.YtkomghohdhengaaDoorPc19
import Derived.Test.YtkomghohdhengaaDoorPc12
import Derived.Deep.RegionLaw
import Derived.Deep.AppendLies
import Derived.RangeFuncBox
import Derived.Test.YtkomghohdhengaaDoorPc16
import Derived.Test.YtkomghohdhengaaDoorPc13
import Derived.Test.YtkomghohdhengaaDoorPc8
import Derived.Test.YtkomghohdhengaaDoorPc1
import Derived.Test.YtkomghohdhengaaDoorPc15
namespace Go.Proofs.YtkomghohdhengaaDoor
open Go.RowKit Go.Deep

/-- Does element k leave i a start? -/
def startP (rows : Rows2) (f : List Int) (i k : Nat) : Bool := (k == i) || !upB rows k (i : Int) || !(f.getD k 0 == f.getD i 0)
/-- Does the function start at i to have what it has? The first m elements have been looked at. -/
def startT (rows : Rows2) (f : List Int) (least : Int) (i m : Nat) : Bool := !(f.getD i 0 == least) && (List.range m).all (startP rows f i)
theorem startT_succ (rows : Rows2) (f : List Int) (least : Int) (i m : Nat) : startT rows f least i (m + 1) = (startT rows f least i m && startP rows f i m) := by
  unfold startT
  rw [List.range_succ, List.all_append, Bool.and_assoc]
  simp
theorem startT_false {rows : Rows2} {f : List Int} {least : Int} {i m n : Nat} (h : startT rows f least i m = false) (hm : m ≤ n) : startT rows f least i n = false := by
  induction n with
  | zero => obtain rfl : m = 0 := by omega
            exact h
  | succ n ih =>
    rcases Nat.lt_or_ge n m with h1 | h1
    · obtain rfl : m = n + 1 := by omega
      exact h
    · rw [startT_succ, ih h1]
      rfl
def startsN (rows rows' : Rows2) (f : List Int) (k : Nat) : List Int := ((List.range k).filter fun i => startT rows f (leastI rows') i f.length).map fun i : Nat => (i : Int)
theorem startsN_succ (rows rows' : Rows2) (f : List Int) (k : Nat) : startsN rows rows' f (k + 1) = if startT rows f (leastI rows') k f.length = true then startsN rows rows' f k ++ [(k : Int)] else startsN rows rows' f k := by
  unfold startsN
  rw [List.range_succ, List.filter_append, List.map_append, List.filter_cons]
  cases startT rows f (leastI rows') k f.length with
  | true => rfl
  | false => simp
theorem startsN_le (rows rows' : Rows2) (f : List Int) (k : Nat) : (startsN rows rows' f k).length ≤ k := by
  unfold startsN
  rw [List.length_map]
  have := List.length_filter_le (fun i => startT rows f (leastI rows') i f.length) (List.range k)
  simpa using this
noncomputable def startsL (rows rows' : Rows2) (f : List Int) : List Int := if monoB rows rows' f = true then startsN rows rows' f f.length else []

/-- Behind what turns no memory of the variables. -/
theorem TwoF.far {w : World} {v v' vf : Value} {rows rows' : Rows2} {f : List Int} {W W' : World} (h : TwoF w v v' vf rows rows' f W) (hv : RowsAt w v rows) (hv' : RowsAt w v' rows') (hf : IntsAt w vf f) (hb : Below (w.heap.size + 2) W W') : TwoF w v v' vf rows rows' f W' := by
  have hw : Below w.heap.size w W' := h.1.below.trans (hb.mono (by omega))
  exact ⟨⟨(hb.cell (p := ⟨w.heap.size, 0, none⟩) (by show w.heap.size < w.heap.size + 2; omega)).trans h.1.c0, (hb.cell (p := ⟨w.heap.size + 1, 0, none⟩) (by show w.heap.size + 1 < w.heap.size + 2; omega)).trans h.1.c1, hv.below hw, hv'.below hw, hw⟩, hf.below hw⟩

set_option maxRecDepth 100000 in
set_option maxHeartbeats 8000000 in
theorem specSteps_any (v v' vf : Value) (rows rows' : Rows2) (f : List Int) (w : World) (hv : RowsAt w v rows) (hv' : RowsAt w v' rows') (hf : IntsAt w vf f) (hn : bulk rows ≤ 1048576) (hn' : bulk rows' ≤ 1048576) :
    Calls Tryd.prog 43 #[.agg #[v], .agg #[v'], vf] w (OwnB (startsL rows rows' f) (monoB rows rows' f) w) := by
  have HV := Lib.hid hv
  have HV' := Lib.hid hv'
  have HF := Lib.hid hf
  have hT0 := TwoF.start w 25 25 hv hv' hf
  have hs2 : ((w.alloc (.cells #[v] 25)).alloc (.cells #[v'] 25)).heap.size = w.heap.size + 2 := by rw [World.size_alloc, World.size_alloc]
  have hO := World.ownsRow_made (e := 3) (size := 1) ((w.alloc (.cells #[v] 25)).alloc (.cells #[v'] 25)) #[] 0 (base := w.heap.size + 2) (by rw [hs2]; omega) (Nat.zero_le _) (by simp)
  rw [hs2] at hO
  have hT := hT0.step ((Below.refl _ _).alloc (Nat.le_refl _) (.cells #[] 3))
  have hcM := specMono_any _ _ _ rows rows' f _ hT.1.r0 hT.1.r1 hT.2 hn hn'
  obtain ⟨A, C, rfl, _⟩ := hv
  obtain ⟨A', C', rfl, _⟩ := hv'
  obtain ⟨Af, Cf, rfl, _⟩ := hf
  have H0 := Lib.hid hT
  have HO := Lib.hid hO
  have hc0 := hT.1.c0
  have hc1 := hT.1.c1
  obtain ⟨i0, hi0, hz0, hz1, hz2⟩ := info_parts infoInt
  clear hT0 hT hO hs2
  cases hm : monoB rows rows' f with
  | false =>
    rw [hm] at hcM
    have HE := Lib.hid (show startsL rows rows' f = [] by unfold startsL; rw [hm]; rfl)
    clear hm
    go_enter Tryd.func43, Tryd.ntmps43
    go_wp2_with (go_at_call 76; refine hcM.mono ?_; clear hcM; rintro e w1 ⟨rfl, hb1⟩; have H1 := Lib.hid (H0.out.step hb1); have HO1 := Lib.hid (owns_below HO.out hb1); clear hb1)
    go_ret2
    refine ⟨_, rfl, ?_, H1.out.1.below⟩
    rw [HE.out]
    exact OwnI.of_owns (owns_weaker HO1.out (Nat.le_add_right _ _)) (fun y hy => by cases hy) (fun b hb => (HO1.out.lt b hb).2)
  | true =>
    rw [hm] at hcM
    have HE := Lib.hid (show startsL rows rows' f = startsN rows rows' f f.length by unfold startsL; rw [if_pos hm])
    obtain ⟨hd, hd', hmo⟩ := monoB_parts hm
    have hok := ok_of_valid (show validB rows = true by unfold domB at hd; rw [Bool.and_eq_true] at hd; exact hd.1)
    have hfl : f.length ≤ 200 := by rw [hmo.1]; exact hok.len.2
    have HFR := Lib.hid hmo.1
    have HOK := Lib.hid hok
    clear hm hd hd' hmo hok
    go_enter Tryd.func43, Tryd.ntmps43
    go_wp2_with (go_at_call 76; refine hcM.mono ?_; clear hcM; rintro e w1 ⟨rfl, hb1⟩; have H1 := Lib.hid (H0.out.step hb1); have HO1 := Lib.hid (owns_below HO.out hb1); clear hb1)
    clear hc0 hc1
    go_loopw [8, 9] (fun ov iv wr => ∃ i : Nat, i ≤ f.length ∧ iv = .int .i64 i ∧ wr.ownsRow (w.heap.size + 2) 3 1 ov (startsN rows rows' f i).length (cellsI (startsN rows rows' f i)) ∧ TwoF w (.slice A rows.length C) (.slice A' rows'.length C') (.slice Af f.length Cf) rows rows' f wr) (fun _ iv _ => f.length - (intOf iv).toNat)
    case atStart => exact ⟨0, Nat.zero_le _, rfl, HO1.out, H1.out⟩
    case round =>
      obtain ⟨i, hi, rfl, hown, hh⟩ := hrel
      obtain ⟨wo, hwo⟩ : ∃ wo : World, wo = wr := ⟨_, rfl⟩
      subst hwo
      have HOWN := Lib.hid hown
      have HK := Lib.hid hh
      have hcl := startsN_le rows rows' f i
      clear hown hh H1 HO1
      by_cases hlt : i < f.length
      · have hltz : (i : Int) < (f.length : Int) := by omega
        obtain ⟨bf, o_f, rfl, hcf⟩ := HK.out.2.get hlt
        have HCF := Lib.hid hcf
        have hq0 := fun d os => cell_regrown HK.out.1.c1 d os
        have hq1 := fun d os => cell_regrown hcf d os
        have hcL := fun d os => Calls.regrown_of (d := d) (os := os) (l1Least_any _ rows' _ (HK.out.step (below_regrown wo d os)).1.r1 hn')
        have e1 : f.getD i 0 = f[i] := getD_lt 0 hlt
        generalize hle : leastI rows' = le at hcL
        obtain ⟨s0, hs0⟩ : ∃ s0 : Bool, (f[i] != le) = s0 := ⟨_, rfl⟩
        have HS0 := Lib.hid (show startT rows f le i 0 = s0 by unfold startT; rw [e1, ← hs0]; simp [bne])
        have HLE := Lib.hid hle
        clear hcf e1 hle
        go_upto_region 7 with fail
        refine wp_region_quiet_below (by kernel_rfl) (by kernel_rfl) ?_
        repeat (go_big_quiet_step (first | (go_at_call 97; exact hcL _ _)))
        refine wpQuiet_nil ?_
        intro _ hw'
        obtain ⟨⟨dq, osq⟩, hw''⟩ := hw'
        subst hw''
        clear hcL hq0 hq1
        have HK1 := Lib.hid (HK.out.step (below_regrown wo dq osq))
        have HOW1 := Lib.hid (owns_below HOWN.out (below_regrown wo dq osq))
        generalize «Sort».grow (redrawn wo dq) osq = wa at HK1 HOW1 ⊢
        go_wp2
        go_loopw [10, 11] (fun tv kv wx => ∃ k : Nat, k ≤ f.length ∧ kv = .int .i64 k ∧ tv = .bool (startT rows f le i k) ∧ Below wa.heap.size wa wx) (fun _ kv _ => f.length - (intOf kv).toNat)
        case atStart => exact ⟨0, Nat.zero_le _, rfl, by rw [HS0.out], Below.refl _ _⟩
        case round =>
          obtain ⟨k, hk, rfl, rfl, hB⟩ := hrel
          have HB := Lib.hid hB
          have HKX := Lib.hid (HK1.out.step hB)
          have HOX := Lib.hid (owns_below HOW1.out hB)
          have hbz := HKX.out.1.below.size
          clear hB
          cases ht : startT rows f le i k with
          | false =>
            have HEN := Lib.hid (startT_false ht hk)
            clear ht
            have hend : wr.ownsRow (w.heap.size + 2) 3 1 u8 (startsN rows rows' f (i + 1)).length (cellsI (startsN rows rows' f (i + 1))) := by
              rw [startsN_succ, HLE.out, HEN.out, if_neg (by simp)]
              exact HOX.out
            have HND := Lib.hid hend
            clear hend
            by_cases hkl : k < f.length
            · have hkz : (k : Int) < (f.length : Int) := by omega
              go_wp2
              go_roundw
              case rel => exact ⟨i + 1, by omega, by go_num, HND.out, HKX.out⟩
              case measure => simp [intOf]; omega
            · have hkz : ¬ ((k : Int) < (f.length : Int)) := by omega
              go_wp2
              go_roundw
              case rel => exact ⟨i + 1, by omega, by go_num, HND.out, HKX.out⟩
              case measure => simp [intOf]; omega
          | true =>
            have HT := Lib.hid ht
            clear ht
            by_cases hkl : k < f.length
            · have hkz : (k : Int) < (f.length : Int) := by omega
              have hkr : k < rows.length := by have := HFR.out; omega
              obtain ⟨b2, o2, e2, hck⟩ := HKX.out.2.get hkl
              obtain ⟨b3, o3, e3, hci⟩ := HKX.out.2.get hlt
              injection e2 with e2
              injection e2 with e4 e5 _
              injection e3 with e3
              injection e3 with e6 e7 _
              subst e4 e5 e6 e7
              have hq2 := fun d os => cell_regrown HKX.out.1.c0 d os
              have hq3 := fun d os => cell_regrown hck d os
              have hq4 := fun d os => cell_regrown hci d os
              have hcE := fun d os => Calls.regrown_of (d := d) (os := os) (l1Le_any _ rows (k : Int) k (i : Int) _ (HKX.out.step (below_regrown wr d os)).1.r0 hkr rfl (HOK.out.asc k hkr).1 hn)
              clear hck hci
              by_cases hki : k = i
              · have q1 : ((k : Int) == (i : Int)) = true := by rw [beq_iff_eq]; omega
                have q2 : (k == i) = true := by rw [beq_iff_eq]; exact hki
                have HP := Lib.hid (show startP rows f i k = true by unfold startP; rw [q2]; rfl)
                clear hki
                try clear HST
                go_upto_region 11 with fail
                refine wp_region_quiet_below (by kernel_rfl) (by kernel_rfl) ?_
                repeat (go_big_quiet_step (first | (go_at_call 98; exact hcE _ _)))
                refine wpQuiet_nil ?_
                intro _ hw'
                obtain ⟨⟨dq2, osq2⟩, hw2⟩ := hw'
                subst hw2
                clear hcE hq2 hq3 hq4
                go_wp2
                go_roundw
                case rel => exact ⟨k + 1, by omega, by go_num, by rw [startT_succ, HT.out, HP.out, Bool.true_and], HB.out.trans ((below_regrown wr dq2 osq2).mono HB.out.size)⟩
                case measure => simp [intOf]; omega
              · have q1 : ((k : Int) == (i : Int)) = false := by rw [beq_eq_false_iff_ne]; omega
                have q2 : (k == i) = false := by rw [beq_eq_false_iff_ne]; exact hki
                cases hup : upB rows k (i : Int) with
                | false =>
                  have HP := Lib.hid (show startP rows f i k = true by unfold startP; rw [hup]; simp)
                  simp only [hup] at hcE
                  clear hup hki
                  try clear HST
                  go_upto_region 11 with fail
                  refine wp_region_quiet_below (by kernel_rfl) (by kernel_rfl) ?_
                  repeat (go_big_quiet_step (first | (go_at_call 98; exact hcE _ _)))
                  refine wpQuiet_nil ?_
                  intro _ hw'
                  obtain ⟨⟨dq2, osq2⟩, hw2⟩ := hw'
                  subst hw2
                  clear hcE hq2 hq3 hq4
                  go_wp2
                  go_roundw
                  case rel => exact ⟨k + 1, by omega, by go_num, by rw [startT_succ, HT.out, HP.out, Bool.true_and], HB.out.trans ((below_regrown wr dq2 osq2).mono HB.out.size)⟩
                  case measure => simp [intOf]; omega
                | true =>
                  simp only [hup] at hcE
                  have e1 : f.getD k 0 = f[k] := getD_lt 0 hkl
                  have e2 : f.getD i 0 = f[i] := getD_lt 0 hlt
                  obtain ⟨s1, hs1⟩ : ∃ s1 : Bool, (f[k] != f[i]) = s1 := ⟨_, rfl⟩
                  have HP := Lib.hid (show startP rows f i k = s1 by unfold startP; rw [q2, hup, e1, e2, ← hs1]; simp [bne])
                  clear hup hki e1 e2
                  try clear HST
                  go_upto_region 11 with fail
                  refine wp_region_quiet_below (by kernel_rfl) (by kernel_rfl) ?_
                  repeat (go_big_quiet_step (first | (go_at_call 98; exact hcE _ _)))
                  refine wpQuiet_nil ?_
                  intro _ hw'
                  obtain ⟨⟨dq2, osq2⟩, hw2⟩ := hw'
                  subst hw2
                  clear hcE hq2 hq3 hq4
                  go_wp2
                  go_roundw
                  case rel => exact ⟨k + 1, by omega, by go_num, by rw [startT_succ, HT.out, HP.out, Bool.true_and], HB.out.trans ((below_regrown wr dq2 osq2).mono HB.out.size)⟩
                  case measure => simp [intOf]; omega
            · obtain rfl : k = f.length := by omega
              have hkz : ¬ ((f.length : Int) < (f.length : Int)) := by omega
              have hst : startsN rows rows' f (i + 1) = startsN rows rows' f i ++ [(i : Int)] := by rw [startsN_succ, HLE.out, HT.out, if_pos rfl]
              have HST := Lib.hid hst
              have hz9 : w.heap.size + 2 ≤ wr.heap.size := by have := HKX.out.1.c1; have := cell_lt this; exact this
              clear hst
              go_wp2_with (at_builtin; refine wpList_append_own _ rfl _ _ 26 rfl (w.heap.size + 2) 3 i0 (.int .i64 0) 1 8 Tryd.underlying26 hi0 hz0 hz1 hz2 rfl (by decide) _ _ _ rfl (HOX.out.alloc _) ⟨wr.heap.size, 0, none⟩ 1 1 [.int .i64 (i : Int)] rfl rfl (cell_one_new _ _ _) (by simp [Value.oneCell']) (by unfold maxLen; omega) (by omega) (by simp; omega) ?_; intro v' w1 hown' hgrow _)
              go_roundw
              case rel =>
                refine ⟨i + 1, by omega, by go_num, ?_, ?_⟩
                · rw [HST.out, List.length_append, show cellsI (startsN rows rows' f i ++ [(i : Int)]) = cellsI (startsN rows rows' f i) ++ [.int .i64 (i : Int)] by simp]
                  exact hown'
                · have hb : Below (w.heap.size + 2) wr w1 := (((Below.refl (w.heap.size + 2) wr).alloc hz9 _).grown hgrow (by rw [World.size_alloc]; omega) (fun b e => (HOX.out.lt b e).1))
                  exact HKX.out.far HV.out HV'.out HF.out hb
              case measure => simp [intOf]; omega
      · obtain rfl : i = f.length := by omega
        have hltz : ¬ ((f.length : Int) < (f.length : Int)) := by omega
        go_wp2
        go_ret2
        refine ⟨_, rfl, ?_, HK.out.1.below⟩
        rw [HE.out]
        refine OwnI.of_owns (owns_weaker HOWN.out (Nat.le_add_right _ _)) (fun y hy => ?_) (fun b hb => (HOWN.out.lt b hb).2)
        unfold startsN at hy
        obtain ⟨q, hq, rfl⟩ := List.mem_map.1 hy
        have := List.mem_range.1 (List.mem_filter.1 hq).1
        exact wf_int (by omega) (by omega)
end Go.Proofs.YtkomghohdhengaaDoor

/- The program's look for what a function has on a set (fun.hasOn). -/
namespace Go.Proofs.YtkomghohdhengaaDoor
open Go.RowKit Go.Deep Go.Shelf
attribute [local go_sem] Oper.semAt_some

/-- Has the function the element k for some element of the set s? -/
def onB (f : List Int) (s : Nat) (k : Int) : Bool := (elems s).any fun i => f.getD i 0 == k
def NoneOn (f : List Int) (s : Nat) (k : Int) (pre : List (Bt s)) : Prop := ∀ y ∈ pre, f.getD y.1 0 ≠ k
theorem on_none {f : List Int} {s : Nat} {k : Int} (hp : NoneOn f s k (eList s)) : onB f s k = false := by
  unfold onB
  rw [List.any_eq_false, ← natsOf_all]
  intro i hi
  obtain ⟨z, hz, rfl⟩ := List.mem_map.1 hi
  simpa using hp z hz
theorem on_found {f : List Int} {s : Nat} {k : Int} {pre rest : List (Bt s)} {y : Bt s} (hall : eList s = (pre ++ [y]) ++ rest) (hy : f.getD y.1 0 = k) : onB f s k = true := by
  unfold onB
  rw [List.any_eq_true, ← natsOf_all]
  exact ⟨y.1, List.mem_map.2 ⟨y, by rw [hall]; simp, rfl⟩, by simpa using hy⟩

set_option maxRecDepth 100000 in
set_option maxHeartbeats 4000000 in
theorem hasOn_any (vf : Value) (f : List Int) (s : Nat) (k : Int) (w : World) (hf : IntsAt w vf f) (hT : Tab w) (hs : s < 2 ^ 256) (hel : ∀ i ∈ elems s, i < f.length) :
    Calls Tryd.prog 145 #[vf, rowV s, .int .i64 k] w (SaysN (onB f s k) w) := by
  have htab : 0 < w.heap.size := cell_lt (hT 0 (by omega))
  have HF := Lib.hid (fun W (h : Below w.heap.size w W) => hf.below h)
  obtain ⟨Af, Cf, rfl, _⟩ := hf
  have HEL := Lib.hid hel
  have HT := Lib.hid hT
  have HS := Lib.hid hs
  clear hel hT hs
  refine (callsIn_wide (n := 8)).1 ?_
  refine callsIn_of_wp_marks Tryd.func145 rfl trivial ?_ rfl
  simp only [Tryd.ntmps145, List.size_toArray, List.length_cons, List.length_nil, Nat.reduceAdd, Nat.reduceSub, Array.replicate_succ, Array.replicate_zero, List.push_toArray, List.append_toArray, List.nil_append, List.cons_append]
  gi_wp2
  refine ⟨trivial, (callsIn_wide.2 (elements_any s _)).mono ?_⟩
  rintro e w1 ⟨rfl, rfl⟩
  gi_wp2
  have r2 : RowIn (((((w.alloc (.cells #[.slice Af f.length Cf] 75)).alloc (.cells #[.int .u64 ((word s 0 : Nat) : Int), .int .u64 ((word s 1 : Nat) : Int), .int .u64 ((word s 2 : Nat) : Int), .int .u64 ((word s 3 : Nat) : Int)] 91)).alloc (.cells #[.int .i64 k] 3)).alloc (.cells #[.bool false] 4)).alloc (.cells #[.int .u64 ((word s 0 : Nat) : Int), .int .u64 ((word s 1 : Nat) : Int), .int .u64 ((word s 2 : Nat) : Int), .int .u64 ((word s 3 : Nat) : Int)] 91)) (w.heap.size + 4) s := by
    have h := RowIn.alloc ((((w.alloc (.cells #[.slice Af f.length Cf] 75)).alloc (.cells #[.int .u64 ((word s 0 : Nat) : Int), .int .u64 ((word s 1 : Nat) : Int), .int .u64 ((word s 2 : Nat) : Int), .int .u64 ((word s 3 : Nat) : Int)] 91)).alloc (.cells #[.int .i64 k] 3)).alloc (.cells #[.bool false] 4)) HS.out
    simpa only [World.size_alloc, Nat.add_assoc, Nat.reduceAdd] using h
  obtain ⟨w4, hw4⟩ : ∃ w4, (((((w.alloc (.cells #[.slice Af f.length Cf] 75)).alloc (.cells #[.int .u64 ((word s 0 : Nat) : Int), .int .u64 ((word s 1 : Nat) : Int), .int .u64 ((word s 2 : Nat) : Int), .int .u64 ((word s 3 : Nat) : Int)] 91)).alloc (.cells #[.int .i64 k] 3)).alloc (.cells #[.bool false] 4)).alloc (.cells #[.int .u64 ((word s 0 : Nat) : Int), .int .u64 ((word s 1 : Nat) : Int), .int .u64 ((word s 2 : Nat) : Int), .int .u64 ((word s 3 : Nat) : Int)] 91)) = w4 := ⟨_, rfl⟩
  have hsz : w4.heap.size = w.heap.size + 5 := by rw [← hw4]; simp
  have hB0 : Below w.heap.size w w4 := by rw [← hw4]; exact (((((Below.refl _ w).alloc (Nat.le_refl _) _).alloc (by simp) _).alloc (by simp; omega) _).alloc (by simp; omega) _).alloc (by simp; omega) _
  have p0 : Boxed w4 w.heap.size 75 (.slice Af f.length Cf) := by rw [← hw4]; exact ((((Boxed.new w _ _).alloc _).alloc _).alloc _).alloc _
  have p2 : Boxed w4 (w.heap.size + 2) 3 (.int .i64 k) := by
    have h := Boxed.new ((w.alloc (.cells #[.slice Af f.length Cf] 75)).alloc (.cells #[.int .u64 ((word s 0 : Nat) : Int), .int .u64 ((word s 1 : Nat) : Int), .int .u64 ((word s 2 : Nat) : Int), .int .u64 ((word s 3 : Nat) : Int)] 91)) 3 (.int .i64 k)
    simp only [World.size_alloc, Nat.add_assoc, Nat.reduceAdd] at h
    rw [← hw4]
    exact (h.alloc _).alloc _
  have p3 : Boxed w4 (w.heap.size + 3) 4 (.bool false) := by
    have h := Boxed.new (((w.alloc (.cells #[.slice Af f.length Cf] 75)).alloc (.cells #[.int .u64 ((word s 0 : Nat) : Int), .int .u64 ((word s 1 : Nat) : Int), .int .u64 ((word s 2 : Nat) : Int), .int .u64 ((word s 3 : Nat) : Int)] 91)).alloc (.cells #[.int .i64 k] 3)) 4 (.bool false)
    simp only [World.size_alloc, Nat.add_assoc, Nat.reduceAdd] at h
    rw [← hw4]
    exact h.alloc _
  have r2' : RowIn w4 (w.heap.size + 4) s := by rw [← hw4]; exact r2
  have T4 : Tab w4 := HT.out.below hB0
  have HW4 := Lib.hid hw4
  simp only [Nat.add_assoc, Nat.reduceAdd]
  rw [hw4]
  clear hw4 r2
  refine wpIn_rangeFunc_ownG rfl (by omega) (gf := 159) (lb := #[.pointer (some ⟨w.heap.size + 4, 0, none⟩)]) rfl trivial (enters_of Tryd.func159 (by kernel_rfl) rfl)
    (elements1_stops _ w.heap.size (w.heap.size + 4) s w4 (by omega) HS.out r2' (by omega) htab T4) belowK_t (belowK_b (by omega)) (Below.refl _ _) (fun _ => rfl)
    (fun pre W => (NoneOn f s k pre ∧ Boxed W w.heap.size 75 (.slice Af f.length Cf) ∧ Boxed W (w.heap.size + 2) 3 (.int .i64 k) ∧ Boxed W (w.heap.size + 3) 4 (.bool false)) ∧ Below w.heap.size w W)
    (fun c pre W => (c = .ret ∧ ∃ ini last, pre = ini ++ [last] ∧ f.getD last.1 0 = k ∧ W.cell? ⟨w.heap.size + 3, 0, none⟩ = some (.bool true)) ∧ Below w.heap.size w W)
    (OwnFrom.and (Own.from (fun _ A B row hs hg hr => ⟨hs.1, blk_kept hs.2.1 hg hr, blk_kept hs.2.2.1 hg hr, blk_kept hs.2.2.2 hg hr⟩) _) (ownFrom_below (Nat.le_refl _) (by omega)))
    (fun c => OwnFrom.and (Own.from (fun _ A B row hs hg hr => by obtain ⟨hc, ini, last, e1, e3, e4⟩ := hs; exact ⟨hc, ini, last, e1, e3, cell_kept e4 hg hr⟩) _) (ownFrom_below (Nat.le_refl _) (by omega)))
    ⟨⟨fun _ h => (by cases h), p0, p2, p3⟩, hB0⟩
    (fun x => { tmps := #[.slice Af f.length Cf, rowV s, .int .i64 k, .pointer (some ⟨w.heap.size, 0, none⟩), .pointer (some ⟨w.heap.size + 1, 0, none⟩), .pointer (some ⟨w.heap.size + 2, 0, none⟩), .pointer (some ⟨w.heap.size + 3, 0, none⟩), .int .i64 ((x.1 : Nat) : Int), rowV s, .func (.func 159) #[] #[.pointer (some ⟨w.heap.size + 4, 0, none⟩)], .int .i64 ((x.1 : Nat) : Int), undef, undef, undef, undef, undef, undef], defers := [] }) ?assign ?body ?done ?stop
  case assign =>
    intro l x W K hK
    unfold encBt
    gi_wp2
    exact hK
  case body =>
    rintro l pre x W ⟨⟨hp, q0, q2, q3⟩, hB⟩ _
    obtain ⟨i, him⟩ := x
    dsimp only
    have hi := HEL.out i him
    have hiz : (i : Int) < (f.length : Int) := by omega
    obtain ⟨bf, o_f, rfl, hcf⟩ := (HF.out W hB).get hi
    have e1 : f.getD i 0 = f[i] := getD_lt 0 hi
    have b0 := q0.cell
    have b2 := q2.cell
    have hf := q3.frozen
    have hc3 := q3.cell
    have hmx : Tryd.prog.follows .mixedOrders = true := by kernel_rfl
    have HP := Lib.hid hp
    have HB := Lib.hid hB
    have Q0 := Lib.hid q0
    have Q2 := Lib.hid q2
    have Q3 := Lib.hid q3
    have HE1 := Lib.hid e1
    clear hp hB q0 q2 q3 e1
    by_cases he : f[i] = k
    · have heq : (f[i] == k) = true := by rw [beq_iff_eq]; exact he
      have HE := Lib.hid he
      clear he
      gi_wp2
      gi_region_with_o (fail)
      all_goals gi_wp2
      all_goals
        exact ⟨((KeepsOthers.setCell _ _ _).trans (KeepsOthers.drew _)).from _, ⟨rfl, pre, ⟨i, him⟩, rfl, HE1.out.trans HE.out, World.cell?_setCell_same' _ _ _ (by rw [hc3]; rfl)⟩, (HB.out.setCell (p := ⟨w.heap.size + 3, 0, none⟩) (by simp) _).drew⟩
    · have heq : (f[i] == k) = false := by rw [beq_eq_false_iff_ne]; exact he
      have HE := Lib.hid he
      clear he
      gi_wp2
      gi_region_with_o (fail)
      all_goals gi_wp2
      all_goals
        exact ⟨(KeepsOthers.drew _).from _, (Below.refl _ W).drew, ⟨fun y hy => (List.mem_append.1 hy).elim (HP.out y) (fun e e' => by simp at e; subst e; exact HE.out (HE1.out.symm.trans e')), Q0.out, Q2.out, Q3.out⟩, HB.out.drew⟩
  case done =>
    rintro D ys W hD rfl ⟨⟨hne, q0, q2, q3⟩, hB⟩ hK
    have HN := Lib.hid (on_none hne)
    have hcr := q3.cell
    have hfr := q3.frozen
    clear hne q0 q2
    gi_wp2
    have hK' := (KeepsOthers.setCell W ⟨w.heap.size + 3, 0, none⟩ (.bool false)).same D _ hK rfl
    refine ⟨by simp, .inl ⟨_, _, rfl, run_takeDeferred hK', ?_⟩⟩
    have hc5 := cell_kept (World.cell?_setCell_same' W ⟨w.heap.size + 3, 0, none⟩ (.bool false) (by rw [hcr]; rfl)) (grownBy_putObj' _ D (.deferred none)) (fun r e => by cases e; exact ⟨_, hK', rfl⟩)
    refine ⟨.bool false, ?_, by rw [HN.out], (hB.setCell (p := ⟨w.heap.size + 3, 0, none⟩) (by simp) _).trans (belowK_b (w := w) (Nat.le_refl _) _ D _ _ (by omega) hK' rfl rfl)⟩
    simp [results, Tryd.f145, go_sem, hc5]
  case stop =>
    rintro D c pre W hD hpre ⟨⟨rfl, ini, last, e1, e3, hcr⟩, hB⟩ hK
    obtain ⟨rest, hrest⟩ := hpre
    have HN := Lib.hid (on_found (k := k) (pre := ini) (rest := rest) (y := last) (by rw [← hrest, e1]) e3)
    gi_wp2
    refine ⟨by simp, .inl ⟨_, _, rfl, run_takeDeferred hK, ?_⟩⟩
    have hc5 := cell_kept hcr (grownBy_putObj' _ D (.deferred none)) (fun r e => by cases e; exact ⟨_, hK, rfl⟩)
    refine ⟨.bool true, ?_, by rw [HN.out], hB.trans (belowK_b (w := w) (Nat.le_refl _) W D _ _ (by omega) hK rfl rfl)⟩
    simp [results, Tryd.f145, go_sem, hc5]
end Go.Proofs.YtkomghohdhengaaDoor

/- The least fixed point of a monotone function, in numbers: what is met on the way from the least element on. -/
namespace Go.Proofs.YtkomghohdhengaaDoor
open Go.RowKit Go.Deep

/-- What the function has for x. -/
def nextF (f : List Int) (x : Nat) : Nat := (f.getD x 0).toNat
end Go.Proofs.YtkomghohdhengaaDoor

/- The model's FunFix. -/
namespace Go.Proofs.YtkomghohdhengaaDoor
open Go.RowKit Go.Deep

end Go.Proofs.YtkomghohdhengaaDoor

/- The model's FunPair. -/
namespace Go.Proofs.YtkomghohdhengaaDoor
open Go.RowKit Go.Deep

/-- Both parts put together, for the first k elements. -/
def pairN (f g : List Int) (n k : Nat) : List Int := (List.range k).map fun i => f.getD i 0 * (n : Int) + g.getD i 0
theorem pairN_length (f g : List Int) (n k : Nat) : (pairN f g n k).length = k := by unfold pairN; simp
noncomputable def pairOk (rows rows' rows2 : Rows2) (f g : List Int) : Bool := monoB rows rows' f && monoB rows rows2 g && decide (rows'.length * rows2.length ≤ 200)
noncomputable def pairL (rows rows' rows2 : Rows2) (f g : List Int) : List Int := if pairOk rows rows' rows2 f g = true then pairN f g rows2.length f.length else []
/-- A product of two numbers that are not great. -/
theorem mul_small {a b : Int} (ha : 0 ≤ a) (ha' : a ≤ 200) (hb : 0 ≤ b) (hb' : b ≤ 200) : 0 ≤ a * b ∧ a * b ≤ 40000 := by
  refine ⟨Int.mul_nonneg ha hb, ?_⟩
  have h1 := Int.mul_le_mul_of_nonneg_right ha' hb
  have h2 := Int.mul_le_mul_of_nonneg_left hb' (show (0 : Int) ≤ 200 by decide)
  omega
end Go.Proofs.YtkomghohdhengaaDoor

/- Two lists of one answer, each in memory of its own. -/
namespace Go.Proofs.YtkomghohdhengaaDoor
open Go.RowKit Go.Deep

/-- Two lists, each in memory of its own, and the Boolean t. -/
def OwnBB (xs ys : List Int) (t : Bool) (w : World) (e : Ending) (w' : World) : Prop :=
  ∃ v u, e = .returned (.tuple #[v, u, .bool t]) ∧ OwnI 3 w' v xs w.heap.size w'.heap.size ∧ OwnI 3 w' u ys w.heap.size w'.heap.size ∧ (v.ownBlock = none ∨ v.ownBlock ≠ u.ownBlock) ∧ Below w.heap.size w w'

/-- What grows elsewhere leaves a list alone. -/
theorem owns_far {W W' : World} {base size n : Nat} {t : TypeId} {v : Value} {xs : List Value} {blk : Option Nat} (h : W.ownsRow base t size v n xs) (hg : W.grownBy W' blk) (hne : v.ownBlock = none ∨ v.ownBlock ≠ blk) : W'.ownsRow base t size v n xs := by
  refine ⟨h.1, ?_⟩
  rcases h.2 with hl | ⟨g, cap, cur, hv, hb, hh, hr⟩
  · exact .inl hl
  · refine .inr ⟨g, cap, cur, hv, hb, ?_, hr⟩
    have hlt : g < W.heap.size := by
      rcases Nat.lt_or_ge g W.heap.size with hlt | hge
      · exact hlt
      · rw [Array.getElem?_eq_none hge] at hh; cases hh
    rw [hg.block g hlt (fun e => by
      subst hv
      rcases hne with h1 | h1
      · simp [Value.ownBlock] at h1
      · exact h1 (by simpa [Value.ownBlock] using e))]
    exact hh
theorem empty_two {w W : World} (hb : Below w.heap.size w W) (t : Bool) (ht : t = false) {xs ys : List Int} (hx : xs = []) (hy : ys = []) : OwnBB xs ys t w (.returned (.tuple #[.slice (some ⟨W.heap.size, 0, none⟩) 0 0, .slice (some ⟨W.heap.size + 1, 0, none⟩) 0 0, .bool false])) ((W.alloc (.cells #[] 3)).alloc (.cells #[] 3)) := by
  subst ht hx hy
  have e1 := empty_own W hb.size
  have hb1 := hb.alloc hb.size (.cells #[] 3)
  have e2 := empty_own (W.alloc (.cells #[] 3)) hb1.size
  have hs : (W.alloc (.cells #[] 3)).heap.size = W.heap.size + 1 := World.size_alloc _ _
  rw [hs] at e2
  have hk := (Below.refl (W.alloc (.cells #[] 3)).heap.size (W.alloc (.cells #[] 3))).alloc (Nat.le_refl _) (.cells #[] 3)
  refine ⟨_, _, rfl, (e1.kept fun b hb => ?_).wider (Nat.le_refl _) hk.size, e2, .inr ?_, hb1.alloc hb1.size _⟩
  · have hbb : b = W.heap.size := by simpa [Value.ownBlock, eq_comm] using hb
    exact hk.block b (by rw [hbb, hs]; exact Nat.lt_succ_self _)
  · simp [Value.ownBlock]
end Go.Proofs.YtkomghohdhengaaDoor

/- All lists that go on from a list, in the order in which a search finds them. Plain facts: no function is walked here. -/
namespace Go.Proofs.YtkomghohdhengaaDoor
open Go.RowKit Go.Deep

/-- All lists of f further numbers below m that keep P behind l, sorted. -/
def extL (m : Nat) (P : List Nat → Bool) : Nat → List Nat → List (List Nat)
  | 0, l => if P l then [l] else []
  | f + 1, l => (List.range m).flatMap fun k => extL m P f (l ++ [k])
theorem mem_extL {m : Nat} {P : List Nat → Bool} {x : List Nat} : ∀ (f : Nat) (l : List Nat), x ∈ extL m P f l ↔ ∃ t, t.length = f ∧ (∀ y ∈ t, y < m) ∧ x = l ++ t ∧ P x = true
  | 0, l => by
    unfold extL
    constructor
    · intro h
      by_cases hp : P l = true
      · rw [if_pos hp, List.mem_singleton] at h
        subst h
        exact ⟨[], rfl, fun y hy => (by cases hy), by simp, hp⟩
      · rw [if_neg hp] at h
        cases h
    · rintro ⟨t, ht, _, rfl, hp⟩
      obtain rfl := List.length_eq_zero_iff.1 ht
      rw [List.append_nil] at hp ⊢
      rw [if_pos hp]
      exact List.mem_singleton.2 rfl
  | f + 1, l => by
    unfold extL
    rw [List.mem_flatMap]
    constructor
    · rintro ⟨k, hk, hx⟩
      rw [List.mem_range] at hk
      obtain ⟨t, h1, h2, h3, h4⟩ := (mem_extL f (l ++ [k])).1 hx
      refine ⟨k :: t, by rw [List.length_cons, h1], fun y hy => ?_, by rw [h3, List.append_assoc]; rfl, h4⟩
      rcases List.mem_cons.1 hy with e | e
      · rw [e]; exact hk
      · exact h2 y e
    · rintro ⟨t, h1, h2, h3, h4⟩
      cases t with
      | nil => cases h1
      | cons k t =>
        refine ⟨k, List.mem_range.2 (h2 k List.mem_cons_self), (mem_extL f (l ++ [k])).2 ⟨t, by simpa using h1, fun y hy => h2 y (List.mem_cons_of_mem _ hy), by rw [h3, List.append_assoc]; rfl, h4⟩⟩
theorem extL_none {m : Nat} {P : List Nat → Bool} {f : Nat} {l : List Nat} (h : ∀ t, t.length = f → (∀ y ∈ t, y < m) → P (l ++ t) = false) : extL m P f l = [] := by
  refine List.eq_nil_iff_forall_not_mem.2 fun x hx => ?_
  obtain ⟨t, h1, h2, rfl, h4⟩ := (mem_extL f l).1 hx
  rw [h t h1 h2] at h4
  cases h4
/-- What is found when the first j numbers have been tried. -/
def foundJ (m : Nat) (P : List Nat → Bool) (f : Nat) (l : List Nat) (j : Nat) : List (List Nat) := (List.range j).flatMap fun k => extL m P f (l ++ [k])
theorem foundJ_zero (m : Nat) (P : List Nat → Bool) (f : Nat) (l : List Nat) : foundJ m P f l 0 = [] := rfl
theorem foundJ_succ (m : Nat) (P : List Nat → Bool) (f : Nat) (l : List Nat) (j : Nat) : foundJ m P f l (j + 1) = foundJ m P f l j ++ extL m P f (l ++ [j]) := by
  unfold foundJ
  rw [List.range_succ, List.flatMap_append]
  simp
theorem foundJ_all (m : Nat) (P : List Nat → Bool) (f : Nat) (l : List Nat) : foundJ m P f l m = extL m P (f + 1) l := rfl

/-- No more than so many. -/
theorem take_more {α : Type} (c : Nat) (xs ys : List α) : (xs.take c ++ ys).take c = (xs ++ ys).take c := by
  rw [List.take_append, List.take_append, List.take_take, Nat.min_self]
  by_cases h : xs.length ≤ c
  · rw [List.take_of_length_le h]
  · rw [List.length_take, Nat.min_eq_left (by omega), Nat.sub_self, show c - xs.length = 0 by omega]
theorem take_full {α : Type} {c : Nat} {xs : List α} (ys : List α) (h : c ≤ (xs.take c).length) : (xs ++ ys).take c = xs.take c := by
  rw [List.length_take] at h
  rw [List.take_append, show c - xs.length = 0 by omega, List.take_zero, List.append_nil]

/-- As many different members as there are in another list without doubles. -/
theorem nodup_le {α : Type} [DecidableEq α] : ∀ {xs ys : List α}, xs.Nodup → (∀ x ∈ xs, x ∈ ys) → xs.length ≤ ys.length
  | [], _, _, _ => Nat.zero_le _
  | a :: xs, ys, hn, h => by
    rw [List.nodup_cons] at hn
    have h1 := h a List.mem_cons_self
    have h2 := nodup_le (ys := ys.erase a) hn.2 fun x hx => (List.mem_erase_of_ne (fun e => hn.1 (by rw [← e]; exact hx))).2 (h x (List.mem_cons_of_mem _ hx))
    rw [List.length_erase_of_mem h1] at h2
    have : 0 < ys.length := List.length_pos_of_mem h1
    rw [List.length_cons]
    omega
end Go.Proofs.YtkomghohdhengaaDoor

/- All monotone functions, found element by element. Plain facts: no function is walked here. -/
namespace Go.Proofs.YtkomghohdhengaaDoor
open Go.RowKit Go.Deep

/-- A list of numbers that keeps what is below what. -/
def MonN (B B' : Nat → Nat → Bool) (l : List Nat) : Prop := ∀ a b : Nat, a < l.length → b < l.length → B a b = true → B' (l.getD a 0) (l.getD b 0) = true
open Classical in
noncomputable def monN (B B' : Nat → Nat → Bool) (l : List Nat) : Bool := decide (MonN B B' l)
theorem monN_iff {B B' : Nat → Nat → Bool} {l : List Nat} : monN B B' l = true ↔ MonN B B' l := by classical exact decide_eq_true_iff
/-- The number j fits behind the list. -/
def fineN (B B' : Nat → Nat → Bool) (l : List Nat) (j : Nat) : Bool := (List.range l.length).all fun k => (!B k l.length || B' (l.getD k 0) j) && (!B l.length k || B' j (l.getD k 0))
theorem fineN_iff {B B' : Nat → Nat → Bool} {l : List Nat} {j : Nat} : fineN B B' l j = true ↔ ∀ k, k < l.length → (B k l.length = true → B' (l.getD k 0) j = true) ∧ (B l.length k = true → B' j (l.getD k 0) = true) := by
  unfold fineN
  simp only [List.all_eq_true, List.mem_range, Bool.and_eq_true, Bool.or_eq_true, Bool.not_eq_true']
  constructor
  · intro h k hk
    obtain ⟨h1, h2⟩ := h k hk
    exact ⟨fun e => by rcases h1 with h1 | h1; (rw [e] at h1; cases h1); exact h1, fun e => by rcases h2 with h2 | h2; (rw [e] at h2; cases h2); exact h2⟩
  · intro h k hk
    obtain ⟨h1, h2⟩ := h k hk
    refine ⟨?_, ?_⟩
    · cases e : B k l.length with
      | false => exact .inl rfl
      | true => exact .inr (h1 e)
    · cases e : B l.length k with
      | false => exact .inl rfl
      | true => exact .inr (h2 e)
theorem getD_app {l t : List Nat} {k : Nat} (h : k < l.length) : (l ++ t).getD k 0 = l.getD k 0 := by
  rw [List.getD_eq_getElem?_getD, List.getD_eq_getElem?_getD, List.getElem?_append_left h]
theorem getD_end (l : List Nat) (j : Nat) (t : List Nat) : (l ++ j :: t).getD l.length 0 = j := by
  rw [List.getD_eq_getElem?_getD, List.getElem?_append_right (Nat.le_refl _), Nat.sub_self]
  rfl
theorem MonN.fine {B B' : Nat → Nat → Bool} {l t : List Nat} {j : Nat} (h : MonN B B' (l ++ j :: t)) : fineN B B' l j = true := fineN_iff.2 fun k hk => by
  have hl : (l ++ j :: t).length = l.length + (t.length + 1) := by rw [List.length_append, List.length_cons]
  refine ⟨fun e => ?_, fun e => ?_⟩
  · have := h k l.length (by omega) (by omega) e
    rw [getD_app hk, getD_end] at this
    exact this
  · have := h l.length k (by omega) (by omega) e
    rw [getD_app hk, getD_end] at this
    exact this
theorem MonN.snoc {B B' : Nat → Nat → Bool} {l : List Nat} {j : Nat} (h : MonN B B' l) (hf : fineN B B' l j = true) (hj : B' j j = true) : MonN B B' (l ++ [j]) := fun a b ha hb hab => by
  have hl : (l ++ [j]).length = l.length + 1 := by rw [List.length_append]; rfl
  rw [hl] at ha hb
  rw [fineN_iff] at hf
  by_cases e1 : a < l.length
  · by_cases e2 : b < l.length
    · rw [getD_app e1, getD_app e2]; exact h a b e1 e2 hab
    · obtain rfl : b = l.length := by omega
      rw [getD_app e1, getD_end]
      exact (hf a e1).1 hab
  · obtain rfl : a = l.length := by omega
    by_cases e2 : b < l.length
    · rw [getD_app e2, getD_end]
      exact (hf b e2).2 hab
    · obtain rfl : b = l.length := by omega
      rw [getD_end]
      exact hj
theorem MonN.nil (B B' : Nat → Nat → Bool) : MonN B B' [] := fun _ _ h => absurd h (Nat.not_lt_zero _)
theorem ext_notfine {B B' : Nat → Nat → Bool} {m f : Nat} {l : List Nat} {j : Nat} (h : fineN B B' l j = false) : extL m (monN B B') f (l ++ [j]) = [] :=
  extL_none fun t _ _ => by
    cases e : monN B B' (l ++ [j] ++ t) with
    | false => rfl
    | true =>
      rw [List.append_assoc] at e
      rw [(monN_iff.1 e).fine] at h
      cases h
theorem ext_end {B B' : Nat → Nat → Bool} {m : Nat} {l : List Nat} (h : MonN B B' l) : extL m (monN B B') 0 l = [l] := by
  unfold extL
  rw [if_pos (monN_iff.2 h)]
/-- All monotone functions of n elements to m elements, sorted. -/
noncomputable def funsN (B B' : Nat → Nat → Bool) (n m : Nat) : List (List Nat) := extL m (monN B B') n []

/-- There is a function of its own for each element and each one but the least to which all above it may go. -/
def stepM (B : Nat → Nat → Bool) (n z i v : Nat) : List Nat := (List.range n).map fun q => if B i q then v else z
theorem stepM_at {B : Nat → Nat → Bool} {n z i v q : Nat} (h : q < n) : (stepM B n z i v).getD q 0 = if B i q then v else z := by
  unfold stepM
  rw [List.getD_eq_getElem?_getD, List.getElem?_map, List.getElem?_range h]
  rfl
theorem funs_many {B B' : Nat → Nat → Bool} {n m z : Nat} (hr : ∀ a, a < n → B a a = true) (ha : ∀ a b, a < n → b < n → B a b = true → B b a = true → a = b) (ht : ∀ a b c, a < n → b < n → c < n → B a b = true → B b c = true → B a c = true)
    (hz : z < m) (hz2 : ∀ v, v < m → B' z v = true) (hr' : ∀ v, v < m → B' v v = true) : n * (m - 1) + 1 ≤ (funsN B B' n m).length := by
  let val : Nat → Nat := fun r => if r < z then r else r + 1
  let F : Nat → List Nat := fun t => if t = 0 then stepM B n z n z else stepM B n z ((t - 1) / (m - 1)) (val ((t - 1) % (m - 1)))
  have hv : ∀ r, r < m - 1 → val r < m ∧ val r ≠ z := fun r h => by
    show (if r < z then r else r + 1) < m ∧ (if r < z then r else r + 1) ≠ z
    split <;> omega
  have hF0 : ∀ q, q < n → (F 0).getD q 0 = z := fun q hq => by
    show ((stepM B n z n z).getD q 0) = z
    rw [stepM_at hq]
    split <;> rfl
  have hFt : ∀ t, 0 < t → t < n * (m - 1) + 1 → ((t - 1) / (m - 1)) < n ∧ (t - 1) % (m - 1) < m - 1 ∧ F t = stepM B n z ((t - 1) / (m - 1)) (val ((t - 1) % (m - 1))) := fun t h1 h2 => by
    have h0 : 0 < m - 1 := Nat.pos_of_ne_zero fun e => by rw [e, Nat.mul_zero] at h2; omega
    refine ⟨(Nat.div_lt_iff_lt_mul h0).2 (by omega), Nat.mod_lt _ h0, ?_⟩
    show (if t = 0 then _ else _) = _
    rw [if_neg (by omega)]
  have hlen : ∀ t, (F t).length = n := fun t => by
    show (if t = 0 then stepM B n z n z else _).length = n
    unfold stepM
    split <;> simp
  have key : ∀ i v i' v', i < n → i' < n → v ≠ z → v' ≠ z → stepM B n z i v = stepM B n z i' v' → i = i' ∧ v = v' := fun i v i' v' hi hi' h1 h2 e => by
    have e1 := congrArg (fun l => l.getD i 0) e
    have e2 := congrArg (fun l => l.getD i' 0) e
    rw [stepM_at hi, stepM_at hi, hr i hi, if_pos rfl] at e1
    rw [stepM_at hi', stepM_at hi', hr i' hi', if_pos rfl] at e2
    by_cases b1 : B i' i = true
    · rw [if_pos b1] at e1
      by_cases b2 : B i i' = true
      · exact ⟨ha i i' hi hi' b2 b1, e1⟩
      · rw [if_neg b2] at e2; exact absurd e2.symm h2
    · rw [if_neg b1] at e1; exact absurd e1 h1
  have hinj : ∀ t t', t < n * (m - 1) + 1 → t' < n * (m - 1) + 1 → F t = F t' → t = t' := fun t t' h h' e => by
    have aux : ∀ s, 0 < s → s < n * (m - 1) + 1 → F 0 ≠ F s := fun s h1 h2 e => by
      obtain ⟨g1, g2, g3⟩ := hFt s h1 h2
      have e1 := congrArg (fun l => l.getD ((s - 1) / (m - 1)) 0) e
      rw [hF0 _ g1, g3, stepM_at g1, hr _ g1, if_pos rfl] at e1
      exact (hv _ g2).2 e1.symm
    by_cases h0 : t = 0
    · subst h0
      by_cases h0' : t' = 0
      · exact h0'.symm
      · exact absurd e (aux t' (by omega) h')
    · by_cases h0' : t' = 0
      · subst h0'
        exact absurd e.symm (aux t (by omega) h)
      · obtain ⟨g1, g2, g3⟩ := hFt t (by omega) h
        obtain ⟨k1, k2, k3⟩ := hFt t' (by omega) h'
        rw [g3, k3] at e
        obtain ⟨e1, e2⟩ := key _ _ _ _ g1 k1 (hv _ g2).2 (hv _ k2).2 e
        have e3 : (t - 1) % (m - 1) = (t' - 1) % (m - 1) := by
          have e4 : (if (t - 1) % (m - 1) < z then (t - 1) % (m - 1) else (t - 1) % (m - 1) + 1) = (if (t' - 1) % (m - 1) < z then (t' - 1) % (m - 1) else (t' - 1) % (m - 1) + 1) := e2
          split at e4 <;> split at e4 <;> omega
        have d1 := Nat.div_add_mod (t - 1) (m - 1)
        have d2 := Nat.div_add_mod (t' - 1) (m - 1)
        rw [e1, e3] at d1
        omega
  have hmem : ∀ t, t < n * (m - 1) + 1 → F t ∈ funsN B B' n m := fun t h => by
    refine (mem_extL n []).2 ⟨F t, hlen t, fun y hy => ?_, rfl, monN_iff.2 fun a b hal hbl hab => ?_⟩
    · by_cases h0 : t = 0
      · subst h0
        have : y ∈ stepM B n z n z := hy
        unfold stepM at this
        obtain ⟨q, _, rfl⟩ := List.mem_map.1 this
        split <;> exact hz
      · obtain ⟨g1, g2, g3⟩ := hFt t (by omega) h
        rw [g3] at hy
        unfold stepM at hy
        obtain ⟨q, _, rfl⟩ := List.mem_map.1 hy
        split
        · exact (hv _ g2).1
        · exact hz
    · rw [hlen] at hal hbl
      by_cases h0 : t = 0
      · subst h0
        rw [hF0 a hal, hF0 b hbl]
        exact hz2 z hz
      · obtain ⟨g1, g2, g3⟩ := hFt t (by omega) h
        rw [g3, stepM_at hal, stepM_at hbl]
        by_cases b1 : B ((t - 1) / (m - 1)) a = true
        · rw [if_pos b1, if_pos (ht _ _ _ g1 hal hbl b1 hab)]
          exact hr' _ (hv _ g2).1
        · rw [if_neg b1]
          apply hz2
          split
          · exact (hv _ g2).1
          · exact hz
  have hnd : ((List.range (n * (m - 1) + 1)).map F).Nodup := by
    rw [List.Nodup, List.pairwise_map]
    exact List.Pairwise.imp_of_mem (fun {a b} ha hb hne e => hne (hinj a b (List.mem_range.1 ha) (List.mem_range.1 hb) e)) List.nodup_range
  have hle := nodup_le hnd (ys := funsN B B' n m) fun x hx => by
    obtain ⟨t, ht, rfl⟩ := List.mem_map.1 hx
    exact hmem t (List.mem_range.1 ht)
  rw [List.length_map, List.length_range] at hle
  exact hle
end Go.Proofs.YtkomghohdhengaaDoor

/- The program's OrderLeast. -/
namespace Go.Proofs.YtkomghohdhengaaDoor
open Go.RowKit Go.Deep Go.Shelf

set_option maxHeartbeats 2000000 in
theorem implLeast_any (v : Value) (rows : Rows2) (w : World) (hv : RowsAt w v rows) (hT : Tab w) (hn : bulk rows ≤ 1048576) :
    Calls Tryd.prog 38 #[.agg #[v]] w (SaysI (leastB rows) w) := by
  have hH := Held.start w 25 hv
  have hT1 := hT.below ((Below.refl _ w).alloc (Nat.le_refl _) (.cells #[v] 25))
  have hcall := fun t h => gridOf_t v rows _ hH.2.1 hT1 hn (t := t) h
  have hz := (zero_of_info zeroGrid).1
  obtain ⟨A, C, rfl, _⟩ := hv
  have HH := Lib.hid hH
  have HT := Lib.hid hT1
  clear hH hT hT1
  unfold leastB
  cases hval : validB rows with
  | false =>
    have hc := hcall false hval
    rw [if_neg (by simp)]
    clear hval hcall
    go_enter Tryd.func38, Tryd.ntmps38
    go_wp2_with (first | (go_at_call 82; refine hc.mono ?_; clear hc; rintro e w1 ⟨⟨g, hg, rfl⟩, hb1⟩; have HG := Lib.hid hg; have H1 := Lib.hid (HH.out.below hb1); clear hg hb1) | (refine wpList_store_row rfl 93 (.tmp 3) (.tmp 8) rfl w1.heap.size (gridCells g) rfl rfl 93 (gridCells fun _ => 0) (store_new w1).1 (by rw [gridCells_size]; exact sizeGrid) (by rw [gridCells_size, gridCells_size]) (gridCells_one _) ?_))
    go_ret
    exact ⟨rfl, (H1.out.below (newGrid_below g w1)).2.2.1⟩
  | true =>
    have hok := ok_of_valid hval
    have hc := hcall true hval
    have hle := least_eq hok
    have hgn := hok.gridN
    rw [if_pos rfl, hle]
    have HN := Lib.hid hgn
    clear hval hcall hle hgn hok
    go_enter Tryd.func38, Tryd.ntmps38
    go_wp2_with (first | (go_at_call 82; refine hc.mono ?_; clear hc; rintro e w1 ⟨⟨g, hg, rfl⟩, hb1⟩; obtain ⟨hg1, hg2⟩ := hg; obtain rfl := hg2 rfl; clear hg2; have HG := Lib.hid hg1; have H1 := Lib.hid (HH.out.below hb1); have T1 := Lib.hid (HT.out.below hb1); clear hg1 hb1; have H2 := Lib.hid (H1.out.below (newGrid_below (gridF rows) w1)); have T2 := Lib.hid (T1.out.below (newGrid_below (gridF rows) w1)); have G2 := Lib.hid (newGrid_at HG.out w1)) | (refine wpList_store_row rfl 93 (.tmp 3) (.tmp 8) rfl w1.heap.size (gridCells (gridF rows)) rfl rfl 93 (gridCells fun _ => 0) (store_new w1).1 (by rw [gridCells_size]; exact sizeGrid) (by rw [gridCells_size, gridCells_size]) (gridCells_one _) ?_) | (go_at_call 92; refine (least_any w1.heap.size rows.length (gridF rows) _ G2.out T2.out HN.out).mono ?_; rintro e w3 ⟨rfl, hb3⟩; have H3 := Lib.hid (H2.out.below hb3); clear hb3))
    go_ret
    exact ⟨rfl, H3.out.2.2.1⟩
end Go.Proofs.YtkomghohdhengaaDoor

/- The program's OrderJoin. -/
namespace Go.Proofs.YtkomghohdhengaaDoor
open Go.RowKit Go.Deep Go.Shelf

set_option maxHeartbeats 4000000 in
theorem implJoin_any (v : Value) (rows : Rows2) (a b : Int) (w : World) (hv : RowsAt w v rows) (hT : Tab w) (hn : bulk rows ≤ 1048576) :
    Calls Tryd.prog 23 #[.agg #[v], .int .i64 a, .int .i64 b] w (SaysI (joinB rows a b) w) := by
  have hH := Held.start w 25 hv
  have hT1 := hT.below ((Below.refl _ w).alloc (Nat.le_refl _) (.cells #[v] 25))
  have hcall := fun t h => gridOf_t v rows _ hH.2.1 hT1 hn (t := t) h
  have hz := (zero_of_info zeroGrid).1
  obtain ⟨A, C, rfl, _⟩ := hv
  have HH := Lib.hid hH
  have HT := Lib.hid hT1
  clear hH hT hT1
  cases hval : validB rows with
  | false =>
    have hc := hcall false hval
    have e : joinB rows a b = -1 := by unfold joinB hasB; rw [hval]; rfl
    rw [e]
    clear hval hcall e
    go_enter Tryd.func23, Tryd.ntmps23
    go_wp2_with (first | (go_at_call 82; refine hc.mono ?_; clear hc; rintro e w1 ⟨⟨g, hg, rfl⟩, hb1⟩; have HG := Lib.hid hg; have H1 := Lib.hid (HH.out.below hb1); clear hg hb1) | (refine wpList_store_row rfl 93 (.tmp 7) (.tmp 12) rfl w1.heap.size (gridCells g) rfl rfl 93 (gridCells fun _ => 0) (store_new w1).1 (by rw [gridCells_size]; exact sizeGrid) (by rw [gridCells_size, gridCells_size]) (gridCells_one _) ?_))
    go_ret
    exact ⟨rfl, (H1.out.below (newGrid_below g w1)).2.2.1⟩
  | true =>
    have hok := ok_of_valid hval
    have hc := hcall true hval
    by_cases ha : 0 ≤ a ∧ a < rows.length
    · by_cases hb : 0 ≤ b ∧ b < rows.length
      · obtain ⟨an, rfl⟩ : ∃ an : Nat, a = (an : Int) := ⟨a.toNat, by omega⟩
        obtain ⟨bn, rfl⟩ : ∃ bn : Nat, b = (bn : Int) := ⟨b.toNat, by omega⟩
        have ha1 : an < rows.length := by omega
        have hb1 : bn < rows.length := by omega
        have hn2 := hok.len.2
        have e : joinB rows an bn = bottomF (gridF rows) (gridF rows an &&& gridF rows bn) := by
          unfold joinB hasB
          rw [hval, decide_eq_true ha, decide_eq_true hb, Int.toNat_natCast, Int.toNat_natCast]
          exact (if_pos rfl).trans (join_eq hok ha1 hb1)
        rw [e]
        have HA := Lib.hid ha
        have HB := Lib.hid hb
        have HB2 := Lib.hid (fun k (hk : (gridF rows an).testBit k = true) => hok.lt200 hk)
        clear hval hcall hok e ha hb
        go_enter Tryd.func23, Tryd.ntmps23
        go_wp2_with (first | (go_at_call 82; refine hc.mono ?_; clear hc; rintro e w1 ⟨⟨g, hg, rfl⟩, hb1⟩; obtain ⟨hg1, hg2⟩ := hg; obtain rfl := hg2 rfl; clear hg2; have HG := Lib.hid hg1; have H1 := Lib.hid (HH.out.below hb1); have T1 := Lib.hid (HT.out.below hb1); clear hg1 hb1; have H2 := Lib.hid (H1.out.below (newGrid_below (gridF rows) w1)); have T2 := Lib.hid (T1.out.below (newGrid_below (gridF rows) w1)); have G2 := Lib.hid (newGrid_at HG.out w1); have hc2 : (World.setRow (w1.alloc (.cells (gridCells fun _ => 0) 93)) w1.heap.size (gridCells (gridF rows))).cell? ⟨w.heap.size, 0, none⟩ = some (.slice A rows.length C) := H2.out.1) | (refine wpList_store_row rfl 93 (.tmp 7) (.tmp 12) rfl w1.heap.size (gridCells (gridF rows)) rfl rfl 93 (gridCells fun _ => 0) (store_new w1).1 (by rw [gridCells_size]; exact sizeGrid) (by rw [gridCells_size, gridCells_size]) (gridCells_one _) ?_))
        refine (isElement_any _ rows an _ H2.out.2.1).mono ?_
        rw [decide_eq_true HA.out]
        rintro e w3 ⟨rfl, hb3⟩
        have H3 := Lib.hid (H2.out.below hb3)
        have T3 := Lib.hid (T2.out.below hb3)
        have G3 := Lib.hid (G2.out.below hb3 G2.out.lt)
        have hc3 := H3.out.1
        clear hb3 hc2
        go_wp2_with fail
        refine (isElement_any _ rows bn _ H3.out.2.1).mono ?_
        rw [decide_eq_true HB.out]
        rintro e w4 ⟨rfl, hb4⟩
        have H4 := Lib.hid (H3.out.below hb4)
        have T4 := Lib.hid (T3.out.below hb4)
        have G4 := Lib.hid (G3.out.below hb4 G3.out.lt)
        clear hb4 hc3
        go_wp2_with (go_at_call 75; refine (join_any w1.heap.size an bn an bn (gridF rows) _ G4.out T4.out rfl rfl (by omega) (by omega) HB2.out).mono ?_; rintro e w5 ⟨rfl, hb5⟩; have H5 := Lib.hid (H4.out.below hb5); clear hb5)
        go_ret
        exact ⟨rfl, H5.out.2.2.1⟩
      · have e : joinB rows a b = -1 := by unfold joinB hasB; rw [decide_eq_false hb]; simp
        rw [e]
        have HA := Lib.hid ha
        have HB := Lib.hid hb
        clear hval hcall hok e ha hb
        go_enter Tryd.func23, Tryd.ntmps23
        go_wp2_with (first | (go_at_call 82; refine hc.mono ?_; clear hc; rintro e w1 ⟨⟨g, hg, rfl⟩, hb1⟩; have HG := Lib.hid hg; have H1 := Lib.hid (HH.out.below hb1); clear hg hb1; have H2 := Lib.hid (H1.out.below (newGrid_below g w1)); have hc2 : (World.setRow (w1.alloc (.cells (gridCells fun _ => 0) 93)) w1.heap.size (gridCells g)).cell? ⟨w.heap.size, 0, none⟩ = some (.slice A rows.length C) := H2.out.1) | (refine wpList_store_row rfl 93 (.tmp 7) (.tmp 12) rfl w1.heap.size (gridCells g) rfl rfl 93 (gridCells fun _ => 0) (store_new w1).1 (by rw [gridCells_size]; exact sizeGrid) (by rw [gridCells_size, gridCells_size]) (gridCells_one _) ?_))
        refine (isElement_any _ rows a _ H2.out.2.1).mono ?_
        rw [decide_eq_true HA.out]
        rintro e w3 ⟨rfl, hb3⟩
        have H3 := Lib.hid (H2.out.below hb3)
        have hc3 := H3.out.1
        clear hb3 hc2
        go_wp2_with fail
        refine (isElement_any _ rows b _ H3.out.2.1).mono ?_
        rw [decide_eq_false HB.out]
        rintro e w4 ⟨rfl, hb4⟩
        have H4 := Lib.hid (H3.out.below hb4)
        clear hb4 hc3
        go_wp2
        go_ret
        exact ⟨rfl, H4.out.2.2.1⟩
    · have e : joinB rows a b = -1 := by unfold joinB hasB; rw [decide_eq_false ha]; simp
      rw [e]
      have HA := Lib.hid ha
      clear hval hcall hok e ha
      go_enter Tryd.func23, Tryd.ntmps23
      go_wp2_with (first | (go_at_call 82; refine hc.mono ?_; clear hc; rintro e w1 ⟨⟨g, hg, rfl⟩, hb1⟩; have HG := Lib.hid hg; have H1 := Lib.hid (HH.out.below hb1); clear hg hb1; have H2 := Lib.hid (H1.out.below (newGrid_below g w1)); have hc2 : (World.setRow (w1.alloc (.cells (gridCells fun _ => 0) 93)) w1.heap.size (gridCells g)).cell? ⟨w.heap.size, 0, none⟩ = some (.slice A rows.length C) := H2.out.1) | (refine wpList_store_row rfl 93 (.tmp 7) (.tmp 12) rfl w1.heap.size (gridCells g) rfl rfl 93 (gridCells fun _ => 0) (store_new w1).1 (by rw [gridCells_size]; exact sizeGrid) (by rw [gridCells_size, gridCells_size]) (gridCells_one _) ?_))
      refine (isElement_any _ rows a _ H2.out.2.1).mono ?_
      rw [decide_eq_false HA.out]
      rintro e w3 ⟨rfl, hb3⟩
      have H3 := Lib.hid (H2.out.below hb3)
      clear hb3 hc2
      go_wp2
      go_ret
      exact ⟨rfl, H3.out.2.2.1⟩
end Go.Proofs.YtkomghohdhengaaDoor

/- The program's OrderMeet. -/
namespace Go.Proofs.YtkomghohdhengaaDoor
open Go.RowKit Go.Deep Go.Shelf

set_option maxHeartbeats 4000000 in
theorem implMeet_any (v : Value) (rows : Rows2) (a b : Int) (w : World) (hv : RowsAt w v rows) (hT : Tab w) (hn : bulk rows ≤ 1048576) :
    Calls Tryd.prog 27 #[.agg #[v], .int .i64 a, .int .i64 b] w (SaysI (meetB rows a b) w) := by
  have hH := Held.start w 25 hv
  have hT1 := hT.below ((Below.refl _ w).alloc (Nat.le_refl _) (.cells #[v] 25))
  have hcall := fun t h => gridOf_t v rows _ hH.2.1 hT1 hn (t := t) h
  have hz := (zero_of_info zeroGrid).1
  obtain ⟨A, C, rfl, _⟩ := hv
  have HH := Lib.hid hH
  have HT := Lib.hid hT1
  clear hH hT hT1
  cases hval : validB rows with
  | false =>
    have hc := hcall false hval
    have e : meetB rows a b = -1 := by unfold meetB hasB; rw [hval]; rfl
    rw [e]
    clear hval hcall e
    go_enter Tryd.func27, Tryd.ntmps27
    go_wp2_with (first | (go_at_call 82; refine hc.mono ?_; clear hc; rintro e w1 ⟨⟨g, hg, rfl⟩, hb1⟩; have HG := Lib.hid hg; have H1 := Lib.hid (HH.out.below hb1); clear hg hb1) | (refine wpList_store_row rfl 93 (.tmp 7) (.tmp 13) rfl w1.heap.size (gridCells g) rfl rfl 93 (gridCells fun _ => 0) (store_new w1).1 (by rw [gridCells_size]; exact sizeGrid) (by rw [gridCells_size, gridCells_size]) (gridCells_one _) ?_))
    go_ret
    exact ⟨rfl, (H1.out.below (newGrid_below g w1)).2.2.1⟩
  | true =>
    have hok := ok_of_valid hval
    have hc := hcall true hval
    by_cases ha : 0 ≤ a ∧ a < rows.length
    · by_cases hb : 0 ≤ b ∧ b < rows.length
      · obtain ⟨an, rfl⟩ : ∃ an : Nat, a = (an : Int) := ⟨a.toNat, by omega⟩
        obtain ⟨bn, rfl⟩ : ∃ bn : Nat, b = (bn : Int) := ⟨b.toNat, by omega⟩
        have ha1 : an < rows.length := by omega
        have hb1 : bn < rows.length := by omega
        have hn2 := hok.len.2
        have e : meetB rows an bn = bottomF (gridF (backRows rows)) (gridF (backRows rows) an &&& gridF (backRows rows) bn) := by
          unfold meetB hasB
          rw [hval, decide_eq_true ha, decide_eq_true hb, Int.toNat_natCast, Int.toNat_natCast]
          exact (if_pos rfl).trans (join_eq hok.back (by rw [backRows_len]; exact ha1) (by rw [backRows_len]; exact hb1))
        rw [e]
        have HA := Lib.hid ha
        have HB := Lib.hid hb
        have HB2 := Lib.hid (fun k (hk : (gridF (backRows rows) an).testBit k = true) => hok.back.lt200 hk)
        have HN := Lib.hid hok.gridN
        have HBN := Lib.hid (backN_rows hok)
        have HEL := Lib.hid (fun i (_ : i < rows.length) k (hk : k ∈ elems (gridF rows i)) => hok.lt200 ((mem_elems (hok.lt i)).1 hk))
        have HLT := Lib.hid hok.back.lt
        clear hval hcall hok e ha hb
        go_enter Tryd.func27, Tryd.ntmps27
        go_wp2_with (first | (go_at_call 82; refine hc.mono ?_; clear hc; rintro e w1 ⟨⟨g, hg, rfl⟩, hb1⟩; obtain ⟨hg1, hg2⟩ := hg; obtain rfl := hg2 rfl; clear hg2; have HG := Lib.hid hg1; have H1 := Lib.hid (HH.out.below hb1); have T1 := Lib.hid (HT.out.below hb1); clear hg1 hb1; have H2 := Lib.hid (H1.out.below (newGrid_below (gridF rows) w1)); have T2 := Lib.hid (T1.out.below (newGrid_below (gridF rows) w1)); have G2 := Lib.hid (newGrid_at HG.out w1); have hc2 : (World.setRow (w1.alloc (.cells (gridCells fun _ => 0) 93)) w1.heap.size (gridCells (gridF rows))).cell? ⟨w.heap.size, 0, none⟩ = some (.slice A rows.length C) := H2.out.1) | (refine wpList_store_row rfl 93 (.tmp 7) (.tmp 13) rfl w1.heap.size (gridCells (gridF rows)) rfl rfl 93 (gridCells fun _ => 0) (store_new w1).1 (by rw [gridCells_size]; exact sizeGrid) (by rw [gridCells_size, gridCells_size]) (gridCells_one _) ?_))
        refine (isElement_any _ rows an _ H2.out.2.1).mono ?_
        rw [decide_eq_true HA.out]
        rintro e w3 ⟨rfl, hb3⟩
        have H3 := Lib.hid (H2.out.below hb3)
        have T3 := Lib.hid (T2.out.below hb3)
        have G3 := Lib.hid (G2.out.below hb3 G2.out.lt)
        have hc3 := H3.out.1
        clear hb3 hc2
        go_wp2_with fail
        refine (isElement_any _ rows bn _ H3.out.2.1).mono ?_
        rw [decide_eq_true HB.out]
        rintro e w4 ⟨rfl, hb4⟩
        have H4 := Lib.hid (H3.out.below hb4)
        have T4 := Lib.hid (T3.out.below hb4)
        have G4 := Lib.hid (G3.out.below hb4 G3.out.lt)
        clear hb4 hc3
        go_wp2_with fail
        refine (back_any w1.heap.size rows.length (gridF rows) w4 G4.out T4.out HN.out HEL.out).mono ?_
        rintro e w5 ⟨rfl, hb5⟩
        rw [HBN.out]
        have H5 := Lib.hid (H4.out.below hb5)
        have T5 := Lib.hid (T4.out.below hb5)
        have H6 := Lib.hid (H5.out.below (newGrid_below (gridF (backRows rows)) w5))
        have T6 := Lib.hid (T5.out.below (newGrid_below (gridF (backRows rows)) w5))
        have G6 := Lib.hid (newGrid_at HLT.out w5)
        clear hb5
        go_wp2_with (first | (refine wpList_store_row rfl 93 (.tmp 9) (.tmp 29) rfl w5.heap.size (gridCells (gridF (backRows rows))) rfl rfl 93 (gridCells fun _ => 0) (store_new w5).1 (by rw [gridCells_size]; exact sizeGrid) (by rw [gridCells_size, gridCells_size]) (gridCells_one _) ?_) | (go_at_call 75; refine (join_any w5.heap.size an bn an bn (gridF (backRows rows)) _ G6.out T6.out rfl rfl (by omega) (by omega) HB2.out).mono ?_; rintro e w7 ⟨rfl, hb7⟩; have H7 := Lib.hid (H6.out.below hb7); clear hb7))
        go_ret
        exact ⟨rfl, H7.out.2.2.1⟩
      · have e : meetB rows a b = -1 := by unfold meetB hasB; rw [decide_eq_false hb]; simp
        rw [e]
        have HA := Lib.hid ha
        have HB := Lib.hid hb
        clear hval hcall hok e ha hb
        go_enter Tryd.func27, Tryd.ntmps27
        go_wp2_with (first | (go_at_call 82; refine hc.mono ?_; clear hc; rintro e w1 ⟨⟨g, hg, rfl⟩, hb1⟩; have HG := Lib.hid hg; have H1 := Lib.hid (HH.out.below hb1); clear hg hb1; have H2 := Lib.hid (H1.out.below (newGrid_below g w1)); have hc2 : (World.setRow (w1.alloc (.cells (gridCells fun _ => 0) 93)) w1.heap.size (gridCells g)).cell? ⟨w.heap.size, 0, none⟩ = some (.slice A rows.length C) := H2.out.1) | (refine wpList_store_row rfl 93 (.tmp 7) (.tmp 13) rfl w1.heap.size (gridCells g) rfl rfl 93 (gridCells fun _ => 0) (store_new w1).1 (by rw [gridCells_size]; exact sizeGrid) (by rw [gridCells_size, gridCells_size]) (gridCells_one _) ?_))
        refine (isElement_any _ rows a _ H2.out.2.1).mono ?_
        rw [decide_eq_true HA.out]
        rintro e w3 ⟨rfl, hb3⟩
        have H3 := Lib.hid (H2.out.below hb3)
        have hc3 := H3.out.1
        clear hb3 hc2
        go_wp2_with fail
        refine (isElement_any _ rows b _ H3.out.2.1).mono ?_
        rw [decide_eq_false HB.out]
        rintro e w4 ⟨rfl, hb4⟩
        have H4 := Lib.hid (H3.out.below hb4)
        clear hb4 hc3
        go_wp2
        go_ret
        exact ⟨rfl, H4.out.2.2.1⟩
    · have e : meetB rows a b = -1 := by unfold meetB hasB; rw [decide_eq_false ha]; simp
      rw [e]
      have HA := Lib.hid ha
      clear hval hcall hok e ha
      go_enter Tryd.func27, Tryd.ntmps27
      go_wp2_with (first | (go_at_call 82; refine hc.mono ?_; clear hc; rintro e w1 ⟨⟨g, hg, rfl⟩, hb1⟩; have HG := Lib.hid hg; have H1 := Lib.hid (HH.out.below hb1); clear hg hb1; have H2 := Lib.hid (H1.out.below (newGrid_below g w1)); have hc2 : (World.setRow (w1.alloc (.cells (gridCells fun _ => 0) 93)) w1.heap.size (gridCells g)).cell? ⟨w.heap.size, 0, none⟩ = some (.slice A rows.length C) := H2.out.1) | (refine wpList_store_row rfl 93 (.tmp 7) (.tmp 13) rfl w1.heap.size (gridCells g) rfl rfl 93 (gridCells fun _ => 0) (store_new w1).1 (by rw [gridCells_size]; exact sizeGrid) (by rw [gridCells_size, gridCells_size]) (gridCells_one _) ?_))
      refine (isElement_any _ rows a _ H2.out.2.1).mono ?_
      rw [decide_eq_false HA.out]
      rintro e w3 ⟨rfl, hb3⟩
      have H3 := Lib.hid (H2.out.below hb3)
      clear hb3 hc2
      go_wp2
      go_ret
      exact ⟨rfl, H3.out.2.2.1⟩
end Go.Proofs.YtkomghohdhengaaDoor

/- The program's closed: rows that are made larger until nothing is added. -/
namespace Go.Proofs.YtkomghohdhengaaDoor
open Go.RowKit Go.Deep Go.Shelf
attribute [local go_sem] Oper.semAt_some

end Go.Proofs.YtkomghohdhengaaDoor

/- OrderBack, of the model and of the program. -/
namespace Go.Proofs.YtkomghohdhengaaDoor
open Go.RowKit Go.Deep Go.Shelf

end Go.Proofs.YtkomghohdhengaaDoor
