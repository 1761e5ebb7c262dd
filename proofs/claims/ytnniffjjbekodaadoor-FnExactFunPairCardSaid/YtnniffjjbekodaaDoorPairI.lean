/- The program's FunPair. -/
import Derived.Test.YtnniffjjbekodaaDoorPairS
import Derived.Test.YtnniffjjbekodaaDoorImplFM
import Derived.Laws.MakeOwn
namespace Go.Proofs.YtnniffjjbekodaaDoor
open Go.RowKit Go.Deep Go.Shelf

set_option maxRecDepth 100000 in
set_option maxHeartbeats 4000000 in
theorem paired_any (vf vg : Value) (f g : List Int) (n : Nat) (w : World) (hf : IntsAt w vf f) (hg : IntsAt w vg g) (hfl : f.length ≤ 200) (hgl : g.length = f.length) (hn : n ≤ 200)
    (hrf : ∀ x ∈ f, 0 ≤ x ∧ x ≤ 200) (hrg : ∀ x ∈ g, 0 ≤ x ∧ x ≤ 200) :
    Calls Tryd.prog 64 #[vf, vg, .int .i64 (n : Int)] w (OwnQ (pairN f g n f.length) w) := by
  have HFA := Lib.hid (fun W (h : Below w.heap.size w W) => hf.below h)
  have HGA := Lib.hid (fun W (h : Below w.heap.size w W) => hg.below h)
  have HRF := Lib.hid hrf
  have HRG := Lib.hid hrg
  have HGL := Lib.hid hgl
  obtain ⟨Af, Cf, rfl, hCf, hmf, _⟩ := hf
  obtain ⟨Ag, Cg, rfl, hCg, hmg, _⟩ := hg
  unfold maxLen at hmf hmg
  have hmk := run_make_row' (P := Tryd.prog) 64 3 (.int .i64 0) 8 Tryd.underlying64 infoInt rfl .i64 .i64 f.length (by omega) (by omega)
  have HRW := Lib.hid (World.rowIs_made w (.int .i64 0) f.length 3)
  have HB0 := Lib.hid ((Below.refl w.heap.size w).alloc (Nat.le_refl _) (.cells (madeCells #[.int .i64 0] f.length) 3))
  clear hrf hrg hgl
  go_enter Tryd.func64, Tryd.ntmps64
  go_wp2
  clear hmk
  go_loopw [8, 14] (fun _ kv wr => ∃ k : Nat, k ≤ f.length ∧ kv = .int .i64 k ∧ wr.rowIs w.heap.size 3 f.length (fun i => if i < k then .int .i64 (f.getD i 0 * (n : Int) + g.getD i 0) else .int .i64 0) ∧ Below w.heap.size w wr) (fun _ kv _ => f.length - (intOf kv).toNat)
  case atStart => exact ⟨0, Nat.zero_le _, rfl, HRW.out.congr (fun i _ => by rw [if_neg (Nat.not_lt_zero i)]), HB0.out⟩
  case round =>
    obtain ⟨k, hk, rfl, hr, hB⟩ := hrel
    have HR := Lib.hid hr
    have HB := Lib.hid hB
    clear hB HRW HB0
    by_cases hlt : k < f.length
    · have hc := hr.cell hlt
      have hfz := hr.frozen k
      rw [if_neg (Nat.lt_irrefl k)] at hc
      have hkz : (k : Int) < (f.length : Int) := by omega
      have hltg : k < g.length := by have := HGL.out; omega
      have hkg : (k : Int) < (g.length : Int) := by omega
      obtain ⟨b1, o1, rfl, hcf⟩ := (HFA.out wr HB.out).get hlt
      obtain ⟨b2, o2, rfl, hcg⟩ := (HGA.out wr HB.out).get hltg
      have hr1 := HRF.out _ (List.getElem_mem hlt)
      have hr2 := HRG.out _ (List.getElem_mem hltg)
      have hpk := mul_small (a := f[k]) (b := (n : Int)) hr1.1 hr1.2 (by omega) (by omega)
      have HA := Lib.hid (show f.getD k 0 * (n : Int) + g.getD k 0 = f[k] * (n : Int) + g[k] by rw [getD_lt 0 hlt, getD_lt 0 hltg])
      have HRD := Lib.hid (show wr.drew.rowIs w.heap.size 3 f.length _ from HR.out)
      have HBD := Lib.hid (HB.out.trans (below_drew wr _))
      have hcd : wr.drew.cell? ⟨w.heap.size, k, none⟩ = some (.int .i64 0) := hc
      have hfd : wr.drew.frozen? ⟨w.heap.size, k, none⟩ = false := hfz
      clear hr
      go_upto_region 5 with fail
      go_still_tail 14, (by kernel_rfl)
      change wpList _ _ _ _ _ wr.drew
      clear hcf hcg hc hfz
      generalize wr.drew = wd at HRD HBD hcd hfd ⊢
      go_wp2
      go_roundw
      case rel =>
        refine ⟨k + 1, by omega, by go_num, (HRD.out.set k (.int .i64 (f[k] * (n : Int) + g[k]))).congr (fun i hi => ?_), HBD.out.setCell (p := ⟨w.heap.size, k, none⟩) (Nat.le_refl _) _⟩
        by_cases e : i = k
        · subst e; rw [if_pos (Nat.lt_succ_self i), HA.out]; simp
        · by_cases e2 : i < k
          · simp [e, e2, show i < k + 1 by omega]
          · simp [e, e2, show ¬ i < k + 1 by omega]
      case measure => simp [intOf]; omega
    · obtain rfl : k = f.length := by omega
      clear hr
      go_wp2
      go_ret
      have hl := pairN_length f g n f.length
      refine ⟨_, rfl, ⟨?_, .inr ⟨w.heap.size, f.length, _, by rw [hl]; rfl, by rw [hl]; exact Nat.le_refl _, by unfold maxLen; omega, Nat.le_refl _, HR.out.lt, HR.out, fun i hi => ?_⟩⟩, HB.out⟩
      · intro y hy
        unfold pairN at hy
        obtain ⟨i, hi, rfl⟩ := List.mem_map.1 hy
        rw [List.mem_range] at hi
        have hig : i < g.length := by have := HGL.out; omega
        rw [getD_lt 0 hi, getD_lt 0 hig]
        have hr1 := HRF.out _ (List.getElem_mem hi)
        have hr2 := HRG.out _ (List.getElem_mem hig)
        have hpk := mul_small (a := f[i]) (b := (n : Int)) hr1.1 hr1.2 (by omega) (by omega)
        exact wf_int (by omega) (by omega)
      · rw [hl] at hi
        simp [pairN, hi]

set_option maxRecDepth 100000 in
set_option maxHeartbeats 4000000 in
theorem implPair_any (v v' v2 vf vg : Value) (rows rows' rows2 : Rows2) (f g : List Int) (w : World) (hv : RowsAt w v rows) (hv' : RowsAt w v' rows') (hv2 : RowsAt w v2 rows2) (hf : IntsAt w vf f) (hg : IntsAt w vg g) (hT : Tab w)
    (hn : bulk rows ≤ 1048576) (hn' : bulk rows' ≤ 1048576) (hn2 : bulk rows2 ≤ 1048576) :
    Calls Tryd.prog 35 #[.agg #[v], .agg #[v'], .agg #[v2], vf, vg] w (OwnB (pairL rows rows' rows2 f g) (pairOk rows rows' rows2 f g) w) := by
  have h0 := ThrL.start w 28 hv hv' hv2 hf hg
  have hT0 := hT.below h0.below
  have hd1 := implMono_any _ _ _ rows rows' f _ h0.thr.two.r0 h0.thr.two.r1 h0.f hT0 hn hn'
  obtain ⟨A, C, rfl, _⟩ := hv
  obtain ⟨A', C', rfl, _⟩ := hv'
  obtain ⟨A2, C2, rfl, _⟩ := hv2
  obtain ⟨Af, Cf, rfl, _⟩ := hf
  obtain ⟨Ag, Cg, rfl, _⟩ := hg
  have H0 := Lib.hid h0
  have T0 := Lib.hid hT0
  have hc0 := h0.thr.two.c0
  have hc1 := h0.thr.two.c1
  clear h0 hT0 hT
  cases h1 : monoB rows rows' f with
  | false =>
    rw [h1] at hd1
    have HE := Lib.hid (show pairOk rows rows' rows2 f g = false by unfold pairOk; rw [h1]; rfl)
    go_enter Tryd.func35, Tryd.ntmps35
    go_wp2_with (go_at_call 20; refine hd1.mono ?_; clear hd1; rintro e w1 ⟨rfl, hb1⟩; have H1 := Lib.hid (H0.out.step hb1); clear hb1)
    go_ret2
    refine ⟨_, by rw [HE.out]; rfl, ?_, H1.out.below⟩
    unfold pairL
    rw [HE.out]
    exact OwnI.nil _ _ _ _
  | true =>
    rw [h1] at hd1
    cases h2 : monoB rows rows2 g with
    | false =>
      have HE := Lib.hid (show pairOk rows rows' rows2 f g = false by unfold pairOk; rw [h1, h2]; rfl)
      go_enter Tryd.func35, Tryd.ntmps35
      go_wp2_with (first | (go_at_call 20; refine hd1.mono ?_; clear hd1; rintro e w1 ⟨rfl, hb1⟩; have H1 := Lib.hid (H0.out.step hb1); have hd2 := implMono_any _ _ _ rows rows2 g _ H1.out.thr.two.r0 H1.out.thr.r2 H1.out.g (T0.out.below hb1) hn hn2; rw [h2] at hd2; have he1 := H1.out.thr.two.c0; have he2 := H1.out.thr.c2; clear hb1) | (go_at_call 20; refine hd2.mono ?_; clear hd2; rintro e w2 ⟨rfl, hb2⟩; have H2 := Lib.hid (H1.out.step hb2); clear hb2))
      go_ret2
      refine ⟨_, by rw [HE.out]; rfl, ?_, H2.out.below⟩
      unfold pairL
      rw [HE.out]
      exact OwnI.nil _ _ _ _
    | true =>
      obtain ⟨hD, hD', hm1⟩ := monoB_parts h1
      obtain ⟨_, hD2, hm2⟩ := monoB_parts h2
      have hl' := dom_len hD'
      have hl2 := dom_len hD2
      have hp := mul_small (a := (rows'.length : Int)) (b := (rows2.length : Int)) (by omega) (by omega) (by omega) (by omega)
      by_cases hle : rows'.length * rows2.length ≤ 200
      · have HE := Lib.hid (show pairOk rows rows' rows2 f g = true by unfold pairOk; rw [h1, h2, decide_eq_true hle]; rfl)
        have hpi : (rows'.length : Int) * (rows2.length : Int) ≤ 200 := by
          have := Int.ofNat_le.2 hle
          rw [Int.natCast_mul] at this
          exact this
        have hl200 := dom_len hD
        have HC := Lib.hid (fun W h h' => paired_any (.slice Af f.length Cf) (.slice Ag g.length Cg) f g rows2.length W h h' (by rw [hm1.1]; exact hl200) (by rw [hm1.1, hm2.1]) hl2 (fun x hx => by have := hm1.2.1 x hx; omega) (fun x hx => by have := hm2.2.1 x hx; omega))
        clear hm1 hm2 hD hD' hD2 hle hl200
        go_enter Tryd.func35, Tryd.ntmps35
        go_wp2_with (first | (go_at_call 20; refine hd1.mono ?_; clear hd1; rintro e w1 ⟨rfl, hb1⟩; have H1 := Lib.hid (H0.out.step hb1); have hd2 := implMono_any _ _ _ rows rows2 g _ H1.out.thr.two.r0 H1.out.thr.r2 H1.out.g (T0.out.below hb1) hn hn2; rw [h2] at hd2; have he1 := H1.out.thr.two.c0; have he2 := H1.out.thr.c2; clear hb1) | (go_at_call 20; refine hd2.mono ?_; clear hd2; rintro e w2 ⟨rfl, hb2⟩; have H2 := Lib.hid (H1.out.step hb2); have he3 := H2.out.thr.two.c1; have he4 := H2.out.thr.c2; clear hb2 he1 he2) | (go_at_call 64; refine (HC.out _ H2.out.f H2.out.g).mono ?_; rintro e w3 ⟨u, rfl, hu, hb3⟩; have HU := Lib.hid hu; have B3 := Lib.hid hb3; clear hu hb3))
        go_ret2
        refine ⟨u, by rw [HE.out]; rfl, ?_, H2.out.below.trans (B3.out.mono H2.out.below.size)⟩
        unfold pairL
        rw [if_pos HE.out]
        exact HU.out.wider H2.out.below.size (Nat.le_refl _)
      · have HE := Lib.hid (show pairOk rows rows' rows2 f g = false by unfold pairOk; rw [decide_eq_false hle, Bool.and_false])
        have hpi : (200 : Int) < (rows'.length : Int) * (rows2.length : Int) := by
          have := Int.ofNat_lt.2 (show 200 < rows'.length * rows2.length by omega)
          rw [Int.natCast_mul] at this
          exact this
        clear hm1 hm2 hD hD' hD2 hle
        go_enter Tryd.func35, Tryd.ntmps35
        go_wp2_with (first | (go_at_call 20; refine hd1.mono ?_; clear hd1; rintro e w1 ⟨rfl, hb1⟩; have H1 := Lib.hid (H0.out.step hb1); have hd2 := implMono_any _ _ _ rows rows2 g _ H1.out.thr.two.r0 H1.out.thr.r2 H1.out.g (T0.out.below hb1) hn hn2; rw [h2] at hd2; have he1 := H1.out.thr.two.c0; have he2 := H1.out.thr.c2; clear hb1) | (go_at_call 20; refine hd2.mono ?_; clear hd2; rintro e w2 ⟨rfl, hb2⟩; have H2 := Lib.hid (H1.out.step hb2); have he3 := H2.out.thr.two.c1; have he4 := H2.out.thr.c2; clear hb2 he1 he2))
        go_ret2
        refine ⟨_, by rw [HE.out]; rfl, ?_, H2.out.below⟩
        unfold pairL
        rw [HE.out]
        exact OwnI.nil _ _ _ _
end Go.Proofs.YtnniffjjbekodaaDoor
