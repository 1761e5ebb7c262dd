/- The program's FunAfter. -/
import Derived.Test.YtnniffjjbekodaaDoorAfterS
import Derived.Test.YtnniffjjbekodaaDoorImplFM
import Derived.Laws.MakeOwn
namespace Go.Proofs.YtnniffjjbekodaaDoor
open Go.RowKit Go.Deep Go.Shelf

set_option maxRecDepth 100000 in
set_option maxHeartbeats 4000000 in
theorem after_any (vf vg : Value) (f g : List Int) (w : World) (hf : IntsAt w vf f) (hg : IntsAt w vg g) (hfl : f.length ≤ 200) (hr : ∀ i (hi : i < f.length), 0 ≤ f[i] ∧ f[i] < g.length) (hwf : ∀ x ∈ g, (Lit.int .i64 x).wf = true) :
    Calls Tryd.prog 57 #[vg, vf] w (OwnQ (afterN f g f.length) w) := by
  have HFA := Lib.hid (fun W (h : Below w.heap.size w W) => (by
    obtain ⟨a, C, e, h1, h2, h3, h4⟩ := hf
    exact ⟨a, C, e, h1, h2, h3, fun i hi => by
      obtain ⟨b, o, ea, hc⟩ := h4 i hi
      exact ⟨b, o, ea, (h.cell (p := ⟨b, o + i, none⟩) (cell_lt hc)).trans hc⟩⟩ : IntsAt W vf f))
  have HGA := Lib.hid (fun W (h : Below w.heap.size w W) => (by
    obtain ⟨a, C, e, h1, h2, h3, h4⟩ := hg
    exact ⟨a, C, e, h1, h2, h3, fun i hi => by
      obtain ⟨b, o, ea, hc⟩ := h4 i hi
      exact ⟨b, o, ea, (h.cell (p := ⟨b, o + i, none⟩) (cell_lt hc)).trans hc⟩⟩ : IntsAt W vg g))
  have HRG := Lib.hid hr
  have HWF := Lib.hid hwf
  obtain ⟨Af, Cf, rfl, hCf, hmf, _⟩ := hf
  obtain ⟨Ag, Cg, rfl, hCg, hmg, _⟩ := hg
  unfold maxLen at hmf hmg
  have hmk := run_make_row' (P := Tryd.prog) 64 3 (.int .i64 0) 8 Tryd.underlying64 infoInt rfl .i64 .i64 f.length (by omega) (by omega)
  have HRW := Lib.hid (World.rowIs_made w (.int .i64 0) f.length 3)
  have HB0 := Lib.hid ((Below.refl w.heap.size w).alloc (Nat.le_refl _) (.cells (madeCells #[.int .i64 0] f.length) 3))
  clear hr hwf
  go_enter Tryd.func57, Tryd.ntmps57
  go_wp2
  clear hmk
  go_loopw [6, 7, 13] (fun _ _ kv wr => ∃ k : Nat, k ≤ f.length ∧ kv = .int .i64 k ∧ wr.rowIs w.heap.size 3 f.length (fun i => if i < k then .int .i64 (g.getD (f.getD i 0).toNat 0) else .int .i64 0) ∧ Below w.heap.size w wr) (fun _ _ kv _ => f.length - (intOf kv).toNat)
  case atStart => exact ⟨0, Nat.zero_le _, rfl, HRW.out.congr (fun i _ => by rw [if_neg (Nat.not_lt_zero i)]), HB0.out⟩
  case round =>
    obtain ⟨k, hk, rfl, hr, hB⟩ := hrel
    have HR := Lib.hid hr
    have HB := Lib.hid hB
    clear hB HRW HB0
    by_cases hlt : k < f.length
    · have hc := hr.cell hlt
      have hfz := hr.frozen k
      rw [if_neg (Nat.lt_irrefl k)] at hc
      have hkz : (k : Int) < (f.length : Int) := by omega
      obtain ⟨b1, o1, rfl, hcf⟩ := (HFA.out wr HB.out).get hlt
      have hr1 := HRG.out k hlt
      obtain ⟨j, hj⟩ : ∃ j : Nat, f[k] = (j : Int) := ⟨f[k].toNat, by omega⟩
      have hjl : j < g.length := by omega
      have hjl2 : (j : Int) < (g.length : Int) := by omega
      obtain ⟨b2, o2, rfl, hcg⟩ := (HGA.out wr HB.out).get hjl
      rw [hj] at hcf
      have HA := Lib.hid (show g.getD (f.getD k 0).toNat 0 = g[j] by rw [getD_lt 0 hlt, hj, Int.toNat_natCast, getD_lt 0 hjl])
      clear hr hr1 hj
      go_wp2
      go_roundw
      case rel =>
        refine ⟨k + 1, by omega, by go_num, (HR.out.set k (.int .i64 g[j])).congr (fun i hi => ?_), HB.out.setCell (p := ⟨w.heap.size, k, none⟩) (Nat.le_refl _) _⟩
        by_cases e : i = k
        · subst e; rw [if_pos (Nat.lt_succ_self i), HA.out]; simp
        · by_cases e2 : i < k
          · simp [e, e2, show i < k + 1 by omega]
          · simp [e, e2, show ¬ i < k + 1 by omega]
      case measure => simp [intOf]; omega
    · obtain rfl : k = f.length := by omega
      clear hr
      go_wp2
      go_ret
      have hl := afterN_length f g f.length
      refine ⟨_, rfl, ⟨?_, .inr ⟨w.heap.size, f.length, _, by rw [hl]; rfl, by rw [hl]; exact Nat.le_refl _, by unfold maxLen; omega, Nat.le_refl _, HR.out.lt, HR.out, fun i hi => ?_⟩⟩, HB.out⟩
      · intro y hy
        unfold afterN at hy
        obtain ⟨i, hi, rfl⟩ := List.mem_map.1 hy
        rw [List.mem_range] at hi
        have h3 := HRG.out i hi
        exact HWF.out _ (by rw [getD_lt 0 (show (f.getD i 0).toNat < g.length by rw [getD_lt 0 hi]; omega)]; exact List.getElem_mem _)
      · rw [hl] at hi
        simp [afterN, hi]

set_option maxRecDepth 100000 in
set_option maxHeartbeats 4000000 in
theorem implAfter_any (v v' v2 vf vg : Value) (rows rows' rows2 : Rows2) (f g : List Int) (w : World) (hv : RowsAt w v rows) (hv' : RowsAt w v' rows') (hv2 : RowsAt w v2 rows2) (hf : IntsAt w vf f) (hg : IntsAt w vg g) (hT : Tab w)
    (hn : bulk rows ≤ 1048576) (hn' : bulk rows' ≤ 1048576) (hn2 : bulk rows2 ≤ 1048576) :
    Calls Tryd.prog 24 #[.agg #[v], .agg #[v'], .agg #[v2], vf, vg] w (OwnB (afterL rows rows' rows2 f g) (afterOk rows rows' rows2 f g) w) := by
  have h0 := ThrL.start w 28 hv hv' hv2 hf hg
  have hT0 := hT.below h0.below
  have hd1 := implMono_any _ _ _ rows rows' f _ h0.thr.two.r0 h0.thr.two.r1 h0.f hT0 hn hn'
  obtain ⟨A, C, rfl, _⟩ := hv
  obtain ⟨A', C', rfl, _⟩ := hv'
  obtain ⟨A2, C2, rfl, _⟩ := hv2
  obtain ⟨Af, Cf, rfl, _⟩ := hf
  obtain ⟨Ag, Cg, rfl, _, _, hwf, _⟩ := hg
  have H0 := Lib.hid h0
  have T0 := Lib.hid hT0
  have HWF := Lib.hid hwf
  have hc0 := h0.thr.two.c0
  have hc1 := h0.thr.two.c1
  clear h0 hT0 hT hwf
  cases h1 : monoB rows rows' f with
  | false =>
    rw [h1] at hd1
    have HE := Lib.hid (show afterOk rows rows' rows2 f g = false by unfold afterOk; rw [h1]; rfl)
    go_enter Tryd.func24, Tryd.ntmps24
    go_wp2_with (go_at_call 20; refine hd1.mono ?_; clear hd1; rintro e w1 ⟨rfl, hb1⟩; have H1 := Lib.hid (H0.out.step hb1); clear hb1)
    go_ret2
    refine ⟨_, by rw [HE.out]; rfl, ?_, H1.out.below⟩
    unfold afterL
    rw [HE.out]
    exact OwnI.nil _ _ _ _
  | true =>
    rw [h1] at hd1
    cases h2 : monoB rows' rows2 g with
    | false =>
      have HE := Lib.hid (show afterOk rows rows' rows2 f g = false by unfold afterOk; rw [h1, h2]; rfl)
      go_enter Tryd.func24, Tryd.ntmps24
      go_wp2_with (first | (go_at_call 20; refine hd1.mono ?_; clear hd1; rintro e w1 ⟨rfl, hb1⟩; have H1 := Lib.hid (H0.out.step hb1); have hd2 := implMono_any _ _ _ rows' rows2 g _ H1.out.thr.two.r1 H1.out.thr.r2 H1.out.g (T0.out.below hb1) hn' hn2; rw [h2] at hd2; have he1 := H1.out.thr.two.c1; have he2 := H1.out.thr.c2; clear hb1) | (go_at_call 20; refine hd2.mono ?_; clear hd2; rintro e w2 ⟨rfl, hb2⟩; have H2 := Lib.hid (H1.out.step hb2); clear hb2))
      go_ret2
      refine ⟨_, by rw [HE.out]; rfl, ?_, H2.out.below⟩
      unfold afterL
      rw [HE.out]
      exact OwnI.nil _ _ _ _
    | true =>
      have HE := Lib.hid (show afterOk rows rows' rows2 f g = true by unfold afterOk; rw [h1, h2]; rfl)
      obtain ⟨hd, _, hm1⟩ := monoB_parts h1
      obtain ⟨_, _, hm2⟩ := monoB_parts h2
      have hl200 := (ok_of_valid (show validB rows = true by unfold domB at hd; rw [Bool.and_eq_true] at hd; exact hd.1)).len.2
      have HC := Lib.hid (fun W h h' => after_any (.slice Af f.length Cf) (.slice Ag g.length Cg) f g W h h' (by rw [hm1.1]; exact hl200) (fun i hi => by have := hm1.2.1 _ (List.getElem_mem hi); rw [hm2.1]; exact this) HWF.out)
      clear hd hm1 hm2 hl200
      go_enter Tryd.func24, Tryd.ntmps24
      go_wp2_with (first | (go_at_call 20; refine hd1.mono ?_; clear hd1; rintro e w1 ⟨rfl, hb1⟩; have H1 := Lib.hid (H0.out.step hb1); have hd2 := implMono_any _ _ _ rows' rows2 g _ H1.out.thr.two.r1 H1.out.thr.r2 H1.out.g (T0.out.below hb1) hn' hn2; rw [h2] at hd2; have he1 := H1.out.thr.two.c1; have he2 := H1.out.thr.c2; clear hb1) | (go_at_call 20; refine hd2.mono ?_; clear hd2; rintro e w2 ⟨rfl, hb2⟩; have H2 := Lib.hid (H1.out.step hb2); clear hb2) | (go_at_call 57; refine (HC.out _ H2.out.f H2.out.g).mono ?_; rintro e w3 ⟨u, rfl, hu, hb3⟩; have HU := Lib.hid hu; have B3 := Lib.hid hb3; clear hu hb3))
      go_ret2
      refine ⟨u, by rw [HE.out]; rfl, ?_, H2.out.below.trans (B3.out.mono H2.out.below.size)⟩
      unfold afterL
      rw [if_pos HE.out]
      exact HU.out.wider H2.out.below.size (Nat.le_refl _)
end Go.Proofs.YtnniffjjbekodaaDoor
