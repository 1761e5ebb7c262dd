/- The model's FunPair. -/
import Derived.Test.YtnniffjjbekodaaDoorAfterS
import Derived.Deep.RegionLaw
import Derived.Deep.AppendLies
import Derived.RangeFuncBox
namespace Go.Proofs.YtnniffjjbekodaaDoor
open Go.RowKit Go.Deep

/-- Both parts put together, for the first k elements. -/
def pairN (f g : List Int) (n k : Nat) : List Int := (List.range k).map fun i => f.getD i 0 * (n : Int) + g.getD i 0
theorem pairN_length (f g : List Int) (n k : Nat) : (pairN f g n k).length = k := by unfold pairN; simp
theorem pairN_succ (f g : List Int) (n k : Nat) : pairN f g n (k + 1) = pairN f g n k ++ [f.getD k 0 * (n : Int) + g.getD k 0] := by
  unfold pairN
  rw [List.range_succ, List.map_append]
  rfl
noncomputable def pairOk (rows rows' rows2 : Rows2) (f g : List Int) : Bool := monoB rows rows' f && monoB rows rows2 g && decide (rows'.length * rows2.length ≤ 200)
noncomputable def pairL (rows rows' rows2 : Rows2) (f g : List Int) : List Int := if pairOk rows rows' rows2 f g = true then pairN f g rows2.length f.length else []
/-- A product of two numbers that are not great. -/
theorem mul_small {a b : Int} (ha : 0 ≤ a) (ha' : a ≤ 200) (hb : 0 ≤ b) (hb' : b ≤ 200) : 0 ≤ a * b ∧ a * b ≤ 40000 := by
  refine ⟨Int.mul_nonneg ha hb, ?_⟩
  have h1 := Int.mul_le_mul_of_nonneg_right ha' hb
  have h2 := Int.mul_le_mul_of_nonneg_left hb' (show (0 : Int) ≤ 200 by decide)
  omega
set_option maxRecDepth 100000 in
set_option maxHeartbeats 4000000 in
theorem specPair_any (v v' v2 vf vg : Value) (rows rows' rows2 : Rows2) (f g : List Int) (w : World) (hv : RowsAt w v rows) (hv' : RowsAt w v' rows') (hv2 : RowsAt w v2 rows2) (hf : IntsAt w vf f) (hg : IntsAt w vg g)
    (hn : bulk rows ≤ 1048576) (hn' : bulk rows' ≤ 1048576) (hn2 : bulk rows2 ≤ 1048576) :
    Calls Tryd.prog 34 #[.agg #[v], .agg #[v'], .agg #[v2], vf, vg] w (OwnB (pairL rows rows' rows2 f g) (pairOk rows rows' rows2 f g) w) := by
  have h0 := ThrL.start w 28 hv hv' hv2 hf hg
  have hd1 := specMono_any _ _ _ rows rows' f _ h0.thr.two.r0 h0.thr.two.r1 h0.f hn hn'
  have HFA := Lib.hid (fun W (h : Below w.heap.size w W) => hf.below h)
  have HGA := Lib.hid (fun W (h : Below w.heap.size w W) => hg.below h)
  obtain ⟨A, C, rfl, _⟩ := hv
  obtain ⟨A', C', rfl, _⟩ := hv'
  obtain ⟨A2, C2, rfl, _⟩ := hv2
  obtain ⟨Af, Cf, rfl, _⟩ := hf
  obtain ⟨Ag, Cg, rfl, _⟩ := hg
  have H0 := Lib.hid h0
  have hc0 := h0.thr.two.c0
  have hc1 := h0.thr.two.c1
  clear h0
  cases h1 : monoB rows rows' f with
  | false =>
    rw [h1] at hd1
    have HE := Lib.hid (show pairOk rows rows' rows2 f g = false by unfold pairOk; rw [h1]; rfl)
    go_enter Tryd.func34, Tryd.ntmps34
    go_wp2_with (go_at_call 17; refine hd1.mono ?_; clear hd1; rintro e w1 ⟨rfl, hb1⟩; have H1 := Lib.hid (H0.out.step hb1); clear hb1)
    go_ret2
    refine ⟨_, by rw [HE.out]; rfl, ?_, H1.out.below.alloc H1.out.below.size _⟩
    unfold pairL
    rw [HE.out]
    exact empty_own w1 H1.out.below.size
  | true =>
    rw [h1] at hd1
    cases h2 : monoB rows rows2 g with
    | false =>
      have HE := Lib.hid (show pairOk rows rows' rows2 f g = false by unfold pairOk; rw [h1, h2]; rfl)
      go_enter Tryd.func34, Tryd.ntmps34
      go_wp2_with (first | (go_at_call 17; refine hd1.mono ?_; clear hd1; rintro e w1 ⟨rfl, hb1⟩; have H1 := Lib.hid (H0.out.step hb1); have hd2 := specMono_any _ _ _ rows rows2 g _ H1.out.thr.two.r0 H1.out.thr.r2 H1.out.g hn hn2; rw [h2] at hd2; have he1 := H1.out.thr.two.c0; have he2 := H1.out.thr.c2; clear hb1) | (go_at_call 17; refine hd2.mono ?_; clear hd2; rintro e w2 ⟨rfl, hb2⟩; have H2 := Lib.hid (H1.out.step hb2); clear hb2))
      go_ret2
      refine ⟨_, by rw [HE.out]; rfl, ?_, H2.out.below.alloc H2.out.below.size _⟩
      unfold pairL
      rw [HE.out]
      exact empty_own w2 H2.out.below.size
    | true =>
      obtain ⟨hD, hD', hm1⟩ := monoB_parts h1
      obtain ⟨_, hD2, hm2⟩ := monoB_parts h2
      have hl' := dom_len hD'
      have hl2 := dom_len hD2
      have hp := mul_small (a := (rows'.length : Int)) (b := (rows2.length : Int)) (by omega) (by omega) (by omega) (by omega)
      by_cases hle : rows'.length * rows2.length ≤ 200
      · have HE := Lib.hid (show pairOk rows rows' rows2 f g = true by unfold pairOk; rw [h1, h2, decide_eq_true hle]; rfl)
        have hpi : (rows'.length : Int) * (rows2.length : Int) ≤ 200 := by
          have := Int.ofNat_le.2 hle
          rw [Int.natCast_mul] at this
          exact this
        have HM1 := Lib.hid hm1
        have HM2 := Lib.hid hm2
        have hfl : f.length ≤ 1048576 := by have := hm1.1; unfold bulk at hn; omega
        obtain ⟨i0, hi0, hz0, hz1, hz2⟩ := info_parts infoInt
        clear hm1 hm2 hD hD' hD2 hle
        go_enter Tryd.func34, Tryd.ntmps34
        go_wp2_with (first | (go_at_call 17; refine hd1.mono ?_; clear hd1; rintro e w1 ⟨rfl, hb1⟩; have H1 := Lib.hid (H0.out.step hb1); have hd2 := specMono_any _ _ _ rows rows2 g _ H1.out.thr.two.r0 H1.out.thr.r2 H1.out.g hn hn2; rw [h2] at hd2; have he1 := H1.out.thr.two.c0; have he2 := H1.out.thr.c2; clear hb1) | (go_at_call 17; refine hd2.mono ?_; clear hd2; rintro e w2 ⟨rfl, hb2⟩; have H2 := Lib.hid (H1.out.step hb2); have he3 := H2.out.thr.two.c1; have he4 := H2.out.thr.c2; clear hb2 he1 he2))
        have hw2 : w.heap.size + 2 < w2.heap.size := cell_lt he4
        have HO := Lib.hid (World.ownsRow_made (e := 3) (size := 1) w2 #[] 0 (base := w.heap.size + 3) (by omega) (Nat.zero_le _) (by simp))
        have HB2 := Lib.hid ((Below.refl (w.heap.size + 3) w2).alloc (by omega) (.cells #[] 3))
        clear he3 he4
        go_loopw [12, 13] (fun ov kv wr => ∃ k : Nat, k ≤ f.length ∧ kv = .int .i64 k ∧ wr.ownsRow (w.heap.size + 3) 3 1 ov (pairN f g rows2.length k).length (cellsI (pairN f g rows2.length k)) ∧ Below (w.heap.size + 3) w2 wr) (fun _ kv _ => f.length - (intOf kv).toNat)
        case atStart => exact ⟨0, Nat.zero_le _, rfl, HO.out, HB2.out⟩
        case round =>
          obtain ⟨k, hk, rfl, hown, hB⟩ := hrel
          have HOWN := Lib.hid hown
          have HB := Lib.hid hB
          have hcl := Nat.le_of_eq (pairN_length f g rows2.length k)
          clear hown hB HO HB2
          by_cases hlt : k < f.length
          · have HW := Lib.hid (H2.out.below.trans (HB.out.mono (by omega)))
            obtain ⟨b1, o1, rfl, hcf⟩ := (HFA.out wr HW.out).get hlt
            have hltg : k < g.length := by have := HM1.out.1; have := HM2.out.1; omega
            obtain ⟨b2, o2, rfl, hcg⟩ := (HGA.out wr HW.out).get hltg
            have hltz : (k : Int) < (g.length : Int) := by omega
            have hc2 : wr.cell? ⟨w.heap.size + 2, 0, none⟩ = some (.slice A2 rows2.length C2) := (HB.out.cell (p := ⟨w.heap.size + 2, 0, none⟩) (by show w.heap.size + 2 < w.heap.size + 3; omega)).trans H2.out.thr.c2
            have hr1 := HM1.out.2.1 _ (List.getElem_mem hlt)
            have hr2 := HM2.out.2.1 _ (List.getElem_mem hltg)
            have hpk := mul_small (a := f[k]) (b := (rows2.length : Int)) (by omega) (by omega) (by omega) (by omega)
            have HA := Lib.hid (show f.getD k 0 * (rows2.length : Int) + g.getD k 0 = f[k] * (rows2.length : Int) + g[k] by rw [getD_lt 0 hlt, getD_lt 0 hltg])
            have hbz : w.heap.size + 3 ≤ wr.heap.size := by have := HB.out.size; omega
            have HOA := Lib.hid fun X => HOWN.out.alloc X
            go_upto_region 7 with fail
            have HWY := Lib.hid (show IntKind.i64.wrap (IntKind.i64.wrap (f[k] * (rows2.length : Int)) + g[k]) = f[k] * (rows2.length : Int) + g[k] by rw [IntWalk.i64_in (f[k] * (rows2.length : Int)) (by omega), IntWalk.i64_in _ (by omega)])
            first | (go_region_law ((refine step_append_lies _ (by rfl) _ _ 25 (by rfl) (w.heap.size + 3) 3 i0 (.int .i64 0) 1 8 Tryd.underlying25 hi0 hz0 hz1 hz2 rfl (by decide) u12 (pairN f g rows2.length k).length (cellsI (pairN f g rows2.length k)) (by rfl) (HOA.out _) ⟨wr.heap.size, 0, none⟩ 1 1 [.int .i64 (IntKind.i64.wrap (IntKind.i64.wrap (f[k] * (rows2.length : Int)) + g[k]))] (by rfl) rfl (World.news_of_block (heap_alloc_new wr _)) (by simp [Value.oneCell']) (by omega) (by unfold maxLen; omega) (by omega) (by simp; omega) (wr.heap.size + 1) (by simp) ?_; intro g' cap' w1 hown hgrow hat hlt'))) | fail
            all_goals
              go_wp2
              go_roundw
              case rel =>
                refine ⟨k + 1, by omega, by go_num, ?_, ((HB.out.alloc hbz _).grown ⟨hgrow.os, hgrow.tape, hgrow.output, hgrow.size, hgrow.block⟩ (by rw [World.size_alloc]; omega) (fun b e => (HOWN.out.lt b e).1))⟩
                rw [pairN_succ, HA.out, List.length_append, show cellsI (pairN f g rows2.length k ++ [f[k] * (rows2.length : Int) + g[k]]) = cellsI (pairN f g rows2.length k) ++ [.int .i64 (f[k] * (rows2.length : Int) + g[k])] by simp]
                rw [HWY.out] at hown
                exact hown
              case measure => simp [intOf]; omega
          · obtain rfl : k = f.length := by omega
            go_wp2
            go_ret2
            refine ⟨_, by rw [HE.out]; rfl, ?_, H2.out.below.trans (HB.out.mono (by omega))⟩
            unfold pairL
            rw [if_pos HE.out]
            refine OwnI.of_owns (owns_weaker HOWN.out (Nat.le_add_right _ _)) ?_ (fun b hb => (HOWN.out.lt b hb).2)
            intro y hy
            unfold pairN at hy
            obtain ⟨i, hi, rfl⟩ := List.mem_map.1 hy
            rw [List.mem_range] at hi
            have hig : i < g.length := by have := HM1.out.1; have := HM2.out.1; omega
            rw [getD_lt 0 hi, getD_lt 0 hig]
            have hr1 := HM1.out.2.1 _ (List.getElem_mem hi)
            have hr2 := HM2.out.2.1 _ (List.getElem_mem hig)
            have hpk := mul_small (a := f[i]) (b := (rows2.length : Int)) (by omega) (by omega) (by omega) (by omega)
            exact wf_int (by omega) (by omega)
      · have HE := Lib.hid (show pairOk rows rows' rows2 f g = false by unfold pairOk; rw [decide_eq_false hle, Bool.and_false])
        have hpi : (200 : Int) < (rows'.length : Int) * (rows2.length : Int) := by
          have := Int.ofNat_lt.2 (show 200 < rows'.length * rows2.length by omega)
          rw [Int.natCast_mul] at this
          exact this
        clear hm1 hm2 hD hD' hD2 hle
        go_enter Tryd.func34, Tryd.ntmps34
        go_wp2_with (first | (go_at_call 17; refine hd1.mono ?_; clear hd1; rintro e w1 ⟨rfl, hb1⟩; have H1 := Lib.hid (H0.out.step hb1); have hd2 := specMono_any _ _ _ rows rows2 g _ H1.out.thr.two.r0 H1.out.thr.r2 H1.out.g hn hn2; rw [h2] at hd2; have he1 := H1.out.thr.two.c0; have he2 := H1.out.thr.c2; clear hb1) | (go_at_call 17; refine hd2.mono ?_; clear hd2; rintro e w2 ⟨rfl, hb2⟩; have H2 := Lib.hid (H1.out.step hb2); have he3 := H2.out.thr.two.c1; have he4 := H2.out.thr.c2; clear hb2 he1 he2))
        go_ret2
        refine ⟨_, by rw [HE.out]; rfl, ?_, H2.out.below.alloc H2.out.below.size _⟩
        unfold pairL
        rw [HE.out]
        exact empty_own w2 H2.out.below.size
end Go.Proofs.YtnniffjjbekodaaDoor
