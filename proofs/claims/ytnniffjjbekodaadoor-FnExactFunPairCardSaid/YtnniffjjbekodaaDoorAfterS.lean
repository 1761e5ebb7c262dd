/- The model's FunAfter. -/
import Derived.Test.YtnniffjjbekodaaDoorStepS
namespace Go.Proofs.YtnniffjjbekodaaDoor
open Go.RowKit Go.Deep

/-- The one function behind the other, for the first k elements. -/
def afterN (f g : List Int) (k : Nat) : List Int := (List.range k).map fun i => g.getD (f.getD i 0).toNat 0
theorem afterN_length (f g : List Int) (k : Nat) : (afterN f g k).length = k := by unfold afterN; simp
theorem afterN_succ (f g : List Int) (k : Nat) : afterN f g (k + 1) = afterN f g k ++ [g.getD (f.getD k 0).toNat 0] := by
  unfold afterN
  rw [List.range_succ, List.map_append]
  rfl
noncomputable def afterOk (rows rows' rows2 : Rows2) (f g : List Int) : Bool := monoB rows rows' f && monoB rows' rows2 g
noncomputable def afterL (rows rows' rows2 : Rows2) (f g : List Int) : List Int := if afterOk rows rows' rows2 f g = true then afterN f g f.length else []

/-- Three orders lie in the variables at blocks w.heap.size and the next two. -/
structure Thr (w : World) (v v' v2 : Value) (rows rows' rows2 : Rows2) (W : World) : Prop where
  two : Two w v v' rows rows' W
  c2 : W.cell? ⟨w.heap.size + 2, 0, none⟩ = some v2
  r2 : RowsAt W v2 rows2
theorem Thr.step {w : World} {v v' v2 : Value} {rows rows' rows2 : Rows2} {W W' : World} (h : Thr w v v' v2 rows rows' rows2 W) (hb : Below W.heap.size W W') : Thr w v v' v2 rows rows' rows2 W' :=
  ⟨h.two.step hb, (hb.cell (p := ⟨w.heap.size + 2, 0, none⟩) (cell_lt h.c2)).trans h.c2, h.r2.below hb⟩
theorem Thr.start (w : World) {v v' v2 : Value} {rows rows' rows2 : Rows2} (t : TypeId) (hv : RowsAt w v rows) (hv' : RowsAt w v' rows') (hv2 : RowsAt w v2 rows2) : Thr w v v' v2 rows rows' rows2 (((w.alloc (.cells #[v] t)).alloc (.cells #[v'] t)).alloc (.cells #[v2] t)) := by
  have h := Two.start w t t hv hv'
  have s2 : ((w.alloc (.cells #[v] t)).alloc (.cells #[v'] t)).heap.size = w.heap.size + 2 := by rw [World.size_alloc, World.size_alloc]
  have b := (Below.refl ((w.alloc (.cells #[v] t)).alloc (.cells #[v'] t)).heap.size ((w.alloc (.cells #[v] t)).alloc (.cells #[v'] t))).alloc (Nat.le_refl _) (.cells #[v2] t)
  have hc := (World.rowIs_alloc ((w.alloc (.cells #[v] t)).alloc (.cells #[v'] t)) #[v2] t (fun _ => v2) (fun i hi => by simp at hi; subst hi; rfl)).cell (i := 0) (by simp)
  rw [s2] at hc
  exact ⟨h.step b, hc, (hv2.below h.below).below b⟩
/-- And two lists. -/
structure ThrL (w : World) (v v' v2 vf vg : Value) (rows rows' rows2 : Rows2) (f g : List Int) (W : World) : Prop where
  thr : Thr w v v' v2 rows rows' rows2 W
  f : IntsAt W vf f
  g : IntsAt W vg g
theorem ThrL.step {w : World} {v v' v2 vf vg : Value} {rows rows' rows2 : Rows2} {f g : List Int} {W W' : World} (h : ThrL w v v' v2 vf vg rows rows' rows2 f g W) (hb : Below W.heap.size W W') : ThrL w v v' v2 vf vg rows rows' rows2 f g W' := ⟨h.thr.step hb, h.f.below hb, h.g.below hb⟩
theorem ThrL.below {w : World} {v v' v2 vf vg : Value} {rows rows' rows2 : Rows2} {f g : List Int} {W : World} (h : ThrL w v v' v2 vf vg rows rows' rows2 f g W) : Below w.heap.size w W := h.thr.two.below
theorem ThrL.start (w : World) {v v' v2 vf vg : Value} {rows rows' rows2 : Rows2} {f g : List Int} (t : TypeId) (hv : RowsAt w v rows) (hv' : RowsAt w v' rows') (hv2 : RowsAt w v2 rows2) (hf : IntsAt w vf f) (hg : IntsAt w vg g) : ThrL w v v' v2 vf vg rows rows' rows2 f g (((w.alloc (.cells #[v] t)).alloc (.cells #[v'] t)).alloc (.cells #[v2] t)) :=
  have h := Thr.start w t hv hv' hv2
  ⟨h, hf.below h.two.below, hg.below h.two.below⟩

theorem dom_len {rows : Rows2} (h : domB rows = true) : rows.length ≤ 200 :=
  (ok_of_valid (show validB rows = true by unfold domB at h; rw [Bool.and_eq_true] at h; exact h.1)).len.2
theorem empty_own (W : World) {lo : Nat} (hlo : lo ≤ W.heap.size) : OwnI 3 (W.alloc (.cells #[] 3)) (.slice (some ⟨W.heap.size, 0, none⟩) 0 0) [] lo (W.alloc (.cells #[] 3)).heap.size :=
  ⟨fun _ h => (by cases h), .inr ⟨W.heap.size, 0, fun _ => undef, rfl, Nat.le_refl _, Nat.zero_le _, hlo, by rw [World.size_alloc]; omega, World.rowIs_alloc W #[] 3 (fun _ => undef) (fun _ h => absurd h (Nat.not_lt_zero _)), fun _ h => absurd h (Nat.not_lt_zero _)⟩⟩

set_option maxRecDepth 100000 in
set_option maxHeartbeats 4000000 in
theorem specAfter_any (v v' v2 vf vg : Value) (rows rows' rows2 : Rows2) (f g : List Int) (w : World) (hv : RowsAt w v rows) (hv' : RowsAt w v' rows') (hv2 : RowsAt w v2 rows2) (hf : IntsAt w vf f) (hg : IntsAt w vg g)
    (hn : bulk rows ≤ 1048576) (hn' : bulk rows' ≤ 1048576) (hn2 : bulk rows2 ≤ 1048576) :
    Calls Tryd.prog 23 #[.agg #[v], .agg #[v'], .agg #[v2], vf, vg] w (OwnB (afterL rows rows' rows2 f g) (afterOk rows rows' rows2 f g) w) := by
  have h0 := ThrL.start w 28 hv hv' hv2 hf hg
  have HFA := Lib.hid (fun W (h : Below w.heap.size w W) => (by
    obtain ⟨a, C, e, h1, h2, h3, h4⟩ := hf
    exact ⟨a, C, e, h1, h2, h3, fun i hi => by
      obtain ⟨b, o, ea, hc⟩ := h4 i hi
      exact ⟨b, o, ea, (h.cell (p := ⟨b, o + i, none⟩) (cell_lt hc)).trans hc⟩⟩ : IntsAt W vf f))
  have HGA := Lib.hid (fun W (h : Below w.heap.size w W) => (by
    obtain ⟨a, C, e, h1, h2, h3, h4⟩ := hg
    exact ⟨a, C, e, h1, h2, h3, fun i hi => by
      obtain ⟨b, o, ea, hc⟩ := h4 i hi
      exact ⟨b, o, ea, (h.cell (p := ⟨b, o + i, none⟩) (cell_lt hc)).trans hc⟩⟩ : IntsAt W vg g))
  have hd1 := specMono_any _ _ _ rows rows' f _ h0.thr.two.r0 h0.thr.two.r1 h0.f hn hn'
  obtain ⟨A, C, rfl, _⟩ := hv
  obtain ⟨A', C', rfl, _⟩ := hv'
  obtain ⟨A2, C2, rfl, _⟩ := hv2
  obtain ⟨Af, Cf, rfl, _⟩ := hf
  obtain ⟨Ag, Cg, rfl, _⟩ := hg
  have H0 := Lib.hid h0
  have hc0 := h0.thr.two.c0
  have hc1 := h0.thr.two.c1
  clear h0
  cases h1 : monoB rows rows' f with
  | false =>
    rw [h1] at hd1
    have HE := Lib.hid (show afterOk rows rows' rows2 f g = false by unfold afterOk; rw [h1]; rfl)
    go_enter Tryd.func23, Tryd.ntmps23
    go_wp2_with (go_at_call 17; refine hd1.mono ?_; clear hd1; rintro e w1 ⟨rfl, hb1⟩; have H1 := Lib.hid (H0.out.step hb1); clear hb1)
    go_ret2
    refine ⟨_, by rw [HE.out]; rfl, ?_, H1.out.below.alloc H1.out.below.size _⟩
    unfold afterL
    rw [HE.out]
    exact empty_own w1 H1.out.below.size
  | true =>
    rw [h1] at hd1
    cases h2 : monoB rows' rows2 g with
    | false =>
      have HE := Lib.hid (show afterOk rows rows' rows2 f g = false by unfold afterOk; rw [h1, h2]; rfl)
      go_enter Tryd.func23, Tryd.ntmps23
      go_wp2_with (first | (go_at_call 17; refine hd1.mono ?_; clear hd1; rintro e w1 ⟨rfl, hb1⟩; have H1 := Lib.hid (H0.out.step hb1); have hd2 := specMono_any _ _ _ rows' rows2 g _ H1.out.thr.two.r1 H1.out.thr.r2 H1.out.g hn' hn2; rw [h2] at hd2; have he1 := H1.out.thr.two.c1; have he2 := H1.out.thr.c2; clear hb1) | (go_at_call 17; refine hd2.mono ?_; clear hd2; rintro e w2 ⟨rfl, hb2⟩; have H2 := Lib.hid (H1.out.step hb2); clear hb2))
      go_ret2
      refine ⟨_, by rw [HE.out]; rfl, ?_, H2.out.below.alloc H2.out.below.size _⟩
      unfold afterL
      rw [HE.out]
      exact empty_own w2 H2.out.below.size
    | true =>
      have HE := Lib.hid (show afterOk rows rows' rows2 f g = true by unfold afterOk; rw [h1, h2]; rfl)
      obtain ⟨_, _, hm1⟩ := monoB_parts h1
      obtain ⟨_, _, hm2⟩ := monoB_parts h2
      have HM1 := Lib.hid hm1
      have HM2 := Lib.hid hm2
      have hfl : f.length ≤ 1048576 := by have := hm1.1; unfold bulk at hn; omega
      obtain ⟨i0, hi0, hz0, hz1, hz2⟩ := info_parts infoInt
      clear hm1 hm2
      go_enter Tryd.func23, Tryd.ntmps23
      go_wp2_with (first | (go_at_call 17; refine hd1.mono ?_; clear hd1; rintro e w1 ⟨rfl, hb1⟩; have H1 := Lib.hid (H0.out.step hb1); have hd2 := specMono_any _ _ _ rows' rows2 g _ H1.out.thr.two.r1 H1.out.thr.r2 H1.out.g hn' hn2; rw [h2] at hd2; have he1 := H1.out.thr.two.c1; have he2 := H1.out.thr.c2; clear hb1) | (go_at_call 17; refine hd2.mono ?_; clear hd2; rintro e w2 ⟨rfl, hb2⟩; have H2 := Lib.hid (H1.out.step hb2); clear hb2))
      have HO := Lib.hid (World.ownsRow_made (e := 3) (size := 1) w2 #[] 0 (base := w.heap.size) H2.out.below.size (Nat.zero_le _) (by simp))
      have HB2 := Lib.hid (H2.out.below.alloc H2.out.below.size (.cells #[] 3))
      go_loopw [12, 13] (fun ov kv wr => ∃ k : Nat, k ≤ f.length ∧ kv = .int .i64 k ∧ wr.ownsRow w.heap.size 3 1 ov (afterN f g k).length (cellsI (afterN f g k)) ∧ Below w.heap.size w wr) (fun _ kv _ => f.length - (intOf kv).toNat)
      case atStart => exact ⟨0, Nat.zero_le _, rfl, HO.out, HB2.out⟩
      case round =>
        obtain ⟨k, hk, rfl, hown, hB⟩ := hrel
        have HOWN := Lib.hid hown
        have HB := Lib.hid hB
        have hcl := Nat.le_of_eq (afterN_length f g k)
        clear hown hB HO HB2
        by_cases hlt : k < f.length
        · obtain ⟨b1, o1, rfl, hcf⟩ := (HFA.out wr HB.out).get hlt
          have hr1 := HM1.out.2.1 _ (List.getElem_mem hlt)
          obtain ⟨j, hj⟩ : ∃ j : Nat, f[k] = (j : Int) := ⟨f[k].toNat, by omega⟩
          have hjl : j < g.length := by have := HM2.out.1; omega
          have hjl2 : (j : Int) < (g.length : Int) := by omega
          obtain ⟨b2, o2, rfl, hcg⟩ := (HGA.out wr HB.out).get hjl
          have hbz := HB.out.size
          rw [hj] at hcf
          have HA := Lib.hid (show g.getD (f.getD k 0).toNat 0 = g[j] by rw [getD_lt 0 hlt, hj, Int.toNat_natCast, getD_lt 0 hjl])
          clear hr1 hj
          go_wp2_with (at_builtin; refine wpList_append_own _ rfl _ _ 25 rfl w.heap.size 3 i0 (.int .i64 0) 1 8 Tryd.underlying25 hi0 hz0 hz1 hz2 rfl (by decide) _ _ _ rfl (HOWN.out.alloc _) ⟨wr.heap.size, 0, none⟩ 1 1 [.int .i64 g[j]] rfl rfl (cell_one_new _ _ _) (by simp [Value.oneCell']) (by unfold maxLen; omega) (by omega) (by simp; omega) ?_; intro v' w1 hown' hgrow _)
          go_roundw
          case rel =>
            refine ⟨k + 1, by omega, by go_num, ?_, (HB.out.alloc HB.out.size _).grown hgrow (by rw [World.size_alloc]; omega) (fun b e => (HOWN.out.lt b e).1)⟩
            rw [afterN_succ, HA.out, List.length_append, show cellsI (afterN f g k ++ [g[j]]) = cellsI (afterN f g k) ++ [.int .i64 g[j]] by simp]
            exact hown'
          case measure => simp [intOf]; omega
        · obtain rfl : k = f.length := by omega
          go_wp2
          go_ret2
          refine ⟨_, by rw [HE.out]; rfl, ?_, HB.out⟩
          unfold afterL
          rw [if_pos HE.out]
          refine OwnI.of_owns HOWN.out ?_ (fun b hb => (HOWN.out.lt b hb).2)
          intro y hy
          unfold afterN at hy
          obtain ⟨i, hi, rfl⟩ := List.mem_map.1 hy
          rw [List.mem_range] at hi
          have h3 := HM1.out.2.1 (f.getD i 0) (by rw [getD_lt 0 hi]; exact List.getElem_mem _)
          have h4 := HM2.out.1
          have h5 := HM2.out.2.1 (g.getD (f.getD i 0).toNat 0) (by rw [getD_lt 0 (show (f.getD i 0).toNat < g.length by omega)]; exact List.getElem_mem _)
          have h6 : rows2.length ≤ 1048576 := by unfold bulk at hn2; omega
          exact wf_int (by omega) (by omega)
end Go.Proofs.YtnniffjjbekodaaDoor
