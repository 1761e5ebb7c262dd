/- The model's FunBelow. -/
import Derived.Test.YtnniffjjbekodaaDoorStrictS
namespace Go.Proofs.YtnniffjjbekodaaDoor
open Go.RowKit Go.Deep

/-- Element by element, the one list is below the other. -/
def underI (rows' : Rows2) (f g : List Int) : Bool := (List.range f.length).all fun i => upB rows' (f.getD i 0).toNat (g.getD i 0)
theorem underI_no {rows' : Rows2} {f g : List Int} {i : Nat} (hi : i < f.length) (h : upB rows' (f.getD i 0).toNat (g.getD i 0) = false) : underI rows' f g = false := by
  unfold underI
  rw [List.all_eq_false]
  exact ⟨i, List.mem_range.2 hi, by rw [h]; simp⟩
theorem underI_yes {rows' : Rows2} {f g : List Int} (h : ∀ i, i < f.length → upB rows' (f.getD i 0).toNat (g.getD i 0) = true) : underI rows' f g = true := by
  unfold underI
  rw [List.all_eq_true]
  exact fun i hi => h i (List.mem_range.1 hi)
noncomputable def belowB (rows rows' : Rows2) (f g : List Int) : Bool := monoB rows rows' f && monoB rows rows' g && underI rows' f g

/-- An order in its variable, and two lists. -/
def HeldG (w : World) (v vf vg : Value) (rows : Rows2) (f g : List Int) (W : World) : Prop := Held w v rows W ∧ IntsAt W vf f ∧ IntsAt W vg g
theorem HeldG.step {w : World} {v vf vg : Value} {rows : Rows2} {f g : List Int} {W W' : World} (h : HeldG w v vf vg rows f g W) (hb : Below W.heap.size W W') : HeldG w v vf vg rows f g W' := ⟨h.1.below hb, h.2.1.below hb, h.2.2.below hb⟩
theorem HeldG.drew {w : World} {v vf vg : Value} {rows : Rows2} {f g : List Int} {W : World} (h : HeldG w v vf vg rows f g W) : HeldG w v vf vg rows f g W.drew := h.step ⟨rfl, rfl, rfl, Nat.le_refl _, fun _ _ => rfl⟩

set_option maxRecDepth 100000 in
set_option maxHeartbeats 4000000 in
theorem l2Under_any (v vf vg : Value) (rows : Rows2) (f g : List Int) (w : World) (hv : RowsAt w v rows) (hf : IntsAt w vf f) (hg : IntsAt w vg g) (hn : bulk rows ≤ 1048576) (hl : listsB rows = true)
    (hr : ∀ i (hi : i < f.length), 0 ≤ f[i] ∧ f[i] < rows.length) (he : f.length = g.length) (hfl : f.length ≤ 1048576) :
    Calls Tryd.prog 62 #[.agg #[v], vf, vg] w (SaysN (underI rows f g) w) := by
  have hH := Held.start w 28 hv
  have hh : HeldG w v vf vg rows f g (w.alloc (.cells #[v] 28)) := ⟨hH, hf.below ((Below.refl _ w).alloc (Nat.le_refl _) _), hg.below ((Below.refl _ w).alloc (Nat.le_refl _) _)⟩
  obtain ⟨A, C, rfl, _⟩ := hv
  obtain ⟨Af, Cf, rfl, _⟩ := hf
  obtain ⟨Ag, Cg, rfl, _⟩ := hg
  have HH := Lib.hid hh
  have HR := Lib.hid hr
  have HEQ := Lib.hid he
  clear hH hh hr he
  go_enter Tryd.func62, Tryd.ntmps62
  go_wp2
  go_loopw [7] (fun kv wr => ∃ k : Nat, k ≤ f.length ∧ kv = .int .i64 k ∧ (∀ q, q < k → upB rows (f.getD q 0).toNat (g.getD q 0) = true) ∧ HeldG w (.slice A rows.length C) (.slice Af f.length Cf) (.slice Ag g.length Cg) rows f g wr) (fun kv _ => f.length - (intOf kv).toNat)
  case atStart => exact ⟨0, Nat.zero_le _, rfl, fun _ h => absurd h (Nat.not_lt_zero _), HH.out⟩
  case round =>
    obtain ⟨k, hk, rfl, hp, hh⟩ := hrel
    have HP := Lib.hid hp
    have HK := Lib.hid hh
    have hcell := hh.1.1
    clear hp HH
    by_cases hlt : k < f.length
    · have hltg : k < g.length := by have := HEQ.out; omega
      obtain ⟨bf, o_f, rfl, hcf⟩ := hh.2.1.get hlt
      obtain ⟨bg, o_g, rfl, hcg⟩ := hh.2.2.get hltg
      have hrk := HR.out k hlt
      have e1 : f.getD k 0 = f[k] := getD_lt 0 hlt
      have e2 : g.getD k 0 = g[k] := getD_lt 0 hltg
      clear hh
      cases hup : upB rows f[k].toNat g[k] with
      | true =>
        have HCALL := Lib.hid (le_call (HK.out.drew).1.2.1 hl hn f[k] g[k] hrk.1 hrk.2 (r := true) hup)
        have HU := Lib.hid (show upB rows (f.getD k 0).toNat (g.getD k 0) = true by rw [e1, e2]; exact hup)
        clear hup e1 e2 hrk
        go_wp2
        go_still_tail 9, (by kernel_rfl)
        go_wp2_with (go_at_call 88; refine HCALL.out.mono ?_; clear HCALL; rintro e w3 ⟨rfl, hb3⟩; have H3 := Lib.hid (HK.out.drew.step hb3); clear hb3)
        go_roundw
        case rel =>
          refine ⟨k + 1, by omega, by go_num, fun q hq => ?_, H3.out⟩
          by_cases e : q = k
          · subst e; exact HU.out
          · exact HP.out q (by omega)
        case measure => simp [intOf]; omega
      | false =>
        have HCALL := Lib.hid (le_call (HK.out.drew).1.2.1 hl hn f[k] g[k] hrk.1 hrk.2 (r := false) hup)
        have HE := Lib.hid (underI_no (rows' := rows) (g := g) hlt (by rw [e1, e2]; exact hup))
        clear hup e1 e2 hrk
        go_wp2
        go_still_tail 9, (by kernel_rfl)
        go_wp2_with (go_at_call 88; refine HCALL.out.mono ?_; clear HCALL; rintro e w3 ⟨rfl, hb3⟩; have H3 := Lib.hid (HK.out.drew.step hb3); clear hb3)
        go_ret
        exact ⟨by rw [HE.out]; rfl, H3.out.1.2.2.1⟩
    · obtain rfl : k = f.length := by omega
      have HE := Lib.hid (underI_yes HP.out)
      clear hh
      go_wp2
      go_ret
      exact ⟨by rw [HE.out]; rfl, HK.out.1.2.2.1⟩

set_option maxRecDepth 100000 in
set_option maxHeartbeats 8000000 in
theorem specFunBelow_any (v v' vf vg : Value) (rows rows' : Rows2) (f g : List Int) (w : World) (hv : RowsAt w v rows) (hv' : RowsAt w v' rows') (hf : IntsAt w vf f) (hg : IntsAt w vg g)
    (hn : bulk rows ≤ 1048576) (hn' : bulk rows' ≤ 1048576) :
    Calls Tryd.prog 32 #[.agg #[v], .agg #[v'], vf, vg] w (SaysN (belowB rows rows' f g) w) := by
  have hT := TwoF.start w 28 28 hv hv' hf
  have hG := hg.below hT.1.below
  obtain ⟨A, C, rfl, _⟩ := hv
  obtain ⟨A', C', rfl, _⟩ := hv'
  obtain ⟨Af, Cf, rfl, _⟩ := hf
  obtain ⟨Ag, Cg, rfl, _⟩ := hg
  have H0 := Lib.hid hT
  have G0 := Lib.hid hG
  have hcell := hT.1.c0
  have hcell1 := hT.1.c1
  have hd1 := specMono_any _ _ _ rows rows' f _ hT.1.r0 hT.1.r1 hT.2 hn hn'
  clear hT hG
  cases h1 : monoB rows rows' f with
  | false =>
    rw [h1] at hd1
    have HE := Lib.hid (show belowB rows rows' f g = false by unfold belowB; rw [h1]; rfl)
    go_enter Tryd.func32, Tryd.ntmps32
    go_wp2_with (go_at_call 17; refine hd1.mono ?_; clear hd1; rintro e w1 ⟨rfl, hb1⟩; have H1 := Lib.hid (H0.out.step hb1); clear hb1)
    go_ret
    exact ⟨by rw [HE.out]; rfl, H1.out.1.below⟩
  | true =>
    rw [h1] at hd1
    obtain ⟨hdd, hdd', hmo⟩ := monoB_parts h1
    have HMO := Lib.hid hmo
    have hl' := valid_lists (show validB rows' = true by unfold domB at hdd'; rw [Bool.and_eq_true] at hdd'; exact hdd'.1)
    have hfl : f.length ≤ 1048576 := by have := hmo.1; unfold bulk at hn; omega
    clear hdd hdd' hmo
    cases h2 : monoB rows rows' g with
    | false =>
      have HE := Lib.hid (show belowB rows rows' f g = false by unfold belowB; rw [h1, h2]; rfl)
      go_enter Tryd.func32, Tryd.ntmps32
      go_wp2_with (first | (go_at_call 17; refine hd1.mono ?_; clear hd1; rintro e w1 ⟨rfl, hb1⟩; have H1 := Lib.hid (H0.out.step hb1); have hc1 := H1.out.1.c0; have hc2 := H1.out.1.c1; have hd2 := specMono_any _ _ _ rows rows' g _ H1.out.1.r0 H1.out.1.r1 (G0.out.below hb1) hn hn'; rw [h2] at hd2; clear hb1) | (go_at_call 17; refine hd2.mono ?_; clear hd2; rintro e w2 ⟨rfl, hb2⟩; have H2 := Lib.hid (H1.out.step hb2); clear hb2))
      go_ret
      exact ⟨by rw [HE.out]; rfl, H2.out.1.below⟩
    | true =>
      obtain ⟨_, _, hmo2⟩ := monoB_parts h2
      have HLEN := Lib.hid (show f.length = g.length by rw [HMO.out.1, hmo2.1])
      have hE : belowB rows rows' f g = underI rows' f g := by unfold belowB; rw [h1, h2]; rfl
      have HCALL := Lib.hid (fun W (h1 : RowsAt W (.slice A' rows'.length C') rows') (h2 : IntsAt W (.slice Af f.length Cf) f) (h3 : IntsAt W (.slice Ag g.length Cg) g) => l2Under_any _ _ _ rows' f g W h1 h2 h3 hn' hl' (fun i hi => HMO.out.2.1 _ (List.getElem_mem hi)) HLEN.out hfl)
      rw [hE]
      generalize underI rows' f g = t at HCALL ⊢
      clear hmo2 hE h1
      go_enter Tryd.func32, Tryd.ntmps32
      go_wp2_with (first | (go_at_call 17; refine hd1.mono ?_; clear hd1; rintro e w1 ⟨rfl, hb1⟩; have H1 := Lib.hid (H0.out.step hb1); have G1 := Lib.hid (G0.out.below hb1); have hc1 := H1.out.1.c0; have hc2 := H1.out.1.c1; have hd2 := specMono_any _ _ _ rows rows' g _ H1.out.1.r0 H1.out.1.r1 (G0.out.below hb1) hn hn'; rw [h2] at hd2; clear hb1) | (go_at_call 17; refine hd2.mono ?_; clear hd2; rintro e w2 ⟨rfl, hb2⟩; have H2 := Lib.hid (H1.out.step hb2); have G2 := Lib.hid (G1.out.below hb2); have hc3 := H2.out.1.c1; clear hb2) | (go_at_call 62; refine (HCALL.out _ H2.out.1.r1 H2.out.2 G2.out).mono ?_; rintro e w3 ⟨rfl, hb3⟩; have H3 := Lib.hid (H2.out.step hb3); clear hb3))
      go_ret
      exact ⟨by simp, H3.out.1.below⟩
end Go.Proofs.YtnniffjjbekodaaDoor
