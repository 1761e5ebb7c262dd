/- The model's PairIs. -/
import Derived.Test.YtpjkmiinpjhdnaaDoorPairP
import Derived.Test.YtpjkmiinpjhdnaaDoorStrictS
namespace Go.Proofs.YtpjkmiinpjhdnaaDoor
open Go.RowKit Go.Deep

/-- Two orders in their variables, and two lists. -/
def TwoFG (w : World) (v v' vf vg : Value) (rows rows' : Rows2) (f g : List Int) (W : World) : Prop := TwoF w v v' vf rows rows' f W ∧ IntsAt W vg g
theorem TwoFG.step {w : World} {v v' vf vg : Value} {rows rows' : Rows2} {f g : List Int} {W W' : World} (h : TwoFG w v v' vf vg rows rows' f g W) (hb : Below W.heap.size W W') : TwoFG w v v' vf vg rows rows' f g W' := ⟨h.1.step hb, h.2.below hb⟩
theorem TwoFG.drew {w : World} {v v' vf vg : Value} {rows rows' : Rows2} {f g : List Int} {W : World} (h : TwoFG w v v' vf vg rows rows' f g W) : TwoFG w v v' vf vg rows rows' f g W.drew := h.step ⟨rfl, rfl, rfl, Nat.le_refl _, fun _ _ => rfl⟩
theorem TwoFG.start (w : World) {v v' vf vg : Value} {rows rows' : Rows2} {f g : List Int} (t t' : TypeId) (hv : RowsAt w v rows) (hv' : RowsAt w v' rows') (hf : IntsAt w vf f) (hg : IntsAt w vg g) : TwoFG w v v' vf vg rows rows' f g ((w.alloc (.cells #[v] t)).alloc (.cells #[v'] t')) :=
  ⟨TwoF.start w t t' hv hv' hf, hg.below (Two.start w t t' hv hv').below⟩
theorem pairB_no1 {rows rows' : Rows2} {f g : List Int} (h : monoB rows rows' f = false) : pairB rows rows' f g = false := by unfold pairB; rw [h]; rfl
theorem pairB_no2 {rows rows' : Rows2} {f g : List Int} (h : monoB rows' rows g = false) : pairB rows rows' f g = false := by unfold pairB; rw [h]; simp
theorem pairB_both {rows rows' : Rows2} {f g : List Int} (h : monoB rows rows' f = true) (h2 : monoB rows' rows g = true) : pairB rows rows' f g = pairI rows' f g := by unfold pairB; rw [h, h2]; simp

set_option maxRecDepth 100000 in
set_option maxHeartbeats 8000000 in
theorem specPairIs_any (v v' vf vg : Value) (rows rows' : Rows2) (f g : List Int) (w : World) (hv : RowsAt w v rows) (hv' : RowsAt w v' rows') (hf : IntsAt w vf f) (hg : IntsAt w vg g)
    (hn : bulk rows ≤ 1048576) (hn' : bulk rows' ≤ 1048576) :
    Calls Tryd.prog 17 #[.agg #[v], .agg #[v'], vf, vg] w (SaysN (pairB rows rows' f g) w) := by
  have hT := TwoFG.start w 25 25 hv hv' hf hg
  obtain ⟨A, C, rfl, _⟩ := hv
  obtain ⟨A', C', rfl, _⟩ := hv'
  obtain ⟨Af, Cf, rfl, hCf, hmf, _⟩ := hf
  obtain ⟨Ag, Cg, rfl, hCg, hmg, _⟩ := hg
  have H0 := Lib.hid hT
  have hc0 := hT.1.1.c0
  have hc1 := hT.1.1.c1
  have hd1 := specMono_any _ _ _ rows rows' f _ hT.1.1.r0 hT.1.1.r1 hT.1.2 hn hn'
  clear hT
  cases h1 : monoB rows rows' f with
  | false =>
    rw [h1] at hd1
    have HE := Lib.hid (pairB_no1 (g := g) h1)
    go_enter Tryd.func17, Tryd.ntmps17
    go_wp2_with (go_at_call 37; refine hd1.mono ?_; clear hd1; rintro e w1 ⟨rfl, hb1⟩; have H1 := Lib.hid (H0.out.step hb1); clear hb1)
    go_ret
    exact ⟨by rw [HE.out]; rfl, H1.out.1.1.below⟩
  | true =>
    rw [h1] at hd1
    cases h2 : monoB rows' rows g with
    | false =>
      have HE := Lib.hid (pairB_no2 (f := f) h2)
      go_enter Tryd.func17, Tryd.ntmps17
      go_wp2_with (first | (go_at_call 37; refine hd1.mono ?_; clear hd1; rintro e w1 ⟨rfl, hb1⟩; have H1 := Lib.hid (H0.out.step hb1); have he0 := H1.out.1.1.c0; have he1 := H1.out.1.1.c1; have hd2 := specMono_any _ _ _ rows' rows g _ H1.out.1.1.r1 H1.out.1.1.r0 H1.out.2 hn' hn; rw [h2] at hd2; clear hb1) | (go_at_call 37; refine hd2.mono ?_; clear hd2; rintro e w2 ⟨rfl, hb2⟩; have H2 := Lib.hid (H1.out.step hb2); clear hb2))
      go_ret
      exact ⟨by rw [HE.out]; rfl, H2.out.1.1.below⟩
    | true =>
      obtain ⟨hdd, hdd', hm1⟩ := monoB_parts h1
      obtain ⟨_, _, hm2⟩ := monoB_parts h2
      have hl' := valid_lists (show validB rows' = true by unfold domB at hdd'; rw [Bool.and_eq_true] at hdd'; exact hdd'.1)
      have hf200 : f.length ≤ 200 := by rw [hm1.1]; exact (dom_ok hdd).len.2
      have hg200 : g.length ≤ 200 := by rw [hm2.1]; exact (dom_ok hdd').len.2
      have HM1 := Lib.hid hm1
      have HM2 := Lib.hid hm2
      have HE := Lib.hid (pairB_both h1 h2)
      clear hm1 hm2 hdd hdd' hmf hmg
      go_enter Tryd.func17, Tryd.ntmps17
      go_wp2_with (first | (go_at_call 37; refine hd1.mono ?_; clear hd1; rintro e w1 ⟨rfl, hb1⟩; have H1 := Lib.hid (H0.out.step hb1); have he0 := H1.out.1.1.c0; have he1 := H1.out.1.1.c1; have hd2 := specMono_any _ _ _ rows' rows g _ H1.out.1.1.r1 H1.out.1.1.r0 H1.out.2 hn' hn; rw [h2] at hd2; clear hb1) | (go_at_call 37; refine hd2.mono ?_; clear hd2; rintro e w2 ⟨rfl, hb2⟩; have H2 := Lib.hid (H1.out.step hb2); clear hb2))
      clear hc0 hc1 he0 he1
      go_loopw [9] (fun iv wr => ∃ i : Nat, i ≤ f.length ∧ iv = .int .i64 i ∧ (∀ q, q < i → atN g (atN f q) = q) ∧ TwoFG w (.slice A rows.length C) (.slice A' rows'.length C') (.slice Af f.length Cf) (.slice Ag g.length Cg) rows rows' f g wr) (fun iv _ => f.length - (intOf iv).toNat)
      case atStart => exact ⟨0, Nat.zero_le _, rfl, fun _ h => absurd h (Nat.not_lt_zero _), H2.out⟩
      case round =>
        obtain ⟨i, hi, rfl, hp, hh⟩ := hrel
        have HP := Lib.hid hp
        have HK := Lib.hid hh
        clear hp H2
        by_cases hlt : i < f.length
        · obtain ⟨bf, o_f, rfl, hcf⟩ := hh.1.2.get hlt
          have hfa := HM1.out.lt hlt
          obtain ⟨a, ha⟩ : ∃ a : Nat, atN f i = a := ⟨_, rfl⟩
          rw [ha] at hfa
          rw [getD_lt 0 hlt] at hfa
          rw [hfa.2] at hcf
          have hal : a < g.length := by rw [HM2.out.1]; exact hfa.1
          have hal2 : (a : Int) < (g.length : Int) := by omega
          obtain ⟨bg, o_g, rfl, hcg⟩ := hh.2.get hal
          have hgb := HM2.out.lt hal
          obtain ⟨b, hb⟩ : ∃ b : Nat, atN g a = b := ⟨_, rfl⟩
          rw [hb] at hgb
          rw [getD_lt 0 hal] at hgb
          rw [hgb.2] at hcg
          have hge : atN g (atN f i) = b := by rw [ha, hb]
          clear hh hfa hgb ha hb
          by_cases hbi : b = i
          · have hb1 : ((b : Int) == (i : Int)) = true := by rw [beq_iff_eq]; omega
            have hb2 : (b == i) = true := by rw [beq_iff_eq]; exact hbi
            have hb3 : ((b : Int) != (i : Int)) = false := by unfold bne; rw [hb1]; rfl
            have hb4 : (b != i) = false := by unfold bne; rw [hb2]; rfl
            have HQ := Lib.hid (hge.trans hbi)
            clear hge hbi
            go_wp2
            go_roundw
            case rel =>
              refine ⟨i + 1, by omega, by go_num, fun q hq => ?_, HK.out⟩
              by_cases e : q = i
              · subst e; exact HQ.out
              · exact HP.out q (by omega)
            case measure => simp [intOf]; omega
          · have hb1 : ((b : Int) == (i : Int)) = false := by rw [beq_eq_false_iff_ne]; omega
            have hb2 : (b == i) = false := by rw [beq_eq_false_iff_ne]; exact hbi
            have hb3 : ((b : Int) != (i : Int)) = true := by unfold bne; rw [hb1]; rfl
            have hb4 : (b != i) = true := by unfold bne; rw [hb2]; rfl
            have HQ := Lib.hid (pairI_bad1 (rows' := rows') (g := g) hlt (by rw [hge]; exact hbi))
            clear hge hbi
            go_wp2
            go_ret
            exact ⟨by rw [HE.out, HQ.out]; rfl, HK.out.1.1.below⟩
        · obtain rfl : i = f.length := by omega
          clear hh
          go_wp2
          go_loopw [10] (fun kv wr => ∃ k : Nat, k ≤ g.length ∧ kv = .int .i64 k ∧ (∀ q, q < k → upB rows' (atN f (atN g q)) q = true) ∧ TwoFG w (.slice A rows.length C) (.slice A' rows'.length C') (.slice Af f.length Cf) (.slice Ag g.length Cg) rows rows' f g wr) (fun kv _ => g.length - (intOf kv).toNat)
          case atStart => exact ⟨0, Nat.zero_le _, rfl, fun _ h => absurd h (Nat.not_lt_zero _), HK.out⟩
          case round =>
            obtain ⟨k, hk, rfl, hp, hh⟩ := hrel
            have HP2 := Lib.hid hp
            have HK2 := Lib.hid hh
            have hcell1 := hh.1.1.c1
            clear hp HK
            by_cases hkl : k < g.length
            · obtain ⟨bg, o_g, rfl, hcg⟩ := hh.2.get hkl
              have hga := HM2.out.lt hkl
              obtain ⟨a, ha⟩ : ∃ a : Nat, atN g k = a := ⟨_, rfl⟩
              rw [ha, getD_lt 0 hkl] at hga
              rw [hga.2] at hcg
              have hal : a < f.length := by rw [HM1.out.1]; exact hga.1
              have hal2 : (a : Int) < (f.length : Int) := by omega
              obtain ⟨bf, o_f, rfl, hcf⟩ := hh.1.2.get hal
              have hfb := HM1.out.lt hal
              obtain ⟨b, hb⟩ : ∃ b : Nat, atN f a = b := ⟨_, rfl⟩
              rw [hb, getD_lt 0 hal] at hfb
              rw [hfb.2] at hcf
              have hge : atN f (atN g k) = b := by rw [ha, hb]
              have hbl := hfb.1
              clear hh hga hfb ha hb
              cases hup : upB rows' b k with
              | true =>
                have HCALL := Lib.hid (le_call (HK2.out.drew).1.1.r1 hl' hn' (b : Int) (k : Int) (by omega) (by omega) (r := true) (by rw [Int.toNat_natCast]; exact hup))
                have HU := Lib.hid (show upB rows' (atN f (atN g k)) k = true by rw [hge]; exact hup)
                clear hup hge
                go_wp2
                go_still_tail 9, (by kernel_rfl)
                go_wp2_with (go_at_call 38; refine HCALL.out.mono ?_; clear HCALL; rintro e w3 ⟨rfl, hb3⟩; have H3 := Lib.hid (HK2.out.drew.step hb3); clear hb3)
                go_roundw
                case rel =>
                  refine ⟨k + 1, by omega, by go_num, fun q hq => ?_, H3.out⟩
                  by_cases e : q = k
                  · subst e; exact HU.out
                  · exact HP2.out q (by omega)
                case measure => simp [intOf]; omega
              | false =>
                have HCALL := Lib.hid (le_call (HK2.out.drew).1.1.r1 hl' hn' (b : Int) (k : Int) (by omega) (by omega) (r := false) (by rw [Int.toNat_natCast]; exact hup))
                have HU := Lib.hid (pairI_bad2 (f := f) hkl (show upB rows' (atN f (atN g k)) k = false by rw [hge]; exact hup))
                clear hup hge
                go_wp2
                go_still_tail 9, (by kernel_rfl)
                go_wp2_with (go_at_call 38; refine HCALL.out.mono ?_; clear HCALL; rintro e w3 ⟨rfl, hb3⟩; have H3 := Lib.hid (HK2.out.drew.step hb3); clear hb3)
                go_ret
                exact ⟨by rw [HE.out, HU.out]; rfl, H3.out.1.1.below⟩
            · obtain rfl : k = g.length := by omega
              have HQ := Lib.hid (pairI_yes (rows' := rows') (f := f) (g := g) ⟨HP.out, HP2.out⟩)
              clear hh
              go_wp2
              go_ret
              exact ⟨by rw [HE.out, HQ.out]; rfl, HK2.out.1.1.below⟩
end Go.Proofs.YtpjkmiinpjhdnaaDoor
