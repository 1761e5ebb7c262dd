/- The program's FunBelow. -/
import Derived.Test.YtnniffjjbekodaaDoorImplFS
import Derived.Test.YtnniffjjbekodaaDoorBelowS
namespace Go.Proofs.YtnniffjjbekodaaDoor
open Go.RowKit Go.Deep Go.Shelf

theorem ftB_two (rows rows' : Rows2) (f g : List Int) : ftB rows rows' [f, g] = (monoB rows rows' f && monoB rows rows' g) := by
  unfold ftB monoB
  cases domB rows <;> cases domB rows' <;> simp

theorem two_new (W : World) (a b : Value) (t : TypeId) : (W.alloc (.cells #[a, b] t)).cell? ⟨W.heap.size, 0, none⟩ = some a ∧ (W.alloc (.cells #[a, b] t)).cell? ⟨W.heap.size, 1, none⟩ = some b :=
  ⟨by rw [cell_of_row _ W.heap.size 0 _ _ _ (heap_alloc_new _ _)]; rfl, by rw [cell_of_row _ W.heap.size 1 _ _ _ (heap_alloc_new _ _)]; rfl⟩

/-- While funDomain.below runs: its variable, the lists, the grid. -/
structure FB (w : World) (L p : Nat) (u v : Value) (g' : Nat → Nat) (f g : List Int) (W : World) : Prop where
  c0 : W.cell? ⟨w.heap.size, 0, none⟩ = some (.slice (some ⟨L, 0, none⟩) 2 2)
  c1 : W.cell? ⟨w.heap.size, 1, none⟩ = some (.iface 58 (.pointer (some ⟨p, 0, none⟩)))
  l0 : W.cell? ⟨L, 0, none⟩ = some u
  l1 : W.cell? ⟨L, 1, none⟩ = some v
  f : IntsAt W u f
  g : IntsAt W v g
  grid : GridAt W p g'
  below : Below w.heap.size w W
theorem FB.step {w : World} {L p : Nat} {u v : Value} {g' : Nat → Nat} {f g : List Int} {W W' : World} (h : FB w L p u v g' f g W) (hb : Below W.heap.size W W') : FB w L p u v g' f g W' :=
  ⟨by rw [hb.cell (p := ⟨w.heap.size, 0, none⟩) (cell_lt h.c0)]; exact h.c0, by rw [hb.cell (p := ⟨w.heap.size, 1, none⟩) (cell_lt h.c1)]; exact h.c1,
    by rw [hb.cell (p := ⟨L, 0, none⟩) (cell_lt h.l0)]; exact h.l0, by rw [hb.cell (p := ⟨L, 1, none⟩) (cell_lt h.l1)]; exact h.l1, h.f.below hb, h.g.below hb, h.grid.below hb h.grid.lt, h.below.trans (hb.mono h.below.size)⟩

set_option maxRecDepth 100000 in
set_option maxHeartbeats 8000000 in
theorem funDomBelow_any (L p : Nat) (u v : Value) (rows' : Rows2) (f g : List Int) (w : World) (hok : Ok rows') (h0 : w.cell? ⟨L, 0, none⟩ = some u) (h1 : w.cell? ⟨L, 1, none⟩ = some v) (hf : IntsAt w u f) (hg : IntsAt w v g)
    (hG : GridAt w p (gridF rows')) (hlen : f.length = g.length) (hrf : ∀ i (hi : i < f.length), 0 ≤ f[i] ∧ f[i] < rows'.length) (hrg : ∀ i (hi : i < g.length), 0 ≤ g[i] ∧ g[i] < rows'.length) :
    Calls Tryd.prog 63 #[.agg #[.slice (some ⟨L, 0, none⟩) 2 2, .iface 58 (.pointer (some ⟨p, 0, none⟩))], .int .i64 0, .int .i64 1] w (SaysN (underI rows' f g) w) := by
  have b1 := (Below.refl w.heap.size w).alloc (Nat.le_refl _) (.cells #[.slice (some ⟨L, 0, none⟩) 2 2, .iface 58 (.pointer (some ⟨p, 0, none⟩))] 75)
  have hB : FB w L p u v (gridF rows') f g (w.alloc (.cells #[.slice (some ⟨L, 0, none⟩) 2 2, .iface 58 (.pointer (some ⟨p, 0, none⟩))] 75)) :=
    ⟨by rw [cell_of_row _ w.heap.size 0 _ _ _ (heap_alloc_new _ _)]; rfl, by rw [cell_of_row _ w.heap.size 1 _ _ _ (heap_alloc_new _ _)]; rfl, by rw [b1.cell (p := ⟨L, 0, none⟩) (cell_lt h0)]; exact h0, by rw [b1.cell (p := ⟨L, 1, none⟩) (cell_lt h1)]; exact h1, hf.below b1, hg.below b1, hG.below b1 hG.lt, b1⟩
  have hmB := run_below
  have hle := hok.len.2
  have hbit : ∀ a b, a < rows'.length → (gridF rows' a).testBit b = upB rows' a b := fun a b ha => upB_grid hok ha
  obtain ⟨Af, Cf, rfl, hCf, hmf, _⟩ := hf
  obtain ⟨Ag, Cg, rfl, hCg, hmg, _⟩ := hg
  unfold maxLen at hmf hmg
  have HB := Lib.hid hB
  have HRF := Lib.hid hrf
  have HRG := Lib.hid hrg
  have HL := Lib.hid hlen
  have HBIT := Lib.hid hbit
  have hc0 := hB.c0
  have hl0 := hB.l0
  clear b1 hB hG h0 h1 hrf hrg hlen hok hbit
  go_enter Tryd.func63, Tryd.ntmps63
  go_wp2
  go_loopw [7, 8, 15] (fun _ _ kv wr => ∃ k : Nat, k ≤ f.length ∧ kv = .int .i64 k ∧ (∀ q, q < k → upB rows' (f.getD q 0).toNat (g.getD q 0) = true) ∧ FB w L p (.slice Af f.length Cf) (.slice Ag g.length Cg) (gridF rows') f g wr) (fun _ _ kv _ => f.length - (intOf kv).toNat)
  case atStart => exact ⟨0, Nat.zero_le _, rfl, fun _ h => absurd h (Nat.not_lt_zero _), HB.out⟩
  case round =>
    obtain ⟨k, hk, rfl, hp, hh⟩ := hrel
    have HP := Lib.hid hp
    have HK := Lib.hid hh
    clear hp hh hc0 hl0
    by_cases hlt : k < f.length
    · have hltg : k < g.length := by have := HL.out; omega
      obtain ⟨bf, o_f, rfl, hcf⟩ := HK.out.f.get hlt
      obtain ⟨bg, o_g, rfl, hcg⟩ := HK.out.g.get hltg
      have hrk := HRF.out k hlt
      have hrg := HRG.out k hltg
      obtain ⟨ka, hka⟩ : ∃ ka : Nat, f[k] = (ka : Int) := ⟨f[k].toNat, by omega⟩
      obtain ⟨kb, hkb⟩ : ∃ kb : Nat, g[k] = (kb : Int) := ⟨g[k].toNat, by omega⟩
      have e1 : f.getD k 0 = (ka : Int) := by rw [getD_lt 0 hlt, hka]
      have e2 : g.getD k 0 = (kb : Int) := by rw [getD_lt 0 hltg, hkb]
      have hup : upB rows' (f.getD k 0).toNat (g.getD k 0) = (gridF rows' ka).testBit kb := by rw [e1, e2, Int.toNat_natCast, HBIT.out ka kb (by omega)]
      have hka2 : ka < 200 := by omega
      have hkb2 : kb < 256 := by omega
      have hkg : (k : Int) < (g.length : Int) := by omega
      rw [hka] at hcf
      rw [hkb] at hcg
      clear hrk hrg hka hkb e1 e2
      go_wp2
      obtain ⟨W0, hW0⟩ : ∃ W0 : World, W0 = wr := ⟨_, rfl⟩
      have hq0 := fun d os => cell_regrown HK.out.c0 d os
      have hq1 := fun d os => cell_regrown HK.out.c1 d os
      have hq2 := fun d os => cell_regrown HK.out.l1 d os
      have hq3 := fun d os => cell_regrown hcg d os
      have hcall := fun d os => Calls.regrown_of (d := d) (os := os) (gbelow_any p (gridF rows') ka kb ka kb _ (HK.out.grid.below (below_regrown wr d os) HK.out.grid.lt) rfl hka2 rfl hkb2)
      clear hcf hcg
      cases hb : (gridF rows' ka).testBit kb with
      | true =>
        simp only [hb] at hcall
        rw [hb] at hup
        have HU := Lib.hid hup
        clear hup hb
        refine wp_region_quiet_below (by kernel_rfl) (by kernel_rfl) ?_
        repeat (go_big_quiet_step (first | (go_at_call 92; exact hcall _ _)))
        refine wpQuiet_nil ?_
        intro _ hw'
        obtain ⟨⟨dq, osq⟩, hw''⟩ := hw'
        subst hw''
        clear hcall hq0 hq1 hq2 hq3
        go_wp2
        go_roundw
        case rel =>
          refine ⟨k + 1, by omega, by go_num, fun q hq => ?_, HK.out.step (below_regrown wr dq osq)⟩
          by_cases e : q = k
          · subst e; exact HU.out
          · exact HP.out q (by omega)
        case measure => simp [intOf]; omega
      | false =>
        simp only [hb] at hcall
        rw [hb] at hup
        have HE := Lib.hid (underI_no hlt hup)
        clear hup hb
        refine wp_region_quiet_below (by kernel_rfl) (by kernel_rfl) ?_
        repeat (go_big_quiet_step (first | (go_at_call 92; exact hcall _ _)))
        refine wpQuiet_nil ?_
        intro _ hw'
        obtain ⟨⟨dq, osq⟩, hw''⟩ := hw'
        subst hw''
        clear hcall hq0 hq1 hq2 hq3
        go_wp2
        go_ret
        exact ⟨by rw [HE.out]; rfl, (HK.out.step (below_regrown wr dq osq)).below⟩
    · obtain rfl : k = f.length := by omega
      have HE := Lib.hid (underI_yes HP.out)
      go_wp2
      go_ret
      exact ⟨by rw [HE.out]; rfl, HK.out.below⟩

set_option maxRecDepth 100000 in
set_option maxHeartbeats 8000000 in
theorem implFunBelow_any (v v' vf vg : Value) (rows rows' : Rows2) (f g : List Int) (w : World) (hv : RowsAt w v rows) (hv' : RowsAt w v' rows') (hf : IntsAt w vf f) (hg : IntsAt w vg g) (hT : Tab w) (hn : bulk rows ≤ 1048576) (hn' : bulk rows' ≤ 1048576) :
    Calls Tryd.prog 33 #[.agg #[v], .agg #[v'], vf, vg] w (SaysN (belowB rows rows' f g) w) := by
  have h0 := TwoF.start w 28 28 hv hv' hf
  have hg0 := hg.below h0.1.below
  have hl := rows_two h0.2 hg0
  have b1 := (Below.refl ((w.alloc (.cells #[v] 28)).alloc (.cells #[v'] 28)).heap.size ((w.alloc (.cells #[v] 28)).alloc (.cells #[v'] 28))).alloc (Nat.le_refl _) (.cells #[vf, vg] 25)
  have h1 := h0.step b1
  have hg1 := hg0.below b1
  have hT1 := (hT.below h0.1.below).below b1
  have hcall := funTypeOf_any v v' _ rows rows' [f, g] _ h1.1.r0 h1.1.r1 hl hT1 hn hn'
  have hs : ((w.alloc (.cells #[v] 28)).alloc (.cells #[v'] 28)).heap.size = w.heap.size + 2 := by rw [World.size_alloc, World.size_alloc]
  rw [ftB_two, hs] at hcall
  have hc0 := h0.1.c0
  have hc1 := h0.1.c1
  obtain ⟨A, C, rfl, _⟩ := hv
  obtain ⟨A', C', rfl, _⟩ := hv'
  obtain ⟨Af, Cf, rfl, _⟩ := hf
  obtain ⟨Ag, Cg, rfl, _⟩ := hg
  have H1 := Lib.hid h1
  have G1 := Lib.hid hg1
  clear h0 hl b1 h1 hT1 hs hT hg0 hg1
  cases hm : monoB rows rows' f && monoB rows rows' g with
  | false =>
    rw [hm] at hcall
    have HE := Lib.hid (show belowB rows rows' f g = false by unfold belowB; rw [hm]; rfl)
    clear hm
    go_enter Tryd.func33, Tryd.ntmps33
    go_wp2_with (go_at_call 55; refine hcall.mono ?_; clear hcall; rintro e w1 ⟨⟨q, q', rfl, _⟩, hb1⟩; have H2 := Lib.hid ((H1.out.step hb1).step ((Below.refl _ w1).alloc (Nat.le_refl _) (.cells #[.pointer q, .pointer q'] 60))); clear hb1)
    go_ret
    exact ⟨by rw [HE.out]; rfl, H2.out.1.below⟩
  | true =>
    rw [hm] at hcall
    have hE : belowB rows rows' f g = underI rows' f g := by unfold belowB; rw [hm, Bool.true_and]
    rw [Bool.and_eq_true] at hm
    obtain ⟨hok, hok', hmo⟩ := monoB_ok hm.1
    obtain ⟨_, _, hmo2⟩ := monoB_ok hm.2
    have HFB := Lib.hid (fun L p u v W h0 h1 hf hg hG => funDomBelow_any L p u v rows' f g W hok' h0 h1 hf hg hG (by rw [hmo.1, hmo2.1]) (fun i hi => hmo.2.1 _ (List.getElem_mem hi)) (fun i hi => hmo2.2.1 _ (List.getElem_mem hi)))
    rw [hE]
    generalize underI rows' f g = t at HFB ⊢
    clear hm hmo hmo2 hok hok' hE
    have hcall2 := hcall.mono (fun e w' h => h.yes)
    clear hcall
    go_enter Tryd.func33, Tryd.ntmps33
    go_wp2_with (first | (go_at_call 55; refine hcall2.mono ?_; clear hcall2; rintro e w1 ⟨⟨p, p', rfl, _, _, hg, hg'⟩, hb1⟩; have B2 := Lib.hid (((Below.refl w1.heap.size w1).alloc (Nat.le_refl _) (.cells #[.pointer (some ⟨p, 0, none⟩), .pointer (some ⟨p', 0, none⟩)] 60)).alloc (by simp) (.cells #[.slice Af f.length Cf, .slice Ag g.length Cg] 25)); have H2 := Lib.hid ((H1.out.step hb1).step B2.out); have G2 := Lib.hid ((G1.out.below hb1).below B2.out); have GR2 := Lib.hid (hg'.below B2.out hg'.lt); obtain ⟨hl0, hl1⟩ := two_new (w1.alloc (.cells #[.pointer (some ⟨p, 0, none⟩), .pointer (some ⟨p', 0, none⟩)] 60)) (.slice Af f.length Cf) (.slice Ag g.length Cg) 25; rw [World.size_alloc] at hl0 hl1; have HL0 := Lib.hid hl0; have HL1 := Lib.hid hl1; clear hl0 hl1 hb1 hg hg') | (go_at_call 63; refine (HFB.out _ p' _ _ _ HL0.out HL1.out H2.out.2 G2.out GR2.out).mono ?_; rintro e w3 ⟨rfl, hb3⟩; have H3 := Lib.hid (H2.out.step hb3); clear hb3))
    go_ret
    exact ⟨by simp, H3.out.1.below⟩
end Go.Proofs.YtnniffjjbekodaaDoor
