/- The program's FunStrict. -/
import Derived.Test.YtnniffjjbekodaaDoorImplFM
import Derived.Test.YtnniffjjbekodaaDoorStrictS
import Derived.Test.YtnniffjjbekodaaDoorTops
namespace Go.Proofs.YtnniffjjbekodaaDoor
open Go.RowKit Go.Deep Go.Shelf

/-- What funTypeOf answers where both are domains and the lists monotone functions. -/
def FtYes (rows rows' : Rows2) (w : World) (e : Ending) (w' : World) : Prop :=
  (∃ p p' : Nat, e = .returned (.tuple #[.agg #[.pointer (some ⟨p, 0, none⟩), .pointer (some ⟨p', 0, none⟩)], .bool true]) ∧ w.heap.size ≤ p ∧ w.heap.size ≤ p' ∧ GridAt w' p (gridF rows) ∧ GridAt w' p' (gridF rows')) ∧ Below w.heap.size w w'
theorem FtP.yes {rows rows' : Rows2} {w w' : World} {e : Ending} (h : FtP true rows rows' w e w') : FtYes rows rows' w e w' := by
  obtain ⟨⟨q, q', he, h⟩, hb⟩ := h
  obtain ⟨p, p', rfl, rfl, h1, h2, h3, h4⟩ := h rfl
  exact ⟨⟨p, p', he, h1, h2, h3, h4⟩, hb⟩
theorem monoB_ok {rows rows' : Rows2} {f : List Int} (h : monoB rows rows' f = true) : Ok rows ∧ Ok rows' ∧ Mono rows rows' f := by
  obtain ⟨h1, h2, h3⟩ := monoB_parts h
  unfold domB at h1 h2
  rw [Bool.and_eq_true] at h1 h2
  exact ⟨ok_of_valid h1.1, ok_of_valid h2.1, h3⟩
theorem leastG {rows : Rows2} (h : Ok rows) (b : Nat) (w : World) (hg : GridAt w b (gridF rows)) (hT : Tab w) :
    Calls Tryd.prog 60 #[.pointer (some ⟨b, 0, none⟩)] w (SaysI (leastI rows) w) := by
  rw [least_eq h]
  exact least_any b rows.length (gridF rows) w hg hT h.gridN

set_option maxRecDepth 100000 in
set_option maxHeartbeats 8000000 in
theorem implStrict_any (v v' vf : Value) (rows rows' : Rows2) (f : List Int) (w : World) (hv : RowsAt w v rows) (hv' : RowsAt w v' rows') (hf : IntsAt w vf f) (hT : Tab w) (hn : bulk rows ≤ 1048576) (hn' : bulk rows' ≤ 1048576) :
    Calls Tryd.prog 31 #[.agg #[v], .agg #[v'], vf] w (SaysN (strictB rows rows' f) w) := by
  have h0 := TwoF.start w 28 28 hv hv' hf
  have hl := rows_one h0.2
  have b1 := (Below.refl ((w.alloc (.cells #[v] 28)).alloc (.cells #[v'] 28)).heap.size ((w.alloc (.cells #[v] 28)).alloc (.cells #[v'] 28))).alloc (Nat.le_refl _) (.cells #[vf] 25)
  have h1 := h0.step b1
  have hT1 := (hT.below h0.1.below).below b1
  have hcall := funTypeOf_any v v' _ rows rows' [f] _ h1.1.r0 h1.1.r1 hl hT1 hn hn'
  have hs : ((w.alloc (.cells #[v] 28)).alloc (.cells #[v'] 28)).heap.size = w.heap.size + 2 := by rw [World.size_alloc, World.size_alloc]
  rw [ftB_one, hs] at hcall
  have hc0 := h0.1.c0
  have hc1 := h0.1.c1
  obtain ⟨A, C, rfl, _⟩ := hv
  obtain ⟨A', C', rfl, _⟩ := hv'
  obtain ⟨Af, Cf, rfl, _⟩ := hf
  have H1 := Lib.hid h1
  have T1 := Lib.hid hT1
  clear h0 hl b1 h1 hT1 hs hT
  cases hm : monoB rows rows' f with
  | false =>
    rw [hm] at hcall
    have HE := Lib.hid (show strictB rows rows' f = false by unfold strictB; rw [hm]; rfl)
    clear hm
    go_enter Tryd.func31, Tryd.ntmps31
    go_wp2_with (go_at_call 55; refine hcall.mono ?_; clear hcall; rintro e w1 ⟨⟨q, q', rfl, _⟩, hb1⟩; have H2 := Lib.hid ((H1.out.step hb1).step ((Below.refl _ w1).alloc (Nat.le_refl _) (.cells #[.pointer q, .pointer q'] 60))); clear hb1)
    refine wp_region_quiet_below (by kernel_rfl) (by kernel_rfl) ?_
    repeat (go_big_quiet_step (fail))
    refine wpQuiet_nil ?_
    intro _ hw'
    obtain ⟨⟨dq, osq⟩, hw''⟩ := hw'
    subst hw''
    go_wp2
    go_ret
    exact ⟨by rw [HE.out]; rfl, (H2.out.step (below_regrown _ dq osq)).1.below⟩
  | true =>
    rw [hm] at hcall
    obtain ⟨hok, hok', hmo⟩ := monoB_ok hm
    obtain ⟨hd, hd', _⟩ := monoB_parts hm
    obtain ⟨m, hml, hme⟩ := dom_least hd
    obtain ⟨m', _, hme'⟩ := dom_least hd'
    have hlf : m < f.length := by rw [hmo.1]; exact hml
    have hlf2 : (m : Int) < (f.length : Int) := by omega
    have hE : strictB rows rows' f = decide (f[m] = (m' : Int)) := by
      unfold strictB
      rw [hm, hme, hme', Int.toNat_natCast, getD_lt 0 hlf, Bool.true_and]
    have HL := Lib.hid (fun b W hg hT => leastG hok b W hg hT)
    have HL' := Lib.hid (fun b W hg hT => leastG hok' b W hg hT)
    simp only [hme] at HL
    simp only [hme'] at HL'
    clear hm hme hme' hd hd' hmo hok hok'
    have hcall2 := hcall.mono (fun e w' h => h.yes)
    clear hcall
    go_enter Tryd.func31, Tryd.ntmps31
    go_wp2_with (go_at_call 55; refine hcall2.mono ?_; clear hcall2; rintro e w1 ⟨⟨p, p', rfl, _, _, hg, hg'⟩, hb1⟩; have H2 := Lib.hid ((H1.out.step hb1).step ((Below.refl _ w1).alloc (Nat.le_refl _) (.cells #[.pointer (some ⟨p, 0, none⟩), .pointer (some ⟨p', 0, none⟩)] 60))); have T2 := Lib.hid ((T1.out.below hb1).below ((Below.refl _ w1).alloc (Nat.le_refl _) (.cells #[.pointer (some ⟨p, 0, none⟩), .pointer (some ⟨p', 0, none⟩)] 60))); have G2 := Lib.hid (hg.below ((Below.refl _ w1).alloc (Nat.le_refl _) (.cells #[.pointer (some ⟨p, 0, none⟩), .pointer (some ⟨p', 0, none⟩)] 60)) hg.lt); have G2' := Lib.hid (hg'.below ((Below.refl _ w1).alloc (Nat.le_refl _) (.cells #[.pointer (some ⟨p, 0, none⟩), .pointer (some ⟨p', 0, none⟩)] 60)) hg'.lt); clear hb1 hg hg')
    have hq0 : (w1.alloc (.cells #[.pointer (some ⟨p, 0, none⟩), .pointer (some ⟨p', 0, none⟩)] 60)).cell? ⟨w1.heap.size, 0, none⟩ = some (.pointer (some ⟨p, 0, none⟩)) := by
      rw [cell_of_row _ w1.heap.size 0 _ _ _ (heap_alloc_new _ _)]; rfl
    have hq1 : (w1.alloc (.cells #[.pointer (some ⟨p, 0, none⟩), .pointer (some ⟨p', 0, none⟩)] 60)).cell? ⟨w1.heap.size, 1, none⟩ = some (.pointer (some ⟨p', 0, none⟩)) := by
      rw [cell_of_row _ w1.heap.size 1 _ _ _ (heap_alloc_new _ _)]; rfl
    obtain ⟨W2, hW2⟩ : ∃ W2 : World, W2 = w1.alloc (.cells #[.pointer (some ⟨p, 0, none⟩), .pointer (some ⟨p', 0, none⟩)] 60) := ⟨_, rfl⟩
    rw [← hW2] at H2 T2 G2 G2' hq0 hq1 ⊢
    clear hW2 hc0 hc1
    have hc0 := fun d os => cell_regrown hq0 d os
    have hc1 := fun d os => cell_regrown hq1 d os
    obtain ⟨bf, o_f, rfl, hcf⟩ := H2.out.2.get hlf
    have hqf := fun d os => cell_regrown hcf d os
    have hcL := fun d os => Calls.regrown_of (d := d) (os := os) (HL.out p _ (G2.out.below (below_regrown W2 d os) G2.out.lt) (T2.out.below (below_regrown W2 d os)))
    have hcL' := fun d os => Calls.regrown_of (d := d) (os := os) (HL'.out p' _ (G2'.out.below (below_regrown W2 d os) G2'.out.lt) (T2.out.below (below_regrown W2 d os)))
    clear hq0 hq1 hcf
    by_cases he : f[m] = (m' : Int)
    · have hb : (f[m] == (m' : Int)) = true := by rw [beq_iff_eq]; exact he
      rw [decide_eq_true he] at hE
      have HE := Lib.hid hE
      clear hE he
      refine wp_region_quiet_below (by kernel_rfl) (by kernel_rfl) ?_
      repeat (go_big_quiet_step (first | (go_at_call_of 60 (Value.pointer (some ⟨p, 0, none⟩)); exact hcL _ _) | (go_at_call_of 60 (Value.pointer (some ⟨p', 0, none⟩)); exact hcL' _ _)))
      refine wpQuiet_nil ?_
      intro _ hw'
      obtain ⟨⟨dq, osq⟩, hw''⟩ := hw'
      subst hw''
      clear hcL hcL' hc0 hc1 hqf
      go_wp2
      go_ret
      exact ⟨by rw [HE.out]; simp_all, (H2.out.step (below_regrown W2 dq osq)).1.below⟩
    · have hb : (f[m] == (m' : Int)) = false := by rw [beq_eq_false_iff_ne]; exact he
      rw [decide_eq_false he] at hE
      have HE := Lib.hid hE
      clear hE he
      refine wp_region_quiet_below (by kernel_rfl) (by kernel_rfl) ?_
      repeat (go_big_quiet_step (first | (go_at_call_of 60 (Value.pointer (some ⟨p, 0, none⟩)); exact hcL _ _) | (go_at_call_of 60 (Value.pointer (some ⟨p', 0, none⟩)); exact hcL' _ _)))
      refine wpQuiet_nil ?_
      intro _ hw'
      obtain ⟨⟨dq, osq⟩, hw''⟩ := hw'
      subst hw''
      clear hcL hcL' hc0 hc1 hqf
      go_wp2
      go_ret
      exact ⟨by rw [HE.out]; simp_all, (H2.out.step (below_regrown W2 dq osq)).1.below⟩
end Go.Proofs.YtnniffjjbekodaaDoor
