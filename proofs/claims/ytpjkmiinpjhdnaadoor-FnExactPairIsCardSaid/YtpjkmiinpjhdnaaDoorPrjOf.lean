/- The program's projectionOf, and its PairIs. -/
import Derived.Test.YtpjkmiinpjhdnaaDoorPairIsI
import Derived.Deep.RegionHeld3
namespace Go.Proofs.YtpjkmiinpjhdnaaDoor
open Go.RowKit Go.Deep Go.Shelf

/-- What domainOf answers: a pointer, and whether there is one. -/
def DomQ (rows : Rows2) (w : World) (e : Ending) (w' : World) : Prop :=
  (∃ q, e = .returned (.tuple #[.pointer q, .bool (domB rows)]) ∧ (domB rows = true → ∃ p : Nat, q = some ⟨p, 0, none⟩ ∧ w.heap.size ≤ p ∧ GridAt w' p (gridF rows))) ∧ Below w.heap.size w w'
theorem domainOf_q (v : Value) (rows : Rows2) (w : World) (hv : RowsAt w v rows) (hT : Tab w) (hn : bulk rows ≤ 1048576) :
    Calls Tryd.prog 53 #[.agg #[v]] w (DomQ rows w) := by
  cases h : domB rows with
  | false =>
    refine (domainOf_no v rows w hv hT hn h).mono fun e w' hp => ?_
    obtain ⟨rfl, hb⟩ := hp
    exact ⟨⟨_, by rw [h], fun h' => by rw [h] at h'; cases h'⟩, hb⟩
  | true =>
    refine (domainOf_yes v rows w hv hT hn h).mono fun e w' hp => ?_
    obtain ⟨⟨p, rfl, hp, hg⟩, hb⟩ := hp
    exact ⟨⟨_, by rw [h], fun _ => ⟨p, rfl, hp, hg⟩⟩, hb⟩

/-- While projectionOf runs. -/
structure Pj (w : World) (v v' vf vg : Value) (rows rows' : Rows2) (f g : List Int) (W : World) : Prop where
  fg : TwoFG w v v' vf vg rows rows' f g W
  zero : Four (w.heap.size + 2) (.pointer none) (.pointer none) (.slice none 0 0) (.slice none 0 0) 65 W
  tab : Tab W
theorem Pj.below {w : World} {v v' vf vg : Value} {rows rows' : Rows2} {f g : List Int} {W : World} (h : Pj w v v' vf vg rows rows' f g W) : Below w.heap.size w W := h.fg.1.1.below
theorem Pj.step {w : World} {v v' vf vg : Value} {rows rows' : Rows2} {f g : List Int} {W W' : World} (h : Pj w v v' vf vg rows rows' f g W) (hb : Below W.heap.size W W') : Pj w v v' vf vg rows rows' f g W' :=
  ⟨h.fg.step hb, h.zero.below hb, h.tab.below hb⟩
theorem Pj.start (w : World) {v v' vf vg : Value} {rows rows' : Rows2} {f g : List Int} (hv : RowsAt w v rows) (hv' : RowsAt w v' rows') (hf : IntsAt w vf f) (hg : IntsAt w vg g) (hT : Tab w) :
    Pj w v v' vf vg rows rows' f g (((w.alloc (.cells #[v] 25)).alloc (.cells #[v'] 25)).alloc (.cells #[.pointer none, .pointer none, .slice none 0 0, .slice none 0 0] 65)) := by
  have h2 := TwoFG.start w 25 25 hv hv' hf hg
  have s2 : ((w.alloc (.cells #[v] 25)).alloc (.cells #[v'] 25)).heap.size = w.heap.size + 2 := by rw [World.size_alloc, World.size_alloc]
  have b3 := (Below.refl ((w.alloc (.cells #[v] 25)).alloc (.cells #[v'] 25)).heap.size ((w.alloc (.cells #[v] 25)).alloc (.cells #[v'] 25))).alloc (Nat.le_refl _) (.cells #[.pointer none, .pointer none, .slice none 0 0, .slice none 0 0] 65)
  refine ⟨h2.step b3, ?_, (hT.below h2.1.1.below).below b3⟩
  have h := Four.new ((w.alloc (.cells #[v] 25)).alloc (.cells #[v'] 25)) (.pointer none) (.pointer none) (.slice none 0 0) (.slice none 0 0) 65
  rw [s2] at h
  exact h

/-- What projectionOf answers. -/
def PjP (t : Bool) (rows rows' : Rows2) (vf vg : Value) (w : World) (e : Ending) (w' : World) : Prop :=
  (∃ (q q' a a' : Option Addr) (n c n' c' : Nat), e = .returned (.tuple #[.agg #[.pointer q, .pointer q', .slice a n c, .slice a' n' c'], .bool t]) ∧
    (t = true → ∃ p p' : Nat, q = some ⟨p, 0, none⟩ ∧ q' = some ⟨p', 0, none⟩ ∧ Value.slice a n c = vf ∧ Value.slice a' n' c' = vg ∧ w.heap.size ≤ p ∧ w.heap.size ≤ p' ∧ GridAt w' p (gridF rows) ∧ GridAt w' p' (gridF rows'))) ∧ Below w.heap.size w w'
theorem PjP.no {t : Bool} {rows rows' : Rows2} {vf vg : Value} {w w' : World} (ht : t = false) (hb : Below w.heap.size w w') : PjP t rows rows' vf vg w (.returned (.tuple #[.agg #[.pointer none, .pointer none, .slice none 0 0, .slice none 0 0], .bool false])) w' :=
  ⟨⟨none, none, _, _, _, _, _, _, by rw [ht], fun h => (by rw [ht] at h; cases h)⟩, hb⟩
theorem below4 {B : Nat} {w W : World} (h : Below B w W) {p : Nat} (hp : B ≤ p) (a b c d : Value) : Below B w ((((W.setCell ⟨p, 0, none⟩ a).setCell ⟨p, 1, none⟩ b).setCell ⟨p, 2, none⟩ c).setCell ⟨p, 3, none⟩ d) :=
  (((h.setCell (p := ⟨p, 0, none⟩) hp _).setCell (p := ⟨p, 1, none⟩) hp _).setCell (p := ⟨p, 2, none⟩) hp _).setCell (p := ⟨p, 3, none⟩) hp _

set_option maxRecDepth 100000 in
set_option maxHeartbeats 4000000 in
theorem projectionOf_any (v v' vf vg : Value) (rows rows' : Rows2) (f g : List Int) (w : World) (hv : RowsAt w v rows) (hv' : RowsAt w v' rows') (hf : IntsAt w vf f) (hg : IntsAt w vg g) (hT : Tab w) (hn : bulk rows ≤ 1048576) (hn' : bulk rows' ≤ 1048576) :
    Calls Tryd.prog 39 #[.agg #[v], .agg #[v'], vf, vg] w (PjP (pairB rows rows' f g) rows rows' vf vg w) := by
  have hF := Pj.start w hv hv' hf hg hT
  have hwz : (((w.alloc (.cells #[v] 25)).alloc (.cells #[v'] 25)).alloc (.cells #[.pointer none, .pointer none, .slice none 0 0, .slice none 0 0] 65)).heap.size = w.heap.size + 3 := by rw [World.size_alloc, World.size_alloc, World.size_alloc]
  obtain ⟨A, C, rfl, _⟩ := hv
  obtain ⟨A', C', rfl, _⟩ := hv'
  obtain ⟨Af, Cf, rfl, _⟩ := hf
  obtain ⟨Ag, Cg, rfl, _⟩ := hg
  have H0 := Lib.hid hF
  have HZ := Lib.hid hwz
  have hc0 := hF.fg.1.1.c0
  have hd := domainOf_q _ rows _ hF.fg.1.1.r0 hF.tab hn
  clear hF hT hwz
  cases h1 : domB rows with
  | false =>
    have HE := Lib.hid (show pairB rows rows' f g = false from pairB_no1 (by unfold monoB; rw [h1]; rfl))
    go_enter Tryd.func39, Tryd.ntmps39
    go_wp2_with (first | (go_at_call 53; refine hd.mono ?_; clear hd; rintro e w1 ⟨⟨q, rfl, _⟩, hb1⟩; rw [h1]; have H1 := Lib.hid (H0.out.step hb1); have hc1 := H1.out.fg.1.1.c1; have hd2 := domainOf_q _ rows' _ H1.out.fg.1.1.r1 H1.out.tab hn'; clear hb1) | (go_at_call 53; refine hd2.mono ?_; clear hd2; rintro e w2 ⟨⟨q', rfl, _⟩, hb2⟩; have H2 := Lib.hid (H1.out.step hb2); obtain ⟨z0, z1, z2, z3, z4⟩ := H2.out.zero.cells; clear hb2))
    refine bodyPost_ret (v := .tuple #[.agg #[.pointer none, .pointer none, .slice none 0 0, .slice none 0 0], .bool false]) (by simp [results, Tryd.results39, go_sem, z0, z1, z2, z3]) rfl ?_
    exact PjP.no HE.out (below4 H2.out.below (by omega) _ _ _ _)
  | true =>
    cases h2 : domB rows' with
    | false =>
      have HE := Lib.hid (show pairB rows rows' f g = false from pairB_no1 (by unfold monoB; rw [h1, h2]; rfl))
      go_enter Tryd.func39, Tryd.ntmps39
      go_wp2_with (first | (go_at_call 53; refine hd.mono ?_; clear hd; rintro e w1 ⟨⟨q, rfl, _⟩, hb1⟩; rw [h1]; have H1 := Lib.hid (H0.out.step hb1); have hc1 := H1.out.fg.1.1.c1; have hd2 := domainOf_q _ rows' _ H1.out.fg.1.1.r1 H1.out.tab hn'; clear hb1) | (go_at_call 53; refine hd2.mono ?_; clear hd2; rintro e w2 ⟨⟨q', rfl, _⟩, hb2⟩; rw [h2]; have H2 := Lib.hid (H1.out.step hb2); obtain ⟨z0, z1, z2, z3, z4⟩ := H2.out.zero.cells; clear hb2))
      refine bodyPost_ret (v := .tuple #[.agg #[.pointer none, .pointer none, .slice none 0 0, .slice none 0 0], .bool false]) (by simp [results, Tryd.results39, go_sem, z0, z1, z2, z3]) rfl ?_
      exact PjP.no HE.out (below4 H2.out.below (by omega) _ _ _ _)
    | true =>
      have hok := dom_ok h1
      have hok' := dom_ok h2
      have HMONO := Lib.hid (fun p p' W hg hg' hf => isMonotone_any p p' rows.length rows'.length (gridF rows) (gridF rows') (.slice Af f.length Cf) f W hg hg' hok.gridN hok'.gridN hf (monoI rows rows' f) (mono_grid hok hok' f))
      have HMONO' := Lib.hid (fun p p' W hg hg' hf => isMonotone_any p p' rows'.length rows.length (gridF rows') (gridF rows) (.slice Ag g.length Cg) g W hg hg' hok'.gridN hok.gridN hf (monoI rows' rows g) (mono_grid hok' hok g))
      cases h3 : monoI rows rows' f with
      | false =>
        have HE := Lib.hid (show pairB rows rows' f g = false from pairB_no1 (by unfold monoB; rw [h3]; simp))
        rw [h3] at HMONO
        clear hok hok' HMONO'
        go_enter Tryd.func39, Tryd.ntmps39
        go_wp2_with (first | (go_at_call 53; refine hd.mono ?_; clear hd; rintro e w1 ⟨⟨q, rfl, hq⟩, hb1⟩; obtain ⟨p, rfl, _, hg⟩ := hq h1; rw [h1]; have H1 := Lib.hid (H0.out.step hb1); have G1 := Lib.hid hg; have hc1 := H1.out.fg.1.1.c1; have hd2 := domainOf_q _ rows' _ H1.out.fg.1.1.r1 H1.out.tab hn'; clear hb1 hq hg) | (go_at_call 53; refine hd2.mono ?_; clear hd2; rintro e w2 ⟨⟨q', rfl, hq⟩, hb2⟩; obtain ⟨p', rfl, _, hg⟩ := hq h2; rw [h2]; have H2 := Lib.hid (H1.out.step hb2); have G2 := Lib.hid (G1.out.below hb2 G1.out.lt); have G2' := Lib.hid hg; clear hb2 hq hg) | (go_at_call 54; refine (HMONO.out p p' _ G2.out G2'.out H2.out.fg.1.2).mono ?_; rintro e w3 ⟨rfl, hb3⟩; have H3 := Lib.hid (H2.out.step hb3); obtain ⟨z0, z1, z2, z3, z4⟩ := H3.out.zero.cells; clear hb3))
        refine bodyPost_ret (v := .tuple #[.agg #[.pointer none, .pointer none, .slice none 0 0, .slice none 0 0], .bool false]) (by simp [results, Tryd.results39, go_sem, z0, z1, z2, z3]) rfl ?_
        exact PjP.no HE.out (below4 H3.out.below (by omega) _ _ _ _)
      | true =>
        rw [h3] at HMONO
        have hm1 : monoB rows rows' f = true := by unfold monoB; rw [h1, h2, h3]; rfl
        cases h4 : monoI rows' rows g with
        | false =>
          have HE := Lib.hid (show pairB rows rows' f g = false from pairB_no2 (by unfold monoB; rw [h4]; simp))
          rw [h4] at HMONO'
          clear hok hok' hm1
          go_enter Tryd.func39, Tryd.ntmps39
          go_wp2_with (first | (go_at_call 53; refine hd.mono ?_; clear hd; rintro e w1 ⟨⟨q, rfl, hq⟩, hb1⟩; obtain ⟨p, rfl, _, hg⟩ := hq h1; rw [h1]; have H1 := Lib.hid (H0.out.step hb1); have G1 := Lib.hid hg; have hc1 := H1.out.fg.1.1.c1; have hd2 := domainOf_q _ rows' _ H1.out.fg.1.1.r1 H1.out.tab hn'; clear hb1 hq hg) | (go_at_call 53; refine hd2.mono ?_; clear hd2; rintro e w2 ⟨⟨q', rfl, hq⟩, hb2⟩; obtain ⟨p', rfl, _, hg⟩ := hq h2; rw [h2]; have H2 := Lib.hid (H1.out.step hb2); have G2 := Lib.hid (G1.out.below hb2 G1.out.lt); have G2' := Lib.hid hg; clear hb2 hq hg) | (go_at_call 54; refine (HMONO.out p p' _ G2.out G2'.out H2.out.fg.1.2).mono ?_; clear HMONO; rintro e w3 ⟨rfl, hb3⟩; have H3 := Lib.hid (H2.out.step hb3); have G3 := Lib.hid (G2.out.below hb3 G2.out.lt); have G3' := Lib.hid (G2'.out.below hb3 G2'.out.lt); clear hb3) | (go_at_call 54; refine (HMONO'.out p' p _ G3'.out G3.out H3.out.fg.2).mono ?_; clear HMONO'; rintro e w4 ⟨rfl, hb4⟩; have H4 := Lib.hid (H3.out.step hb4); obtain ⟨z0, z1, z2, z3, z4⟩ := H4.out.zero.cells; clear hb4))
          refine bodyPost_ret (v := .tuple #[.agg #[.pointer none, .pointer none, .slice none 0 0, .slice none 0 0], .bool false]) (by simp [results, Tryd.results39, go_sem, z0, z1, z2, z3]) rfl ?_
          exact PjP.no HE.out (below4 H4.out.below (by omega) _ _ _ _)
        | true =>
          rw [h4] at HMONO'
          have hm2 : monoB rows' rows g = true := by unfold monoB; rw [h1, h2, h4]; rfl
          obtain ⟨_, _, k1⟩ := monoB_parts hm1
          obtain ⟨_, _, k2⟩ := monoB_parts hm2
          have hl1 := hok.len.2
          have HPAIR := Lib.hid (fun p p' W hG hf hg => isPair_any p p' (.slice Af f.length Cf) (.slice Ag g.length Cg) rows' f g W hok' hG hf hg (by rw [k1.1]; exact hl1) k2.1 (fun i hi => ⟨(k1.lt hi).2, (k1.lt hi).1⟩) (fun i hi => ⟨(k2.lt hi).2, by rw [k1.1]; exact (k2.lt hi).1⟩))
          have HE := Lib.hid (pairB_both hm1 hm2)
          clear hok hok' k1 k2 hm1 hm2 hl1
          go_enter Tryd.func39, Tryd.ntmps39
          go_wp2_with (first | (go_at_call 53; refine hd.mono ?_; clear hd; rintro e w1 ⟨⟨q, rfl, hq⟩, hb1⟩; obtain ⟨p, rfl, hp1, hg⟩ := hq h1; rw [h1]; have H1 := Lib.hid (H0.out.step hb1); have G1 := Lib.hid hg; have P1 := Lib.hid (show w.heap.size + 3 ≤ p by rw [← HZ.out]; exact hp1); have Z1 := Lib.hid (Nat.le_trans (Nat.le_of_eq HZ.out.symm) hb1.size); have hc1 := H1.out.fg.1.1.c1; have hd2 := domainOf_q _ rows' _ H1.out.fg.1.1.r1 H1.out.tab hn'; clear hb1 hq hg hp1) | (go_at_call 53; refine hd2.mono ?_; clear hd2; rintro e w2 ⟨⟨q', rfl, hq⟩, hb2⟩; obtain ⟨p', rfl, hp2, hg⟩ := hq h2; rw [h2]; have H2 := Lib.hid (H1.out.step hb2); have G2 := Lib.hid (G1.out.below hb2 G1.out.lt); have G2' := Lib.hid hg; have P2 := Lib.hid (Nat.le_trans Z1.out hp2); clear hb2 hq hg hp2) | (go_at_call 54; refine (HMONO.out p p' _ G2.out G2'.out H2.out.fg.1.2).mono ?_; clear HMONO; rintro e w3 ⟨rfl, hb3⟩; have H3 := Lib.hid (H2.out.step hb3); have G3 := Lib.hid (G2.out.below hb3 G2.out.lt); have G3' := Lib.hid (G2'.out.below hb3 G2'.out.lt); clear hb3) | (go_at_call 54; refine (HMONO'.out p' p _ G3'.out G3.out H3.out.fg.2).mono ?_; clear HMONO'; rintro e w4 ⟨rfl, hb4⟩; have H4 := Lib.hid (H3.out.step hb4); have G4 := Lib.hid (G3.out.below hb4 G3.out.lt); have G4' := Lib.hid (G3'.out.below hb4 G3'.out.lt); obtain ⟨z0, z1, z2, z3, z4⟩ := H4.out.zero.cells; clear hb4))
          have b5 := (Below.refl w4.heap.size w4).alloc (Nat.le_refl _) (.cells #[.pointer (some ⟨p, 0, none⟩), .pointer (some ⟨p', 0, none⟩), .slice Af f.length Cf, .slice Ag g.length Cg] 65)
          have H5 := Lib.hid (H4.out.step b5)
          have G5 := Lib.hid (G4.out.below b5 G4.out.lt)
          have G5' := Lib.hid (G4'.out.below b5 G4'.out.lt)
          have BX5 := Lib.hid (Four.new w4 (.pointer (some ⟨p, 0, none⟩)) (.pointer (some ⟨p', 0, none⟩)) (.slice Af f.length Cf) (.slice Ag g.length Cg) 65)
          clear b5 z0 z1 z2 z3 z4
          generalize (w4.alloc (.cells #[.pointer (some ⟨p, 0, none⟩), .pointer (some ⟨p', 0, none⟩), .slice Af f.length Cf, .slice Ag g.length Cg] 65)) = w5 at H5 G5 G5' BX5 ⊢
          obtain ⟨e0, e1, e2, e3, e4⟩ := BX5.out.cells
          first | (go_region_with (go_at_call 44; refine (HPAIR.out p p' _ (G5'.out.below (Below.refl _ _).drew G5'.out.lt) (H5.out.step (Below.refl _ _).drew).fg.1.2 (H5.out.step (Below.refl _ _).drew).fg.2).mono ?_; rintro e w6 ⟨rfl, hb6⟩; have H6 := Lib.hid ((H5.out.step (Below.refl _ _).drew).step hb6); have G6 := Lib.hid ((G5.out.below (Below.refl _ _).drew G5.out.lt).below hb6 G5.out.lt); have G6' := Lib.hid ((G5'.out.below (Below.refl _ _).drew G5'.out.lt).below hb6 G5'.out.lt); obtain ⟨z0, z1, z2, z3, z4⟩ := H6.out.zero.cells; obtain ⟨d0, d1, d2, d3, d4⟩ := ((BX5.out.below (Below.refl _ _).drew).below hb6).cells; clear hb6)) | fail
          all_goals go_wp2
          all_goals
            refine bodyPost_ret (v := .tuple #[.agg #[.pointer (some ⟨p, 0, none⟩), .pointer (some ⟨p', 0, none⟩), .slice Af f.length Cf, .slice Ag g.length Cg], .bool (pairI rows' f g)]) (by simp [results, Tryd.results39, go_sem, z0, z1, z2, z3]) rfl ?_
            refine ⟨⟨_, _, _, _, _, _, _, _, by rw [HE.out], fun _ => ⟨p, p', rfl, rfl, rfl, rfl, by have := P1.out; omega, by have := P2.out; omega, ?_, ?_⟩⟩, below4 H6.out.below (by omega) _ _ _ _⟩
            · exact (((G6.out.setOther (by have := P1.out; show p ≠ w.heap.size + 2; omega) _).setOther (by have := P1.out; show p ≠ w.heap.size + 2; omega) _).setOther (by have := P1.out; show p ≠ w.heap.size + 2; omega) _).setOther (by have := P1.out; show p ≠ w.heap.size + 2; omega) _
            · exact (((G6'.out.setOther (by have := P2.out; show p' ≠ w.heap.size + 2; omega) _).setOther (by have := P2.out; show p' ≠ w.heap.size + 2; omega) _).setOther (by have := P2.out; show p' ≠ w.heap.size + 2; omega) _).setOther (by have := P2.out; show p' ≠ w.heap.size + 2; omega) _

set_option maxRecDepth 100000 in
set_option maxHeartbeats 4000000 in
theorem implPairIs_any (v v' vf vg : Value) (rows rows' : Rows2) (f g : List Int) (w : World) (hv : RowsAt w v rows) (hv' : RowsAt w v' rows') (hf : IntsAt w vf f) (hg : IntsAt w vg g) (hT : Tab w) (hn : bulk rows ≤ 1048576) (hn' : bulk rows' ≤ 1048576) :
    Calls Tryd.prog 20 #[.agg #[v], .agg #[v'], vf, vg] w (SaysN (pairB rows rows' f g) w) := by
  have h0 := TwoFG.start w 25 25 hv hv' hf hg
  have hcall := projectionOf_any v v' vf vg rows rows' f g _ h0.1.1.r0 h0.1.1.r1 h0.1.2 h0.2 (hT.below h0.1.1.below) hn hn'
  have hc0 := h0.1.1.c0
  have hc1 := h0.1.1.c1
  obtain ⟨A, C, rfl, _⟩ := hv
  obtain ⟨A', C', rfl, _⟩ := hv'
  obtain ⟨Af, Cf, rfl, _⟩ := hf
  obtain ⟨Ag, Cg, rfl, _⟩ := hg
  have HB := Lib.hid h0.1.1.below
  generalize pairB rows rows' f g = t at hcall ⊢
  clear h0 hT
  go_enter Tryd.func20, Tryd.ntmps20
  go_wp2_with (go_at_call 39; refine hcall.mono ?_; clear hcall; rintro e w1 ⟨⟨q, q', a, a', n, c, n', c', rfl, _⟩, hb1⟩; have H1 := Lib.hid (HB.out.trans (hb1.mono HB.out.size)); clear hb1)
  go_ret
  exact ⟨rfl, H1.out.alloc H1.out.size _⟩
end Go.Proofs.YtpjkmiinpjhdnaaDoor
