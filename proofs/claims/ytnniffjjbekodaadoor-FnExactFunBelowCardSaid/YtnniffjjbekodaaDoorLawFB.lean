/- The law of FunBelow: model and program answer alike, and the arguments are left alone. -/
import Derived.Test.YtnniffjjbekodaaDoorLawFM
import Derived.Test.YtnniffjjbekodaaDoorImplFB
namespace Go.Proofs.YtnniffjjbekodaaDoor
open Go.RowKit Go.Deep

/-- What holds while a law over two orders and two lists runs. -/
structure LG (w : World) (v v' vf vg : Value) (rows rows' : Rows2) (f g : List Int) (W : World) : Prop where
  lf : LF w v v' vf rows rows' f W
  g : IntsAt W vg g
theorem LG.step {w : World} {v v' vf vg : Value} {rows rows' : Rows2} {f g : List Int} {W W' : World} (h : LG w v v' vf vg rows rows' f g W) (hb : Below W.heap.size W W') : LG w v v' vf vg rows rows' f g W' := ⟨h.lf.step hb, h.g.below hb⟩
theorem LG.drew {w : World} {v v' vf vg : Value} {rows rows' : Rows2} {f g : List Int} {W : World} (h : LG w v v' vf vg rows rows' f g W) : LG w v v' vf vg rows rows' f g W.drew := h.step ⟨rfl, rfl, rfl, Nat.le_refl _, fun _ _ => rfl⟩
theorem LG.laid {w : World} {v v' vf vg : Value} {rows rows' : Rows2} {f g : List Int} {W : World} (h : LG w v v' vf vg rows rows' f g W) (o : Obj) : LG w v v' vf vg rows rows' f g (W.alloc o) := h.step ((Below.refl _ W).alloc (Nat.le_refl _) _)
theorem LG.below {w : World} {v v' vf vg : Value} {rows rows' : Rows2} {f g : List Int} {W : World} (h : LG w v v' vf vg rows rows' f g W) : Below w.heap.size w W := h.lf.below
theorem LG.r0 {w : World} {v v' vf vg : Value} {rows rows' : Rows2} {f g : List Int} {W : World} (h : LG w v v' vf vg rows rows' f g W) : RowsAt W v rows := h.lf.two.1.r0
theorem LG.r1 {w : World} {v v' vf vg : Value} {rows rows' : Rows2} {f g : List Int} {W : World} (h : LG w v v' vf vg rows rows' f g W) : RowsAt W v' rows' := h.lf.two.1.r1
theorem LG.f {w : World} {v v' vf vg : Value} {rows rows' : Rows2} {f g : List Int} {W : World} (h : LG w v v' vf vg rows rows' f g W) : IntsAt W vf f := h.lf.two.2
theorem LG.c0 {w : World} {v v' vf vg : Value} {rows rows' : Rows2} {f g : List Int} {W : World} (h : LG w v v' vf vg rows rows' f g W) : W.cell? ⟨w.heap.size, 0, none⟩ = some v := h.lf.two.1.c0
theorem LG.c1 {w : World} {v v' vf vg : Value} {rows rows' : Rows2} {f g : List Int} {W : World} (h : LG w v v' vf vg rows rows' f g W) : W.cell? ⟨w.heap.size + 1, 0, none⟩ = some v' := h.lf.two.1.c1
theorem LG.start (w : World) {v v' vf vg : Value} {rows rows' : Rows2} {f g : List Int} (t t' : TypeId) (hv : RowsAt w v rows) (hv' : RowsAt w v' rows') (hf : IntsAt w vf f) (hg : IntsAt w vg g) (hT : Tab w) : LG w v v' vf vg rows rows' f g ((w.alloc (.cells #[v] t)).alloc (.cells #[v'] t')) :=
  have h := LF.start w t t' hv hv' hf hT
  ⟨h, hg.below h.below⟩

set_option maxRecDepth 100000 in
set_option maxHeartbeats 8000000 in
theorem law_funbelow (v v' vf vg : Value) (rows rows' : Rows2) (f g : List Int) (w : World) (hv : RowsAt w v rows) (hv' : RowsAt w v' rows') (hf : IntsAt w vf f) (hg : IntsAt w vg g) (hT : Tab w) :
    Calls Tryd.prog 7 #[.agg #[v], .agg #[v'], vf, vg] w (SaysN true w) := by
  have h0 := LG.start w 24 24 hv hv' hf hg hT
  obtain ⟨A, C, rfl, _⟩ := hv
  obtain ⟨A', C', rfl, _⟩ := hv'
  obtain ⟨Af, Cf, rfl, _⟩ := hf
  obtain ⟨Ag, Cg, rfl, _⟩ := hg
  have L0 := Lib.hid h0
  have hc0 := h0.c0
  clear h0 hT
  by_cases hfl : f.length ≤ 1048576
  · have hfl2 : ¬ (1048576 : Int) < (f.length : Int) := by omega
    by_cases hgl : g.length ≤ 1048576
    · have hgl2 : ¬ (1048576 : Int) < (g.length : Int) := by omega
      have hsz := szOrder_any _ rows 1048576 _ L0.out.r0 (by omega) (by omega)
      have hdr : ∀ W : World, W.drew.heap = W.heap := fun _ => rfl
      go_enter Tryd.func7, Tryd.ntmps7
      go_wp2_with (go_at_call 16; refine hsz.mono ?_; clear hsz; rintro e w1 ⟨⟨r, hr, rfl⟩, hb1⟩; have L1 := Lib.hid (L0.out.step hb1); have hc1 := L1.out.c1; clear hb1)
      · go_ret
        exact ⟨rfl, L1.out.below⟩
      · have hr2 : 0 ≤ r ∧ r ≤ 1048576 ∧ bulk rows ≤ 1048576 := by rcases hr with h | h <;> omega
        have hsz2 := szOrder_any _ rows' r _ L1.out.r1 hr2.1 hr2.2.1
        have HR := Lib.hid hr2.2.2
        have HR1 := Lib.hid hr2.2.1
        clear hr hr2
        go_wp2_with fail
        refine hsz2.mono ?_
        clear hsz2
        rintro e w2 ⟨⟨r', hr', rfl⟩, hb2⟩
        have L2 := Lib.hid (L1.out.step hb2)
        have hd0 := L2.out.c0
        have hd1 := L2.out.c1
        clear hb2 hc0 hc1
        by_cases hneg : r' < 0
        · go_wp2
          go_ret
          exact ⟨rfl, L2.out.below⟩
        · have hn' : bulk rows' ≤ 1048576 := by have := HR1.out; rcases hr' with h | h <;> omega
          have hneg2 : ¬ r' < 0 := hneg
          have HR' := Lib.hid hn'
          have HM := Lib.hid (maxLen_ge HR.out)
          have HM' := Lib.hid (maxLen_ge hn')
          have HMF := Lib.hid (maxLen_ge hfl)
          have HMG := Lib.hid (maxLen_ge hgl)
          have hspec : ∀ W u u' uf ug, RowsAt W u rows → RowsAt W u' rows' → IntsAt W uf f → IntsAt W ug g → Calls Tryd.prog 32 #[.agg #[u], .agg #[u'], uf, ug] W (SaysN (belowB rows rows' f g) W) := fun W u u' uf ug h h' hf hg => specFunBelow_any u u' uf ug rows rows' f g W h h' hf hg HR.out HR'.out
          have himpl : ∀ W u u' uf ug, RowsAt W u rows → RowsAt W u' rows' → IntsAt W uf f → IntsAt W ug g → Tab W → Calls Tryd.prog 33 #[.agg #[u], .agg #[u'], uf, ug] W (SaysN (belowB rows rows' f g) W) := fun W u u' uf ug h h' hf hg hT => implFunBelow_any u u' uf ug rows rows' f g W h h' hf hg hT HR.out HR'.out
          generalize belowB rows rows' f g = t at hspec himpl
          have HS := Lib.hid hspec
          have HI := Lib.hid himpl
          clear hspec himpl hr' hn' HR1 L0 L1
          have hs2 : w.heap.size < w2.heap.size := cell_lt hd0
          have hs3 : w.heap.size + 1 < w2.heap.size := cell_lt hd1
          go_upto_region 12 with fail
          go_cut [10] (fun s8 wx => s8 = .bool t ∧ LG w (.slice A rows.length C) (.slice A' rows'.length C') (.slice Af f.length Cf) (.slice Ag g.length Cg) rows rows' f g wx)
          case first =>
            go_region_with (first | (go_at_call_of 18 (Value.slice A (List.length rows) C); refine (toOrder_any _ rows _ L2.out.drew.r0 HR.out).mono ?_; rintro e w4 ⟨g0, G, rfl, hg, ho, hb4⟩; have L4 := Lib.hid (L2.out.drew.step hb4); have R4 := Lib.hid (ho.at HM.out); have ⟨hcA, hfA⟩ := bcell hb4; have he1 := L4.out.c1; clear hg ho hb4) | (go_at_call_of 18 (Value.slice A' (List.length rows') C'); refine (toOrder_any _ rows' _ L4.out.r1 HR'.out).mono ?_; rintro e w5 ⟨g', G', rfl, hg, ho, hb5⟩; have L5 := Lib.hid (L4.out.step hb5); have R5 := Lib.hid (R4.out.below hb5); have R5' := Lib.hid (ho.at HM'.out); clear hg ho hb5) | (go_at_call_of 19 (Value.slice Af (List.length f) Cf); refine (toIntS_any _ f _ L5.out.f hfl).mono ?_; rintro e w6 ⟨rfl, ho, hz, hb6⟩; have L6 := Lib.hid (L5.out.step hb6); have R6 := Lib.hid (R5.out.below hb6); have R6' := Lib.hid (R5'.out.below hb6); have F6 := Lib.hid (ho.at HMF.out); clear ho hz hb6) | (go_at_call_of 19 (Value.slice Ag (List.length g) Cg); refine (toIntS_any _ g _ L6.out.g hgl).mono ?_; rintro e w7 ⟨rfl, ho, hz, hb7⟩; have L7 := Lib.hid (L6.out.step hb7); have R7 := Lib.hid (R6.out.below hb7); have R7' := Lib.hid (R6'.out.below hb7); have F7 := Lib.hid (F6.out.below hb7); have G7 := Lib.hid (ho.at HMG.out); clear ho hz hb7) | (go_at_call 32; refine (HS.out _ _ _ _ _ R7.out R7'.out F7.out G7.out).mono ?_; rintro e w8 ⟨rfl, hb8⟩; have L8 := Lib.hid (L7.out.step hb8); clear hb8))
            all_goals
              go_wp2
              go_meet
              exact ⟨rfl, L8.out⟩
          case rest =>
            obtain ⟨rfl, hL⟩ := hcut
            have L8 := Lib.hid hL
            have hc8 := hL.c0
            have hne : (t != t) = false := bne_self_eq_false t
            clear hL hd0 hd1 L2
            go_wp2_with fail
            refine (toOrder_any _ rows _ L8.out.r0 HR.out).mono ?_
            rintro e w9 ⟨g9, G9, rfl, hg, ho, hb⟩
            have L9 := Lib.hid ((L8.out.step hb).laid (.cells #[whole g9 rows.length] 28))
            have V9 := Lib.hid (Var.new 28 (ho.at HM.out))
            have hc9 := L9.out.c1
            clear hg ho hb hc8
            go_wp2_with fail
            refine (toOrder_any _ rows' _ L9.out.r1 HR'.out).mono ?_
            rintro e w10 ⟨g10, G10, rfl, hg, ho, hb⟩
            have L10 := Lib.hid ((L9.out.step hb).laid (.cells #[whole g10 rows'.length] 28))
            have V10 := Lib.hid ((V9.out.step hb).step ((Below.refl _ w10).alloc (Nat.le_refl _) (.cells #[whole g10 rows'.length] 28)))
            have V10' := Lib.hid (Var.new 28 (ho.at HM'.out))
            clear hg ho hb hc9
            go_wp2_with fail
            refine (toIntS_any _ f _ L10.out.f hfl).mono ?_
            rintro e w11 ⟨rfl, ho, hzz, hb⟩
            clear hzz
            have L11 := Lib.hid (L10.out.step hb)
            have V11 := Lib.hid (V10.out.step hb)
            have V11' := Lib.hid (V10'.out.step hb)
            have f11 := ho.at HMF.out
            rw [World.size_alloc] at f11
            have F11 := Lib.hid f11
            clear f11 ho hb
            go_wp2_with fail
            refine (toIntS_any _ g _ L11.out.g hgl).mono ?_
            rintro e w11b ⟨rfl, ho, hzz, hb⟩
            clear hzz
            have L11b := Lib.hid (L11.out.step hb)
            have V11b := Lib.hid (V11.out.step hb)
            have V11b' := Lib.hid (V11'.out.step hb)
            have F11b := Lib.hid (F11.out.below hb)
            have G11b := Lib.hid (ho.at HMG.out)
            have hx0 := V11b.out.1
            have hx1 := V11b'.out.1
            clear ho hb
            go_wp2_with fail
            refine (HI.out _ _ _ _ _ V11b.out.2 V11b'.out.2 F11b.out G11b.out L11b.out.lf.tab).mono ?_
            rintro e w12 ⟨rfl, hb⟩
            have L12 := Lib.hid (L11b.out.step hb)
            have V12 := Lib.hid (V11b.out.step hb)
            have V12' := Lib.hid (V11b'.out.step hb)
            have F12 := Lib.hid (F11b.out.below hb)
            have G12 := Lib.hid (G11b.out.below hb)
            have hy0 := V12.out.1
            have hz0 := L12.out.c0
            clear hb hx0 hx1
            go_wp2
            go_region_with (first | (go_at_call_of 18 (Value.slice A (List.length rows) C); refine (toOrder_any _ rows _ L12.out.drew.r0 HR.out).mono ?_; rintro e w14 ⟨g0, G, rfl, hg, ho, hb⟩; have L14 := Lib.hid (L12.out.drew.step hb); have V14 := Lib.hid ((V12.out.step (below_drew w12 _)).step hb); have V14' := Lib.hid ((V12'.out.step (below_drew w12 _)).step hb); have F14 := Lib.hid ((F12.out.below (below_drew w12 _)).below hb); have G14 := Lib.hid ((G12.out.below (below_drew w12 _)).below hb); have heq := eqOrder_any _ _ rows rows _ V14.out.2 (ho.at HM.out); rw [decide_eq_true (rfl : rows = rows)] at heq; have HEQ := Lib.hid heq; have hy1 := V14.out.1; clear heq hg ho hb) | (go_at_call 21; refine HEQ.out.mono ?_; clear HEQ; rintro e w15 ⟨rfl, hb⟩; have L15 := Lib.hid (L14.out.step hb); have V15' := Lib.hid (V14'.out.step hb); have F15 := Lib.hid (F14.out.below hb); have G15 := Lib.hid (G14.out.below hb); have hy2 := V15'.out.1; have hz2 := L15.out.c1; clear hb))
            all_goals
              go_wp2
              go_region_with (first | (go_at_call_of 18 (Value.slice A' (List.length rows') C'); refine (toOrder_any _ rows' _ L15.out.drew.r1 HR'.out).mono ?_; rintro e w16 ⟨g0, G, rfl, hg, ho, hb⟩; have L16 := Lib.hid (L15.out.drew.step hb); have V16 := Lib.hid ((V15'.out.step (below_drew w15 _)).step hb); have F16 := Lib.hid ((F15.out.below (below_drew w15 _)).below hb); have G16 := Lib.hid ((G15.out.below (below_drew w15 _)).below hb); have heq := eqOrder_any _ _ rows' rows' _ V16.out.2 (ho.at HM'.out); rw [decide_eq_true (rfl : rows' = rows')] at heq; have HEQ := Lib.hid heq; have hy1 := V16.out.1; clear heq hg ho hb) | (go_at_call 21; refine HEQ.out.mono ?_; clear HEQ; rintro e w17 ⟨rfl, hb⟩; have L17 := Lib.hid (L16.out.step hb); have F17 := Lib.hid (F16.out.below hb); have G17 := Lib.hid (G16.out.below hb); clear hb))
              all_goals
                go_wp2_with (first | (go_at_call_of 19 (Value.slice Af (List.length f) Cf); refine (toIntS_any _ f _ L17.out.f hfl).mono ?_; rintro e w18 ⟨rfl, ho, hzz, hb⟩; clear hzz; have L18 := Lib.hid (L17.out.step hb); have G18 := Lib.hid (G17.out.below hb); have heq := eqIntS_any _ _ f f _ (F17.out.below hb) (ho.at HMF.out); rw [decide_eq_true (rfl : f = f)] at heq; clear ho hb) | (go_at_call 22; refine heq.mono ?_; clear heq; rintro e w19 ⟨rfl, q, rfl⟩; have L19 := Lib.hid (L18.out.step (below_drewN' _ q _)); have G19 := Lib.hid (G18.out.below (below_drewN' _ q _))) | (go_at_call_of 19 (Value.slice Ag (List.length g) Cg); refine (toIntS_any _ g _ L19.out.g hgl).mono ?_; rintro e w20 ⟨rfl, ho, hzz, hb⟩; clear hzz; have L20 := Lib.hid (L19.out.step hb); have heq2 := eqIntS_any _ _ g g _ (G19.out.below hb) (ho.at HMG.out); rw [decide_eq_true (rfl : g = g)] at heq2; clear ho hb) | (go_at_call 22; refine heq2.mono ?_; clear heq2; rintro e w21 ⟨rfl, q2, rfl⟩; have L21 := Lib.hid (L20.out.step (below_drewN' _ q2 _))))
                go_ret
                exact ⟨rfl, L21.out.below⟩
    · have hgl2 : (1048576 : Int) < (g.length : Int) := by omega
      go_enter Tryd.func7, Tryd.ntmps7
      go_wp2
      go_ret
      exact ⟨rfl, L0.out.below⟩
  · have hfl2 : (1048576 : Int) < (f.length : Int) := by omega
    go_enter Tryd.func7, Tryd.ntmps7
    go_wp2
    go_ret
    exact ⟨rfl, L0.out.below⟩
end Go.Proofs.YtnniffjjbekodaaDoor
