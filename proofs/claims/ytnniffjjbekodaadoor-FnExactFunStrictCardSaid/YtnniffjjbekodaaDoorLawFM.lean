/- The law of FunMonotone: model and program answer alike, and the arguments are left alone. -/
import Derived.Test.YtnniffjjbekodaaDoorImplFM
import Derived.Test.YtnniffjjbekodaaDoorMonoS
import Derived.Test.YtnniffjjbekodaaDoorSz
import Derived.Test.YtnniffjjbekodaaDoorTo
namespace Go.Proofs.YtnniffjjbekodaaDoor
open Go.RowKit Go.Deep

/-- A variable that holds an order. -/
def Var (x : Nat) (v : Value) (rows : Rows2) (W : World) : Prop := W.cell? ⟨x, 0, none⟩ = some v ∧ RowsAt W v rows
theorem Var.step {x : Nat} {v : Value} {rows : Rows2} {W W' : World} (h : Var x v rows W) (hb : Below W.heap.size W W') : Var x v rows W' :=
  ⟨by rw [hb.cell (p := ⟨x, 0, none⟩) (cell_lt h.1)]; exact h.1, h.2.below hb⟩
theorem Var.new {W : World} {v : Value} {rows : Rows2} (t : TypeId) (h : RowsAt W v rows) : Var W.heap.size v rows (W.alloc (.cells #[v] t)) :=
  ⟨(World.rowIs_alloc W #[v] t (fun _ => v) (fun i hi => by simp at hi; subst hi; rfl)).cell (i := 0) (by simp), h.below ((Below.refl _ W).alloc (Nat.le_refl _) _)⟩

/-- What holds while a law over two orders and a list runs. -/
structure LF (w : World) (v v' vf : Value) (rows rows' : Rows2) (f : List Int) (W : World) : Prop where
  two : TwoF w v v' vf rows rows' f W
  tab : Tab W
theorem LF.step {w : World} {v v' vf : Value} {rows rows' : Rows2} {f : List Int} {W W' : World} (h : LF w v v' vf rows rows' f W) (hb : Below W.heap.size W W') : LF w v v' vf rows rows' f W' := ⟨h.two.step hb, h.tab.below hb⟩
theorem LF.drew {w : World} {v v' vf : Value} {rows rows' : Rows2} {f : List Int} {W : World} (h : LF w v v' vf rows rows' f W) : LF w v v' vf rows rows' f W.drew := h.step ⟨rfl, rfl, rfl, Nat.le_refl _, fun _ _ => rfl⟩
theorem LF.laid {w : World} {v v' vf : Value} {rows rows' : Rows2} {f : List Int} {W : World} (h : LF w v v' vf rows rows' f W) (o : Obj) : LF w v v' vf rows rows' f (W.alloc o) := h.step ((Below.refl _ W).alloc (Nat.le_refl _) _)
theorem LF.below {w : World} {v v' vf : Value} {rows rows' : Rows2} {f : List Int} {W : World} (h : LF w v v' vf rows rows' f W) : Below w.heap.size w W := h.two.1.below
theorem LF.start (w : World) {v v' vf : Value} {rows rows' : Rows2} {f : List Int} (t t' : TypeId) (hv : RowsAt w v rows) (hv' : RowsAt w v' rows') (hf : IntsAt w vf f) (hT : Tab w) : LF w v v' vf rows rows' f ((w.alloc (.cells #[v] t)).alloc (.cells #[v'] t')) :=
  have h := TwoF.start w t t' hv hv' hf
  ⟨h, hT.below h.1.below⟩

set_option maxRecDepth 100000 in
set_option maxHeartbeats 8000000 in
theorem law_mono (v v' vf : Value) (rows rows' : Rows2) (f : List Int) (w : World) (hv : RowsAt w v rows) (hv' : RowsAt w v' rows') (hf : IntsAt w vf f) (hT : Tab w) :
    Calls Tryd.prog 3 #[.agg #[v], .agg #[v'], vf] w (SaysN true w) := by
  have h0 := LF.start w 24 24 hv hv' hf hT
  obtain ⟨A, C, rfl, _⟩ := hv
  obtain ⟨A', C', rfl, _⟩ := hv'
  obtain ⟨Af, Cf, rfl, _⟩ := hf
  have L0 := Lib.hid h0
  have hc0 := h0.two.1.c0
  clear h0 hT
  by_cases hfl : f.length ≤ 1048576
  · have hfl2 : ¬ (1048576 : Int) < (f.length : Int) := by omega
    have hsz := szOrder_any _ rows 1048576 _ L0.out.two.1.r0 (by omega) (by omega)
    have hdr : ∀ W : World, W.drew.heap = W.heap := fun _ => rfl
    go_enter Tryd.func3, Tryd.ntmps3
    go_wp2_with (go_at_call 16; refine hsz.mono ?_; clear hsz; rintro e w1 ⟨⟨r, hr, rfl⟩, hb1⟩; have L1 := Lib.hid (L0.out.step hb1); have hc1 := L1.out.two.1.c1; clear hb1)
    · go_ret
      exact ⟨rfl, L1.out.below⟩
    · have hr2 : 0 ≤ r ∧ r ≤ 1048576 ∧ bulk rows ≤ 1048576 := by rcases hr with h | h <;> omega
      have hsz2 := szOrder_any _ rows' r _ L1.out.two.1.r1 hr2.1 hr2.2.1
      have HR := Lib.hid hr2.2.2
      have HR1 := Lib.hid hr2.2.1
      clear hr hr2
      go_wp2_with fail
      refine hsz2.mono ?_
      clear hsz2
      rintro e w2 ⟨⟨r', hr', rfl⟩, hb2⟩
      have L2 := Lib.hid (L1.out.step hb2)
      have hd0 := L2.out.two.1.c0
      have hd1 := L2.out.two.1.c1
      clear hb2 hc0 hc1
      by_cases hneg : r' < 0
      · go_wp2
        go_ret
        exact ⟨rfl, L2.out.below⟩
      · have hn' : bulk rows' ≤ 1048576 := by have := HR1.out; rcases hr' with h | h <;> omega
        have hneg2 : ¬ r' < 0 := hneg
        have HR' := Lib.hid hn'
        have HM := Lib.hid (maxLen_ge HR.out)
        have HM' := Lib.hid (maxLen_ge hn')
        have HMF := Lib.hid (maxLen_ge hfl)
        have hspec : ∀ W u u' uf, RowsAt W u rows → RowsAt W u' rows' → IntsAt W uf f → Calls Tryd.prog 17 #[.agg #[u], .agg #[u'], uf] W (SaysN (monoB rows rows' f) W) := fun W u u' uf h h' hf => specMono_any u u' uf rows rows' f W h h' hf HR.out HR'.out
        have himpl : ∀ W u u' uf, RowsAt W u rows → RowsAt W u' rows' → IntsAt W uf f → Tab W → Calls Tryd.prog 20 #[.agg #[u], .agg #[u'], uf] W (SaysN (monoB rows rows' f) W) := fun W u u' uf h h' hf hT => implMono_any u u' uf rows rows' f W h h' hf hT HR.out HR'.out
        generalize monoB rows rows' f = t at hspec himpl
        have HS := Lib.hid hspec
        have HI := Lib.hid himpl
        clear hspec himpl hr' hn' HR1 L0 L1
        have hs2 : w.heap.size < w2.heap.size := cell_lt hd0
        have hs3 : w.heap.size + 1 < w2.heap.size := cell_lt hd1
        all_goals
          go_upto_region 10 with fail
          go_cut [8] (fun s8 wx => s8 = .bool t ∧ LF w (.slice A rows.length C) (.slice A' rows'.length C') (.slice Af f.length Cf) rows rows' f wx)
          case first =>
            go_region_with (first | (go_at_call_of 18 (Value.slice A (List.length rows) C); refine (toOrder_any _ rows _ L2.out.drew.two.1.r0 HR.out).mono ?_; rintro e w4 ⟨g, G, rfl, hg, ho, hb4⟩; have L4 := Lib.hid (L2.out.drew.step hb4); have R4 := Lib.hid (ho.at HM.out); have ⟨hcA, hfA⟩ := bcell hb4; have he1 := L4.out.two.1.c1; clear hg ho hb4) | (go_at_call_of 18 (Value.slice A' (List.length rows') C'); refine (toOrder_any _ rows' _ L4.out.two.1.r1 HR'.out).mono ?_; rintro e w5 ⟨g', G', rfl, hg, ho, hb5⟩; have L5 := Lib.hid (L4.out.step hb5); have R5 := Lib.hid (R4.out.below hb5); have R5' := Lib.hid (ho.at HM'.out); clear hg ho hb5) | (go_at_call 19; refine (toIntS_any _ f _ L5.out.two.2 hfl).mono ?_; rintro e w6 ⟨rfl, ho, hz, hb6⟩; have L6 := Lib.hid (L5.out.step hb6); have R6 := Lib.hid (R5.out.below hb6); have R6' := Lib.hid (R5'.out.below hb6); have F6 := Lib.hid (ho.at HMF.out); clear ho hz hb6) | (go_at_call 17; refine (HS.out _ _ _ _ R6.out R6'.out F6.out).mono ?_; rintro e w7 ⟨rfl, hb7⟩; have L7 := Lib.hid (L6.out.step hb7); clear hb7))
            all_goals
              go_wp2
              go_meet
              exact ⟨rfl, L7.out⟩
          case rest =>
            obtain ⟨rfl, hL⟩ := hcut
            have L8 := Lib.hid hL
            have hc8 := hL.two.1.c0
            have hne : (t != t) = false := bne_self_eq_false t
            clear hL hd0 hd1 L2
            go_wp2_with fail
            refine (toOrder_any _ rows _ L8.out.two.1.r0 HR.out).mono ?_
            rintro e w9 ⟨g9, G9, rfl, hg, ho, hb⟩
            have L9 := Lib.hid ((L8.out.step hb).laid (.cells #[whole g9 rows.length] 28))
            have V9 := Lib.hid (Var.new 28 (ho.at HM.out))
            have hc9 := L9.out.two.1.c1
            clear hg ho hb hc8
            go_wp2_with fail
            refine (toOrder_any _ rows' _ L9.out.two.1.r1 HR'.out).mono ?_
            rintro e w10 ⟨g10, G10, rfl, hg, ho, hb⟩
            have L10 := Lib.hid ((L9.out.step hb).laid (.cells #[whole g10 rows'.length] 28))
            have V10 := Lib.hid ((V9.out.step hb).step ((Below.refl _ w10).alloc (Nat.le_refl _) (.cells #[whole g10 rows'.length] 28)))
            have V10' := Lib.hid (Var.new 28 (ho.at HM'.out))
            clear hg ho hb hc9
            go_wp2_with fail
            refine (toIntS_any _ f _ L10.out.two.2 hfl).mono ?_
            rintro e w11 ⟨rfl, ho, _, hb⟩
            have L11 := Lib.hid (L10.out.step hb)
            have V11 := Lib.hid (V10.out.step hb)
            have V11' := Lib.hid (V10'.out.step hb)
            have f11 := ho.at HMF.out
            rw [World.size_alloc] at f11
            have F11 := Lib.hid f11
            clear f11
            have hx0 := V11.out.1
            have hx1 := V11'.out.1
            clear ho hb
            go_wp2_with fail
            refine (HI.out _ _ _ _ V11.out.2 V11'.out.2 F11.out L11.out.tab).mono ?_
            rintro e w12 ⟨rfl, hb⟩
            have L12 := Lib.hid (L11.out.step hb)
            have V12 := Lib.hid (V11.out.step hb)
            have V12' := Lib.hid (V11'.out.step hb)
            have F12 := Lib.hid (F11.out.below hb)
            have hy0 := V12.out.1
            have hz0 := L12.out.two.1.c0
            clear hb hx0 hx1
            go_wp2
            go_region_with (first | (go_at_call_of 18 (Value.slice A (List.length rows) C); refine (toOrder_any _ rows _ L12.out.drew.two.1.r0 HR.out).mono ?_; rintro e w14 ⟨g, G, rfl, hg, ho, hb⟩; have L14 := Lib.hid (L12.out.drew.step hb); have V14 := Lib.hid ((V12.out.step (below_drew w12 _)).step hb); have V14' := Lib.hid ((V12'.out.step (below_drew w12 _)).step hb); have F14 := Lib.hid ((F12.out.below (below_drew w12 _)).below hb); have heq := eqOrder_any _ _ rows rows _ V14.out.2 (ho.at HM.out); rw [decide_eq_true (rfl : rows = rows)] at heq; have HEQ := Lib.hid heq; have hy1 := V14.out.1; clear heq hg ho hb) | (go_at_call 21; refine HEQ.out.mono ?_; clear HEQ; rintro e w15 ⟨rfl, hb⟩; have L15 := Lib.hid (L14.out.step hb); have V15' := Lib.hid (V14'.out.step hb); have F15 := Lib.hid (F14.out.below hb); have hy2 := V15'.out.1; have hz2 := L15.out.two.1.c1; clear hb))
            all_goals
              go_wp2
              go_region_with (first | (go_at_call_of 18 (Value.slice A' (List.length rows') C'); refine (toOrder_any _ rows' _ L15.out.drew.two.1.r1 HR'.out).mono ?_; rintro e w16 ⟨g, G, rfl, hg, ho, hb⟩; have L16 := Lib.hid (L15.out.drew.step hb); have V16 := Lib.hid ((V15'.out.step (below_drew w15 _)).step hb); have F16 := Lib.hid ((F15.out.below (below_drew w15 _)).below hb); have heq := eqOrder_any _ _ rows' rows' _ V16.out.2 (ho.at HM'.out); rw [decide_eq_true (rfl : rows' = rows')] at heq; have HEQ := Lib.hid heq; have hy1 := V16.out.1; clear heq hg ho hb) | (go_at_call 21; refine HEQ.out.mono ?_; clear HEQ; rintro e w17 ⟨rfl, hb⟩; have L17 := Lib.hid (L16.out.step hb); have F17 := Lib.hid (F16.out.below hb); clear hb))
              all_goals
                go_wp2_with (first | (go_at_call 19; refine (toIntS_any _ f _ L17.out.two.2 hfl).mono ?_; rintro e w18 ⟨rfl, ho, _, hb⟩; have L18 := Lib.hid (L17.out.step hb); have heq := eqIntS_any _ _ f f _ (F17.out.below hb) (ho.at HMF.out); rw [decide_eq_true (rfl : f = f)] at heq; clear ho hb) | (go_at_call 22; refine heq.mono ?_; clear heq; rintro e w19 ⟨rfl, q, rfl⟩; have L19 := Lib.hid (L18.out.step (below_drewN' _ q _))))
                go_ret
                exact ⟨rfl, L19.out.below⟩
  · have hfl2 : (1048576 : Int) < (f.length : Int) := by omega
    go_enter Tryd.func3, Tryd.ntmps3
    go_wp2
    go_ret
    exact ⟨rfl, L0.out.below⟩
end Go.Proofs.YtnniffjjbekodaaDoor
