/- The law of OrderBack: model and program answer alike, the argument is left alone, and the answer's memory is its own. -/
import Derived.Test.YtcmpbdpghoadeaaDoorBackSpec
import Derived.Test.YtcmpbdpghoadeaaDoorLw
namespace Go.Proofs.YtcmpbdpghoadeaaDoor
open Go.RowKit Go.Deep Go.Shelf

theorem lens_bulk (rows : Rows2) : lens rows rows.length ≤ bulk rows := by have := lens_all rows; omega
theorem backB_bulk (rows : Rows2) : bulk (backB rows) ≤ 1048576 := by
  unfold backB
  by_cases h : validB rows = true
  · rw [if_pos h]; exact (ok_of_valid h).back.bulk
  · rw [if_neg h]; simp [bulk]

set_option maxRecDepth 100000 in
set_option maxHeartbeats 8000000 in
theorem law_back (v : Value) (rows : Rows2) (w : World) (hv : RowsAt w v rows) (hT : Tab w) :
    Calls Tryd.prog 8 #[.agg #[v]] w (SaysN true w) := by
  have hH := Held.start w 24 hv
  have hT0 := hT.below ((Below.refl _ w).alloc (Nat.le_refl _) (.cells #[v] 24))
  have hsz := szOrder_any v rows 1048576 _ hH.2.1 (by omega) (by omega)
  have hHs := Lib.hid hH
  have hTs := Lib.hid hT0
  have HV := Lib.hid hv
  have HTT := Lib.hid hT
  have hcell := hH.1
  obtain ⟨A, C, rfl, _⟩ := hv
  clear hH hT hT0
  go_enter Tryd.func8, Tryd.ntmps8
  go_wp2_with (go_at_call 16; refine hsz.mono ?_; clear hsz; rintro e w1 ⟨⟨r, hr, rfl⟩, hb1⟩; have H1 := Lib.hid (hHs.out.below hb1); have T1 := Lib.hid (hTs.out.below hb1); have hc1 := H1.out.1; clear hb1)
  · go_ret
    exact ⟨rfl, H1.out.2.2.1⟩
  · have hr2 : bulk rows ≤ 1048576 := by rcases hr with h | h <;> omega
    have HR := Lib.hid hr2
    have hto := toOrder_any _ rows w1 H1.out.2.1 hr2
    clear hr hr2
    have hspec : ∀ W v', RowsAt W v' rows → Calls Tryd.prog 36 #[.agg #[v']] W (OrderP (backB rows) (validB rows) W) := fun W v' h => specBack_any v' rows W h HR.out
    have himpl : ∀ W v', RowsAt W v' rows → Tab W → Calls Tryd.prog 37 #[.agg #[v']] W (OrderP (backB rows) (validB rows) W) := fun W v' h hT => implBack_any v' rows W h hT HR.out
    have hmax : bulk rows ≤ maxLen := maxLen_ge HR.out
    have hres := backB_bulk rows
    generalize validB rows = t at hspec himpl
    generalize backB rows = res at hspec himpl hres
    have hlr : lens res res.length ≤ 1048576 := Nat.le_trans (lens_bulk res) hres
    have hlrows : lens rows rows.length ≤ 1048576 := Nat.le_trans (lens_bulk rows) HR.out
    have hmr : bulk res ≤ maxLen := maxLen_ge hres
    have hne : (t != t) = false := bne_self_eq_false t
    have HS := Lib.hid hspec
    have HI := Lib.hid himpl
    have HM := Lib.hid hmax
    have HMR := Lib.hid hmr
    clear hspec himpl hmax hmr hres
    -- the model's answer
    go_wp2_with fail
    refine hto.mono ?_
    clear hto
    rintro e w2 ⟨g, G, rfl, hg, ho, hb2⟩
    have H2 := Lib.hid (H1.out.below hb2)
    have T2 := Lib.hid (T1.out.below hb2)
    have R2 := Lib.hid (ho.at HM.out)
    have hs1 : w.heap.size < w1.heap.size := H1.out.2.2.2
    have hz2 := hb2.size
    clear hg ho hb2 hc1
    go_wp2_with fail
    refine (HS.out w2 _ R2.out).mono ?_
    rintro e w3 ⟨v1, rfl, ho1, hb3⟩
    obtain ⟨a1, C1, rfl⟩ := ho1.form
    have H3 := Lib.hid ((H2.out.below hb3).below ((Below.refl _ w3).alloc (Nat.le_refl _) (.cells #[.slice a1 res.length C1] 27)))
    have T3 := Lib.hid ((T2.out.below hb3).below ((Below.refl _ w3).alloc (Nat.le_refl _) (.cells #[.slice a1 res.length C1] 27)))
    have O3 := Lib.hid (ho1.below ((Below.refl _ w3).alloc (Nat.le_refl _) (.cells #[.slice a1 res.length C1] 27)) (Nat.le_refl _))
    have B3 := Lib.hid (Boxed.new w3 27 (.slice a1 res.length C1))
    have hz3 := hb3.size
    have hc3 := H3.out.1
    clear ho1 hb3 R2
    go_wp2_with fail
    refine (toOrder_any _ rows _ H3.out.2.1 HR.out).mono ?_
    rintro e w4 ⟨g4, G4, rfl, hg4, ho4, hb4⟩
    have hz4 := hb4.size
    rw [World.size_alloc] at hg4 hz4
    have b5 := (Below.refl _ w4).alloc (Nat.le_refl _) (.cells #[whole g4 rows.length] 27)
    have H5 := Lib.hid ((H3.out.below hb4).below b5)
    have T5 := Lib.hid ((T3.out.below hb4).below b5)
    have O5 := Lib.hid ((O3.out.below hb4 (by rw [World.size_alloc]; omega)).below b5 (by omega))
    have B5 : Hid (Boxed (w4.alloc (.cells #[whole g4 rows.length] 27)) w3.heap.size 27 (.slice a1 res.length C1)) := Lib.hid (Boxed.alloc ((hb4.block _ B3.out.lt).trans B3.out) _)
    have O6 := Lib.hid (((ho4.ownR HM.out).wider hg4 (Nat.le_refl _)).below b5 (Nat.le_refl _))
    have B6 := Lib.hid (Boxed.new w4 27 (whole g4 rows.length))
    have R5 : Hid (RowsAt (w4.alloc (.cells #[whole g4 rows.length] 27)) (whole g4 rows.length) rows) := Lib.hid ((ho4.at HM.out).below b5)
    clear ho4 hb4 b5 hc3
    have hc6 := B6.out.cell
    go_wp2_with fail
    refine (HI.out _ _ R5.out T5.out).mono ?_
    rintro e w6 ⟨v3, rfl, ho7, hb6⟩
    obtain ⟨a3, C3, rfl⟩ := ho7.form
    have hz6 := hb6.size
    rw [World.size_alloc] at hz6
    have b7 := (Below.refl _ w6).alloc (Nat.le_refl _) (.cells #[.slice a3 res.length C3] 27)
    have hb8 := hb6.trans (b7.mono hb6.size)
    have hlw : Lw w (.slice A rows.length C) rows res ⟨w2.heap.size, w3.heap.size, w3.heap.size + 1, w4.heap.size, w4.heap.size + 1, w6.heap.size⟩ (.slice a1 res.length C1) (whole g4 rows.length) (.slice a3 res.length C3) (rowsF rows) (rowsF res) (w6.alloc (.cells #[.slice a3 res.length C3] 27)) := by
      have e4 : (w4.alloc (.cells #[whole g4 rows.length] 27)).heap.size = w4.heap.size + 1 := World.size_alloc _ _
      refine ⟨HV.out, HTT.out, ((H5.out.below hb8)).1, (H5.out.below hb8).2.2.1, (hb8.block _ B5.out.lt).trans B5.out, O5.out.below hb8 (by rw [e4]; omega), (hb8.block _ B6.out.lt).trans B6.out, O6.out.below hb8 (by rw [e4]; omega), Boxed.new w6 _ _, ?_, ?_⟩
      · rw [← e4]
        exact ho7.below b7 (Nat.le_refl _)
      · dsimp only
        rw [World.size_alloc]
        omega
    have L7 := Lib.hid hlw
    have hc7 := hlw.b7.cell
    have hc4 := hlw.b4.cell
    have hcg := hlw.b6.cell
    have hca := hlw.arg
    clear ho7 hb6 b7 hb8 hlw hc6 H1 T1 H2 T2 H3 T3 O3 B3 H5 T5 O5 B5 O6 B6 R5 hHs hTs
    have heq := eqOrder_any _ _ res res _ L7.out.o7.at L7.out.o4.at
    rw [decide_eq_true rfl] at heq
    have HEQ := Lib.hid heq
    clear heq
    go_wp2_with fail
    refine HEQ.out.mono ?_
    clear HEQ
    rintro e w9 ⟨rfl, hb9⟩
    have L9 := Lib.hid (L7.out.step hb9)
    have L9d := Lib.hid ((L7.out.step hb9).step (below_drew w9 _))
    have hcg := L9.out.b6.cell
    have hca := L9.out.arg
    have hdr : ∀ W : World, W.drew.heap = W.heap := fun _ => rfl
    clear hb9 hc7 hc4 L7
    have hbig := L9.out.ord
    have hplt : w4.heap.size < w9.heap.size := by dsimp only at hbig; omega
    have hplt2 : w.heap.size < w9.heap.size := by dsimp only at hbig; omega
    clear hbig
    have HTO := Lib.hid (toOrder_any _ rows w9.drew L9d.out.rowsAt HR.out)
    go_upto_region 10 with fail
    go_cut [45] (fun s wx => s = .bool false ∧ Lw w (.slice A rows.length C) rows res ⟨w2.heap.size, w3.heap.size, w3.heap.size + 1, w4.heap.size, w4.heap.size + 1, w6.heap.size⟩ (.slice a1 res.length C1) (whole g4 rows.length) (.slice a3 res.length C3) (rowsF rows) (rowsF res) wx)
    case first =>
      first | (go_region_with (first | (go_at_call 18; refine HTO.out.mono ?_; clear HTO; rintro e wa ⟨ga, Ga, rfl, hga, hoa, hba⟩; have ⟨hc, hf⟩ := bcell hba; have LA := Lib.hid (L9d.out.step hba); have heqa := eqOrder_any _ _ rows rows wa LA.out.o6.at (hoa.at HM.out); rw [decide_eq_true (rfl : rows = rows)] at heqa; have HEQA := Lib.hid heqa; clear heqa hga hoa hba) | (go_at_call 20; refine HEQA.out.mono ?_; clear HEQA; rintro e wb ⟨rfl, hbb⟩; have LB := Lib.hid (LA.out.step hbb); clear hbb))) | fail
      all_goals
        go_wp2_with fail
        go_meet
      all_goals exact ⟨rfl, LB.out⟩
    case rest =>
      obtain ⟨rfl, hL⟩ := hcut
      have L10 := Lib.hid hL
      have hcg := hL.b6.cell
      have hbig := hL.ord
      have hord : w3.heap.size + 1 ≤ wc.heap.size ∧ w4.heap.size ≤ wc.heap.size := by dsimp only at hbig; omega
      have hmark := markOrder_any (whole g4 rows.length) rows 1 (w3.heap.size + 1) w4.heap.size wc hL.o6 hord.1 hord.2 (by omega) (by omega)
      have HMK := Lib.hid hmark
      have hpos : ¬ (1 + ((lens rows rows.length : Nat) : Int) < 0) := by omega
      clear hL hbig hord hmark hca L9 L9d hplt hplt2 HTO
      go_wp2_with fail
      refine HMK.out.mono ?_
      clear HMK
      rintro e w11 ⟨rfl, ho, ht⟩
      have L11 := Lib.hid (L10.out.mark2 ht ho)
      have hc7 := L11.out.b7.cell
      have hc4 := L11.out.b4.cell
      have HEQ := Lib.hid (eqOrder_any _ _ res res _ L11.out.o7.at L11.out.o4.at)
      rw [decide_eq_true rfl] at HEQ
      clear ho ht hcg L10
      go_wp2_with fail
      refine HEQ.out.mono ?_
      clear HEQ
      rintro e w12 ⟨rfl, hb12⟩
      have L12 := Lib.hid (L11.out.step hb12)
      have hc7 := L12.out.b7.cell
      have hbig := L12.out.ord
      have hord : w4.heap.size + 1 ≤ w12.heap.size ∧ w6.heap.size ≤ w12.heap.size := by dsimp only at hbig; omega
      have HMK := Lib.hid (markOrder_any (.slice a3 res.length C3) res 1 (w4.heap.size + 1) w6.heap.size w12 L12.out.o7 hord.1 hord.2 (by omega) (by omega))
      clear hb12 hc4 hbig hord L11
      go_wp2_with fail
      refine HMK.out.mono ?_
      clear HMK
      rintro e w13 ⟨rfl, ho, ht⟩
      have L13 := Lib.hid (L12.out.mark3 ht ho)
      have hc7 := L13.out.b7.cell
      have hbig := L13.out.ord
      have hord : w6.heap.size ≤ w13.heap.size := by dsimp only at hbig; omega
      have HHD := Lib.hid (heldOrder_any (.slice a3 res.length C3) res 1 (w4.heap.size + 1) w6.heap.size w13 L13.out.o7 hord (by omega) (by omega))
      have hq : ((1 + ((lens res res.length : Nat) : Int)) != (1 + ((lens res res.length : Nat) : Int))) = false := bne_self_eq_false _
      have hpos2 : ¬ (1 + ((lens res res.length : Nat) : Int) < 0) := by omega
      clear ho ht hbig hord L12
      go_wp2_with fail
      refine HHD.out.mono ?_
      clear HHD
      rintro e w14 ⟨rfl, hb14⟩
      have L14 := Lib.hid (L13.out.step hb14)
      have hca := L14.out.arg
      have HTO := Lib.hid (toOrder_any _ rows w14 L14.out.rowsAt HR.out)
      clear hb14 hc7 L13
      go_wp2_with fail
      refine HTO.out.mono ?_
      clear HTO
      rintro e w15 ⟨g15, G15, rfl, hg15, ho15, hb15⟩
      have L15 := Lib.hid (L14.out.step hb15)
      have HIM := Lib.hid (HI.out w15 _ (ho15.at HM.out) L15.out.tab)
      clear hb15 ho15 hg15 hca L14
      go_wp2_with fail
      refine HIM.out.mono ?_
      clear HIM
      rintro e w16 ⟨v5, rfl, ho16, hb16⟩
      obtain ⟨a5, C5, rfl⟩ := ho16.form
      have b17 := (Below.refl _ w16).alloc (Nat.le_refl _) (.cells #[.slice a5 res.length C5] 27)
      have L17 := Lib.hid ((L15.out.step hb16).step b17)
      have hc9 := (Boxed.new w16 27 (.slice a5 res.length C5)).cell
      have hc4 := L17.out.b4.cell
      have HEQ := Lib.hid (eqOrder_any _ _ res res _ (ho16.below b17 (Nat.le_refl _)).at L17.out.o4.at)
      rw [decide_eq_true rfl] at HEQ
      clear ho16 hb16 b17 L15
      go_wp2_with fail
      refine HEQ.out.mono ?_
      clear HEQ
      rintro e w18 ⟨rfl, hb18⟩
      have L18 := Lib.hid (L17.out.step hb18)
      have hc7 := L18.out.b7.cell
      have hbig := L18.out.ord
      have hord : w6.heap.size ≤ w18.heap.size := by dsimp only at hbig; omega
      have HHD := Lib.hid (heldOrder_any (.slice a3 res.length C3) res 1 (w4.heap.size + 1) w6.heap.size w18 L18.out.o7 hord (by omega) (by omega))
      clear hb18 hbig hord hc9 hc4 L17
      go_wp2_with fail
      refine HHD.out.mono ?_
      clear HHD
      rintro e w19 ⟨rfl, hb19⟩
      have L19 := Lib.hid (L18.out.step hb19)
      clear hb19 hc7 L18
      go_wp2
      go_ret
      exact ⟨rfl, L19.out.below⟩
end Go.Proofs.YtcmpbdpghoadeaaDoor
