/- The law of OrderCovers: model and program answer alike, the argument is left alone, and the answer's memory is its own. -/
import Derived.Test.YtachmaldcakgcaaDoorImplCov
import Derived.Test.YtachmaldcakgcaaDoorLawBack
namespace Go.Proofs.YtachmaldcakgcaaDoor
open Go.RowKit Go.Deep Go.Shelf

/-- What a law holds while it looks at an answer that is a list of lists. -/
structure Lr (w : World) (v : Value) (rows res : Rows2) (p : Places) (v1 v2 v3 : Value) (R2 R3 : Nat → List Int) (W : World) : Prop where
  base : RowsAt w v rows
  tab0 : Tab w
  arg : W.cell? ⟨w.heap.size, 0, none⟩ = some v
  below : Below w.heap.size w W
  o4 : OwnR 3 42 W v1 res.length (rowsF res) p.lo1 p.hi1
  b6 : Boxed W p.hi2 28 v2
  o6 : OwnR 3 42 W v2 rows.length R2 p.lo2 p.hi2
  o7 : OwnR 3 42 W v3 res.length R3 p.lo3 p.hi3
  ord : w.heap.size < p.lo1 ∧ p.lo1 ≤ p.hi1 ∧ p.hi1 ≤ p.lo2 ∧ p.lo2 ≤ p.hi2 ∧ p.hi2 < p.lo3 ∧ p.lo3 ≤ p.hi3 ∧ p.hi3 ≤ W.heap.size

section
variable {w : World} {v v1 v2 v3 : Value} {rows res : Rows2} {p : Places} {R2 R3 : Nat → List Int} {W W' : World}
theorem Lr.rowsAt (h : Lr w v rows res p v1 v2 v3 R2 R3 W) : RowsAt W v rows := h.base.below h.below
theorem Lr.tab (h : Lr w v rows res p v1 v2 v3 R2 R3 W) : Tab W := h.tab0.below h.below
theorem Lr.step (h : Lr w v rows res p v1 v2 v3 R2 R3 W) (hb : Below W.heap.size W W') : Lr w v rows res p v1 v2 v3 R2 R3 W' := by
  have ho := h.ord
  have hz := hb.size
  exact ⟨h.base, h.tab0, (hb.cell (p := ⟨w.heap.size, 0, none⟩) (cell_lt h.arg)).trans h.arg, h.below.trans (hb.mono h.below.size), h.o4.below hb (by omega), (hb.block _ h.b6.lt).trans h.b6, h.o6.below hb (by omega), h.o7.below hb (by omega), by omega⟩
/-- The copy has been marked. -/
theorem Lr.mark2 {R2' : Nat → List Int} (h : Lr w v rows res p v1 v2 v3 R2 R3 W) (ht : Turned p.lo2 p.hi2 W W') (ho : OwnR 3 42 W' v2 rows.length R2' p.lo2 p.hi2) : Lr w v rows res p v1 v2 v3 R2' R3 W' := by
  have hd := h.ord
  have hz := ht.below.size
  have hbl : ∀ b, b < p.lo2 → W'.heap[b]? = W.heap[b]? := fun b hb => ht.below.block b hb
  have hab : ∀ b, p.hi2 ≤ b → b < W.heap.size → W'.heap[b]? = W.heap[b]? := ht.above
  exact ⟨h.base, h.tab0, (World.cell?_of_block (hbl w.heap.size (by omega))).trans h.arg, h.below.trans (ht.below.mono (by omega)), h.o4.kept fun b _ hb => hbl b (by omega), (hab _ (by omega) (by omega)).trans h.b6, ho, h.o7.kept fun b hb hb' => hab b (by omega) (by omega), by omega⟩
/-- The program's answer has been marked. -/
theorem Lr.mark3 {R3' : Nat → List Int} (h : Lr w v rows res p v1 v2 v3 R2 R3 W) (ht : Turned p.lo3 p.hi3 W W') (ho : OwnR 3 42 W' v3 res.length R3' p.lo3 p.hi3) : Lr w v rows res p v1 v2 v3 R2 R3' W' := by
  have hd := h.ord
  have hz := ht.below.size
  have hbl : ∀ b, b < p.lo3 → W'.heap[b]? = W.heap[b]? := fun b hb => ht.below.block b hb
  exact ⟨h.base, h.tab0, (World.cell?_of_block (hbl w.heap.size (by omega))).trans h.arg, h.below.trans (ht.below.mono (by omega)), h.o4.kept fun b _ hb => hbl b (by omega), (hbl _ (by omega)).trans h.b6, h.o6.kept fun b _ hb => hbl b (by omega), ho, by omega⟩
end

theorem coverB_bulk (rows : Rows2) : bulk (coverB rows) ≤ 1048576 := by
  unfold coverB
  by_cases h : validB rows = true
  · have hok := ok_of_valid h
    rw [if_pos h]
    have h1 : ∀ l : List (List Int), (∀ x ∈ l, x.length ≤ 256) → (l.map List.length).sum ≤ l.length * 256 := by
      intro l
      induction l with
      | nil => intro _; simp
      | cons y l ih =>
        intro hx
        have := ih fun x hx' => hx x (by simp [hx'])
        have := hx y (by simp)
        simp only [List.map_cons, List.sum_cons, List.length_cons]
        omega
    have h2 := h1 ((List.range rows.length).map (coversI rows)) (by
      intro x hx
      obtain ⟨i, hi, rfl⟩ := List.mem_map.1 hx
      rw [covers_eq hok (List.mem_range.1 hi), List.length_map]
      unfold elems
      have := List.length_filter_le (fun b => (coversF (gridF rows) i).testBit b) (List.range 256)
      simpa using this)
    have hn := hok.len.2
    have e : ((List.range rows.length).map (coversI rows)).length = rows.length := by simp
    unfold bulk
    rw [e] at h2 ⊢
    omega
  · rw [if_neg h]; simp [bulk]

set_option maxRecDepth 100000 in
set_option maxHeartbeats 8000000 in
theorem law_covers (v : Value) (rows : Rows2) (w : World) (hv : RowsAt w v rows) (hT : Tab w) :
    Calls Tryd.prog 3 #[.agg #[v]] w (SaysN true w) := by
  have hH := Held.start w 24 hv
  have hT0 := hT.below ((Below.refl _ w).alloc (Nat.le_refl _) (.cells #[v] 24))
  have hsz := szOrder_any v rows 1048576 _ hH.2.1 (by omega) (by omega)
  have hHs := Lib.hid hH
  have hTs := Lib.hid hT0
  have HV := Lib.hid hv
  have HTT := Lib.hid hT
  have hcell := hH.1
  obtain ⟨A, C, rfl, _⟩ := hv
  clear hH hT hT0
  go_enter Tryd.func3, Tryd.ntmps3
  go_wp2_with (go_at_call 14; refine hsz.mono ?_; clear hsz; rintro e w1 ⟨⟨r, hr, rfl⟩, hb1⟩; have H1 := Lib.hid (hHs.out.below hb1); have T1 := Lib.hid (hTs.out.below hb1); have hc1 := H1.out.1; clear hb1)
  · go_ret
    exact ⟨rfl, H1.out.2.2.1⟩
  · have hr2 : bulk rows ≤ 1048576 := by rcases hr with h | h <;> omega
    have HR := Lib.hid hr2
    have hto := toOrder_any _ rows w1 H1.out.2.1 hr2
    clear hr hr2
    have hspec : ∀ W v', RowsAt W v' rows → Calls Tryd.prog 15 #[.agg #[v']] W (RowsP (coverB rows) (validB rows) W) := fun W v' h => specCovers_any v' rows W h HR.out
    have himpl : ∀ W v', RowsAt W v' rows → Tab W → Calls Tryd.prog 17 #[.agg #[v']] W (RowsP (coverB rows) (validB rows) W) := fun W v' h hT => implCovers_any v' rows W h hT HR.out
    have hmax : bulk rows ≤ maxLen := maxLen_ge HR.out
    have hres := coverB_bulk rows
    generalize validB rows = t at hspec himpl
    generalize coverB rows = res at hspec himpl hres
    have hlr : lens res res.length ≤ 1048576 := Nat.le_trans (lens_bulk res) hres
    have hlrows : lens rows rows.length ≤ 1048576 := Nat.le_trans (lens_bulk rows) HR.out
    have hne : (t != t) = false := bne_self_eq_false t
    have HS := Lib.hid hspec
    have HI := Lib.hid himpl
    have HM := Lib.hid hmax
    clear hspec himpl hmax hres
    -- the model's answer
    go_wp2_with fail
    refine hto.mono ?_
    clear hto
    rintro e w2 ⟨g, G, rfl, hg, ho, hb2⟩
    have H2 := Lib.hid (H1.out.below hb2)
    have T2 := Lib.hid (T1.out.below hb2)
    have R2 := Lib.hid (ho.at HM.out)
    have hs1 : w.heap.size < w1.heap.size := H1.out.2.2.2
    have hz2 := hb2.size
    clear hg ho hb2 hc1
    go_wp2_with fail
    refine (HS.out w2 _ R2.out).mono ?_
    rintro e w3 ⟨v1, rfl, ho1, hb3⟩
    obtain ⟨a1, C1, rfl⟩ := ho1.form
    have H3 := Lib.hid (H2.out.below hb3)
    have T3 := Lib.hid (T2.out.below hb3)
    have O3 := Lib.hid ho1
    have hz3 := hb3.size
    have hc3 := H3.out.1
    clear ho1 hb3 R2
    go_wp2_with fail
    refine (toOrder_any _ rows _ H3.out.2.1 HR.out).mono ?_
    rintro e w4 ⟨g4, G4, rfl, hg4, ho4, hb4⟩
    have hz4 := hb4.size
    have b5 := (Below.refl _ w4).alloc (Nat.le_refl _) (.cells #[whole g4 rows.length] 28)
    have H5 := Lib.hid ((H3.out.below hb4).below b5)
    have T5 := Lib.hid ((T3.out.below hb4).below b5)
    have O5 := Lib.hid ((O3.out.below hb4 (Nat.le_refl _)).below b5 hz4)
    have O6 := Lib.hid (((ho4.ownR HM.out).wider hg4 (Nat.le_refl _)).below b5 (Nat.le_refl _))
    have B6 := Lib.hid (Boxed.new w4 28 (whole g4 rows.length))
    have R5 : Hid (RowsAt (w4.alloc (.cells #[whole g4 rows.length] 28)) (whole g4 rows.length) rows) := Lib.hid ((ho4.at HM.out).below b5)
    clear ho4 hb4 b5 hc3
    have hc6 := B6.out.cell
    go_wp2_with fail
    refine (HI.out _ _ R5.out T5.out).mono ?_
    rintro e w6 ⟨v3, rfl, ho7, hb6⟩
    obtain ⟨a3, C3, rfl⟩ := ho7.form
    have hz6 := hb6.size
    rw [World.size_alloc] at hz6
    have hlw : Lr w (.slice A rows.length C) rows res ⟨w2.heap.size, w3.heap.size, w3.heap.size, w4.heap.size, w4.heap.size + 1, w6.heap.size⟩ (.slice a1 res.length C1) (whole g4 rows.length) (.slice a3 res.length C3) (rowsF rows) (rowsF res) w6 := by
      have e4 : (w4.alloc (.cells #[whole g4 rows.length] 28)).heap.size = w4.heap.size + 1 := World.size_alloc _ _
      refine ⟨HV.out, HTT.out, ((H5.out.below hb6)).1, (H5.out.below hb6).2.2.1, O5.out.below hb6 (by rw [e4]; omega), (hb6.block _ B6.out.lt).trans B6.out, O6.out.below hb6 (by rw [e4]; omega), ?_, ?_⟩
      · rw [← e4]
        exact ho7
      · dsimp only
        omega
    have L7 := Lib.hid hlw
    have hcg := hlw.b6.cell
    have hca := hlw.arg
    clear ho7 hb6 hlw hc6 H1 T1 H2 T2 H3 T3 O3 H5 T5 O5 O6 B6 R5 hHs hTs
    have heq := eqIntSS_any _ _ res res _ L7.out.o7.at L7.out.o4.at
    rw [decide_eq_true rfl] at heq
    have HEQ := Lib.hid heq
    clear heq
    go_wp2_with fail
    refine HEQ.out.mono ?_
    clear HEQ
    rintro e w9 ⟨rfl, m9, rfl⟩
    have L9 := Lib.hid (L7.out.step (below_drewN' w6 m9 _))
    have L9d := Lib.hid ((L7.out.step (below_drewN' w6 m9 _)).step (below_drew _ _))
    have hcg := L9.out.b6.cell
    have hca := L9.out.arg
    have hdr : ∀ W : World, W.drew.heap = W.heap := fun _ => rfl
    clear L7
    generalize hw9 : w6.drewN m9 = w9 at *
    have hbig := L9.out.ord
    have hplt : w4.heap.size < w9.heap.size := by dsimp only at hbig; omega
    have hplt2 : w.heap.size < w9.heap.size := by dsimp only at hbig; omega
    clear hbig
    have HTO := Lib.hid (toOrder_any _ rows w9.drew L9d.out.rowsAt HR.out)
    go_upto_region 10 with fail
    go_cut [45] (fun s wx => s = .bool false ∧ Lr w (.slice A rows.length C) rows res ⟨w2.heap.size, w3.heap.size, w3.heap.size, w4.heap.size, w4.heap.size + 1, w6.heap.size⟩ (.slice a1 res.length C1) (whole g4 rows.length) (.slice a3 res.length C3) (rowsF rows) (rowsF res) wx)
    case first =>
      first | (go_region_with (first | (go_at_call 16; refine HTO.out.mono ?_; clear HTO; rintro e wa ⟨ga, Ga, rfl, hga, hoa, hba⟩; have ⟨hc, hf⟩ := bcell hba; have LA := Lib.hid (L9d.out.step hba); have heqa := eqOrder_any _ _ rows rows wa LA.out.o6.at (hoa.at HM.out); rw [decide_eq_true (rfl : rows = rows)] at heqa; have HEQA := Lib.hid heqa; clear heqa hga hoa hba) | (go_at_call 19; refine HEQA.out.mono ?_; clear HEQA; rintro e wb ⟨rfl, hbb⟩; have LB := Lib.hid (LA.out.step hbb); clear hbb))) | fail
      all_goals
        go_wp2_with fail
        go_meet
      all_goals exact ⟨rfl, LB.out⟩
    case rest =>
      obtain ⟨rfl, hL⟩ := hcut
      have L10 := Lib.hid hL
      have hcg := hL.b6.cell
      have hbig := hL.ord
      have hord : w3.heap.size ≤ wc.heap.size ∧ w4.heap.size ≤ wc.heap.size := by dsimp only at hbig; omega
      have hmark := markOrder_any (whole g4 rows.length) rows 1 w3.heap.size w4.heap.size wc hL.o6 hord.1 hord.2 (by omega) (by omega)
      have HMK := Lib.hid hmark
      have hpos : ¬ (1 + ((lens rows rows.length : Nat) : Int) < 0) := by omega
      clear hL hbig hord hmark hca L9 L9d hplt hplt2 HTO
      go_wp2_with fail
      refine HMK.out.mono ?_
      clear HMK
      rintro e w11 ⟨rfl, ho, ht⟩
      have L11 := Lib.hid (L10.out.mark2 ht ho)
      have HEQ := Lib.hid (eqIntSS_any _ _ res res _ L11.out.o7.at L11.out.o4.at)
      rw [decide_eq_true rfl] at HEQ
      clear ho ht hcg L10
      go_wp2_with fail
      refine HEQ.out.mono ?_
      clear HEQ
      rintro e w12 ⟨rfl, m12, rfl⟩
      have L12 := Lib.hid (L11.out.step (below_drewN' w11 m12 _))
      have hbig := L12.out.ord
      have hord : w4.heap.size + 1 ≤ (w11.drewN m12).heap.size := by dsimp only at hbig; omega
      have HMK := Lib.hid (markIntSS_any (.slice a3 res.length C3) res 1 (w4.heap.size + 1) w6.heap.size (w11.drewN m12) L12.out.o7 hord (by omega) (by omega))
      clear hbig hord L11
      go_wp2_with fail
      refine HMK.out.mono ?_
      clear HMK
      rintro e w13 ⟨rfl, ho, ht⟩
      have L13 := Lib.hid (L12.out.mark3 ht ho)
      have HHD := Lib.hid (heldIntSS_any (.slice a3 res.length C3) res 1 (w4.heap.size + 1) w6.heap.size w13 L13.out.o7 (by omega) (by omega))
      have hq : ((1 + ((lens res res.length : Nat) : Int)) != (1 + ((lens res res.length : Nat) : Int))) = false := bne_self_eq_false _
      have hpos2 : ¬ (1 + ((lens res res.length : Nat) : Int) < 0) := by omega
      clear ho ht L12
      go_wp2_with fail
      refine HHD.out.mono ?_
      clear HHD
      rintro e w14 ⟨rfl, m14, rfl⟩
      have L14 := Lib.hid (L13.out.step (below_drewN' w13 m14 _))
      have hca := L14.out.arg
      have HTO := Lib.hid (toOrder_any _ rows _ L14.out.rowsAt HR.out)
      clear L13
      go_wp2_with fail
      refine HTO.out.mono ?_
      clear HTO
      rintro e w15 ⟨g15, G15, rfl, hg15, ho15, hb15⟩
      have L15 := Lib.hid (L14.out.step hb15)
      have HIM := Lib.hid (HI.out w15 _ (ho15.at HM.out) L15.out.tab)
      clear hb15 ho15 hg15 hca L14
      go_wp2_with fail
      refine HIM.out.mono ?_
      clear HIM
      rintro e w16 ⟨v5, rfl, ho16, hb16⟩
      obtain ⟨a5, C5, rfl⟩ := ho16.form
      have L17 := Lib.hid (L15.out.step hb16)
      have HEQ := Lib.hid (eqIntSS_any _ _ res res _ ho16.at L17.out.o4.at)
      rw [decide_eq_true rfl] at HEQ
      clear ho16 hb16 L15
      go_wp2_with fail
      refine HEQ.out.mono ?_
      clear HEQ
      rintro e w18 ⟨rfl, m18, rfl⟩
      have L18 := Lib.hid (L17.out.step (below_drewN' w16 m18 _))
      have HHD := Lib.hid (heldIntSS_any (.slice a3 res.length C3) res 1 (w4.heap.size + 1) w6.heap.size _ L18.out.o7 (by omega) (by omega))
      clear L17
      go_wp2_with fail
      refine HHD.out.mono ?_
      clear HHD
      rintro e w19 ⟨rfl, m19, rfl⟩
      have L19 := Lib.hid (L18.out.step (below_drewN' _ m19 _))
      clear L18
      go_wp2
      go_ret
      exact ⟨rfl, by simpa using L19.out.below⟩
end Go.Proofs.YtachmaldcakgcaaDoor
