/- The law of FunStep: model and program answer alike, the arguments are left alone, and the answer owns its memory. -/
import Derived.Test.YtnniffjjbekodaaDoorStepF
import Derived.Test.YtnniffjjbekodaaDoorLs
import Derived.Test.YtnniffjjbekodaaDoorTo
namespace Go.Proofs.YtnniffjjbekodaaDoor
open Go.RowKit Go.Deep

/-- Two orders in the law's variables, and the library's table. -/
structure LT (w : World) (v v' : Value) (rows rows' : Rows2) (W : World) : Prop where
  two : Two w v v' rows rows' W
  tab : Tab W
theorem LT.step {w : World} {v v' : Value} {rows rows' : Rows2} {W W' : World} (h : LT w v v' rows rows' W) (hb : Below W.heap.size W W') : LT w v v' rows rows' W' := ⟨h.two.step hb, h.tab.below hb⟩
theorem LT.drew {w : World} {v v' : Value} {rows rows' : Rows2} {W : World} (h : LT w v v' rows rows' W) : LT w v v' rows rows' W.drew := h.step ⟨rfl, rfl, rfl, Nat.le_refl _, fun _ _ => rfl⟩
theorem Ls.drew {w : World} {v v' u1 x0 x1 u4 : Value} {rows rows' : Rows2} {xs ys : List Int} {p : Places4} {R2 R3 : Nat → List Int} {W : World} (h : Ls w v v' rows rows' xs p u1 x0 x1 u4 R2 R3 ys W) : Ls w v v' rows rows' xs p u1 x0 x1 u4 R2 R3 ys W.drew := h.step ⟨rfl, rfl, rfl, Nat.le_refl _, fun _ _ => rfl⟩
theorem step_short (rows rows' : Rows2) (a b : Int) (hn : bulk rows ≤ 1048576) : (stepL rows rows' a b).length ≤ 1048576 := by
  unfold stepL
  split
  · rw [stepN_length]; unfold bulk at hn; omega
  · exact Nat.zero_le _

set_option maxRecDepth 100000 in
set_option maxHeartbeats 16000000 in
theorem law_step (v v' : Value) (rows rows' : Rows2) (a b : Int) (w : World) (hv : RowsAt w v rows) (hv' : RowsAt w v' rows') (hT : Tab w) :
    Calls Tryd.prog 9 #[.agg #[v], .agg #[v'], .int .i64 a, .int .i64 b] w (SaysN true w) := by
  have h2 := Two.start w 24 24 hv hv'
  have h0 : LT w v v' rows rows' _ := ⟨h2, hT.below h2.below⟩
  have HV := Lib.hid hv
  have HV' := Lib.hid hv'
  have HTT := Lib.hid hT
  obtain ⟨A, C, rfl, _⟩ := hv
  obtain ⟨A', C', rfl, _⟩ := hv'
  have L0 := Lib.hid h0
  have hc0 := h0.two.c0
  clear h0 hT h2
  have hsz := szOrder_any _ rows 1048576 _ L0.out.two.r0 (by omega) (by omega)
  have hdr : ∀ W : World, W.drew.heap = W.heap := fun _ => rfl
  go_enter Tryd.func9, Tryd.ntmps9
  go_wp2_with (go_at_call 16; refine hsz.mono ?_; clear hsz; rintro e w1 ⟨⟨r, hr, rfl⟩, hb1⟩; have L1 := Lib.hid (L0.out.step hb1); have hc1 := L1.out.two.c1; clear hb1)
  · go_ret
    exact ⟨rfl, L1.out.two.below⟩
  · have hr2 : 0 ≤ r ∧ r ≤ 1048576 ∧ bulk rows ≤ 1048576 := by rcases hr with h | h <;> omega
    have hsz2 := szOrder_any _ rows' r _ L1.out.two.r1 hr2.1 hr2.2.1
    have HR := Lib.hid hr2.2.2
    have HR1 := Lib.hid hr2.2.1
    clear hr hr2
    go_wp2_with fail
    refine hsz2.mono ?_
    clear hsz2
    rintro e w2 ⟨⟨r', hr', rfl⟩, hb2⟩
    have L2 := Lib.hid (L1.out.step hb2)
    have hd0 := L2.out.two.c0
    have hd1 := L2.out.two.c1
    clear hb2 hc0 hc1
    by_cases hneg : r' < 0
    · go_wp2
      go_ret
      exact ⟨rfl, L2.out.two.below⟩
    · have hn' : bulk rows' ≤ 1048576 := by have := HR1.out; rcases hr' with h | h <;> omega
      have hneg2 : ¬ r' < 0 := hneg
      have HR' := Lib.hid hn'
      have HM := Lib.hid (maxLen_ge HR.out)
      have HM' := Lib.hid (maxLen_ge hn')
      have hspec : ∀ W u u', RowsAt W u rows → RowsAt W u' rows' → Calls Tryd.prog 36 #[.agg #[u], .agg #[u'], .int .i64 a, .int .i64 b] W (OwnB (stepL rows rows' a b) (stepOk rows rows' a b) W) := fun W u u' h h' => specStep_any u u' rows rows' a b W h h' HR.out HR'.out
      have himpl : ∀ W u u', RowsAt W u rows → RowsAt W u' rows' → Tab W → Calls Tryd.prog 37 #[.agg #[u], .agg #[u'], .int .i64 a, .int .i64 b] W (OwnB (stepL rows rows' a b) (stepOk rows rows' a b) W) := fun W u u' h h' hT => implStep_any u u' rows rows' a b W h h' hT HR.out HR'.out
      have hxl := step_short rows rows' a b HR.out
      have hlens : lens rows rows.length ≤ 1048576 := by have := lens_all rows; have := HR.out; omega
      have hlens' : lens rows' rows'.length ≤ 1048576 := by have := lens_all rows'; have := HR'.out; omega
      generalize stepL rows rows' a b = xs at hspec himpl hxl
      generalize stepOk rows rows' a b = t at hspec himpl
      have HS := Lib.hid hspec
      have HI := Lib.hid himpl
      have HX := Lib.hid hxl
      have HLN := Lib.hid hlens
      have HLN' := Lib.hid hlens'
      have hne : (t != t) = false := bne_self_eq_false t
      clear hspec himpl hr' hn' HR1 L0 L1 hxl hlens hlens'
      have hs2 : w.heap.size < w2.heap.size := cell_lt hd0
      have hs3 : w.heap.size + 1 < w2.heap.size := cell_lt hd1
      go_upto_region 8 with fail
      go_cut [10, 11] (fun s10 s11 wx => s11 = .bool t ∧ (∃ lo, w.heap.size + 1 < lo ∧ OwnI 3 wx s10 xs lo wx.heap.size ∧ lo ≤ wx.heap.size) ∧ LT w (.slice A rows.length C) (.slice A' rows'.length C') rows rows' wx)
      case first =>
        go_region_with (first | (go_at_call_of 18 (Value.slice A (List.length rows) C); refine (toOrder_any _ rows _ L2.out.drew.two.r0 HR.out).mono ?_; rintro e w4 ⟨g0, G, rfl, hg, ho, hb4⟩; have L4 := Lib.hid (L2.out.drew.step hb4); have R4 := Lib.hid (ho.at HM.out); have ⟨hcA, hfA⟩ := bcell hb4; have he1 := L4.out.two.c1; clear hg ho hb4) | (go_at_call_of 18 (Value.slice A' (List.length rows') C'); refine (toOrder_any _ rows' _ L4.out.two.r1 HR'.out).mono ?_; rintro e w5 ⟨g', G', rfl, hg, ho, hb5⟩; have L5 := Lib.hid (L4.out.step hb5); have R5 := Lib.hid (R4.out.below hb5); have R5' := Lib.hid (ho.at HM'.out); clear hg ho hb5) | (go_at_call 36; refine (HS.out _ _ _ R5.out R5'.out).mono ?_; rintro e w8 ⟨u, rfl, hu, hb8⟩; have L8 := Lib.hid (L5.out.step hb8); have U8 := Lib.hid hu; have Z8 := Lib.hid hb8.size; clear hb8 hu))
        all_goals
          go_wp2
          go_meet
          exact ⟨rfl, ⟨_, cell_lt L5.out.two.c1, U8.out, Z8.out⟩, L8.out⟩
      case rest =>
        obtain ⟨rfl, ⟨lo1, hlo1, hu1, hlo1b⟩, hL⟩ := hcut
        obtain ⟨a1, C1, e1⟩ := hu1.form
        subst e1
        have L8 := Lib.hid hL
        have U1 := Lib.hid hu1
        have hc8 := hL.two.c0
        clear hL hd0 hd1 L2 hu1
        go_wp2_with fail
        refine (toOrder_any _ rows _ L8.out.two.r0 HR.out).mono ?_
        rintro e w9 ⟨g9, G9, rfl, hg9, ho9, hb9⟩
        have b10 := (Below.refl w9.heap.size w9).alloc (Nat.le_refl _) (.cells #[whole g9 rows.length] 28)
        have L10 := Lib.hid ((L8.out.step hb9).step b10)
        have U10 := Lib.hid (U1.out.still (W' := w9.alloc (.cells #[whole g9 rows.length] 28)) fun b _ h => (b10.block b (Nat.lt_of_lt_of_le h hb9.size)).trans (hb9.block b h))
        have O10 := Lib.hid (((ho9.ownR HM.out).wider hg9 (Nat.le_refl _)).below b10 (Nat.le_refl _))
        have B10 := Lib.hid (Boxed.new w9 28 (whole g9 rows.length))
        have hz9 := hb9.size
        have hc9 := L10.out.two.c1
        clear hg9 ho9 hb9 b10 hc8
        go_wp2_with fail
        refine (toOrder_any _ rows' _ L10.out.two.r1 HR'.out).mono ?_
        rintro e w11 ⟨g11, G11, rfl, hg11, ho11, hb11⟩
        have hz11 := hb11.size
        have b12 := (Below.refl w11.heap.size w11).alloc (Nat.le_refl _) (.cells #[whole g11 rows'.length] 28)
        have hb12 := hb11.trans (b12.mono hb11.size)
        rw [World.size_alloc] at hg11 hz11
        have L12 := Lib.hid (L10.out.step hb12)
        have U12 := Lib.hid (U10.out.still (W' := w11.alloc (.cells #[whole g11 rows'.length] 28)) fun b _ h => hb12.block b (by rw [World.size_alloc]; omega))
        have O12 := Lib.hid (O10.out.below hb12 (by rw [World.size_alloc]; omega))
        have B12 : Hid (Boxed (w11.alloc (.cells #[whole g11 rows'.length] 28)) w9.heap.size 28 (whole g9 rows.length)) := Lib.hid ((hb12.block _ (by rw [World.size_alloc]; omega)).trans B10.out)
        have O12' := Lib.hid (((ho11.ownR HM'.out).wider hg11 (Nat.le_refl _)).below b12 (Nat.le_refl _))
        have B12' := Lib.hid (Boxed.new w11 28 (whole g11 rows'.length))
        have hx0 := B12.out.cell
        have hx1 := B12'.out.cell
        clear hg11 ho11 hb11 b12 hb12 hc9 U10 O10 B10 L10
        go_wp2_with fail
        refine (HI.out _ _ _ O12.out.at O12'.out.at L12.out.tab).mono ?_
        rintro e w13 ⟨u4, rfl, hu4, hb13⟩
        obtain ⟨a4, C4, e4⟩ := hu4.form
        subst e4
        have hz13 := hb13.size
        rw [World.size_alloc] at hz13 hu4
        have hLs : Ls w (.slice A rows.length C) (.slice A' rows'.length C') rows rows' xs ⟨lo1, wc.heap.size, wc.heap.size, w9.heap.size, w9.heap.size + 1, w11.heap.size, w11.heap.size + 1, w13.heap.size⟩ (.slice a1 xs.length C1) (whole g9 rows.length) (whole g11 rows'.length) (.slice a4 xs.length C4) (rowsF rows) (rowsF rows') xs w13 := by
          have L13 := L12.out.step hb13
          refine ⟨HV.out, HV'.out, HTT.out, L13.two.c0, L13.two.c1, L13.two.below, U12.out.still fun b _ h => hb13.block b (by rw [World.size_alloc]; omega), (hb13.block _ B12.out.lt).trans B12.out, O12.out.below hb13 (by rw [World.size_alloc]; omega), (hb13.block _ B12'.out.lt).trans B12'.out, O12'.out.below hb13 (by rw [World.size_alloc]; omega), hu4, ?_⟩
          dsimp only
          omega
        obtain ⟨P, hP⟩ : ∃ P : Places4, P = ⟨lo1, wc.heap.size, wc.heap.size, w9.heap.size, w9.heap.size + 1, w11.heap.size, w11.heap.size + 1, w13.heap.size⟩ := ⟨_, rfl⟩
        have HP2 := Lib.hid (show P.hi2 = w9.heap.size by rw [hP])
        have HP3 := Lib.hid (show P.hi3 = w11.heap.size by rw [hP])
        rw [← hP] at hLs
        clear hP
        have S13 := Lib.hid hLs
        clear hu4 hb13 hLs L8 U1 L12 U12 O12 B12 O12' B12' hx0 hx1
        have heq := eqIntS_any _ _ xs xs _ S13.out.o4.at S13.out.o1.at
        rw [decide_eq_true (rfl : xs = xs)] at heq
        have HEQ := Lib.hid heq
        clear heq
        go_wp2_with fail
        refine HEQ.out.mono ?_
        clear HEQ
        rintro e w14 ⟨rfl, q14, rfl⟩
        have S14 := Lib.hid (S13.out.step (below_drewN' w13 q14 _))
        obtain ⟨W14, hW14⟩ : ∃ W14 : World, W14 = w13.drewN q14 := ⟨_, rfl⟩
        rw [← hW14] at S14 ⊢
        have hcg := S14.out.b2.cell
        rw [HP2.out] at hcg
        have hca := S14.out.c0
        have hp1 : w9.heap.size < W14.heap.size := cell_lt hcg
        have hp2 : w.heap.size < W14.heap.size := cell_lt hca
        clear hW14 S13
        go_upto_region 14 with fail
        go_cut [66] (fun s wx => s = .bool false ∧ Ls w (.slice A rows.length C) (.slice A' rows'.length C') rows rows' xs P (.slice a1 xs.length C1) (whole g9 rows.length) (whole g11 rows'.length) (.slice a4 xs.length C4) (rowsF rows) (rowsF rows') xs wx)
        case first =>
          go_region_with (first | (go_at_call 18; refine (toOrder_any _ rows _ S14.out.drew.r0 HR.out).mono ?_; rintro e wa ⟨ga, Ga, rfl, hga, hoa, hba⟩; have SA := Lib.hid (S14.out.drew.step hba); have heqa := eqOrder_any _ _ rows rows wa SA.out.o2.at (hoa.at HM.out); rw [decide_eq_true (rfl : rows = rows)] at heqa; have HEQA := Lib.hid heqa; have hcb := SA.out.b2.cell; rw [HP2.out] at hcb; clear heqa hga hoa hba) | (go_at_call 21; refine HEQA.out.mono ?_; clear HEQA; rintro e wb ⟨rfl, hbb⟩; have SB := Lib.hid (SA.out.step hbb); clear hbb))
          all_goals
            go_wp2_with fail
            go_meet
          all_goals exact ⟨rfl, SB.out⟩
        case rest =>
          obtain ⟨rfl, hL⟩ := hcut
          have S15 := Lib.hid hL
          have hcg2 := hL.b3.cell
          rw [HP3.out] at hcg2
          have hca2 := hL.c1
          have hp3 := cell_lt hcg2
          have hp4 := cell_lt hca2
          dsimp only at hp3 hp4
          clear hL hcg hca S14 hp1 hp2
          go_upto_region 16 with fail
          go_cut [71] (fun s wx => s = .bool false ∧ Ls w (.slice A rows.length C) (.slice A' rows'.length C') rows rows' xs P (.slice a1 xs.length C1) (whole g9 rows.length) (whole g11 rows'.length) (.slice a4 xs.length C4) (rowsF rows) (rowsF rows') xs wx)
          case first =>
            go_region_with (first | (go_at_call 18; refine (toOrder_any _ rows' _ S15.out.drew.r1 HR'.out).mono ?_; rintro e wa ⟨ga, Ga, rfl, hga, hoa, hba⟩; have SA := Lib.hid (S15.out.drew.step hba); have heqa := eqOrder_any _ _ rows' rows' wa SA.out.o3.at (hoa.at HM'.out); rw [decide_eq_true (rfl : rows' = rows')] at heqa; have HEQA := Lib.hid heqa; have hcb := SA.out.b3.cell; rw [HP3.out] at hcb; clear heqa hga hoa hba) | (go_at_call 21; refine HEQA.out.mono ?_; clear HEQA; rintro e wb ⟨rfl, hbb⟩; have SB := Lib.hid (SA.out.step hbb); clear hbb))
            all_goals
              go_wp2_with fail
              go_meet
            all_goals exact ⟨rfl, SB.out⟩
          case rest =>
            obtain ⟨rfl, hL⟩ := hcut
            have S16 := Lib.hid hL
            have hc2 := hL.b2.cell
            rw [HP2.out] at hc2
            have hd := hL.ord
            have hord : P.lo2 ≤ wc.heap.size ∧ P.hi2 ≤ wc.heap.size := by omega
            have HMK := Lib.hid (markOrder_any (whole g9 rows.length) rows 1 P.lo2 P.hi2 wc hL.o2 hord.1 hord.2 (by omega) (by have := HLN.out; omega))
            clear hL hcg2 hca2 S15 hp3 hp4 hd hord
            go_wp2_with fail
            refine HMK.out.mono ?_
            clear HMK
            rintro e w17 ⟨rfl, ho, ht⟩
            have S17 := Lib.hid (S16.out.mark2 ht ho)
            have hc3 := S17.out.b3.cell
            rw [HP3.out] at hc3
            have hd := S17.out.ord
            have hord : P.lo3 ≤ w17.heap.size ∧ P.hi3 ≤ w17.heap.size := by omega
            have HMK := Lib.hid (markOrder_any (whole g11 rows'.length) rows' (1 + ((lens rows rows.length : Nat) : Int)) P.lo3 P.hi3 w17 S17.out.o3 hord.1 hord.2 (by omega) (by have := HLN.out; have := HLN'.out; omega))
            clear ho ht hc2 S16 hd hord
            go_wp2_with fail
            refine HMK.out.mono ?_
            clear HMK
            rintro e w18 ⟨rfl, ho, ht⟩
            have S18 := Lib.hid (S17.out.mark3 ht ho)
            have hpos : ¬ (1 + ((lens rows rows.length : Nat) : Int) + ((lens rows' rows'.length : Nat) : Int) < 0) := by omega
            have heq := eqIntS_any _ _ xs xs _ S18.out.o4.at S18.out.o1.at
            rw [decide_eq_true (rfl : xs = xs)] at heq
            have HEQ := Lib.hid heq
            clear heq ho ht hc3 S17
            go_wp2_with fail
            refine HEQ.out.mono ?_
            clear HEQ
            rintro e w19 ⟨rfl, q19, rfl⟩
            have S19 := Lib.hid (S18.out.step (below_drewN' w18 q19 _))
            have HMK := Lib.hid (markIntS_any _ xs 1 P.lo4 P.hi4 _ S19.out.o4 (by omega) (by have := HX.out; omega))
            clear S18
            go_wp2_with fail
            refine HMK.out.mono ?_
            clear HMK
            rintro e w20 ⟨rfl, ho, hg⟩
            have S20 := Lib.hid (S19.out.mark4 hg ho)
            have HHD := Lib.hid (heldIntS_any (.slice a4 xs.length C4) 1 xs.length w20 S20.out.o4.at (by omega) (by have := HX.out; omega))
            have hpos2 : ¬ (1 + (xs.length : Int) < 0) := by omega
            have hq : ((1 + (xs.length : Int)) != (1 + (xs.length : Int))) = false := bne_self_eq_false _
            clear ho hg S19
            go_wp2_with fail
            refine HHD.out.mono ?_
            clear HHD
            rintro e w21 ⟨rfl, q21, rfl⟩
            have S21' := Lib.hid (S20.out.step (below_drewN' w20 q21 _))
            obtain ⟨W21, hW21⟩ : ∃ W21 : World, W21 = w20.drewN q21 := ⟨_, rfl⟩
            rw [← hW21] at S21' ⊢
            have S21 := S21'
            have hca := S21.out.c0
            have hcb := S21.out.c1
            have hp1 := cell_lt hca
            have hp2 := cell_lt hcb
            dsimp only at hp1 hp2
            clear hW21 S21' S20
            go_upto_region 31 with fail
            go_cut [19, 20] (fun s19 s20 wx => s20 = .bool t ∧ (∃ lo, OwnI 3 wx s19 xs lo wx.heap.size) ∧ Ls w (.slice A rows.length C) (.slice A' rows'.length C') rows rows' xs P (.slice a1 xs.length C1) (whole g9 rows.length) (whole g11 rows'.length) (.slice a4 xs.length C4) (marked 1 rows rows.length) (marked (1 + ((lens rows rows.length : Nat) : Int)) rows' rows'.length) (marks 1 xs.length) wx)
            case first =>
              go_region_with (first | (go_at_call_of 18 (Value.slice A (List.length rows) C); refine (toOrder_any _ rows _ S21.out.drew.r0 HR.out).mono ?_; rintro e w4 ⟨g0, G, rfl, hg, ho, hb4⟩; have L4 := Lib.hid (S21.out.drew.step hb4); have R4 := Lib.hid (ho.at HM.out); have ⟨hcA, hfA⟩ := bcell hb4; have he1 := L4.out.c1; clear hg ho hb4) | (go_at_call_of 18 (Value.slice A' (List.length rows') C'); refine (toOrder_any _ rows' _ L4.out.r1 HR'.out).mono ?_; rintro e w5 ⟨g', G', rfl, hg, ho, hb5⟩; have L5 := Lib.hid (L4.out.step hb5); have R5 := Lib.hid (R4.out.below hb5); have R5' := Lib.hid (ho.at HM'.out); clear hg ho hb5) | (go_at_call 37; refine (HI.out _ _ _ R5.out R5'.out L5.out.tab).mono ?_; rintro e w8 ⟨u, rfl, hu, hb8⟩; have L8 := Lib.hid (L5.out.step hb8); have U8 := Lib.hid hu; clear hb8 hu))
              all_goals
                go_wp2
                go_meet
                exact ⟨rfl, ⟨_, U8.out⟩, L8.out⟩
            case rest =>
              obtain ⟨rfl, ⟨lo5, hu5⟩, hL⟩ := hcut
              obtain ⟨a5, C5, e5⟩ := hu5.form
              subst e5
              have S22 := Lib.hid hL
              have heq := eqIntS_any _ _ xs xs _ hu5.at hL.o1.at
              rw [decide_eq_true (rfl : xs = xs)] at heq
              have HEQ := Lib.hid heq
              clear heq hu5 hL hca hcb hp1 hp2 S21
              go_wp2_with fail
              refine HEQ.out.mono ?_
              clear HEQ
              rintro e w23 ⟨rfl, q23, rfl⟩
              have S23 := Lib.hid (S22.out.step (below_drewN' wc q23 _))
              have HHD := Lib.hid (heldIntS_any (.slice a4 xs.length C4) 1 xs.length _ S23.out.o4.at (by omega) (by have := HX.out; omega))
              go_wp2_with fail
              refine HHD.out.mono ?_
              clear HHD
              rintro e w24 ⟨rfl, q24, rfl⟩
              go_wp2
              go_ret
              exact ⟨rfl, S22.out.below.trans (below_drewN' wc (q23 + q24) _)⟩
end Go.Proofs.YtnniffjjbekodaaDoor
