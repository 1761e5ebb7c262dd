import Derived.Test.YtkomghohdhengaaDoorPc23
import Derived.Test.YtkomghohdhengaaDoorPc19
import Derived.Test.YtkomghohdhengaaDoorPc13
import Derived.Deep.RegionLaw
import Derived.Deep.AppendLies
import Derived.Laws.EntriesVeiled
import Derived.Test.YtkomghohdhengaaDoorPc24
import Derived.Test.YtkomghohdhengaaDoorPc16
import Derived.Laws.MakeOwn
import Derived.Test.YtkomghohdhengaaDoorPc20
import Derived.Test.YtkomghohdhengaaDoorPc22
import Derived.Test.YtkomghohdhengaaDoorPc11
namespace Go.Proofs.YtkomghohdhengaaDoor
open Go.RowKit Go.Deep Go.Shelf

/-- A method value: the join of a grid. -/
abbrev joinV (p : Nat) : Value := .func (.func 75) #[.pointer (some ⟨p, 0, none⟩)] #[]

theorem ownB_zero {xs : List Int} {t : Bool} {w W : World} (hx : xs = []) (ht : t = false) (hb : Below w.heap.size w W) : OwnB xs t w (.returned (.tuple #[.slice none 0 0, .bool false])) W := by
  subst hx ht
  exact ⟨_, rfl, OwnI.nil _ _ _ _, hb⟩
theorem bothL_no {rows : Rows2} {f g : List Int} (h : bothOk rows f g = false) : bothL rows f g = [] := by unfold bothL; rw [h]; rfl

set_option maxRecDepth 100000 in
set_option maxHeartbeats 8000000 in
theorem combined_any (p : Nat) (vf vg : Value) (rows : Rows2) (f g : List Int) (w : World) (hf : IntsAt w vf f) (hg : IntsAt w vg g) (hG : GridAt w p (gridF rows)) (hT : Tab w) (hok : Ok rows)
    (hrf : ∀ x ∈ f, 0 ≤ x ∧ x < rows.length) (hrg : ∀ x ∈ g, 0 ≤ x ∧ x < rows.length) (he : f.length = g.length) (hfl : f.length ≤ 200) :
    Calls Tryd.prog 74 #[vf, vg, joinV p] w (OwnB (bothL rows f g) (bothOk rows f g) w) := by
  have HFA := Lib.hid (fun W (h : Below w.heap.size w W) => hf.below h)
  have HGA := Lib.hid (fun W (h : Below w.heap.size w W) => hg.below h)
  have HGR := Lib.hid (fun W (h : Below w.heap.size w W) => hG.below h hG.lt)
  have HTT := Lib.hid (fun W (h : Below w.heap.size w W) => hT.below h)
  have hl200 := hok.len.2
  obtain ⟨Af, Cf, rfl, hCf, hmf, _⟩ := hf
  obtain ⟨Ag, Cg, rfl, hCg, hmg, _⟩ := hg
  unfold maxLen at hmf hmg
  have hmk := run_make_row' (P := Tryd.prog) 75 3 (.int .i64 0) 8 Tryd.underlying75 infoInt rfl .i64 .i64 f.length (by omega) (by omega)
  have HRW := Lib.hid (World.rowIs_made w (.int .i64 0) f.length 3)
  have HB0 := Lib.hid ((Below.refl w.heap.size w).alloc (Nat.le_refl _) (.cells (madeCells #[.int .i64 0] f.length) 3))
  have HRF := Lib.hid hrf
  have HRG := Lib.hid hrg
  have HEQ := Lib.hid he
  have HOK := Lib.hid hok
  clear hG hT hrf hrg he hok
  go_enter Tryd.func74, Tryd.ntmps74
  go_wp2
  clear hmk
  go_loopw [9, 15] (fun _ kv wr => ∃ k : Nat, k ≤ f.length ∧ kv = .int .i64 k ∧ wr.rowIs w.heap.size 3 f.length (fun i => if i < k then .int .i64 (joinI rows (f.getD i 0).toNat (g.getD i 0).toNat) else .int .i64 0) ∧ (∀ q, q < k → 0 ≤ joinI rows (f.getD q 0).toNat (g.getD q 0).toNat) ∧ Below w.heap.size w wr) (fun _ kv _ => f.length - (intOf kv).toNat)
  case atStart => exact ⟨0, Nat.zero_le _, rfl, HRW.out.congr (fun i _ => by rw [if_neg (Nat.not_lt_zero i)]), fun _ h => absurd h (Nat.not_lt_zero _), HB0.out⟩
  case round =>
    obtain ⟨k, hk, rfl, hr, hp, hB⟩ := hrel
    have HR := Lib.hid hr
    have HB := Lib.hid hB
    have HP := Lib.hid hp
    clear hB hp HRW HB0
    by_cases hlt : k < f.length
    · have hkz : (k : Int) < (f.length : Int) := by omega
      have hltg : k < g.length := by have := HEQ.out; omega
      have hkg : (k : Int) < (g.length : Int) := by omega
      obtain ⟨b1, o1, rfl, hcf⟩ := (HFA.out wr HB.out).get hlt
      obtain ⟨b2, o2, rfl, hcg⟩ := (HGA.out wr HB.out).get hltg
      have hr1 := HRF.out _ (List.getElem_mem hlt)
      have hr2 := HRG.out _ (List.getElem_mem hltg)
      have e1 : f.getD k 0 = f[k] := getD_lt 0 hlt
      have e2 : g.getD k 0 = g[k] := getD_lt 0 hltg
      have hj := fun W (h : Below w.heap.size w W) => join_any p f[k].toNat g[k].toNat f[k] g[k] (gridF rows) W (HGR.out W h) (HTT.out W h) (by omega) (by omega) (by omega) (by omega) (fun q hq => HOK.out.lt200 hq)
      rw [← join_eq HOK.out (by omega) (by omega)] at hj
      have hcb := joinI_bounds HOK.out (a := f[k].toNat) (by omega) g[k].toNat
      obtain ⟨c, hc⟩ : ∃ c, joinI rows f[k].toNat g[k].toNat = c := ⟨_, rfl⟩
      have HA := Lib.hid (show joinI rows (f.getD k 0).toNat (g.getD k 0).toNat = c by rw [e1, e2]; exact hc)
      rw [hc] at hj hcb
      have HJ := Lib.hid hj
      have HRL := Lib.hid hr.lt
      clear hj hc hr1 hr2 e1 e2 hr
      have hkl : w.heap.size < wr.heap.size := HRL.out
      have hc1 : wr.cell? ⟨w.heap.size, k, none⟩ = some (.int .i64 0) := by
        have := HR.out.cell hlt
        rw [if_neg (Nat.lt_irrefl k)] at this
        exact this
      have hf1 := HR.out.frozen k
      have HC1 := Lib.hid hc1
      have HF1 := Lib.hid hf1
      clear hc1 hf1
      by_cases hc0 : c < 0
      · have HE := Lib.hid (bothOk_no hlt (by rw [HA.out]; exact hc0))
        go_upto_region 5 with fail
        go_region_with (first | (go_at_call 75; refine (HJ.out _ (HB.out.trans (below_drew wr _))).mono ?_; clear HJ; rintro e w3 ⟨rfl, hb3⟩; have hc3 : w3.cell? ⟨w.heap.size, k, none⟩ = some (.int .i64 0) := (hb3.cell (p := ⟨w.heap.size, k, none⟩) hkl).trans HC1.out; have hf3 : w3.frozen? ⟨w.heap.size, k, none⟩ = false := (hb3.frozen (p := ⟨w.heap.size, k, none⟩) hkl).trans HF1.out; have HB3 := Lib.hid ((HB.out.trans (below_drew wr _)).trans (hb3.mono HB.out.size)); clear hb3))
        all_goals
          have hc4 := World.cell?_setCell_same' w3 ⟨w.heap.size, k, none⟩ (.int .i64 c) (by rw [hc3]; rfl)
          go_wp2
          go_ret2
          refine ownB_zero (bothL_no HE.out) HE.out ?_
          exact HB3.out.setCell (p := ⟨w.heap.size, k, none⟩) (Nat.le_refl _) _
      · go_upto_region 5 with fail
        go_region_with (first | (go_at_call 75; refine (HJ.out _ (HB.out.trans (below_drew wr _))).mono ?_; clear HJ; rintro e w3 ⟨rfl, hb3⟩; have hc3 : w3.cell? ⟨w.heap.size, k, none⟩ = some (.int .i64 0) := (hb3.cell (p := ⟨w.heap.size, k, none⟩) hkl).trans HC1.out; have hf3 : w3.frozen? ⟨w.heap.size, k, none⟩ = false := (hb3.frozen (p := ⟨w.heap.size, k, none⟩) hkl).trans HF1.out; have HB3 := Lib.hid ((HB.out.trans (below_drew wr _)).trans (hb3.mono HB.out.size)); have HR3 := Lib.hid (HR.out.of_block (hb3.block w.heap.size hkl)); clear hb3))
        all_goals
          have hc4 := World.cell?_setCell_same' w3 ⟨w.heap.size, k, none⟩ (.int .i64 c) (by rw [hc3]; rfl)
          go_wp2
          go_roundw
          case rel =>
            refine ⟨k + 1, by omega, by go_num, (HR3.out.set k (.int .i64 c)).congr (fun i hi => ?_), fun q hq => ?_, HB3.out.setCell (p := ⟨w.heap.size, k, none⟩) (Nat.le_refl _) _⟩
            · by_cases e : i = k
              · subst e; rw [if_pos (Nat.lt_succ_self i), HA.out]; simp
              · by_cases e2 : i < k
                · simp [e, e2, show i < k + 1 by omega]
                · simp [e, e2, show ¬ i < k + 1 by omega]
            · by_cases e : q = k
              · subst e; rw [HA.out]; omega
              · exact HP.out q (by omega)
          case measure => simp [intOf]; omega
    · obtain rfl : k = f.length := by omega
      have HE := Lib.hid (bothOk_yes HP.out)
      clear hr
      go_wp2
      go_ret2
      have hl := bothN_length rows f g f.length
      refine ⟨_, by rw [HE.out]; rfl, ?_, HB.out⟩
      unfold bothL
      rw [if_pos HE.out]
      refine ⟨?_, .inr ⟨w.heap.size, f.length, _, by rw [hl]; rfl, by rw [hl]; exact Nat.le_refl _, by unfold maxLen; omega, Nat.le_refl _, HR.out.lt, HR.out, fun i hi => ?_⟩⟩
      · intro y hy
        unfold bothN at hy
        obtain ⟨i, hi, rfl⟩ := List.mem_map.1 hy
        rw [List.mem_range] at hi
        have h1 := HP.out i hi
        have hr1 := HRF.out (f.getD i 0) (by rw [getD_lt 0 hi]; exact List.getElem_mem _)
        have h2 := joinI_bounds HOK.out (a := (f.getD i 0).toNat) (by omega) (g.getD i 0).toNat
        exact wf_int h1 (by omega)
      · rw [hl] at hi
        simp [bothN, hi]

set_option maxRecDepth 100000 in
set_option maxHeartbeats 8000000 in
theorem implFunJoin_any (v v' vf vg : Value) (rows rows' : Rows2) (f g : List Int) (w : World) (hv : RowsAt w v rows) (hv' : RowsAt w v' rows') (hf : IntsAt w vf f) (hg : IntsAt w vg g) (hT : Tab w) (hn : bulk rows ≤ 1048576) (hn' : bulk rows' ≤ 1048576) :
    Calls Tryd.prog 17 #[.agg #[v], .agg #[v'], vf, vg] w (OwnB (fjoinL rows rows' f g) (fjoinOk rows rows' f g) w) := by
  have h0 := TwoF.start w 25 25 hv hv' hf
  have hg0 := hg.below h0.1.below
  have hl := rows_two h0.2 hg0
  have b1 := (Below.refl ((w.alloc (.cells #[v] 25)).alloc (.cells #[v'] 25)).heap.size ((w.alloc (.cells #[v] 25)).alloc (.cells #[v'] 25))).alloc (Nat.le_refl _) (.cells #[vf, vg] 26)
  have h1 := h0.step b1
  have hg1 := hg0.below b1
  have hT1 := (hT.below h0.1.below).below b1
  have hcall := funTypeOf_any v v' _ rows rows' [f, g] _ h1.1.r0 h1.1.r1 hl hT1 hn hn'
  have hs : ((w.alloc (.cells #[v] 25)).alloc (.cells #[v'] 25)).heap.size = w.heap.size + 2 := by rw [World.size_alloc, World.size_alloc]
  rw [ftB_two, hs] at hcall
  have hc0 := h0.1.c0
  have hc1 := h0.1.c1
  obtain ⟨A, C, rfl, _⟩ := hv
  obtain ⟨A', C', rfl, _⟩ := hv'
  obtain ⟨Af, Cf, rfl, _⟩ := hf
  obtain ⟨Ag, Cg, rfl, _⟩ := hg
  have H1 := Lib.hid h1
  have G1 := Lib.hid hg1
  have T1 := Lib.hid hT1
  clear h0 hl b1 h1 hT1 hs hT hg0 hg1
  cases hm : monoB rows rows' f && monoB rows rows' g with
  | false =>
    rw [hm] at hcall
    have HE := Lib.hid (show fjoinOk rows rows' f g = false by unfold fjoinOk; rw [hm]; rfl)
    clear hm
    go_enter Tryd.func17, Tryd.ntmps17
    go_wp2_with (go_at_call 73; refine hcall.mono ?_; clear hcall; rintro e w1 ⟨⟨q, q', rfl, _⟩, hb1⟩; have H2 := Lib.hid ((H1.out.step hb1).step ((Below.refl _ w1).alloc (Nat.le_refl _) (.cells #[.pointer q, .pointer q'] 72))); clear hb1)
    go_ret2
    exact ownB_zero (fjoinL_nil HE.out) HE.out H2.out.1.below
  | true =>
    rw [hm] at hcall
    rw [Bool.and_eq_true] at hm
    obtain ⟨hok, hok', hmo⟩ := monoB_ok hm.1
    obtain ⟨_, _, hmo2⟩ := monoB_ok hm.2
    have HE := Lib.hid (fjoin_both hm.1 hm.2)
    have hl200 := hok.len.2
    have HC := Lib.hid (fun p W h1 h2 h3 h4 => combined_any p (.slice Af f.length Cf) (.slice Ag g.length Cg) rows' f g W h1 h2 h3 h4 hok' hmo.2.1 hmo2.2.1 (by rw [hmo.1, hmo2.1]) (by rw [hmo.1]; exact hl200))
    clear hm hmo hmo2 hok hok' hl200
    have hcall2 := hcall.mono (fun e w' h => h.yes)
    clear hcall
    go_enter Tryd.func17, Tryd.ntmps17
    go_wp2_with (first | (go_at_call 73; refine hcall2.mono ?_; clear hcall2; rintro e w1 ⟨⟨p, p', rfl, _, _, hg, hg'⟩, hb1⟩; have B2 := Lib.hid ((Below.refl w1.heap.size w1).alloc (Nat.le_refl _) (.cells #[.pointer (some ⟨p, 0, none⟩), .pointer (some ⟨p', 0, none⟩)] 72)); have H2 := Lib.hid ((H1.out.step hb1).step B2.out); have G2 := Lib.hid ((G1.out.below hb1).below B2.out); have T2 := Lib.hid ((T1.out.below hb1).below B2.out); have GR2 := Lib.hid (hg'.below B2.out hg'.lt); obtain ⟨hl0, hl1⟩ := two_newB w1 (.pointer (some ⟨p, 0, none⟩)) (.pointer (some ⟨p', 0, none⟩)) 72; clear hl0 hb1 hg hg') | (go_at_call 74; refine (HC.out p' _ H2.out.2 G2.out GR2.out T2.out).mono ?_; rintro e w3 ⟨u, rfl, hu, hb3⟩; have HU := Lib.hid hu; have B3 := Lib.hid hb3; clear hu hb3))
    go_ret2
    rw [HE.out.1, HE.out.2]
    exact ⟨u, rfl, HU.out.wider H2.out.1.below.size (Nat.le_refl _), H2.out.1.below.trans (B3.out.mono H2.out.1.below.size)⟩
end Go.Proofs.YtkomghohdhengaaDoor

namespace Go.Proofs.YtkomghohdhengaaDoor
open Go.RowKit Go.Deep Go.Shelf

set_option maxRecDepth 100000 in
set_option maxHeartbeats 8000000 in
theorem implFunMeet_any (v v' vf vg : Value) (rows rows' : Rows2) (f g : List Int) (w : World) (hv : RowsAt w v rows) (hv' : RowsAt w v' rows') (hf : IntsAt w vf f) (hg : IntsAt w vg g) (hT : Tab w) (hn : bulk rows ≤ 1048576) (hn' : bulk rows' ≤ 1048576) :
    Calls Tryd.prog 25 #[.agg #[v], .agg #[v'], vf, vg] w (OwnB (fmeetL rows rows' f g) (fmeetOk rows rows' f g) w) := by
  have h0 := TwoF.start w 25 25 hv hv' hf
  have hg0 := hg.below h0.1.below
  have hl := rows_two h0.2 hg0
  have b1 := (Below.refl ((w.alloc (.cells #[v] 25)).alloc (.cells #[v'] 25)).heap.size ((w.alloc (.cells #[v] 25)).alloc (.cells #[v'] 25))).alloc (Nat.le_refl _) (.cells #[vf, vg] 26)
  have h1 := h0.step b1
  have hg1 := hg0.below b1
  have hT1 := (hT.below h0.1.below).below b1
  have hcall := funTypeOf_any v v' _ rows rows' [f, g] _ h1.1.r0 h1.1.r1 hl hT1 hn hn'
  have hs : ((w.alloc (.cells #[v] 25)).alloc (.cells #[v'] 25)).heap.size = w.heap.size + 2 := by rw [World.size_alloc, World.size_alloc]
  rw [ftB_two, hs] at hcall
  have hc0 := h0.1.c0
  have hc1 := h0.1.c1
  obtain ⟨A, C, rfl, _⟩ := hv
  obtain ⟨A', C', rfl, _⟩ := hv'
  obtain ⟨Af, Cf, rfl, _⟩ := hf
  obtain ⟨Ag, Cg, rfl, _⟩ := hg
  have H1 := Lib.hid h1
  have G1 := Lib.hid hg1
  have T1 := Lib.hid hT1
  clear h0 hl b1 h1 hT1 hs hT hg0 hg1
  cases hm : monoB rows rows' f && monoB rows rows' g with
  | false =>
    rw [hm] at hcall
    have HE := Lib.hid (show fmeetOk rows rows' f g = false by unfold fmeetOk; rw [hm]; rfl)
    clear hm
    go_enter Tryd.func25, Tryd.ntmps25
    go_wp2_with (go_at_call 73; refine hcall.mono ?_; clear hcall; rintro e w1 ⟨⟨q, q', rfl, _⟩, hb1⟩; have H2 := Lib.hid ((H1.out.step hb1).step ((Below.refl _ w1).alloc (Nat.le_refl _) (.cells #[.pointer q, .pointer q'] 72))); clear hb1)
    go_ret2
    exact ownB_zero (fmeetL_nil HE.out) HE.out H2.out.1.below
  | true =>
    rw [hm] at hcall
    rw [Bool.and_eq_true] at hm
    obtain ⟨hok, hok', hmo⟩ := monoB_ok hm.1
    obtain ⟨_, _, hmo2⟩ := monoB_ok hm.2
    have HE := Lib.hid (fmeet_both hm.1 hm.2)
    have hl200 := hok.len.2
    have hlen := backRows_len rows'
    have HC := Lib.hid (fun p W h1 h2 h3 h4 => combined_any p (.slice Af f.length Cf) (.slice Ag g.length Cg) (backRows rows') f g W h1 h2 h3 h4 hok'.back (by rw [hlen]; exact hmo.2.1) (by rw [hlen]; exact hmo2.2.1) (by rw [hmo.1, hmo2.1]) (by rw [hmo.1]; exact hl200))
    have HN := Lib.hid hok'.gridN
    have HBN := Lib.hid (backN_rows hok')
    have HEL := Lib.hid (fun i (_ : i < rows'.length) k (hk : k ∈ elems (gridF rows' i)) => hok'.lt200 ((mem_elems (hok'.lt i)).1 hk))
    have HLT := Lib.hid hok'.back.lt
    clear hm hmo hmo2 hok hok' hl200 hlen
    have hcall2 := hcall.mono (fun e w' h => h.yes)
    clear hcall
    go_enter Tryd.func25, Tryd.ntmps25
    go_wp2_with (go_at_call 73; refine hcall2.mono ?_; clear hcall2; rintro e w1 ⟨⟨p, p', rfl, _, _, hg, hg'⟩, hb1⟩; have B2 := Lib.hid ((Below.refl w1.heap.size w1).alloc (Nat.le_refl _) (.cells #[.pointer (some ⟨p, 0, none⟩), .pointer (some ⟨p', 0, none⟩)] 72)); have H2 := Lib.hid ((H1.out.step hb1).step B2.out); have G2 := Lib.hid ((G1.out.below hb1).below B2.out); have T2 := Lib.hid ((T1.out.below hb1).below B2.out); have GR2 := Lib.hid (hg'.below B2.out hg'.lt); obtain ⟨hl0, hl1⟩ := two_newB w1 (.pointer (some ⟨p, 0, none⟩)) (.pointer (some ⟨p', 0, none⟩)) 72; clear hl0 hb1 hg hg')
    refine (back_any p' rows'.length (gridF rows') _ GR2.out T2.out HN.out HEL.out).mono ?_
    rintro e w5 ⟨rfl, hb5⟩
    rw [HBN.out]
    have H5 := Lib.hid ((H2.out.step hb5).step (newGrid_below (gridF (backRows rows')) w5))
    have G5 := Lib.hid ((G2.out.below hb5).below (newGrid_below (gridF (backRows rows')) w5))
    have T5 := Lib.hid ((T2.out.below hb5).below (newGrid_below (gridF (backRows rows')) w5))
    have GR5 := Lib.hid (newGrid_at HLT.out w5)
    clear hb5 hl1
    go_wp2_with (first | (go_at_call 74; refine (HC.out w5.heap.size _ H5.out.2 G5.out GR5.out T5.out).mono ?_; rintro e w6 ⟨u, rfl, hu, hb6⟩; have HU := Lib.hid hu; have B6 := Lib.hid hb6; clear hu hb6) | (refine wpList_store_row rfl 93 (.tmp 12) (.tmp 26) rfl w5.heap.size (gridCells (gridF (backRows rows'))) rfl rfl 93 (gridCells fun _ => 0) (store_new w5).1 (by rw [gridCells_size]; exact sizeGrid) (by rw [gridCells_size, gridCells_size]) (gridCells_one _) ?_))
    go_ret2
    rw [HE.out.1, HE.out.2]
    exact ⟨u, rfl, HU.out.wider H5.out.1.below.size (Nat.le_refl _), H5.out.1.below.trans (B6.out.mono H5.out.1.below.size)⟩
end Go.Proofs.YtkomghohdhengaaDoor
