/- The program's steps (funType.step). -/
import Derived.Test.YtnniffjjbekodaaDoorStepS
import Derived.Test.YtnniffjjbekodaaDoorImplFS
import Derived.Laws.MakeOwn
namespace Go.Proofs.YtnniffjjbekodaaDoor
open Go.RowKit Go.Deep Go.Shelf

theorem two_fresh (W : World) (a b : Value) (t : TypeId) : (W.alloc (.cells #[a, b] t)).cell? ⟨W.heap.size, 0, none⟩ = some a ∧ (W.alloc (.cells #[a, b] t)).cell? ⟨W.heap.size, 1, none⟩ = some b :=
  ⟨by rw [cell_of_row _ W.heap.size 0 _ _ _ (heap_alloc_new _ _)]; rfl, by rw [cell_of_row _ W.heap.size 1 _ _ _ (heap_alloc_new _ _)]; rfl⟩
theorem rowIs_set_int {W : World} {g n : Nat} {f : Nat → Value} (h : W.rowIs g 3 n f) (i : Nat) (v : Value) : (W.setCell ⟨g, i, none⟩ v).rowIs g 3 n (fun k => if k = i then v else f k) := h.set i v

set_option maxRecDepth 100000 in
set_option maxHeartbeats 4000000 in
theorem step_any (p p' : Nat) (rows rows' : Rows2) (a b : Int) (an m' : Nat) (w : World) (hg : GridAt w p (gridF rows)) (hg' : GridAt w p' (gridF rows')) (hT : Tab w) (hok : Ok rows) (hok' : Ok rows')
    (ha : a = an) (hal : an < rows.length) (hb0 : 0 ≤ b) (hb1 : b ≤ 1048576) (hme : leastI rows' = m') (hml : m' < rows'.length) :
    Calls Tryd.prog 68 #[.agg #[.pointer (some ⟨p, 0, none⟩), .pointer (some ⟨p', 0, none⟩)], .int .i64 a, .int .i64 b] w (OwnQ (stepN rows rows' an b rows.length) w) := by
  subst ha
  have b0 := (Below.refl w.heap.size w).alloc (Nat.le_refl _) (.cells #[.pointer (some ⟨p, 0, none⟩), .pointer (some ⟨p', 0, none⟩)] 60)
  obtain ⟨hq0, hq1⟩ := two_fresh w (.pointer (some ⟨p, 0, none⟩)) (.pointer (some ⟨p', 0, none⟩)) 60
  have HL := Lib.hid (fun b W hg hT => leastG hok' b W hg hT)
  simp only [hme] at HL
  have hl200 := hok.len.2
  have hl200' := hok'.len.2
  have HSZ := Lib.hid (fun W h => size_any p rows.length (gridF rows) W h hok.gridN.le hok.gridN.some hok.gridN.none)
  have HBIT := Lib.hid (fun k (h : an < rows.length) => upB_grid hok (b := k) h)
  have G0 := Lib.hid (hg.below b0 hg.lt)
  have G0' := Lib.hid (hg'.below b0 hg'.lt)
  have T0 := Lib.hid (hT.below b0)
  have B0 := Lib.hid b0
  have HME := Lib.hid hme
  have hpl : p < w.heap.size := hg.lt
  obtain ⟨i0, hi0, hz0, hz1, hz2⟩ := info_parts infoInt
  have hmk := run_make_row' (P := Tryd.prog) 64 3 (.int .i64 0) 8 Tryd.underlying64 infoInt rfl .i64 .i64 rows.length (by omega) (by omega)
  clear hg hg' hT b0 hok hok' hme
  go_enter Tryd.func68, Tryd.ntmps68
  go_wp2_with (first | (go_at_call 60; refine (HL.out p' _ G0'.out T0.out).mono ?_; rintro e w1 ⟨rfl, hb1⟩; have B1 := Lib.hid (B0.out.trans (hb1.mono B0.out.size)); have G1 := Lib.hid (G0.out.below hb1 G0.out.lt); have hq1' := (hb1.cell (p := ⟨w.heap.size, 0, none⟩) (cell_lt hq0)).trans hq0; clear hb1) | (go_at_call 83; refine (HSZ.out _ G1.out).mono ?_; rintro e w2 ⟨rfl, hb2⟩; have B2 := Lib.hid (B1.out.trans (hb2.mono B1.out.size)); have G2 := Lib.hid (G1.out.below hb2 G1.out.lt); have hq2 := (hb2.cell (p := ⟨w.heap.size, 0, none⟩) (cell_lt hq1')).trans hq1'; clear hb2))
  have HRW := Lib.hid (World.rowIs_made w2 (.int .i64 0) rows.length 3)
  have bA := (Below.refl w2.heap.size w2).alloc (Nat.le_refl _) (.cells (madeCells #[.int .i64 0] rows.length) 3)
  have hLw : w.heap.size < w2.heap.size := cell_lt hq2
  have HG3 := Lib.hid (G2.out.below bA G2.out.lt)
  have HB3 := Lib.hid (B2.out.trans (bA.mono B2.out.size))
  have HQ3 := Lib.hid ((bA.cell (p := ⟨w.heap.size, 0, none⟩) hLw).trans hq2)
  clear bA hq0 hq1 hq1' hq2 hmk
  go_loopw [9, 19] (fun _ kv wr => ∃ k : Nat, k ≤ rows.length ∧ kv = .int .i64 k ∧ wr.rowIs w2.heap.size 3 rows.length (fun i => if i < k then .int .i64 (stepAt rows rows' an b i) else .int .i64 0) ∧ GridAt wr p (gridF rows) ∧ wr.cell? ⟨w.heap.size, 0, none⟩ = some (.pointer (some ⟨p, 0, none⟩)) ∧ Below w.heap.size w wr) (fun _ kv _ => rows.length - (intOf kv).toNat)
  case atStart => exact ⟨0, Nat.zero_le _, rfl, HRW.out.congr (fun i _ => by rw [if_neg (Nat.not_lt_zero i)]), HG3.out, HQ3.out, HB3.out⟩
  case round =>
    obtain ⟨k, hk, rfl, hr, hG, hq, hB⟩ := hrel
    have HR := Lib.hid hr
    have HG := Lib.hid hG
    have HQ := Lib.hid hq
    have HB := Lib.hid hB
    clear hG hB HRW HG3 HQ3 HB3
    by_cases hlt : k < rows.length
    · have hc := hr.cell hlt
      have hf := hr.frozen k
      have hLz := hr.lt
      have hkz : (k : Int) < (rows.length : Int) := by omega
      have hne : w.heap.size ≠ w2.heap.size := by omega
      have HS1 := Lib.hid (hr.set k (.int .i64 (m' : Int)))
      have HG1 := Lib.hid (HG.out.setOther (a := ⟨w2.heap.size, k, none⟩) (by show p ≠ w2.heap.size; omega) (.int .i64 (m' : Int)))
      have hcall := gbelow_any p (gridF rows) an k an k _ HG1.out rfl (by omega) rfl (by omega)
      have HB1 := Lib.hid (HB.out.setCell (p := ⟨w2.heap.size, k, none⟩) (by show w.heap.size ≤ w2.heap.size; omega) (.int .i64 (m' : Int)))
      have HQ1 : Hid ((wr.setCell ⟨w2.heap.size, k, none⟩ (.int .i64 (m' : Int))).cell? ⟨w.heap.size, 0, none⟩ = some (.pointer (some ⟨p, 0, none⟩))) := Lib.hid ((World.cell?_of_block (Below.heap_setCell _ ⟨w2.heap.size, k, none⟩ _ w.heap.size hne)).trans HQ.out)
      rw [HBIT.out k hal] at hcall
      have hif : (if k < k then Value.int IntKind.i64 (stepAt rows rows' an b k) else Value.int IntKind.i64 0) = .int .i64 0 := if_neg (Nat.lt_irrefl k)
      rw [hif] at hc
      clear hr hif
      cases hup : upB rows an (k : Int) with
      | true =>
        rw [hup] at hcall
        have HA := Lib.hid (show stepAt rows rows' an b k = b by unfold stepAt; rw [if_pos hup])
        clear hup
        go_wp2_with (go_at_call 92; refine hcall.mono ?_; clear hcall; rintro e w5 ⟨rfl, hb5⟩; have HS5 := Lib.hid (rowIs_below HS1.out hb5 HS1.out.lt); have HG5 := Lib.hid (HG1.out.below hb5 HG1.out.lt); have HB5 := Lib.hid (HB1.out.trans (hb5.mono HB1.out.size)); have HQ5 := Lib.hid ((hb5.cell (p := ⟨w.heap.size, 0, none⟩) (cell_lt HQ1.out)).trans HQ1.out); have hc5 := HS5.out.cell hlt; have hf5 := HS5.out.frozen k; clear hb5)
        go_roundw
        case rel =>
          refine ⟨k + 1, by omega, by go_num, (HS5.out.set k (.int .i64 b)).congr (fun i hi => ?_), HG5.out.setOther (a := ⟨w2.heap.size, k, none⟩) (by show p ≠ w2.heap.size; omega) _, (World.cell?_of_block (Below.heap_setCell _ ⟨w2.heap.size, k, none⟩ _ w.heap.size hne)).trans HQ5.out, HB5.out.setCell (p := ⟨w2.heap.size, k, none⟩) (by show w.heap.size ≤ w2.heap.size; omega) _⟩
          by_cases e : i = k
          · subst e; simp [HA.out]
          · by_cases e2 : i < k
            · simp [e, e2, show i < k + 1 by omega]
            · simp [e, e2, show ¬ i < k + 1 by omega]
        case measure => simp [intOf]; omega
      | false =>
        rw [hup] at hcall
        have HA := Lib.hid (show stepAt rows rows' an b k = (m' : Int) by unfold stepAt; rw [if_neg (by rw [hup]; simp), HME.out])
        clear hup
        go_wp2_with (go_at_call 92; refine hcall.mono ?_; clear hcall; rintro e w5 ⟨rfl, hb5⟩; have HS5 := Lib.hid (rowIs_below HS1.out hb5 HS1.out.lt); have HG5 := Lib.hid (HG1.out.below hb5 HG1.out.lt); have HB5 := Lib.hid (HB1.out.trans (hb5.mono HB1.out.size)); have HQ5 := Lib.hid ((hb5.cell (p := ⟨w.heap.size, 0, none⟩) (cell_lt HQ1.out)).trans HQ1.out); clear hb5)
        go_roundw
        case rel =>
          refine ⟨k + 1, by omega, by go_num, HS5.out.congr (fun i hi => ?_), HG5.out, HQ5.out, HB5.out⟩
          by_cases e : i = k
          · subst e; simp [HA.out]
          · by_cases e2 : i < k
            · simp [e, e2, show i < k + 1 by omega]
            · simp [e, e2, show ¬ i < k + 1 by omega]
        case measure => simp [intOf]; omega
    · obtain rfl : k = rows.length := by omega
      clear hr hq
      go_wp2
      go_ret
      have hl := stepN_length rows rows' an b rows.length
      refine ⟨_, rfl, ⟨?_, .inr ⟨w2.heap.size, rows.length, _, by rw [hl]; rfl, by rw [hl]; exact Nat.le_refl _, by unfold maxLen; omega, by omega, HR.out.lt, HR.out, fun i hi => ?_⟩⟩, HB.out⟩
      · intro y hy
        unfold stepN at hy
        obtain ⟨i, _, rfl⟩ := List.mem_map.1 hy
        unfold stepAt
        split
        · exact wf_int hb0 hb1
        · rw [HME.out]
          exact wf_int (by omega) (by omega)
      · rw [hl] at hi
        simp [stepN, hi]
end Go.Proofs.YtnniffjjbekodaaDoor
