/- The program's OrderCovers. -/
import Derived.Test.YtachmaldcakgcaaDoorCovSpec
import Derived.Test.YtachmaldcakgcaaDoorCovI
import Derived.Test.YtachmaldcakgcaaDoorOrderG
import Derived.Test.YtachmaldcakgcaaDoorBackSpec
import Derived.Test.YtachmaldcakgcaaDoorIsEl
namespace Go.Proofs.YtachmaldcakgcaaDoor
open Go.RowKit Go.Deep Go.Shelf

set_option maxRecDepth 100000 in
set_option maxHeartbeats 4000000 in
theorem implCovers_any (v : Value) (rows : Rows2) (w : World) (hv : RowsAt w v rows) (hT : Tab w) (hn : bulk rows ≤ 1048576) :
    Calls Tryd.prog 17 #[.agg #[v]] w (RowsP (coverB rows) (validB rows) w) := by
  have hH := Held.start w 28 hv
  have hT1 := hT.below ((Below.refl _ w).alloc (Nat.le_refl _) (.cells #[v] 28))
  have hcall := fun t h => gridOf_t v rows _ hH.2.1 hT1 hn (t := t) h
  have hz := (zero_of_info zeroGrid).1
  obtain ⟨A, C, rfl, _⟩ := hv
  have HH := Lib.hid hH
  have HT := Lib.hid hT1
  clear hH hT hT1
  unfold coverB
  cases hval : validB rows with
  | false =>
    have hc := hcall false hval
    rw [if_neg (by simp)]
    clear hval hcall
    go_enter Tryd.func17, Tryd.ntmps17
    go_wp2_with (first | (go_at_call 53; refine hc.mono ?_; clear hc; rintro e w1 ⟨⟨g, hg, rfl⟩, hb1⟩; have HG := Lib.hid hg; have H1 := Lib.hid (HH.out.below hb1); clear hg hb1) | (refine wpList_store_row rfl 66 (.tmp 4) (.tmp 11) rfl w1.heap.size (gridCells g) rfl rfl 66 (gridCells fun _ => 0) (store_new w1).1 (by rw [gridCells_size]; exact sizeGrid) (by rw [gridCells_size, gridCells_size]) (gridCells_one _) ?_))
    go_ret2
    exact ⟨_, rfl, OwnR.nil _ _ _ _ _ _, (H1.out.below (newGrid_below g w1)).2.2.1⟩
  | true =>
    have hok := ok_of_valid hval
    have hc := hcall true hval
    have HOK := Lib.hid hok
    have HN := Lib.hid hok.gridN
    have hn2 : rows.length ≤ 200 := hok.gridN.le
    have HEL : Hid (∀ i k, k ∈ elems (aboveF (gridF rows) i) → k < 200) := Lib.hid (fun i k hk => by
      have h := (mem_elems (above_lt hok i)).1 hk
      rw [testBit_above, Bool.and_eq_true] at h
      exact hok.lt200 h.1)
    have hmk := run_make_row' (P := Tryd.prog) 22 42 (.slice none 0 0) 24 Tryd.underlying22 infoInts rfl .i64 .i64 rows.length (by omega) (by omega)
    rw [if_pos rfl]
    clear hval hcall hok
    go_enter Tryd.func17, Tryd.ntmps17
    go_wp2_with (first | (go_at_call 53; refine hc.mono ?_; clear hc; rintro e w1 ⟨⟨g, hg, rfl⟩, hb1⟩; obtain ⟨hg1, hg2⟩ := hg; obtain rfl := hg2 rfl; clear hg2; have HG := Lib.hid hg1; have H1 := Lib.hid (HH.out.below hb1); have T1 := Lib.hid (HT.out.below hb1); have H2 := Lib.hid (H1.out.below (newGrid_below (gridF rows) w1)); have T2 := Lib.hid (T1.out.below (newGrid_below (gridF rows) w1)); have G2 := Lib.hid (newGrid_at HG.out w1); clear hg1 hb1) | (refine wpList_store_row rfl 66 (.tmp 4) (.tmp 11) rfl w1.heap.size (gridCells (gridF rows)) rfl rfl 66 (gridCells fun _ => 0) (store_new w1).1 (by rw [gridCells_size]; exact sizeGrid) (by rw [gridCells_size, gridCells_size]) (gridCells_one _) ?_) | (go_at_call 54; refine (size_any w1.heap.size rows.length (gridF rows) _ G2.out HN.out.le HN.out.some HN.out.none).mono ?_; rintro e w3 ⟨rfl, hb3⟩; have L3 := Lib.hid (Look.step (⟨G2.out, T2.out, Below.refl _ _, G2.out.lt⟩ : Look w1.heap.size (gridF rows) (newGrid (gridF rows) w1) (newGrid (gridF rows) w1)) hb3); clear hb3))
    clear hmk
    have hz2 := H2.out.2.2.1.size
    have hz3 := L3.out.below.size
    have LA := Lib.hid (L3.out.step ((Below.refl _ w3).alloc (Nat.le_refl _) (.cells (madeCells #[.slice none 0 0] rows.length) 42)))
    have OA := Lib.hid (OwnR.made w3 rows.length w.heap.size (by unfold maxLen; omega) (Nat.le_trans hz2 hz3) (fun i => intsOf (elems (coversF (gridF rows) i))))
    go_loopw [19] (fun iv wr => ∃ i : Nat, i ≤ rows.length ∧ iv = .int .i64 i ∧ OwnR 3 42 wr (.slice (some ⟨w3.heap.size, 0, none⟩) rows.length rows.length) rows.length (upto (fun i => intsOf (elems (coversF (gridF rows) i))) i) w.heap.size wr.heap.size ∧ Look w1.heap.size (gridF rows) (newGrid (gridF rows) w1) wr) (fun iv _ => rows.length - (intOf iv).toNat)
    case atStart => exact ⟨0, Nat.zero_le _, rfl, OA.out, LA.out⟩
    case round =>
      obtain ⟨i, hi, rfl, ho, hL⟩ := hrel
      have HO := Lib.hid ho
      have HL := Lib.hid hL
      clear LA OA ho hL
      by_cases hlt : i < rows.length
      · have hi0 : (0 : Int) ≤ (i : Int) := by omega
        have HCALL := Lib.hid (covers_any w1.heap.size i i (gridF rows) wr HL.out.grid HL.out.tab rfl (by omega) (HEL.out i))
        go_wp2_with fail
        refine HCALL.out.mono ?_
        clear HCALL
        rintro e w4 ⟨rfl, hb4⟩
        have L4 := Lib.hid (HL.out.step hb4)
        have HCALL := Lib.hid (list_any (coversF (gridF rows) i) w4 (covers_lt HOK.out i) L4.out.tab)
        have HB4 := Lib.hid hb4
        clear hb4
        go_wp2_with fail
        refine HCALL.out.mono ?_
        clear HCALL
        rintro e w5 ⟨v', rfl, hv', hb5⟩
        have HB5 := Lib.hid (HB4.out.trans (hb5.mono HB4.out.size))
        have L5 := Lib.hid (L4.out.step hb5)
        obtain ⟨⟨u, hu⟩, hfz, hgl⟩ := HO.out.cellOf hlt
        have hu2 : w5.cell? ⟨w3.heap.size, i, none⟩ = some u := (HB5.out.cell (p := ⟨w3.heap.size, i, none⟩) hgl).trans hu
        have hf2 : w5.frozen? ⟨w3.heap.size, i, none⟩ = false := (HB5.out.frozen (p := ⟨w3.heap.size, i, none⟩) hgl).trans hfz
        have HV := Lib.hid (hv'.wider HB4.out.size (Nat.le_refl _))
        obtain ⟨a', C', rfl⟩ := hv'.form
        clear hv' hb5 hu hfz
        go_wp2
        go_roundw
        case rel =>
          refine ⟨i + 1, by omega, by go_num, ?_, L5.out.set (p := w3.heap.size) hz3 _ _⟩
          rw [← upto_step]
          exact HO.out.fill HB5.out HV.out
        case measure => simp [intOf]; omega
      · obtain rfl : i = rows.length := by omega
        go_wp2
        go_ret2
        refine ⟨_, rfl, ?_, H2.out.2.2.1.trans (HL.out.below.mono hz2)⟩
        have e1 : ((List.range rows.length).map (coversI rows)).length = rows.length := by simp
        rw [e1]
        refine HO.out.congr fun j hj => ?_
        rw [rowsF_lt (by rw [e1]; exact hj)]
        unfold upto
        rw [if_pos hj]
        simp only [List.getElem_map, List.getElem_range]
        exact (covers_eq HOK.out hj).symm
end Go.Proofs.YtachmaldcakgcaaDoor
