/- The model's DomainSum. -/
import Derived.Test.YtkomghohdhengaaDoorPc23
import Derived.Test.YtkomghohdhengaaDoorPc30
namespace Go.Proofs.YtkomghohdhengaaDoor
open Go.RowKit Go.Deep

/-- The rows of the sum, in the model's words. -/
def sumR (rows rows' : Rows2) (q : Nat) : List Int :=
  if q = 0 then uptoL (1 + rows.length + rows'.length)
  else if q < 1 + rows.length then movedN (rowsF rows (q - 1)) 1 (rowsF rows (q - 1)).length
  else movedN (rowsF rows' (q - 1 - rows.length)) ((1 + rows.length : Nat) : Int) (rowsF rows' (q - 1 - rows.length)).length
theorem sumR_row {rows rows' : Rows2} (h : Ok rows) (h' : Ok rows') {q : Nat} (hq : q < 1 + rows.length + rows'.length) : sumR rows rows' q = sumRow rows rows' q := by
  unfold sumR sumRow bRow
  by_cases e : q = 0
  · subst e
    rw [if_pos rfl, List.filter_eq_self.2 (fun k _ => by unfold sumB; rw [if_pos rfl])]
    rfl
  · rw [if_neg e]
    by_cases e2 : q < 1 + rows.length
    · rw [if_pos e2, rowsF_lt (by omega)]
      have hn := liftRow_next h (i := q - 1) (by omega)
      rw [show q - 1 + 1 = q by omega] at hn
      rw [← hn]
      unfold liftRow
      have hp : ∀ k, sumB (gridF rows) (gridF rows') rows.length q k = liftB (gridF rows) q k := fun k => by
        unfold sumB liftB
        rw [if_neg e, if_pos (show q ≤ rows.length by omega), decide_eq_false e]
        by_cases hk : k = 0
        · subst hk; simp
        · rw [if_neg hk, decide_eq_true (show 0 < k by omega)]
          by_cases hk2 : k ≤ rows.length
          · rw [if_pos hk2]; simp
          · rw [if_neg hk2]
            cases hb : (gridF rows (q - 1)).testBit (k - 1) with
            | false => simp
            | true => have := (h.bit_lt hb).2; omega
      congr 1
      rw [show (fun k => sumB (gridF rows) (gridF rows') rows.length q k) = fun k => liftB (gridF rows) q k from funext hp]
      refine (filter_short (n := rows.length + 1) (m := 1 + rows.length + rows'.length) (fun k hk => ?_) (by omega)).symm
      unfold liftB at hk
      rw [decide_eq_false e, Bool.false_or, Bool.and_eq_true] at hk
      have := (h.bit_lt hk.2).2
      omega
    · rw [if_neg e2, rowsF_lt (by omega)]
      unfold movedN
      have hi : q - 1 - rows.length < rows'.length := by omega
      rw [List.take_length, h'.elems hi, List.range_add, List.filter_append]
      have e3 : (List.range (1 + rows.length)).filter (fun k => sumB (gridF rows) (gridF rows') rows.length q k) = [] := by
        rw [List.filter_eq_nil_iff]
        intro k hk
        rw [List.mem_range] at hk
        unfold sumB
        rw [if_neg e]
        by_cases hk0 : k = 0
        · rw [if_pos hk0]; simp
        · rw [if_neg hk0, if_neg (by omega), if_pos (by omega)]; simp
      have e4 : elems (gridF rows' (q - 1 - rows.length)) = (List.range rows'.length).filter (fun k => (gridF rows' (q - 1 - rows.length)).testBit k) := by
        unfold elems
        exact filter_short (fun k hk => (h'.bit_lt hk).2) (by have := h'.len.2; omega)
      have e5 : (fun k => sumB (gridF rows) (gridF rows') rows.length q k) ∘ (fun x => 1 + rows.length + x) = fun k => (gridF rows' (q - 1 - rows.length)).testBit k := by
        funext k
        show sumB (gridF rows) (gridF rows') rows.length q (1 + rows.length + k) = _
        unfold sumB
        rw [if_neg e, if_neg (by omega), if_neg (by omega), if_neg (by omega), show 1 + rows.length + k - 1 - rows.length = k by omega]
      rw [e3, List.nil_append, e4, List.filter_map, e5, List.map_map, List.map_map]
      apply List.map_congr_left
      intro k _
      simp
      omega

set_option maxRecDepth 100000 in
set_option maxHeartbeats 8000000 in
theorem l2Sum_any (v v' : Value) (rows rows' : Rows2) (w : World) (hv : RowsAt w v rows) (hv' : RowsAt w v' rows') (hok : Ok rows) (hok' : Ok rows') (hl : 1 + rows.length + rows'.length ≤ 200) :
    Calls Tryd.prog 129 #[.agg #[v], .agg #[v']] w (OrdNew (1 + rows.length + rows'.length) (sumR rows rows') w) := by
  have h0 := TwoR.start w hv hv'
  have HV := Lib.hid (fun W (h : Below w.heap.size w W) => hv.below h)
  have HV' := Lib.hid (fun W (h : Below w.heap.size w W) => hv'.below h)
  have hlen := hok.len
  have hlen' := hok'.len
  have s2 : (((w.alloc (.cells #[v] 25)).alloc (.cells #[v'] 25)).alloc (.cells #[.slice none 0 0] 25)).heap.size = w.heap.size + 3 := by rw [World.size_alloc, World.size_alloc, World.size_alloc]
  obtain ⟨A, C, rfl, hC, hm, hx⟩ := hv
  obtain ⟨A', C', rfl, hC', hm', hx'⟩ := hv'
  unfold maxLen at hm hm'
  obtain ⟨b0, o0, _, rfl, _, _⟩ := hx 0 (by omega)
  obtain ⟨b0', o0', _, rfl, _, _⟩ := hx' 0 (by omega)
  generalize hw0 : (((w.alloc (.cells #[.slice (some ⟨b0, o0, none⟩) rows.length C] 25)).alloc (.cells #[.slice (some ⟨b0', o0', none⟩) rows'.length C'] 25)).alloc (.cells #[.slice none 0 0] 25)) = w0 at h0 s2
  obtain ⟨i0, hi0, hz0, hz1, hz2⟩ := info_parts infoInt
  obtain ⟨j0, hj0, hy0, hy1, hy2⟩ := info_parts infoInts
  have hO := World.ownsRow_made (e := 3) (size := 1) w0 #[] 0 (base := w0.heap.size) (Nat.le_refl _) (Nat.zero_le _) (by simp)
  rw [s2] at hO
  have HO := Lib.hid hO
  have HB1 := Lib.hid ((Below.refl w0.heap.size w0).alloc (Nat.le_refl _) (.cells #[] 3))
  have H0 := Lib.hid h0
  have HOK := Lib.hid hok
  have HOK' := Lib.hid hok'
  have S2 := Lib.hid s2
  have HBW := Lib.hid (fun W (h : Below w0.heap.size w0 W) => h0.below.trans (h.mono (by rw [s2]; omega)))
  have hcA := h0.c0
  have hcA' := h0.c1
  clear h0 hok hok' hx hx' hO
  go_enter Tryd.func129, Tryd.ntmps129
  go_upto_region 3 with fail
  clear hw0 s2
  go_wp2
  clear hcA hcA'
  have hwA : IntKind.i64.wrap ((rows.length : Int) + (rows'.length : Int)) = (rows.length : Int) + (rows'.length : Int) := IntWalk.i64_in _ (by omega)
  go_loopw [6, 7] (fun fv iv wr => ∃ k : Nat, k ≤ 1 + rows.length + rows'.length ∧ iv = .int .i64 k ∧ wr.ownsRow (w.heap.size + 3) 3 1 fv (uptoL k).length (cellsI (uptoL k)) ∧ Below w0.heap.size w0 wr) (fun _ iv _ => 1 + rows.length + rows'.length - (intOf iv).toNat)
  case atStart => exact ⟨0, Nat.zero_le _, rfl, HO.out, HB1.out⟩
  case round =>
    obtain ⟨k, hk, rfl, hown, hB⟩ := hrel
    have HOWN := Lib.hid hown
    have HB := Lib.hid hB
    have hcl := Nat.le_of_eq (uptoL_length k)
    have hcell := (hB.cell (p := ⟨w.heap.size + 1, 0, none⟩) (cell_lt H0.out.c1)).trans H0.out.c1
    have hbz : w.heap.size + 3 ≤ wr.heap.size := by have := hB.size; have := S2.out; omega
    clear hown hB HO HB1
    by_cases hlt : k < 1 + rows.length + rows'.length
    · have hlz : (k : Int) ≤ (rows.length : Int) + (rows'.length : Int) := by omega
      go_wp2_with (at_builtin; refine wpList_append_own _ rfl _ _ 26 rfl (w.heap.size + 3) 3 i0 (.int .i64 0) 1 8 Tryd.underlying26 hi0 hz0 hz1 hz2 rfl (by decide) _ _ _ rfl (HOWN.out.alloc _) ⟨wr.heap.size, 0, none⟩ 1 1 [.int .i64 (k : Int)] rfl rfl (cell_one_new _ _ _) (by simp [Value.oneCell']) (by unfold maxLen; omega) (by omega) (by simp; omega) ?_; intro v' w1 hown' hgrow _)
      go_roundw
      case rel =>
        refine ⟨k + 1, by omega, by go_num, ?_, (HB.out.alloc HB.out.size _).grown hgrow (by rw [World.size_alloc, S2.out]; omega) (fun b e => by rw [S2.out]; exact (HOWN.out.lt b e).1)⟩
        rw [uptoL_succ, List.length_append, show cellsI (uptoL k ++ [(k : Int)]) = cellsI (uptoL k) ++ [.int .i64 (k : Int)] by simp]
        exact hown'
      case measure => simp [intOf]; omega
    · obtain rfl : k = 1 + rows.length + rows'.length := by omega
      have hlz : ¬ (((1 + rows.length + rows'.length : Nat) : Int) ≤ (rows.length : Int) + (rows'.length : Int)) := by omega
      have hoi : OwnI 3 wr u6 (uptoL (1 + rows.length + rows'.length)) w0.heap.size wr.heap.size := by
        rw [S2.out]
        exact OwnI.of_owns HOWN.out (uptoL_wf (by omega)) (fun b hb => (HOWN.out.lt b hb).2)
      obtain ⟨a3, C3, rfl⟩ := hoi.form
      have HST := Lib.hid ((Out.one HB.out hoi).congr (R' := sumR rows rows') (fun j hj => by
        obtain rfl : j = 0 := by omega
        unfold sumR
        rw [if_pos rfl]))
      clear hoi HOWN
      have hzz : wr.heap.size + 1 < ((wr.alloc (.cells #[.slice a3 (uptoL (1 + rows.length + rows'.length)).length C3] 26)).alloc (.cells #[.slice (some ⟨wr.heap.size, 0, none⟩) 1 1] 25)).heap.size := by rw [World.size_alloc, World.size_alloc]; omega
      generalize hZ : wr.heap.size + 1 = Z at HST hzz
      go_wp2
      generalize ((wr.alloc (.cells #[.slice a3 (uptoL (1 + rows.length + rows'.length)).length C3] 26)).alloc (.cells #[.slice (some ⟨wr.heap.size, 0, none⟩) 1 1] 25)) = wq at HST hzz ⊢
      clear hcell hZ
      go_loopw [9] (fun iv wx => ∃ (i : Nat) (u : Value), i ≤ rows.length ∧ iv = .int .i64 i ∧ Out w0 Z u (i + 1) (sumR rows rows') wx) (fun iv _ => rows.length - (intOf iv).toNat)
      case atStart => exact ⟨0, _, Nat.zero_le _, rfl, HST.out⟩
      case round =>
        obtain ⟨i, u, hi, rfl, ho⟩ := hrel
        have HK := Lib.hid ho
        obtain ⟨au, Cu, rfl⟩ := ho.own.form
        have hcell := (ho.below.cell (p := ⟨w.heap.size, 0, none⟩) (cell_lt H0.out.c0)).trans H0.out.c0
        have hout := ho.out.cell
        have hZ2 := ho.out.lt
        have hb0 := ho.below.size
        clear HST hzz
        by_cases hlt : i < rows.length
        · have hltz : (i : Int) < (rows.length : Int) := by omega
          obtain ⟨A1, C1, hC1, hm1, hc, hyy⟩ := (HV.out wr (HBW.out _ ho.below)).row hlt
          have hran := (HOK.out.asc i hlt).2
          have hrow : IntsAt wr.drew (.slice A1 rows[i].length C1) rows[i] := ⟨A1, C1, rfl, hC1, hm1, fun x hx => by have := hran x hx; exact wf_int (by omega) (by omega), hyy⟩
          have hrl : rows[i].length ≤ 1048576 := by have := bulk_row hlt; have := HOK.out.bulk; omega
          have HMV := Lib.hid (l2Moved_any _ rows[i] 1 wr.drew hrow hrl (fun x hx => by have := hran x hx; omega))
          have hml : (movedN rows[i] 1 rows[i].length).length = rows[i].length := movedN_length (Nat.le_refl _)
          obtain ⟨f, hf0, hf1, hf2⟩ := ho.own.owns
          have HF0 := Lib.hid hf0
          have HF1 := Lib.hid hf1
          have HF2 := Lib.hid hf2
          have HLR := Lib.hid (show sumR rows rows' (i + 1) = movedN rows[i] 1 rows[i].length by
            unfold sumR
            rw [if_neg (by omega), if_pos (by omega), Nat.add_sub_cancel, rowsF_lt hlt])
          clear ho hf0 hf1 hf2 hyy hran hrow
          go_upto_region 11 with fail
          go_region_law (first | (go_simp; go_at_call 152; refine HMV.out.mono ?_; clear HMV; rintro e w2 ⟨v', rfl, hv', hb2⟩; obtain ⟨a2, C2, rfl⟩ := hv'.form; rw [hml] at hv'; have HV2 := Lib.hid hv'; have HB2 := Lib.hid ((below_drew wr _).trans hb2); have HK2 := Lib.hid (HK.out.step HB2.out); have HW0 := Lib.hid (owns_below HF0.out HB2.out); have hout2 := HK2.out.out.cell; have hout3 := cell_alloc_any hout2; have hz22 : wr.heap.size ≤ w2.heap.size := hb2.size; clear hv' hb2) | (refine step_append_lies _ (by rfl) _ _ 23 (by rfl) w0.heap.size 26 j0 (.slice none 0 0) 1 24 Tryd.underlying23 hj0 hy0 hy1 hy2 rfl (by decide) (.slice au (i + 1) Cu) (i + 1) ((List.range (i + 1)).map f) (by rfl) (HW0.out.alloc _) ⟨w2.heap.size, 0, none⟩ 1 1 [.slice a2 rows[i].length C2] (by rfl) rfl (World.news_of_block (heap_alloc_new w2 _)) (by simp [Value.oneCell']) (by omega) (by unfold maxLen; omega) (by omega) (by simp; omega) (w2.heap.size + 1) (by simp) ?_; intro g' cap' w3 hown hgrow hat hlt'; have hfar := HK2.out.far HW0.out hgrow; have hc3 := hfar.cell; have hf3 := hfar.frozen; clear hfar))
          all_goals
            go_wp2
            go_roundw
            case rel =>
              refine ⟨i + 1, _, by omega, by go_num, (HK.out.pushed HF0.out HF1.out HF2.out HB2.out HV2.out hown ⟨hgrow.os, hgrow.tape, hgrow.output, hgrow.size, hgrow.block⟩).congr fun j hj => ?_⟩
              by_cases e : j = i + 1
              · subst e; rw [if_pos rfl, HLR.out]
              · rw [if_neg e]
            case measure => simp [intOf]; omega
        · obtain rfl : i = rows.length := by omega
          have hltz : ¬ ((rows.length : Int) < (rows.length : Int)) := by omega
          clear ho hcell hout hZ2 hb0
          go_wp2
          go_loopw [10] (fun iv wx => ∃ (i : Nat) (u : Value), i ≤ rows'.length ∧ iv = .int .i64 i ∧ Out w0 Z u (1 + rows.length + i) (sumR rows rows') wx) (fun iv _ => rows'.length - (intOf iv).toNat)
          case atStart => exact ⟨0, _, Nat.zero_le _, rfl, by rw [Nat.add_zero, Nat.add_comm 1]; exact HK.out⟩
          case round =>
            obtain ⟨i, u, hi, rfl, ho⟩ := hrel
            have HL := Lib.hid ho
            obtain ⟨au, Cu, rfl⟩ := ho.own.form
            have hcell := (ho.below.cell (p := ⟨w.heap.size + 1, 0, none⟩) (cell_lt H0.out.c1)).trans H0.out.c1
            have hout := ho.out.cell
            have hZ2 := ho.out.lt
            have hb0 := ho.below.size
            clear HK
            by_cases hlt : i < rows'.length
            · have hltz : (i : Int) < (rows'.length : Int) := by omega
              obtain ⟨A1, C1, hC1, hm1, hc, hyy⟩ := (HV'.out wr (HBW.out _ ho.below)).row hlt
              have hran := (HOK'.out.asc i hlt).2
              have hrow : IntsAt wr.drew (.slice A1 rows'[i].length C1) rows'[i] := ⟨A1, C1, rfl, hC1, hm1, fun x hx => by have := hran x hx; exact wf_int (by omega) (by omega), hyy⟩
              have hrl : rows'[i].length ≤ 1048576 := by have := bulk_row hlt; have := HOK'.out.bulk; omega
              have hwB : IntKind.i64.wrap (1 + (rows.length : Int)) = 1 + (rows.length : Int) := IntWalk.i64_in _ (by omega)
              have hmv := l2Moved_any _ rows'[i] (1 + (rows.length : Int)) wr.drew hrow hrl (fun x hx => by have := hran x hx; omega)
              have HMV := Lib.hid hmv
              have hml : (movedN rows'[i] (1 + (rows.length : Int)) rows'[i].length).length = rows'[i].length := movedN_length (Nat.le_refl _)
              obtain ⟨f, hf0, hf1, hf2⟩ := ho.own.owns
              have HF0 := Lib.hid hf0
              have HF1 := Lib.hid hf1
              have HF2 := Lib.hid hf2
              have HLR := Lib.hid (show sumR rows rows' (1 + rows.length + i) = movedN rows'[i] (1 + (rows.length : Int)) rows'[i].length by
                unfold sumR
                rw [if_neg (by omega), if_neg (by omega), show 1 + rows.length + i - 1 - rows.length = i by omega, rowsF_lt hlt, show ((1 + rows.length : Nat) : Int) = 1 + (rows.length : Int) by omega])
              clear ho hf0 hf1 hf2 hyy hran hrow hmv
              go_upto_region 15 with fail
              go_region_law (first | (go_simp; go_at_call 152; refine HMV.out.mono ?_; clear HMV; rintro e w2 ⟨v', rfl, hv', hb2⟩; obtain ⟨a2, C2, rfl⟩ := hv'.form; rw [hml] at hv'; have HV2 := Lib.hid hv'; have HB2 := Lib.hid ((below_drew wr _).trans hb2); have HK2 := Lib.hid (HL.out.step HB2.out); have HW0 := Lib.hid (owns_below HF0.out HB2.out); have hout2 := HK2.out.out.cell; have hout3 := cell_alloc_any hout2; have hz22 : wr.heap.size ≤ w2.heap.size := hb2.size; clear hv' hb2) | (refine step_append_lies _ (by rfl) _ _ 23 (by rfl) w0.heap.size 26 j0 (.slice none 0 0) 1 24 Tryd.underlying23 hj0 hy0 hy1 hy2 rfl (by decide) (.slice au (1 + rows.length + i) Cu) (1 + rows.length + i) ((List.range (1 + rows.length + i)).map f) (by rfl) (HW0.out.alloc _) ⟨w2.heap.size, 0, none⟩ 1 1 [.slice a2 rows'[i].length C2] (by rfl) rfl (World.news_of_block (heap_alloc_new w2 _)) (by simp [Value.oneCell']) (by omega) (by unfold maxLen; omega) (by omega) (by simp; omega) (w2.heap.size + 1) (by simp) ?_; intro g' cap' w3 hown hgrow hat hlt'; have hfar := HK2.out.far HW0.out hgrow; have hc3 := hfar.cell; have hf3 := hfar.frozen; clear hfar))
              all_goals
                go_wp2
                go_roundw
                case rel =>
                  refine ⟨i + 1, _, by omega, by go_num, (HL.out.pushed HF0.out HF1.out HF2.out HB2.out HV2.out hown ⟨hgrow.os, hgrow.tape, hgrow.output, hgrow.size, hgrow.block⟩).congr fun j hj => ?_⟩
                  by_cases e : j = 1 + rows.length + i
                  · subst e; rw [if_pos rfl, HLR.out]
                  · rw [if_neg e]
                case measure => simp [intOf]; omega
            · obtain rfl : i = rows'.length := by omega
              have hres := (ho.below.block _ (by rw [S2.out]; omega)).trans H0.out.res
              have hrc := Boxed.cell hres
              have hrf := Boxed.frozen hres
              have hc9 := World.cell?_setCell_same' wr ⟨w.heap.size + 2, 0, none⟩ (.slice au (1 + rows.length + rows'.length) Cu) (by rw [hrc]; rfl)
              clear ho hres
              go_wp2
              refine bodyPost_ret (v := .agg #[.slice au (1 + rows.length + rows'.length) Cu]) (by simp [results, Tryd.results129, go_sem, hc9]) rfl ?_
              refine ⟨_, rfl, ?_, (HBW.out _ HL.out.below).setCell (p := ⟨w.heap.size + 2, 0, none⟩) (by show w.heap.size ≤ w.heap.size + 2; omega) _⟩
              rw [size_setCell]
              exact (HL.out.own.kept fun b hb _ => Below.heap_setCell _ _ _ b (show b ≠ w.heap.size + 2 by have := S2.out; omega)).wider (by rw [S2.out]; omega) (Nat.le_refl _)

end Go.Proofs.YtkomghohdhengaaDoor


