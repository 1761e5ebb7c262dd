/- The model's DomainLift. -/
import Derived.Test.YtkomghohdhengaaDoorPc22
import Derived.Test.YtkomghohdhengaaDoorPc19
namespace Go.Proofs.YtkomghohdhengaaDoor
open Go.RowKit Go.Deep

/-- The numbers from 0 on. -/
def uptoL (k : Nat) : List Int := (List.range k).map fun i : Nat => (i : Int)
theorem uptoL_length (k : Nat) : (uptoL k).length = k := by unfold uptoL; simp
theorem uptoL_succ (k : Nat) : uptoL (k + 1) = uptoL k ++ [(k : Int)] := by
  unfold uptoL
  rw [List.range_succ, List.map_append]
  rfl
theorem uptoL_wf {k : Nat} (h : k ≤ 1048576) : ∀ x ∈ uptoL k, (Lit.int .i64 x).wf = true := by
  intro x hx
  unfold uptoL at hx
  obtain ⟨i, hi, rfl⟩ := List.mem_map.1 hx
  rw [List.mem_range] at hi
  exact wf_int (by omega) (by omega)

/-- The rows of the lift, in the model's words. -/
def liftR (rows : Rows2) (q : Nat) : List Int := if q = 0 then uptoL (rows.length + 1) else movedN (rowsF rows (q - 1)) 1 (rowsF rows (q - 1)).length

set_option maxRecDepth 100000 in
set_option maxHeartbeats 4000000 in
theorem l2Lift_any (v : Value) (rows : Rows2) (w : World) (hv : RowsAt w v rows) (hok : Ok rows) (hl : rows.length < 200) :
    Calls Tryd.prog 128 #[.agg #[v]] w (OrdNew (rows.length + 1) (liftR rows) w) := by
  have s1 : (w.alloc (.cells #[v] 25)).heap.size = w.heap.size + 1 := World.size_alloc _ _
  have b2 := ((Below.refl w.heap.size w).alloc (Nat.le_refl _) (.cells #[v] 25)).alloc (by rw [s1]; omega) (.cells #[.slice none 0 0] 25)
  have hbA := (Boxed.new w 25 v).alloc (.cells #[.slice none 0 0] 25)
  have hbR := Boxed.new (w.alloc (.cells #[v] 25)) 25 (.slice none 0 0)
  have s2 : ((w.alloc (.cells #[v] 25)).alloc (.cells #[.slice none 0 0] 25)).heap.size = w.heap.size + 2 := by rw [World.size_alloc, s1]
  rw [s1] at hbR
  have HV := Lib.hid (fun W (h : Below w.heap.size w W) => hv.below h)
  have hlen := hok.len
  obtain ⟨A, C, rfl, hC, hm, hx⟩ := hv
  unfold maxLen at hm
  obtain ⟨b0, o0, _, rfl, _, _⟩ := hx 0 (by omega)
  generalize hw0 : ((w.alloc (.cells #[.slice (some ⟨b0, o0, none⟩) rows.length C] 25)).alloc (.cells #[.slice none 0 0] 25)) = w0 at b2 hbA hbR s2
  obtain ⟨i0, hi0, hz0, hz1, hz2⟩ := info_parts infoInt
  obtain ⟨j0, hj0, hy0, hy1, hy2⟩ := info_parts infoInts
  have hO := World.ownsRow_made (e := 3) (size := 1) w0 #[] 0 (base := w0.heap.size) (Nat.le_refl _) (Nat.zero_le _) (by simp)
  rw [s2] at hO
  have HO := Lib.hid hO
  have HB1 := Lib.hid ((Below.refl w0.heap.size w0).alloc (Nat.le_refl _) (.cells #[] 3))
  have B2 := Lib.hid b2
  have BA := Lib.hid hbA
  have BR := Lib.hid hbR
  have HOK := Lib.hid hok
  have S2 := Lib.hid s2
  clear b2 hbA hbR hok hx hO s1
  go_enter Tryd.func128, Tryd.ntmps128
  go_upto_region 2 with fail
  clear hw0 s2
  go_wp2
  go_loopw [3, 4] (fun fv iv wr => ∃ k : Nat, k ≤ rows.length + 1 ∧ iv = .int .i64 k ∧ wr.ownsRow (w.heap.size + 2) 3 1 fv (uptoL k).length (cellsI (uptoL k)) ∧ Below w0.heap.size w0 wr) (fun _ iv _ => rows.length + 1 - (intOf iv).toNat)
  case atStart => exact ⟨0, Nat.zero_le _, rfl, HO.out, HB1.out⟩
  case round =>
    obtain ⟨k, hk, rfl, hown, hB⟩ := hrel
    have HOWN := Lib.hid hown
    have HB := Lib.hid hB
    have hcl := Nat.le_of_eq (uptoL_length k)
    have hcell := (hB.cell (p := ⟨w.heap.size, 0, none⟩) (cell_lt BA.out.cell)).trans BA.out.cell
    have hbz : w.heap.size + 2 ≤ wr.heap.size := by have := hB.size; have := S2.out; omega
    clear hown hB HO HB1
    by_cases hlt : k < rows.length + 1
    · have hlz : (k : Int) ≤ (rows.length : Int) := by omega
      go_wp2_with (at_builtin; refine wpList_append_own _ rfl _ _ 26 rfl (w.heap.size + 2) 3 i0 (.int .i64 0) 1 8 Tryd.underlying26 hi0 hz0 hz1 hz2 rfl (by decide) _ _ _ rfl (HOWN.out.alloc _) ⟨wr.heap.size, 0, none⟩ 1 1 [.int .i64 (k : Int)] rfl rfl (cell_one_new _ _ _) (by simp [Value.oneCell']) (by unfold maxLen; omega) (by omega) (by simp; omega) ?_; intro v' w1 hown' hgrow _)
      go_roundw
      case rel =>
        refine ⟨k + 1, by omega, by go_num, ?_, (HB.out.alloc HB.out.size _).grown hgrow (by rw [World.size_alloc, S2.out]; omega) (fun b e => by rw [S2.out]; exact (HOWN.out.lt b e).1)⟩
        rw [uptoL_succ, List.length_append, show cellsI (uptoL k ++ [(k : Int)]) = cellsI (uptoL k) ++ [.int .i64 (k : Int)] by simp]
        exact hown'
      case measure => simp [intOf]; omega
    · obtain rfl : k = rows.length + 1 := by omega
      have hlz : ¬ (((rows.length + 1 : Nat) : Int) ≤ (rows.length : Int)) := by omega
      have hoi : OwnI 3 wr u3 (uptoL (rows.length + 1)) w0.heap.size wr.heap.size := by
        rw [S2.out]
        exact OwnI.of_owns HOWN.out (uptoL_wf (by omega)) (fun b hb => (HOWN.out.lt b hb).2)
      obtain ⟨a3, C3, rfl⟩ := hoi.form
      have HST := Lib.hid ((Out.one HB.out hoi).congr (R' := liftR rows) (fun j hj => by
        obtain rfl : j = 0 := by omega
        unfold liftR
        rw [if_pos rfl]))
      clear hoi HOWN
      have hzz : wr.heap.size + 1 < ((wr.alloc (.cells #[.slice a3 (uptoL (rows.length + 1)).length C3] 26)).alloc (.cells #[.slice (some ⟨wr.heap.size, 0, none⟩) 1 1] 25)).heap.size := by rw [World.size_alloc, World.size_alloc]; omega
      generalize hZ : wr.heap.size + 1 = Z at HST hzz
      go_wp2
      generalize ((wr.alloc (.cells #[.slice a3 (uptoL (rows.length + 1)).length C3] 26)).alloc (.cells #[.slice (some ⟨wr.heap.size, 0, none⟩) 1 1] 25)) = wq at HST hzz ⊢
      clear hcell hZ
      go_loopw [6] (fun iv wx => ∃ (i : Nat) (u : Value), i ≤ rows.length ∧ iv = .int .i64 i ∧ Out w0 Z u (i + 1) (liftR rows) wx) (fun iv _ => rows.length - (intOf iv).toNat)
      case atStart => exact ⟨0, _, Nat.zero_le _, rfl, HST.out⟩
      case round =>
        obtain ⟨i, u, hi, rfl, ho⟩ := hrel
        have HK := Lib.hid ho
        obtain ⟨au, Cu, rfl⟩ := ho.own.form
        have hcell := (ho.below.cell (p := ⟨w.heap.size, 0, none⟩) (cell_lt BA.out.cell)).trans BA.out.cell
        have hout := ho.out.cell
        have hZ2 := ho.out.lt
        have hb0 := ho.below.size
        have HA := Lib.hid ho.place
        clear HST hzz
        by_cases hlt : i < rows.length
        · have hltz : (i : Int) < (rows.length : Int) := by omega
          obtain ⟨A1, C1, hC1, hm1, hc, hyy⟩ := (HV.out wr (B2.out.trans (ho.below.mono (by rw [S2.out]; omega)))).row hlt
          have hran := (HOK.out.asc i hlt).2
          have hrow : IntsAt wr.drew (.slice A1 rows[i].length C1) rows[i] := ⟨A1, C1, rfl, hC1, hm1, fun x hx => by have := hran x hx; exact wf_int (by omega) (by omega), hyy⟩
          have hrl : rows[i].length ≤ 1048576 := by have := bulk_row hlt; have := HOK.out.bulk; omega
          have HMV := Lib.hid (l2Moved_any _ rows[i] 1 wr.drew hrow hrl (fun x hx => by have := hran x hx; omega))
          have hml : (movedN rows[i] 1 rows[i].length).length = rows[i].length := movedN_length (Nat.le_refl _)
          obtain ⟨f, hf0, hf1, hf2⟩ := ho.own.owns
          have HF0 := Lib.hid hf0
          have HF1 := Lib.hid hf1
          have HF2 := Lib.hid hf2
          have HLR := Lib.hid (show liftR rows (i + 1) = movedN rows[i] 1 rows[i].length by
            unfold liftR
            rw [if_neg (by omega), Nat.add_sub_cancel, rowsF_lt hlt])
          clear ho hf0 hf1 hf2 hyy hran hrow
          go_upto_region 10 with fail
          go_region_law (first | (go_simp; go_at_call 152; refine HMV.out.mono ?_; clear HMV; rintro e w2 ⟨v', rfl, hv', hb2⟩; obtain ⟨a2, C2, rfl⟩ := hv'.form; rw [hml] at hv'; have HV2 := Lib.hid hv'; have HB2 := Lib.hid ((below_drew wr _).trans hb2); have HK2 := Lib.hid (HK.out.step HB2.out); have HW0 := Lib.hid (owns_below HF0.out HB2.out); have hout2 := HK2.out.out.cell; have hout3 := cell_alloc_any hout2; have hz22 : wr.heap.size ≤ w2.heap.size := hb2.size; clear hv' hb2) | (refine step_append_lies _ (by rfl) _ _ 23 (by rfl) w0.heap.size 26 j0 (.slice none 0 0) 1 24 Tryd.underlying23 hj0 hy0 hy1 hy2 rfl (by decide) (.slice au (i + 1) Cu) (i + 1) ((List.range (i + 1)).map f) (by rfl) (HW0.out.alloc _) ⟨w2.heap.size, 0, none⟩ 1 1 [.slice a2 rows[i].length C2] (by rfl) rfl (World.news_of_block (heap_alloc_new w2 _)) (by simp [Value.oneCell']) (by omega) (by unfold maxLen; omega) (by omega) (by simp; omega) (w2.heap.size + 1) (by simp) ?_; intro g' cap' w3 hown hgrow hat hlt'; have hfar := HK2.out.far HW0.out hgrow; have hc3 := hfar.cell; have hf3 := hfar.frozen; clear hfar))
          all_goals
            go_wp2
            go_roundw
            case rel =>
              refine ⟨i + 1, _, by omega, by go_num, (HK.out.pushed HF0.out HF1.out HF2.out HB2.out HV2.out hown ⟨hgrow.os, hgrow.tape, hgrow.output, hgrow.size, hgrow.block⟩).congr fun j hj => ?_⟩
              by_cases e : j = i + 1
              · subst e; rw [if_pos rfl, HLR.out]
              · rw [if_neg e]
            case measure => simp [intOf]; omega
        · obtain rfl : i = rows.length := by omega
          have hres := (ho.below.block _ (by rw [S2.out]; omega)).trans BR.out
          have hrc := Boxed.cell hres
          have hrf := Boxed.frozen hres
          have hc9 := World.cell?_setCell_same' wr ⟨w.heap.size + 1, 0, none⟩ (.slice au (rows.length + 1) Cu) (by rw [hrc]; rfl)
          clear ho hres
          go_wp2
          refine bodyPost_ret (v := .agg #[.slice au (rows.length + 1) Cu]) (by simp [results, Tryd.results128, go_sem, hc9]) rfl ?_
          refine ⟨_, rfl, ?_, (B2.out.trans (HK.out.below.mono (by rw [S2.out]; omega))).setCell (p := ⟨w.heap.size + 1, 0, none⟩) (Nat.le_succ _) _⟩
          rw [size_setCell]
          exact (HK.out.own.kept fun b hb _ => Below.heap_setCell _ _ _ b (show b ≠ w.heap.size + 1 by have := S2.out; omega)).wider (by rw [S2.out]; omega) (Nat.le_refl _)

theorem liftR_row {rows : Rows2} (h : Ok rows) {q : Nat} (hq : q < rows.length + 1) : liftR rows q = liftRow (gridF rows) q (rows.length + 1) := by
  unfold liftR
  by_cases e : q = 0
  · subst e
    rw [if_pos rfl, liftRow_first]
    rfl
  · rw [if_neg e, rowsF_lt (by omega)]
    have := liftRow_next h (i := q - 1) (by omega)
    rw [show q - 1 + 1 = q by omega] at this
    exact this.symm

theorem lens_small {rows : Rows2} {m n : Nat} (hl : rows.length ≤ n) (h : ∀ r ∈ rows, r.length ≤ m) : bulk rows ≤ n + n * m := by
  unfold bulk
  have h1 := sum_le (m := m) (rows.map List.length) fun x hx => by
    obtain ⟨r, hr, rfl⟩ := List.mem_map.1 hx
    exact h r hr
  rw [List.length_map] at h1
  have h2 := Nat.mul_le_mul_right m hl
  omega
end Go.Proofs.YtkomghohdhengaaDoor


