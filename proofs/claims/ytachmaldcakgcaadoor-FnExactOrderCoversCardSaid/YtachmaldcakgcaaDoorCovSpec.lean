/- The model's OrderCovers. -/
import Derived.Test.YtachmaldcakgcaaDoorCovS
namespace Go.Proofs.YtachmaldcakgcaaDoor
open Go.RowKit Go.Deep

/-- What OrderCovers answers. -/
noncomputable def coverB (rows : Rows2) : Rows2 := if validB rows = true then (List.range rows.length).map (coversI rows) else []

/-- The rows res in memory of their own, and the Boolean t. -/
def RowsP (res : Rows2) (t : Bool) (w : World) (e : Ending) (w' : World) : Prop :=
  ∃ v, e = .returned (.tuple #[v, .bool t]) ∧ OwnR 3 42 w' v res.length (rowsF res) w.heap.size w'.heap.size ∧ Below w.heap.size w w'

theorem ints_ne' : (3 : TypeId) ≠ 42 := by decide
theorem infoIntss : (Tryd.prog.info? 42).map (fun i => (i.zero, i.size, i.bytes)) = some (some (.slice none 0 0), 1, 24) := infoInts

set_option maxRecDepth 100000 in
set_option maxHeartbeats 4000000 in
theorem specCovers_any (v : Value) (rows : Rows2) (w : World) (hv : RowsAt w v rows) (hn : bulk rows ≤ 1048576) :
    Calls Tryd.prog 15 #[.agg #[v]] w (RowsP (coverB rows) (validB rows) w) := by
  have HV0 := Lib.hid hv
  have hH := (Held.start w 28 hv).below ((Below.refl _ _).alloc (Nat.le_refl _) (.cells #[] 42))
  have hcall := specValid_any v rows _ hH.2.1 hn
  obtain ⟨A, C, rfl, hC, hm, _⟩ := hv
  unfold maxLen at hm
  have HH := Lib.hid hH
  have HO : Hid (OwnR 3 42 ((w.alloc (.cells #[.slice A rows.length C] 28)).alloc (.cells #[] 42)) (.slice (some ⟨w.heap.size + 1, 0, none⟩) 0 0) 0 (coversI rows) (w.heap.size + 1) ((w.alloc (.cells #[.slice A rows.length C] 28)).alloc (.cells #[] 42)).heap.size) := Lib.hid (by
    have h := World.rowIs_alloc (w.alloc (.cells #[.slice A rows.length C] 28)) #[] 42 (fun _ => undef) (fun _ h => absurd h (Nat.not_lt_zero _))
    rw [World.size_alloc] at h
    exact .inr ⟨w.heap.size + 1, 0, _, rfl, Nat.le_refl _, Nat.zero_le _, Nat.le_refl _, by simp, h, fun j hj => absurd hj (Nat.not_lt_zero _), fun i j _ hj => absurd hj (Nat.not_lt_zero _)⟩)
  clear hH
  unfold coverB
  cases hval : validB rows with
  | false =>
    rw [hval] at hcall
    rw [if_neg (by simp)]
    clear hval
    go_enter Tryd.func15, Tryd.ntmps15
    go_wp2_with (go_at_call 51; refine hcall.mono ?_; clear hcall; rintro e w1 ⟨rfl, hb1⟩; have H1 := Lib.hid (HH.out.below hb1); have O1 := Lib.hid (HO.out.below hb1 (Nat.le_refl _)); have hz1 := hb1.size; have hc1 := H1.out.1; clear hb1)
    go_ret2
    exact ⟨_, rfl, ((O1.out.wider (Nat.le_succ _) hz1).congr fun j hj => absurd hj (Nat.not_lt_zero _)), H1.out.2.2.1⟩
  | true =>
    rw [hval] at hcall
    rw [if_pos rfl]
    have hl := valid_lists hval
    have HL := Lib.hid hl
    have hlen := lists_len hl
    obtain ⟨i0, hi0, hz0, hz1, hz2⟩ := info_parts infoIntss
    clear hval hl
    go_enter Tryd.func15, Tryd.ntmps15
    go_wp2_with (go_at_call 51; refine hcall.mono ?_; clear hcall; rintro e w1 ⟨rfl, hb1⟩; have H1 := Lib.hid (HH.out.below hb1); have O1 := Lib.hid ((HO.out.below hb1 (Nat.le_refl _)).wider (Nat.le_refl _) hb1.size); have hc1 := H1.out.1; clear hb1)
    clear hc1
    go_loopw [4, 5] (fun ov iv wr => ∃ i : Nat, i ≤ rows.length ∧ iv = .int .i64 i ∧ OwnR 3 42 wr ov i (coversI rows) (w.heap.size + 1) wr.heap.size ∧ Held w (.slice A rows.length C) rows wr) (fun _ iv _ => rows.length - (intOf iv).toNat)
    case atStart => exact ⟨0, Nat.zero_le _, rfl, O1.out, H1.out⟩
    case round =>
      obtain ⟨i, hi, rfl, ho, hh⟩ := hrel
      have hcell := hh.1
      have HOr := Lib.hid ho
      have HK := Lib.hid hh
      clear ho hh H1 O1
      by_cases hlt : i < rows.length
      · have hcall := l1Covers_any _ rows i i wr HK.out.2.1 hn HL.out rfl hlt
        obtain ⟨f, hf0, hf1, hf2⟩ := HOr.out.owns
        have HF0 := Lib.hid hf0
        have HF1 := Lib.hid hf1
        have HF2 := Lib.hid hf2
        have hbz := HK.out.2.2.1.size
        have hwlt := HK.out.2.2.2
        clear hf0 hf1 hf2
        go_wp2_with fail
        refine hcall.mono ?_
        clear hcall
        rintro e w2 ⟨v', rfl, hv', hb2⟩
        have HV := Lib.hid hv'
        have HB2 := Lib.hid hb2
        have HW0 := Lib.hid (owns_below HF0.out hb2)
        have hz22 := hb2.size
        have hone : v'.oneCell' = true := by
          obtain ⟨a', C', e'⟩ : ∃ a C, v' = .slice a (coversI rows i).length C := by
            obtain ⟨_, ⟨rfl, e0⟩ | ⟨g, C0, f0, rfl, _⟩⟩ := hv'
            · exact ⟨none, 0, by rw [e0]; rfl⟩
            · exact ⟨_, _, rfl⟩
          rw [e']; rfl
        obtain ⟨a', C', hve⟩ : ∃ a C, v' = .slice a (coversI rows i).length C := by
          obtain ⟨_, ⟨rfl, e0⟩ | ⟨g, C0, f0, rfl, _⟩⟩ := hv'
          · exact ⟨none, 0, by rw [e0]; rfl⟩
          · exact ⟨_, _, rfl⟩
        subst hve
        clear hv' hb2 hcell
        go_wp2_with (at_builtin; refine wpList_append_own _ rfl _ _ 22 rfl (w.heap.size + 1) 42 i0 (.slice none 0 0) 1 24 Tryd.underlying22 hi0 hz0 hz1 hz2 rfl (by decide) _ _ _ rfl (HW0.out.alloc _) ⟨w2.heap.size, 0, none⟩ 1 1 [.slice a' (coversI rows i).length C'] rfl rfl (cell_one_new _ _ _) (by simp [Value.oneCell']) (by unfold maxLen; omega) (by omega) (by simp; omega) ?_; intro v2 w3 hown' hgrow _)
        go_roundw
        case rel =>
          have h1' : ∀ j, j < i → OwnI 3 w2 (f j) (coversI rows j) (w.heap.size + 1) wr.heap.size := fun j hj => (HF1.out j hj).kept fun b hb => by
            obtain ⟨_, k2, _⟩ := (HF1.out j hj).block b hb
            exact HB2.out.block b k2
          have hp := OwnR.pushed (W := w2) (mid := wr.heap.size) (lo := w.heap.size + 1) ints_ne' HW0.out h1' HF2.out (by omega) hz22 HV.out ((Below.refl _ w2).alloc (Nat.le_refl _) _) hown' ⟨hgrow.os, hgrow.tape, hgrow.output, hgrow.size, hgrow.block⟩
          refine ⟨i + 1, by omega, by go_num, hp.congr fun j hj => ?_, ?_⟩
          · by_cases e : j = i
            · subst e; rw [if_pos rfl]
            · rw [if_neg e]
          · have hB : Below w.heap.size w w3 := (((HK.out.2.2.1.trans (HB2.out.mono hbz)).alloc (by omega) _).grown hgrow (by rw [World.size_alloc]; omega) (fun b e => by have := (HW0.out.lt b e).1; omega))
            refine ⟨?_, HV0.out.below hB, hB, Nat.lt_of_lt_of_le HK.out.2.2.2 (Nat.le_trans (by rw [World.size_alloc]; omega) hgrow.size)⟩
            have hlt0 := HK.out.2.2.2
            refine (World.cell?_of_block ((hgrow.block w.heap.size (by rw [World.size_alloc]; omega) (fun e => by have := (HW0.out.lt _ e.symm).1; omega)).trans (Below.heap_alloc _ _ _ (by omega)))).trans ?_
            exact (HB2.out.cell (p := ⟨w.heap.size, 0, none⟩) hlt0).trans HK.out.1
        case measure => simp [intOf]; omega
      · obtain rfl : i = rows.length := by omega
        go_wp2
        go_ret2
        refine ⟨_, rfl, ?_, HK.out.2.2.1⟩
        have e1 : ((List.range rows.length).map (coversI rows)).length = rows.length := by simp
        rw [e1]
        refine (HOr.out.wider (Nat.le_succ _) (Nat.le_refl _)).congr fun j hj => ?_
        rw [rowsF_lt (by rw [e1]; exact hj)]
        simp
end Go.Proofs.YtachmaldcakgcaaDoor
