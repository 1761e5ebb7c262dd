/- The model's elements that cover one (l1Covers), and its OrderCovers. -/
import Derived.Test.YtjlemkmpmjdjaaaDoorPa10
import Derived.Test.YtjlemkmpmjdjaaaDoorPa8
import Derived.Test.YtjlemkmpmjdjaaaDoorPa1
import Derived.Maps.AppendAt
namespace Go.Proofs.YtjlemkmpmjdjaaaDoor
open Go.RowKit Go.Deep

/-- Does e stand between i and j? -/
def hitB (rows : Rows2) (i j : Nat) (e : Int) : Bool := !decide (e = (i : Int)) && (!decide (e = (j : Int)) && upB rows e.toNat j)
theorem cover_no {rows : Rows2} {i j q : Nat} (hi : i < rows.length) (hq : q < rows[i].length) (h : hitB rows i j rows[i][q] = true) : coverTest rows i j = false := by
  unfold coverTest
  rw [Bool.and_eq_false_iff]
  right
  rw [Bool.not_eq_false', List.any_eq_true, getD_at [] hi]
  exact ⟨_, List.getElem_mem hq, h⟩
theorem cover_own (rows : Rows2) (i : Nat) : coverTest rows i i = false := by unfold coverTest; simp
theorem cover_yes {rows : Rows2} {i j : Nat} (hi : i < rows.length) (hne : j ≠ i) (h : ∀ q (hq : q < rows[i].length), hitB rows i j rows[i][q] = false) : coverTest rows i j = true := by
  unfold coverTest
  rw [Bool.and_eq_true, Bool.not_eq_true', Bool.not_eq_true', decide_eq_false_iff_not, List.any_eq_false, getD_at [] hi]
  refine ⟨by omega, fun e he => ?_⟩
  obtain ⟨q, hq, rfl⟩ := List.getElem_of_mem he
  rw [show (!decide (rows[i][q] = (i : Int)) && (!decide (rows[i][q] = (j : Int)) && upB rows rows[i][q].toNat j)) = hitB rows i j rows[i][q] from rfl, h q hq]
  simp

/-- What has been collected of row i when k elements have been looked at. -/
def covN (rows : Rows2) (i k : Nat) : List Int := ((rows.getD i []).take k).filter (coverTest rows i)
theorem covN_step {rows : Rows2} {i k : Nat} (hi : i < rows.length) (hk : k < rows[i].length) : covN rows i (k + 1) = if coverTest rows i rows[i][k] = true then covN rows i k ++ [rows[i][k]] else covN rows i k := by
  unfold covN
  rw [getD_at [] hi, List.take_succ_eq_append_getElem hk, List.filter_append, List.filter_cons, List.filter_nil]
  split
  · rfl
  · simp
theorem covN_done {rows : Rows2} {i : Nat} (hi : i < rows.length) : covN rows i rows[i].length = coversI rows i := by
  unfold covN coversI
  rw [getD_at [] hi, List.take_length]
theorem covN_le (rows : Rows2) (i k : Nat) : (covN rows i k).length ≤ k := by
  unfold covN
  have h1 := List.length_filter_le (coverTest rows i) ((rows.getD i []).take k)
  have h2 := List.length_take_le k (rows.getD i [])
  omega

theorem World.ownsRow.weaken' {W : World} {lo lo' n : Nat} {t : TypeId} {v : Value} {xs : List Value} (h : W.ownsRow lo t 1 v n xs) (hl : lo' ≤ lo) : W.ownsRow lo' t 1 v n xs := by
  obtain ⟨h1, h2 | ⟨g, c, cur, rfl, h3, h4⟩⟩ := h
  · exact ⟨h1, .inl h2⟩
  · exact ⟨h1, .inr ⟨g, c, cur, rfl, by omega, h4⟩⟩
/-- The numbers xs, in memory of their own. -/
def OwnPost (xs : List Int) (w : World) (e : Ending) (w' : World) : Prop :=
  ∃ v, e = .returned v ∧ OwnI 3 w' v xs w.heap.size w'.heap.size ∧ Below w.heap.size w w'

set_option maxRecDepth 100000 in
set_option maxHeartbeats 4000000 in
theorem l1Covers_any (v : Value) (rows : Rows2) (x : Int) (i : Nat) (w : World) (hv : RowsAt w v rows) (hn : bulk rows ≤ 1048576) (hl : listsB rows = true) (hx : x = i) (hi : i < rows.length) :
    Calls Tryd.prog 83 #[.agg #[v], .int .i64 x] w (OwnPost (coversI rows i) w) := by
  subst hx
  have HV0 := Lib.hid hv
  have hH := (Held.start w 25 hv).below ((Below.refl _ _).alloc (Nat.le_refl _) (.cells #[] 3))
  have hlen : rows.length ≤ 1048576 := by unfold bulk at hn; omega
  obtain ⟨A, C, rfl, hC, hm, hxx⟩ := hv
  unfold maxLen at hm
  obtain ⟨b0, o0, _, rfl, _, _⟩ := hxx i hi
  have hli : rows[i].length ≤ 1048576 := by have := bulk_row hi; omega
  obtain ⟨i0, hi0, hz0, hz1, hz2⟩ := info_parts infoInt
  have HH := Lib.hid hH
  have HO : Hid (((w.alloc (.cells #[.slice (some ⟨b0, o0, none⟩) rows.length C] 25)).alloc (.cells #[] 3)).ownsRow (w.heap.size + 1) 3 1 (.slice (some ⟨w.heap.size + 1, 0, none⟩) 0 0) 0 []) := Lib.hid (by
    have h := World.ownsRow_made (e := 3) (size := 1) (w.alloc (.cells #[.slice (some ⟨b0, o0, none⟩) rows.length C] 25)) #[] 0 (base := w.heap.size + 1) (by simp) (Nat.zero_le _) (by simp)
    rw [World.size_alloc] at h
    exact h)
  clear hH hxx
  go_enter Tryd.func83, Tryd.ntmps83
  go_wp2
  go_loopw [5, 6] (fun ov kv wr => ∃ k : Nat, k ≤ rows[i].length ∧ kv = .int .i64 k ∧ wr.ownsRow (w.heap.size + 1) 3 1 ov (covN rows i k).length (cellsI (covN rows i k)) ∧ Held w (.slice (some ⟨b0, o0, none⟩) rows.length C) rows wr) (fun _ kv _ => rows[i].length - (intOf kv).toNat)
  case atStart => exact ⟨0, Nat.zero_le _, rfl, HO.out, HH.out⟩
  case round =>
    obtain ⟨k, hk, rfl, hown, hh⟩ := hrel
    have HOWN := Lib.hid hown
    have hcell := hh.1
    obtain ⟨A1, C1, hC1, hm1, hc, hyy⟩ := hh.2.1.row hi
    unfold maxLen at hm1
    have HK := Lib.hid hh
    have hcl := covN_le rows i k
    clear hown hh HH HO
    by_cases hlt : k < rows[i].length
    · obtain ⟨b1, o1, rfl, hc1⟩ := hyy k hlt
      have hrange := (lists_at hl i hi).2 _ (List.getElem_mem hlt)
      obtain ⟨j, hj⟩ : ∃ j : Nat, rows[i][k] = (j : Int) := ⟨rows[i][k].toNat, by omega⟩
      rw [hj] at hc1 hrange
      have hjl : j < rows.length := by omega
      have hst := covN_step hi hlt
      rw [hj] at hst
      have HST := Lib.hid hst
      have HWF : Hid ((Lit.int .i64 (j : Int)).wf = true) := Lib.hid (by
        have e1 : IntKind.i64.min = -9223372036854775808 := rfl
        have e2 : IntKind.i64.max = 9223372036854775807 := rfl
        simp [Lit.wf, e1, e2]
        omega)
      clear hyy hj hrange hst
      obtain ⟨s0, hs0⟩ : ∃ s0 : Bool, s0 = decide (j = i) := ⟨_, rfl⟩
      have hq1 : ((j : Int) == (i : Int)) = s0 := by rw [hs0, Bool.eq_iff_iff, beq_iff_eq, decide_eq_true_iff]; omega
      have hq2 : (j == i) = s0 := by rw [hs0, Bool.eq_iff_iff, beq_iff_eq, decide_eq_true_iff]
      have HS0 := Lib.hid hs0
      clear hs0
      obtain ⟨wo, hwo⟩ : ∃ wo : World, wo = wr := ⟨_, rfl⟩
      go_wp2
      rw [← hwo] at HOWN HK hcell hc hc1 ⊢
      clear hwo
      go_loopw [8, 9] (fun tv mv wr => ∃ (m : Nat) (t : Bool), m ≤ rows[i].length ∧ mv = .int .i64 m ∧ tv = .bool t ∧ (t = true → coverTest rows i j = false) ∧ (t = false → j ≠ i ∧ ∀ q (hq : q < rows[i].length), q < m → hitB rows i j rows[i][q] = false) ∧ wr.ownsRow (w.heap.size + 1) 3 1 u5 (covN rows i k).length (cellsI (covN rows i k)) ∧ Held w (.slice (some ⟨b0, o0, none⟩) rows.length C) rows wr) (fun _ mv _ => rows[i].length - (intOf mv).toNat)
      case atStart =>
        refine ⟨0, s0, Nat.zero_le _, rfl, rfl, fun h => ?_, fun h => ⟨?_, fun _ _ h => absurd h (Nat.not_lt_zero _)⟩, HOWN.out, HK.out⟩
        · have := HS0.out; rw [h] at this; have := of_decide_eq_true this.symm; subst this; exact cover_own rows j
        · have := HS0.out; rw [h] at this; exact of_decide_eq_false this.symm
      case round =>
        obtain ⟨m, t, hm2, rfl, rfl, ht1, ht2, hown, hh⟩ := hrel
        have HT1 := Lib.hid ht1
        have HT2 := Lib.hid ht2
        have HOW2 := Lib.hid hown
        have hcell := hh.1
        obtain ⟨A2, C2, hC2, hm3, hc, hyy⟩ := hh.2.1.row hi
        unfold maxLen at hm3
        have HM := Lib.hid hh
        clear ht1 ht2 hown hh
        cases t with
        | true =>
          by_cases hml : m < rows[i].length
          all_goals
            go_wp2
            go_roundw
            case rel => exact ⟨k + 1, by omega, by go_num, by rw [HST.out, if_neg (by rw [HT1.out (by trivial)]; simp)]; exact HOW2.out, HM.out⟩
            case measure => simp [intOf]; omega
        | false =>
          by_cases hml : m < rows[i].length
          · obtain ⟨b2, o2, rfl, hc2⟩ := hyy m hml
            have hre := (lists_at hl i hi).2 _ (List.getElem_mem hml)
            obtain ⟨en, hen⟩ : ∃ en : Nat, rows[i][m] = (en : Int) := ⟨rows[i][m].toNat, by omega⟩
            rw [hen] at hc2 hre
            have HEN := Lib.hid hen
            have hel : en < rows.length := by omega
            clear hyy hen hre
            by_cases e1 : en = i
            · have n1 : ((en : Int) != (i : Int)) = false := by simp [e1]
              have n2 : (en != i) = false := by simp [e1]
              have HHIT := Lib.hid (show hitB rows i j rows[i][m] = false by unfold hitB; rw [HEN.out, decide_eq_true (by omega : (en : Int) = (i : Int))]; rfl)
              clear e1
              go_wp2
              go_roundw
              case rel =>
                refine ⟨m + 1, false, by omega, by go_num, rfl, fun h => (by cases h), fun _ => ⟨(HT2.out (by trivial)).1, fun q hq hlt' => ?_⟩, HOW2.out, HM.out⟩
                by_cases e : q = m
                · subst e; exact HHIT.out
                · exact (HT2.out (by trivial)).2 q hq (by omega)
              case measure => simp [intOf]; omega
            · have n1 : ((en : Int) != (i : Int)) = true := bne_iff_ne.2 (by omega)
              have n2 : (en != i) = true := by simpa using e1
              by_cases e2 : en = j
              · have n3 : ((en : Int) != (j : Int)) = false := by simp [e2]
                have n4 : (en != j) = false := by simp [e2]
                have HHIT := Lib.hid (show hitB rows i j rows[i][m] = false by unfold hitB; rw [HEN.out, decide_eq_true (by omega : (en : Int) = (j : Int))]; simp)
                clear e1 e2
                go_wp2
                go_roundw
                case rel =>
                  refine ⟨m + 1, false, by omega, by go_num, rfl, fun h => (by cases h), fun _ => ⟨(HT2.out (by trivial)).1, fun q hq hlt' => ?_⟩, HOW2.out, HM.out⟩
                  by_cases e : q = m
                  · subst e; exact HHIT.out
                  · exact (HT2.out (by trivial)).2 q hq (by omega)
                case measure => simp [intOf]; omega
              · have n3 : ((en : Int) != (j : Int)) = true := bne_iff_ne.2 (by omega)
                have n4 : (en != j) = true := by simpa using e2
                cases hu : upB rows en j with
                | false =>
                  have hcall := le_call HM.out.2.1 hl hn en j (by omega) (by omega) (r := false) (by rw [Int.toNat_natCast]; exact hu)
                  have HHIT := Lib.hid (show hitB rows i j rows[i][m] = false by unfold hitB; rw [HEN.out, Int.toNat_natCast, hu]; simp)
                  clear e1 e2 hu
                  go_wp2_with (go_at_call 68; refine hcall.mono ?_; clear hcall; rintro e w3 ⟨rfl, hb3⟩; have HM3 := Lib.hid (HM.out.below hb3); have HOW3 := Lib.hid (owns_below HOW2.out hb3); clear hb3)
                  go_roundw
                  case rel =>
                    refine ⟨m + 1, false, by omega, by go_num, rfl, fun h => (by cases h), fun _ => ⟨(HT2.out (by trivial)).1, fun q hq hlt' => ?_⟩, HOW3.out, HM3.out⟩
                    by_cases e : q = m
                    · subst e; exact HHIT.out
                    · exact (HT2.out (by trivial)).2 q hq (by omega)
                  case measure => simp [intOf]; omega
                | true =>
                  have hcall := le_call HM.out.2.1 hl hn en j (by omega) (by omega) (r := true) (by rw [Int.toNat_natCast]; exact hu)
                  have HNO := Lib.hid (cover_no hi hml (j := j) (show hitB rows i j rows[i][m] = true by unfold hitB; rw [HEN.out, Int.toNat_natCast, hu, decide_eq_false (by omega), decide_eq_false (by omega)]; rfl))
                  clear e1 e2 hu
                  go_wp2_with (go_at_call 68; refine hcall.mono ?_; clear hcall; rintro e w3 ⟨rfl, hb3⟩; have HM3 := Lib.hid (HM.out.below hb3); have HOW3 := Lib.hid (owns_below HOW2.out hb3); clear hb3)
                  go_roundw
                  case rel => exact ⟨m + 1, true, by omega, by go_num, rfl, fun _ => HNO.out, fun h => (by cases h), HOW3.out, HM3.out⟩
                  case measure => simp [intOf]; omega
          · have HYES := Lib.hid (cover_yes hi (HT2.out rfl).1 (fun q hq => (HT2.out rfl).2 q hq (by omega)))
            have hbz := HM.out.2.2.1.size
            go_wp2_with (at_builtin; refine wpList_append_own _ rfl _ _ 28 rfl (w.heap.size + 1) 3 i0 (.int .i64 0) 1 8 Tryd.underlying28 hi0 hz0 hz1 hz2 rfl (by decide) _ _ _ rfl (HOW2.out.alloc _) ⟨wr.heap.size, 0, none⟩ 1 1 [.int .i64 (j : Int)] rfl rfl (cell_one_new _ _ _) (by simp [Value.oneCell']) (by unfold maxLen; omega) (by omega) (by simp; omega) ?_; intro v' w1 hown' hgrow _)
            go_roundw
            case rel =>
              refine ⟨k + 1, by omega, by go_num, ?_, ?_⟩
              · rw [HST.out, if_pos HYES.out, List.length_append, show cellsI (covN rows i k ++ [(j : Int)]) = cellsI (covN rows i k) ++ [.int .i64 (j : Int)] by simp]
                exact hown'
              · have hB : Below w.heap.size w w1 := ((HM.out.2.2.1.alloc HM.out.2.2.1.size _).grown hgrow (by rw [World.size_alloc]; omega) (fun b e => by have := (HOW2.out.lt b e).1; omega))
                refine ⟨?_, HV0.out.below hB, hB, Nat.lt_of_lt_of_le HM.out.2.2.2 (Nat.le_trans (by rw [World.size_alloc]; omega) hgrow.size)⟩
                exact (World.cell?_of_block ((hgrow.block w.heap.size (by rw [World.size_alloc]; have := HM.out.2.2.2; omega) (fun e => by have := (HOW2.out.lt _ e.symm).1; omega)).trans (Below.heap_alloc _ _ _ HM.out.2.2.2))).trans HM.out.1
            case measure => simp [intOf]; omega
    · obtain rfl : k = rows[i].length := by omega
      have HD := Lib.hid (covN_done hi)
      go_wp2
      go_ret
      refine ⟨_, rfl, OwnI.of_owns ?_ ?_ (fun b hb => (HOWN.out.lt b hb).2), HK.out.2.2.1⟩
      · rw [← HD.out]; exact World.ownsRow.weaken' HOWN.out (Nat.le_succ _)
      · intro y hy
        unfold coversI at hy
        have hy2 := (List.mem_filter.1 hy).1
        rw [getD_at [] hi] at hy2
        have := (lists_at hl i hi).2 y hy2
        exact wf_int (by omega) (by omega)
end Go.Proofs.YtjlemkmpmjdjaaaDoor


