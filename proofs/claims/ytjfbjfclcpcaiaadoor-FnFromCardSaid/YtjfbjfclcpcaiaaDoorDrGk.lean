/- Lists drawn from a code (DrawOrderFrom): the contract. -/
import Derived.Test.YtjfbjfclcpcaiaaDoorPb31
import Derived.Test.YtjfbjfclcpcaiaaDoorDrUk
namespace Go.Proofs.YtjfbjfclcpcaiaaDoor
open Go.RowKit Go.Deep Go.Shelf

set_option maxRecDepth 100000 in
set_option maxHeartbeats 16000000 in
theorem drawFrom_any (v : Value) (w0 : World) (hv : CodeAt w0.heap.size w0 v) : Calls Tryd.prog 63 #[v] w0 (ListsN w0) := by
  have hopen := l6Open_any v w0 hv
  have HP := Lib.hid (fun r v W q (n : Int) (h : RdAt r v q W) (hq : q < 1099511627776) => pick_any r v q n W h hq)
  obtain ⟨i0, hi0, hz0, hz1, hz2⟩ := info_parts infoInt
  obtain ⟨j0, hj0, hy0, hy1, hy2⟩ := info_parts infoInts
  clear hv
  go_enter Tryd.func63, Tryd.ntmps63
  go_upto_region 3 with (first | (go_at_call 67; refine hopen.mono ?_; clear hopen; rintro e w ⟨v1, rfl, hrd, hb, _⟩; have HB0 := Lib.hid hb; have D1 := Lib.hid (Dr.start hrd); clear hrd hb) | (go_at_call 108; refine (HP.out _ _ _ _ _ D1.out.rd (by omega)).mono ?_; rintro e w2 ⟨⟨n, rfl, hk1, _⟩, hd1⟩; have hn6 := hk1 (by omega); have D2 := Lib.hid (D1.out.trans hd1); clear hd1 hk1 D1))
  obtain ⟨r, hr⟩ : ∃ r, r = w0.heap.size := ⟨_, rfl⟩
  rw [← hr] at D2 ⊢
  have HRR := Lib.hid hr
  clear hr
  have hn6' : n < 6 := by omega
  have H2 := Lib.hid (DrF.empty D2.out (fun _ => []))
  clear D2 hn6
  go_wp2
  go_loopw [5, 6] (fun lv iv wr => ∃ (i q : Nat) (R : Nat → List Int), i ≤ n ∧ iv = .int .i64 i ∧ q ≤ 1 + 12 * i ∧ (∀ j, j < i → (R j).length ≤ n ∧ ∀ x ∈ R j, 0 ≤ x ∧ x < (n : Int)) ∧ DrF r v1 w q lv i R wr) (fun _ iv _ => n - (intOf iv).toNat)
  case atStart => exact ⟨0, 1, _, Nat.zero_le _, rfl, by omega, fun j hj => absurd hj (Nat.not_lt_zero _), H2.out⟩
  case round =>
    obtain ⟨wo, hwo⟩ : ∃ wo : World, wo = wr := ⟨_, rfl⟩
    subst hwo
    obtain ⟨i, q, R, hi, rfl, hq, hup, ho⟩ := hrel
    have HU := Lib.hid hup
    have HK := Lib.hid ho
    obtain ⟨au, Cu, rfl⟩ := ho.own.form
    clear H2 hup
    by_cases hlt : i < n
    · have hltz : (i : Int) < (n : Int) := by omega
      have HO := Lib.hid (World.ownsRow_made (e := 3) (size := 1) wo #[] 0 (base := wo.heap.size) (Nat.le_refl _) (Nat.zero_le _) (by simp))
      have HB := Lib.hid ((Dr.start ho.dr.rd).step ((Below.refl wo.heap.size wo).alloc (Nat.le_refl _) (.cells #[] 3)))
      have hrw : r < wo.heap.size := by have := ho.dr.old; have := ho.dr.size; omega
      have HZ := Lib.hid (show w.heap.size ≤ wo.heap.size from ho.dr.size)
      clear ho
      go_wp2
      go_loopw [7, 8] (fun rv kv wx => ∃ (k q2 : Nat) (l : List Int), k ≤ n ∧ kv = .int .i64 k ∧ q2 ≤ q + 2 * k ∧ l.length ≤ k ∧ (∀ x ∈ l, 0 ≤ x ∧ x < (k : Int)) ∧ Dr r v1 wo q2 wx ∧ wx.ownsRow wo.heap.size 3 1 rv l.length (cellsI l)) (fun _ kv _ => n - (intOf kv).toNat)
      case atStart => exact ⟨0, q, [], Nat.zero_le _, rfl, by omega, Nat.zero_le _, fun _ h => (by cases h), HB.out, HO.out⟩
      case round =>
        obtain ⟨k, q2, l, hk2, rfl, hq2, hll, hlx, hd, hown⟩ := hrel
        have HD := Lib.hid hd
        have HOWN := Lib.hid hown
        have HLX := Lib.hid hlx
        obtain ⟨ar, Cr, rfl⟩ := owns_form hown
        clear hd hown hlx
        by_cases hkl : k < n
        · have hkz : (k : Int) < (n : Int) := by omega
          by_cases hik : i < k
          · have hikz : (i : Int) < (k : Int) := by omega
            have hp3 := HP.out r v1 wr q2 3 HD.out.rd (by omega)
            have hp40 := fun W h => HP.out r v1 W (q2 + 1) 40 h (by omega)
            go_wp2_with (first | (go_at_call 108; refine hp3.mono ?_; clear hp3; rintro e w3 ⟨⟨k3, rfl, _, _⟩, hd2⟩; have H3 := Lib.hid (HD.out.trans hd2); have HO3 := Lib.hid (hd2.owns HOWN.out hrw); have hz3 := H3.out.size; clear hd2; cases hk3 : ((k3 : Int) == 0)) | (go_at_call 108; refine (hp40 _ H3.out.rd).mono ?_; clear hp40; rintro e w4 ⟨⟨k4, rfl, _, _⟩, hd2⟩; have H4 := Lib.hid (H3.out.trans hd2); have HO4 := Lib.hid (hd2.owns HO3.out hrw); have hz4 := H4.out.size; clear hd2; cases hk4 : ((k4 : Int) == 0)) | (at_builtin; refine wpList_append_own _ rfl _ _ 42 rfl wo.heap.size 3 i0 (.int .i64 0) 1 8 Tryd.underlying42 hi0 hz0 hz1 hz2 rfl (by decide) _ _ _ rfl (HO4.out.alloc _) ⟨w4.heap.size, 0, none⟩ 1 1 [.int .i64 (k : Int)] rfl rfl (cell_one_new _ _ _) (by simp [Value.oneCell']) (by unfold maxLen; omega) (by omega) (by simp; omega) ?_; intro v' w5 hown' hgrow _) | (at_builtin; refine wpList_append_own _ rfl _ _ 42 rfl wo.heap.size 3 i0 (.int .i64 0) 1 8 Tryd.underlying42 hi0 hz0 hz1 hz2 rfl (by decide) _ _ _ rfl (HO3.out.alloc _) ⟨w3.heap.size, 0, none⟩ 1 1 [.int .i64 (k : Int)] rfl rfl (cell_one_new _ _ _) (by simp [Value.oneCell']) (by unfold maxLen; omega) (by omega) (by simp; omega) ?_; intro v' w5 hown' hgrow _))
            · go_roundw
              case rel => exact ⟨k + 1, q2 + 1 + 1, l, by omega, by go_num, by omega, by omega, fun x hx => by have := HLX.out x hx; omega, H4.out, HO4.out⟩
              case measure => simp [intOf]; omega
            · go_roundw
              case rel =>
                refine ⟨k + 1, q2 + 1 + 1, l ++ [(k : Int)], by omega, by go_num, by omega, by rw [List.length_append, List.length_singleton]; omega, fun x hx => ?_, H4.out.far hgrow fun b e => (HO4.out.lt b e).1, ?_⟩
                · rcases List.mem_append.1 hx with hx | hx
                  · have := HLX.out x hx; omega
                  · rw [List.mem_singleton] at hx; omega
                · rw [List.length_append, show cellsI (l ++ [(k : Int)]) = cellsI l ++ [.int .i64 (k : Int)] by simp]
                  exact hown'
              case measure => simp [intOf]; omega
            · go_roundw
              case rel =>
                refine ⟨k + 1, q2 + 1, l ++ [(k : Int)], by omega, by go_num, by omega, by rw [List.length_append, List.length_singleton]; omega, fun x hx => ?_, H3.out.far hgrow fun b e => (HO3.out.lt b e).1, ?_⟩
                · rcases List.mem_append.1 hx with hx | hx
                  · have := HLX.out x hx; omega
                  · rw [List.mem_singleton] at hx; omega
                · rw [List.length_append, show cellsI (l ++ [(k : Int)]) = cellsI l ++ [.int .i64 (k : Int)] by simp]
                  exact hown'
              case measure => simp [intOf]; omega
          · have hikz : ¬ (i : Int) < (k : Int) := by omega
            go_wp2_with (first | (go_at_call 108; refine (HP.out _ _ wr q2 40 HD.out.rd (by omega)).mono ?_; rintro e w3 ⟨⟨k3, rfl, _, _⟩, hd2⟩; have H3 := Lib.hid (HD.out.trans hd2); have HO3 := Lib.hid (hd2.owns HOWN.out hrw); have hz3 := H3.out.size; clear hd2; cases hk3 : ((k3 : Int) == 0)) | (at_builtin; refine wpList_append_own _ rfl _ _ 42 rfl wo.heap.size 3 i0 (.int .i64 0) 1 8 Tryd.underlying42 hi0 hz0 hz1 hz2 rfl (by decide) _ _ _ rfl (HO3.out.alloc _) ⟨w3.heap.size, 0, none⟩ 1 1 [.int .i64 (k : Int)] rfl rfl (cell_one_new _ _ _) (by simp [Value.oneCell']) (by unfold maxLen; omega) (by omega) (by simp; omega) ?_; intro v' w5 hown' hgrow _))
            · go_roundw
              case rel => exact ⟨k + 1, q2 + 1, l, by omega, by go_num, by omega, by omega, fun x hx => by have := HLX.out x hx; omega, H3.out, HO3.out⟩
              case measure => simp [intOf]; omega
            · go_roundw
              case rel =>
                refine ⟨k + 1, q2 + 1, l ++ [(k : Int)], by omega, by go_num, by omega, by rw [List.length_append, List.length_singleton]; omega, fun x hx => ?_, H3.out.far hgrow fun b e => (HO3.out.lt b e).1, ?_⟩
                · rcases List.mem_append.1 hx with hx | hx
                  · have := HLX.out x hx; omega
                  · rw [List.mem_singleton] at hx; omega
                · rw [List.length_append, show cellsI (l ++ [(k : Int)]) = cellsI l ++ [.int .i64 (k : Int)] by simp]
                  exact hown'
              case measure => simp [intOf]; omega
        · obtain rfl : k = n := by omega
          have hkz : ¬ (k : Int) < (k : Int) := by omega
          obtain ⟨f, hf0, hf1, hf2⟩ := HK.out.own.owns
          have HF0 := Lib.hid (HD.out.owns hf0 (by have := HK.out.dr.old; omega))
          have HF1 := Lib.hid (fun j (hj : j < i) => (HK.out.dr.ownI HD.out (hf1 j hj) (Nat.le_refl _) (Nat.le_refl _)))
          have HF2 := Lib.hid hf2
          have HKD := Lib.hid (HK.out.pick HD.out)
          have hwz := HD.out.size
          have HV2 : Hid (OwnI 3 wr (.slice ar l.length Cr) l wo.heap.size wr.heap.size) := Lib.hid (OwnI.of_owns HOWN.out (fun y hy => by have := HLX.out y hy; exact wf_int (by omega) (by omega)) (fun b hb => (HOWN.out.lt b hb).2))
          clear hf0 hf1 hf2
          go_wp2_with (at_builtin; refine wpList_append_own _ rfl _ _ 23 rfl w.heap.size 42 j0 (.slice none 0 0) 1 24 Tryd.underlying23 hj0 hy0 hy1 hy2 rfl (by decide) _ _ _ rfl (HF0.out.alloc _) ⟨wr.heap.size, 0, none⟩ 1 1 [.slice ar l.length Cr] rfl rfl (cell_one_new _ _ _) (by simp [Value.oneCell']) (by unfold maxLen; omega) (by omega) (by simp; have := HZ.out; omega) ?_; intro v' w3 hown' hgrow _)
          go_roundw
          case rel =>
            refine ⟨i + 1, q2, fun j => if j = i then l else R j, by omega, by go_num, by omega, fun j hj => ?_, HKD.out.pushed HF0.out HF1.out HF2.out HZ.out hwz HV2.out hown' hgrow⟩
            by_cases e : j = i
            · subst e
              simp only [if_true]
              exact ⟨hll, HLX.out⟩
            · simp only [if_neg e]
              exact HU.out j (by omega)
          case measure => simp [intOf]; omega
    · obtain rfl : i = n := by omega
      have hltz : ¬ (i : Int) < (i : Int) := by omega
      have HRES : Hid (∀ (W : World) (u : Value) (R' : Nat → List Int), Below w0.heap.size w0 W → OwnR 3 42 W u i R' w.heap.size W.heap.size → (∀ j, j < i → (R' j).length ≤ 7) → ListsN w0 (.returned u) W) := Lib.hid fun W u R' hB ho hR => by
        refine ⟨rowsOf R' i, u, rfl, (ho.list).wider HB0.out.size (Nat.le_refl _), ?_, hB⟩
        have := rowsOf_bulk (R := R') (n := i) (m := 7) hR
        omega
      have HUL := Lib.hid (fun j (hj : j < i) => (HU.out j hj).1)
      have HBL := Lib.hid (fun W q' (h : Dr r v1 w q' W) => show Below w0.heap.size w0 W from HB0.out.trans (by have := h.turned.below; rw [HRR.out] at this; exact this))
      by_cases hn0 : i = 0
      · subst hn0
        have hnz : ¬ (0 : Int) < ((0 : Nat) : Int) := by decide
        go_wp2
        go_ret
        exact HRES.out _ _ _ (HBL.out _ _ HK.out.dr) HK.out.own (fun j hj => absurd hj (Nat.not_lt_zero _))
      · have hnz : (0 : Int) < (i : Int) := by omega
        have hi0' : 0 < i := by omega
        have hpk := HP.out r v1 wo q 20 HK.out.dr.rd (by omega)
        clear hn0
        go_wp2_with (first | (go_at_call 108; refine hpk.mono ?_; clear hpk; rintro e w3 ⟨⟨k3, rfl, _, _⟩, hd2⟩; have H3 := Lib.hid (HK.out.pick hd2); clear hd2; obtain ⟨g, C, f, e5, n1, n2, n3, n4, n5, n6, n7⟩ := H3.out.own.parts hi0'; cases e5; have hc2 := n5.cell (show 0 < Cu by omega); have hf2 := n5.frozen 0; have h60 := n6 0 hi0'; obtain ⟨c4, hg4, _⟩ := id n5; have HNE := Lib.hid (ownI_ne h60 hg4 int_ne_ints); have hzg := n5.lt; have HC2 := Lib.hid (cell_alloc_any hc2); have hc22 := cell_alloc_any hc2; have HF2 : Hid (∀ X, (w3.alloc X).frozen? ⟨g, 0, none⟩ = false) := Lib.hid (fun X => (Below.frozen ((Below.refl _ w3).alloc (Nat.le_refl _) X) (p := ⟨g, 0, none⟩) hzg).trans hf2); have HOWN := Lib.hid h60.owns; have HR := Lib.hid n5; have HI := Lib.hid n6; have HDJ := Lib.hid n7; have H60 := Lib.hid h60; have hr0 : (R 0).length ≤ i := HUL.out 0 hi0'; clear n5 n6 n7 h60 hg4; cases hk3 : ((k3 : Int) == 0)) | (at_builtin; refine wpList_append_lies _ rfl _ _ 42 rfl w.heap.size 3 i0 (.int .i64 0) 1 8 Tryd.underlying42 hi0 hz0 hz1 hz2 rfl (by decide) (f 0) (R 0).length (cellsI (R 0)) (by rfl) (HOWN.out.alloc _) ⟨w3.heap.size, 0, none⟩ 1 1 [.int .i64 (i : Int)] (by rfl) rfl (World.news_of_block (heap_alloc_new w3 _)) (by simp [Value.oneCell']) (by omega) (by unfold maxLen; omega) (by omega) (by simp; have := H3.out.dr.size; omega) (w3.heap.size + 1) (by simp) ?_; intro g' cap' w5 hown hgrow hat hlt'; have hc3 : w5.cell? ⟨g, 0, none⟩ = some (f 0) := (hgrow.cell_far ⟨g, 0, none⟩ (by simp; omega) HNE.out).trans (HC2.out _); have hf3 : w5.frozen? ⟨g, 0, none⟩ = false := (hgrow.frozen_far ⟨g, 0, none⟩ (by simp; omega) HNE.out).trans (HF2.out _)))
        · go_ret
          exact HRES.out _ _ _ (HBL.out _ _ H3.out.dr) H3.out.own (fun j hj => by have := HUL.out j hj; omega)
        · have ho := OwnR.appended (t := 3) (u := 42) (W1 := w3.alloc (.cells #[.int .i64 (i : Int)] 3)) int_ne_ints n1 n2 n3 HR.out HI.out HDJ.out hi0' (wf_int (by omega) (by omega)) (by rw [World.size_alloc]; omega) (fun b hb => Below.heap_alloc _ _ _ hb) hown hgrow (by rcases hat with h | h; exact .inl h; exact .inr (by omega)) hlt'
          have hdr := (H3.out.dr.far hgrow (fun b hb => (H60.out.block b hb).1)).setNew (b := g) n3 0 (.slice (some ⟨g', 0, none⟩) ((R 0).length + 1) cap')
          go_ret
          refine HRES.out _ _ (fun q => if q = 0 then R 0 ++ [(i : Int)] else R q) (HBL.out _ _ hdr) ?_ (fun j hj => ?_)
          · rw [size_setCell]
            exact ho
          · have := HUL.out j hj
            split
            · rw [List.length_append, List.length_singleton]; omega
            · omega
end Go.Proofs.YtjfbjfclcpcaiaaDoor
