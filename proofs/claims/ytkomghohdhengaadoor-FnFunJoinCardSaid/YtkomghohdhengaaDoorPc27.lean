/- An order drawn from a code (l91Order). -/
import Derived.Test.YtkomghohdhengaaDoorPc22
namespace Go.Proofs.YtkomghohdhengaaDoor
open Go.RowKit Go.Deep Go.Shelf

set_option maxRecDepth 100000 in
set_option maxHeartbeats 8000000 in
theorem l91Order_any (r : Nat) (v : Value) (p : Nat) (most : Nat) (w : World) (hr : RdAt r v p w) (hp : p < 1099511000000) (hm : 1 ≤ most) (hm2 : most ≤ 20) :
    Calls Tryd.prog 126 #[.pointer (some ⟨r, 0, none⟩), .int .i64 (most : Int)] w (OrdD r v p w) := by
  have s1 : (w.alloc (.cells #[.slice none 0 0] 25)).heap.size = w.heap.size + 1 := World.size_alloc _ _
  have h0 : DrO r v w p (.slice none 0 0) 0 (fun _ => []) (w.alloc (.cells #[.slice none 0 0] 25)) :=
    ⟨(Dr.start hr).step ((Below.refl _ _).alloc (Nat.le_refl _) _), Boxed.new w _ _, OwnR.nil _ _ _ _ _ _⟩
  have HP := Lib.hid (fun W q (n : Int) (h : RdAt r v q W) (hq : q < 1099511627776) => pick_any r v q n W h hq)
  have hpk := HP.out _ p most h0.dr.rd (by omega)
  have H0 := Lib.hid h0
  have hmz : (1 : Int) ≤ (most : Int) := by omega
  obtain ⟨i0, hi0, hz0, hz1, hz2⟩ := info_parts infoInt
  obtain ⟨j0, hj0, hy0, hy1, hy2⟩ := info_parts infoInts
  clear hr h0
  go_enter Tryd.func126, Tryd.ntmps126
  go_upto_region 2 with (go_at_call 118; refine hpk.mono ?_; clear hpk; rintro e w1 ⟨⟨k0, rfl, hk1, _⟩, hd1⟩; have hk2 := hk1 hmz; have H1 := Lib.hid (H0.out.pick hd1); clear hd1 hk1)
  obtain ⟨n, hn⟩ : ∃ n : Nat, n = k0 + 1 := ⟨_, rfl⟩
  have hnz : (1 : Int) + (k0 : Int) = (n : Int) := by omega
  have hn20 : n ≤ 20 := by omega
  have hn1 : 1 ≤ n := by omega
  rw [hnz]
  have H2 := Lib.hid H1.out.empty
  clear H0 H1 hnz hn hk2
  go_wp2
  go_loopw [6, 7] (fun lv iv wr => ∃ (i q : Nat) (R : Nat → List Int), i ≤ n ∧ iv = .int .i64 i ∧ q ≤ p + 1 + 20 * i ∧ (∀ j, j < i → UpRow n j (R j)) ∧ DrO r v w q lv i R wr) (fun _ iv _ => n - (intOf iv).toNat)
  case atStart => exact ⟨0, p + 1, _, Nat.zero_le _, rfl, by omega, fun j hj => absurd hj (Nat.not_lt_zero _), H2.out⟩
  case round =>
    obtain ⟨wo, hwo⟩ : ∃ wo : World, wo = wr := ⟨_, rfl⟩
    subst hwo
    obtain ⟨i, q, R, hi, rfl, hq, hup, ho⟩ := hrel
    have HU := Lib.hid hup
    have HK := Lib.hid ho
    obtain ⟨au, Cu, rfl⟩ := ho.own.form
    clear H2 hup
    by_cases hlt : i < n
    · have hltz : (i : Int) < (n : Int) := by omega
      have HO := Lib.hid (World.ownsRow_made (e := 3) (size := 1) wo #[] 0 (base := wo.heap.size) (Nat.le_refl _) (Nat.zero_le _) (by simp))
      have HB := Lib.hid ((Dr.start ho.dr.rd).step ((Below.refl wo.heap.size wo).alloc (Nat.le_refl _) (.cells #[] 3)))
      have hrw : r < wo.heap.size := by have := ho.dr.old; have := ho.dr.size; omega
      have HZ := Lib.hid (show w.heap.size + 1 ≤ wo.heap.size from ho.res.lt)
      clear ho
      go_wp2
      go_loopw [8, 9] (fun rv kv wx => ∃ (k q2 : Nat) (l : List Int), i + 1 ≤ k ∧ k ≤ n ∧ kv = .int .i64 k ∧ q2 + i + 1 ≤ q + k ∧ l.length ≤ k ∧ (∀ x ∈ l, (i : Int) < x ∧ x < (k : Int)) ∧ Dr r v wo q2 wx ∧ wx.ownsRow wo.heap.size 3 1 rv l.length (cellsI l)) (fun _ kv _ => n - (intOf kv).toNat)
      case atStart => exact ⟨i + 1, q, [], by omega, by omega, by go_num, by omega, Nat.zero_le _, fun _ h => (by cases h), HB.out, HO.out⟩
      case round =>
        obtain ⟨k, q2, l, hk1, hk2, rfl, hq2, hll, hlx, hd, hown⟩ := hrel
        have HD := Lib.hid hd
        have HOWN := Lib.hid hown
        have HLX := Lib.hid hlx
        obtain ⟨ar, Cr, rfl⟩ := owns_form hown
        clear hd hown hlx
        by_cases hkl : k < n
        · have hkz : (k : Int) < (n : Int) := by omega
          have hpk := HP.out wr q2 3 HD.out.rd (by omega)
          go_wp2_with (first | (go_at_call 118; refine hpk.mono ?_; clear hpk; rintro e w2 ⟨⟨k3, rfl, _, _⟩, hd2⟩; have H3 := Lib.hid (HD.out.trans hd2); have HO3 := Lib.hid (hd2.owns HOWN.out hrw); have hz3 := H3.out.size; clear hd2; by_cases hk3 : (k3 : Int) = 0) | (at_builtin; refine wpList_append_own _ rfl _ _ 26 rfl wo.heap.size 3 i0 (.int .i64 0) 1 8 Tryd.underlying26 hi0 hz0 hz1 hz2 rfl (by decide) _ _ _ rfl (HO3.out.alloc _) ⟨w2.heap.size, 0, none⟩ 1 1 [.int .i64 (k : Int)] rfl rfl (cell_one_new _ _ _) (by simp [Value.oneCell']) (by unfold maxLen; omega) (by omega) (by simp; omega) ?_; intro v' w3 hown' hgrow _))
          · go_roundw
            case rel =>
              refine ⟨k + 1, q2 + 1, l ++ [(k : Int)], by omega, by omega, by go_num, by omega, by rw [List.length_append, List.length_singleton]; omega, fun x hx => ?_, H3.out.far hgrow fun b e => (HO3.out.lt b e).1, ?_⟩
              · rcases List.mem_append.1 hx with hx | hx
                · have := HLX.out x hx; omega
                · rw [List.mem_singleton] at hx; omega
              · rw [List.length_append, show cellsI (l ++ [(k : Int)]) = cellsI l ++ [.int .i64 (k : Int)] by simp]
                exact hown'
            case measure => simp [intOf]; omega
          · go_roundw
            case rel => exact ⟨k + 1, q2 + 1, l, by omega, by omega, by go_num, by omega, by omega, fun x hx => by have := HLX.out x hx; omega, H3.out, HO3.out⟩
            case measure => simp [intOf]; omega
        · obtain rfl : k = n := by omega
          have hkz : ¬ (k : Int) < (k : Int) := by omega
          have hf := HOWN.out
          obtain ⟨f, hf0, hf1, hf2⟩ := HK.out.own.owns
          have HF0 := Lib.hid (HD.out.owns hf0 (by have := HK.out.dr.old; omega))
          have HF1 := Lib.hid (fun j (hj : j < i) => (HK.out.dr.ownI HD.out (hf1 j hj) (Nat.le_succ _) (Nat.le_refl _)))
          have HF2 := Lib.hid hf2
          have HKD := Lib.hid (HK.out.pick HD.out)
          have hwz := HD.out.size
          have HV2 : Hid (OwnI 3 wr (.slice ar l.length Cr) l wo.heap.size wr.heap.size) := Lib.hid (OwnI.of_owns HOWN.out (fun y hy => by have := HLX.out y hy; exact wf_int (by omega) (by omega)) (fun b hb => (HOWN.out.lt b hb).2))
          clear hf0 hf1 hf2 hf
          go_wp2_with (at_builtin; refine wpList_append_own _ rfl _ _ 23 rfl (w.heap.size + 1) 26 j0 (.slice none 0 0) 1 24 Tryd.underlying23 hj0 hy0 hy1 hy2 rfl (by decide) _ _ _ rfl (HF0.out.alloc _) ⟨wr.heap.size, 0, none⟩ 1 1 [.slice ar l.length Cr] rfl rfl (cell_one_new _ _ _) (by simp [Value.oneCell']) (by unfold maxLen; omega) (by omega) (by simp; have := HZ.out; omega) ?_; intro v' w3 hown' hgrow _)
          go_roundw
          case rel =>
            refine ⟨i + 1, q2, fun j => if j = i then l else R j, by omega, by go_num, by omega, fun j hj => ?_, HKD.out.pushed HF0.out HF1.out HF2.out HZ.out hwz HV2.out hown' hgrow⟩
            by_cases e : j = i
            · subst e
              simp only [if_true]
              exact ⟨hll, HLX.out⟩
            · simp only [if_neg e]
              exact HU.out j (by omega)
          case measure => simp [intOf]; omega
    · obtain rfl : i = n := by omega
      have hltz : ¬ (i : Int) < (i : Int) := by omega
      have HL := Lib.hid (ho.own.list.at)
      have HUR : Hid (∀ j (hj : j < (rowsOf R i).length), ∀ x ∈ (rowsOf R i)[j], (j : Int) < x ∧ x < (rowsOf R i).length) := Lib.hid fun j hj x hx => by
        rw [rowsOf_at] at hx
        rw [rowsOf_len] at hj ⊢
        exact (HU.out j hj).2 x hx
      have hfr := from_up (rows := rowsOf R i) (by rw [rowsOf_len]; exact hn1) (by rw [rowsOf_len]; omega) HUR.out
      have hcall := specFrom_any _ (rowsOf R i) wo ho.own.list.at (by have := rowsOf_bulk (R := R) (n := i) (m := 20) (fun j hj => by have := (HU.out j hj).1; omega); omega)
      rw [hfr] at hcall
      have hfl : (fromL (rowsOf R i)).length = i := by rw [fromL_true hfr, reachR_len, rowsOf_len]
      have hfb := fromL_bulk (rowsOf R i)
      have hfr20 : ∀ j, (rowsF (fromL (rowsOf R i)) j).length ≤ 20 := fun j => by have := fromL_row (rowsOf R i) j; rw [rowsOf_len] at this; omega
      have HFR := Lib.hid hfr20
      have hfm : Ok (fromL (rowsOf R i)) := by rw [fromL_true hfr]; exact (from_ok hfr).1
      generalize fromL (rowsOf R i) = L at hcall hfl hfb hfm HFR
      have HD0 := Lib.hid ho.dr
      have HRS := Lib.hid ho.res
      have HZ := Lib.hid (show w.heap.size + 1 ≤ wo.heap.size from ho.res.lt)
      clear ho hfr HL HUR hfr20
      go_upto_region 14 with (go_at_call 69; refine hcall.mono ?_; clear hcall; rintro e w2 ⟨u, rfl, hu, hb⟩; rw [hfl] at hu; obtain ⟨aL, CL, rfl⟩ := hu.form; have HBF := Lib.hid hb; have HUF := Lib.hid hu; clear hu hb)
      obtain ⟨w3, hw3⟩ : ∃ w3 : World, w3 = w2.alloc (.cells #[.slice aL i CL] 25) := ⟨_, rfl⟩
      have hb3 : Below w2.heap.size w2 w3 := by rw [hw3]; exact (Below.refl _ _).alloc (Nat.le_refl _) _
      have bo3 : Boxed w3 w2.heap.size 25 (.slice aL i CL) := by rw [hw3]; exact Boxed.new _ _ _
      have D3 := Lib.hid ((HD0.out.step HBF.out).step hb3)
      have R3 : Hid (Boxed w3 w.heap.size 25 (.slice none 0 0)) := Lib.hid ((hb3.block _ (Nat.lt_of_lt_of_le HRS.out.lt HBF.out.size)).trans ((HBF.out.block _ HRS.out.lt).trans HRS.out))
      have B3 := Lib.hid bo3
      have O3 : Hid (OwnR 3 26 w3 (.slice aL i CL) i (rowsF L) (w.heap.size + 1) w3.heap.size) := Lib.hid ((HUF.out.below hb3 (Nat.le_refl _)).wider HZ.out hb3.size)
      have Z2 := Lib.hid (show w.heap.size < w2.heap.size by have := HBF.out.size; have := HZ.out; omega)
      have hpk := HP.out w3 q 40 D3.out.rd (by omega)
      rw [← hw3]
      clear hw3 hb3 bo3 HBF HUF HRS HD0 HZ
      have hlen0 : (rowsF L 0).length ≤ 50000 := by
        rw [rowsF_lt (show 0 < L.length by omega)]
        have := bulk_row (rows := L) (i := 0) (by omega)
        omega
      have HBK := Lib.hid (fun (m : Nat) (xs : List Int) (hx : xs.length ≤ 21) => show bulk (rowsOf (fun q => if q = m then xs else rowsF L q) i) ≤ 100000 by
        have := rowsOf_bulk (R := fun q => if q = m then xs else rowsF L q) (n := i) (m := 21) (fun j _ => by
          have := HFR.out j
          split <;> omega)
        omega)
      go_upto_region 15 with (go_at_call 118; refine hpk.mono ?_; clear hpk; rintro e w4 ⟨⟨k4, rfl, _, _⟩, hd4⟩; have D4 := Lib.hid (D3.out.trans hd4); have R4 := Lib.hid (D3.out.boxed hd4 R3.out (Nat.le_refl _)); have B4 := Lib.hid (D3.out.boxed hd4 B3.out (Nat.le_of_lt Z2.out)); have O4 := Lib.hid ((D3.out.ownR hd4 O3.out (Nat.le_succ _) (Nat.le_refl _)).wider (Nat.le_refl _) hd4.size); clear hd4 D3 R3 B3 O3)
      have hres := R4.out.cell
      have hrf := R4.out.frozen
      have hout := B4.out.cell
      by_cases hk0 : k4 = 0
      · have hkz : ((k4 : Int) == 0) = true := by rw [beq_iff_eq]; omega
        obtain ⟨g, C, f, e, n1, n2, n3, n4, n5, n6, n7⟩ := O4.out.parts (show 0 < i by omega)
        cases e
        have hc2 := n5.cell (show 0 < CL by omega)
        have hf2 := n5.frozen 0
        have h60 := n6 0 (show 0 < i by omega)
        obtain ⟨c4, hg4, _⟩ := id n5
        have HNE := Lib.hid (ownI_ne h60 hg4 int_ne_ints)
        have hb5 := B4.out
        have hr5 := R4.out
        unfold Boxed at hb5 hr5
        have HNE3 := Lib.hid (ownI_ne h60 hb5 (fun e => ord_ne_int e.symm))
        have HNE4 := Lib.hid (ownI_ne h60 hr5 (fun e => ord_ne_int e.symm))
        have hne : g ≠ w2.heap.size := fun e => by
          rw [← e, hg4] at hb5
          injection hb5 with h5
          injection h5 with _ h6
          exact absurd h6.symm ord_ne_ints
        have hne0 : g ≠ w.heap.size := by omega
        have hwg : w.heap.size ≤ g := by omega
        have hlt2 := B4.out.lt
        have hlt0 := R4.out.lt
        have hzg := n5.lt
        have HOUT := Lib.hid (cell_alloc_any hout)
        have hout2 := cell_alloc_any hout
        have hc22 := cell_alloc_any hc2
        have HC2 := Lib.hid (cell_alloc_any hc2)
        have HF2 : Hid (∀ X, (w4.alloc X).frozen? ⟨g, 0, none⟩ = false) := Lib.hid fun X => (Below.frozen ((Below.refl _ w4).alloc (Nat.le_refl _) X) (p := ⟨g, 0, none⟩) hzg).trans hf2
        have HOWN := Lib.hid h60.owns
        have HR := Lib.hid n5
        have HI := Lib.hid n6
        have HD := Lib.hid n7
        have HN0 := Lib.hid hne0
        have HN := Lib.hid hne
        have HWF : Hid ((Lit.int .i64 (i : Int)).wf = true) := Lib.hid (wf_int (by omega) (by omega))
        have hpos : 0 < i := by omega
        have hposz : ¬ i = 0 := by omega
        have hub : ∀ b, (f 0).ownBlock = some b → w.heap.size ≤ b := fun b hb => by have := (h60.block b hb).1; omega
        have HFIN := Lib.hid (fun (w5 : World) (g' cap' : Nat) (hown : w5.ownsRow (w.heap.size + 1) 3 1 (.slice (some ⟨g', 0, none⟩) ((rowsF L 0).length + 1) cap') ((rowsF L 0).length + 1) (cellsI (rowsF L 0) ++ [.int .i64 (i : Int)])) (hgrow : (w4.alloc (.cells #[.int .i64 (i : Int)] 3)).grownBy w5 (f 0).ownBlock) (hat : (f 0).ownBlock = some g' ∨ g' = w4.heap.size + 1) (hlt' : g' < w5.heap.size) =>
          show Boxed (w5.setCell ⟨g, 0, none⟩ (.slice (some ⟨g', 0, none⟩) ((rowsF L 0).length + 1) cap')) w.heap.size 25 (.slice none 0 0) ∧ Boxed (w5.setCell ⟨g, 0, none⟩ (.slice (some ⟨g', 0, none⟩) ((rowsF L 0).length + 1) cap')) w2.heap.size 25 (.slice (some ⟨g, 0, none⟩) i CL) ∧
            OrdD r v p w (.returned (.agg #[.slice (some ⟨g, 0, none⟩) i CL])) ((w5.setCell ⟨g, 0, none⟩ (.slice (some ⟨g', 0, none⟩) ((rowsF L 0).length + 1) cap')).setCell ⟨w.heap.size, 0, none⟩ (.slice (some ⟨g, 0, none⟩) i CL)) by
          have hkeep : ∀ b (c : Array Value), w4.heap[b]? = some (.cells c 25 (0, 0)) → some b ≠ (f 0).ownBlock → w5.heap[b]? = w4.heap[b]? := fun b c hb hne => by
            have hl : b < w4.heap.size := (Array.getElem?_eq_some_iff.1 hb).1
            exact (hgrow.block b (by rw [World.size_alloc]; omega) hne).trans (Below.heap_alloc _ _ _ hl)
          have b1 : Boxed (w5.setCell ⟨g, 0, none⟩ (.slice (some ⟨g', 0, none⟩) ((rowsF L 0).length + 1) cap')) w.heap.size 25 (.slice none 0 0) := (heap_setCell_other _ ⟨g, 0, none⟩ w.heap.size _ (fun e => hne0 e.symm)).trans ((hkeep _ _ hr5 HNE4.out).trans hr5)
          have b2 : Boxed (w5.setCell ⟨g, 0, none⟩ (.slice (some ⟨g', 0, none⟩) ((rowsF L 0).length + 1) cap')) w2.heap.size 25 (.slice (some ⟨g, 0, none⟩) i CL) := (heap_setCell_other _ ⟨g, 0, none⟩ w2.heap.size _ (fun e => hne e.symm)).trans ((hkeep _ _ hb5 HNE3.out).trans hb5)
          have ho := OwnR.appended (t := 3) (u := 26) (W1 := w4.alloc (.cells #[.int .i64 (i : Int)] 3)) int_ne_ints n1 n2 n3 n5 n6 n7 hpos HWF.out (by rw [World.size_alloc]; omega) (fun b hb => Below.heap_alloc _ _ _ hb) hown hgrow (by rcases hat with h | h; exact .inl h; exact .inr (by omega)) hlt'
          refine ⟨b1, b2, OrdE.fin (rows := rowsOf (fun q => if q = 0 then rowsF L 0 ++ [(i : Int)] else rowsF L q) i) ((D4.out.far hgrow hub).setNew hwg 0 _) b1 ?_ (HBK.out 0 (rowsF L 0 ++ [(i : Int)]) (by rw [List.length_append, List.length_singleton]; have := HFR.out 0; omega)) (by omega)⟩
          rw [size_setCell]
          exact ho.list)
        clear hk0 n5 n6 n7 h60 hg4 hb5 hr5 hne hne0 hub
        go_upto_region 16 with fail
        go_region_law ((refine step_append_lies _ (by rfl) _ _ 26 (by rfl) (w.heap.size + 1) 3 i0 (.int .i64 0) 1 8 Tryd.underlying26 hi0 hz0 hz1 hz2 rfl (by decide) (f 0) (rowsF L 0).length (cellsI (rowsF L 0)) (by rfl) (HOWN.out.alloc _) ⟨w4.heap.size, 0, none⟩ 1 1 [.int .i64 (i : Int)] (by rfl) rfl (World.news_of_block (heap_alloc_new w4 _)) (by simp [Value.oneCell']) (by omega) (by unfold maxLen; omega) (by omega) (by simp; omega) (w4.heap.size + 1) (by simp) ?_; intro g' cap' w5 hown hgrow hat hlt'; have hc3 : w5.cell? ⟨g, 0, none⟩ = some (f 0) := (hgrow.cell_far ⟨g, 0, none⟩ (by simp; omega) HNE.out).trans (HC2.out _); have hf3 : w5.frozen? ⟨g, 0, none⟩ = false := (hgrow.frozen_far ⟨g, 0, none⟩ (by simp; omega) HNE.out).trans (HF2.out _); have hout3 : w5.cell? ⟨w2.heap.size, 0, none⟩ = some (.slice (some ⟨g, 0, none⟩) i CL) := (hgrow.cell_far ⟨w2.heap.size, 0, none⟩ (by simp; omega) HNE3.out).trans (HOUT.out _)))
        all_goals
          obtain ⟨b1, b2, hfin⟩ := HFIN.out w5 g' cap' hown ⟨hgrow.os, hgrow.tape, hgrow.output, hgrow.size, hgrow.block⟩ hat hlt'
          generalize (w5.setCell ⟨g, 0, none⟩ (.slice (some ⟨g', 0, none⟩) ((rowsF L 0).length + 1) cap')) = w6 at b1 b2 hfin ⊢
          have hres6 := b1.cell
          have hrf6 := b1.frozen
          have hou6 := b2.cell
          have hc9 := World.cell?_setCell_same' w6 ⟨w.heap.size, 0, none⟩ (.slice (some ⟨g, 0, none⟩) i CL) (by rw [hres6]; rfl)
          have HF := Lib.hid hfin
          clear hfin b1 b2 hc3 hf3 hout3 hgrow hown hlt' hat hout hres hrf hout2 hc22 hc2 hf2
          simp only [Exit.inBlock, Exit.then]
          go_wp2
          refine bodyPost_ret (v := .agg #[.slice (some ⟨g, 0, none⟩) i CL]) (by simp [results, Tryd.results126, go_sem, hc9]) rfl ?_
          exact HF.out
      · have hkz : ((k4 : Int) == 0) = false := by rw [beq_eq_false_iff_ne]; omega
        by_cases hk1 : k4 = 1
        · have hkz1 : ((k4 : Int) == 1) = true := by rw [beq_iff_eq]; omega
          obtain ⟨m, hm⟩ : ∃ m : Nat, i = m + 1 := ⟨i - 1, by omega⟩
          have hm1 : (i : Int) - 1 = (m : Int) := by omega
          have hmi : m < i := by omega
          have hmz : (m : Int) < (i : Int) := by omega
          obtain ⟨g, C, f, e, n1, n2, n3, n4, n5, n6, n7⟩ := O4.out.parts (show 0 < i by omega)
          cases e
          have hcg := n5.cell (show m < CL by omega)
          have hfg := n5.frozen m
          have hb4 := (Below.refl w4.heap.size w4).alloc (Nat.le_refl _) (.cells #[] 3)
          have hne : g ≠ w2.heap.size := fun e => by
            have h5 := B4.out
            obtain ⟨c, h4, _⟩ := n5
            unfold Boxed at h5
            rw [← e, h4] at h5
            injection h5 with h5
            injection h5 with _ h6
            exact absurd h6.symm ord_ne_ints
          have hne0 : g ≠ w.heap.size := by omega
          have hS := OwnR.stored (t := 3) (u := 26) (R := rowsF L) (j := m) (v' := .slice (some ⟨w4.heap.size, 0, none⟩) 0 0) (xs := []) int_ne_ints n1 n2 n3 n5 (fun q hq => (n6 q hq)) n7 hb4
            ⟨fun _ h => (by cases h), .inr ⟨w4.heap.size, 0, fun _ => undef, rfl, Nat.le_refl _, Nat.zero_le _, Nat.le_refl _, by rw [World.size_alloc]; omega, World.rowIs_alloc w4 #[] 3 (fun _ => undef) (fun _ h => absurd h (Nat.not_lt_zero _)), fun _ h => absurd h (Nat.not_lt_zero _)⟩⟩
          rw [World.setCell_alloc_past _ _ _ _ n5.lt] at hS
          have HS := Lib.hid hS
          have HN0 := Lib.hid hne0
          have hwg : w.heap.size ≤ g := by omega
          have hc8 : ((w4.setCell ⟨g, m, none⟩ (.slice (some ⟨w4.heap.size, 0, none⟩) 0 0)).alloc (.cells #[] 3)).cell? ⟨w2.heap.size, 0, none⟩ = some (.slice (some ⟨g, 0, none⟩) i CL) := by
            refine cell_alloc_any ?_ _
            rw [World.cell?_of_block (heap_setCell_other _ ⟨g, m, none⟩ w2.heap.size _ (fun e => hne e.symm))]
            exact hout
          have hR5 : Boxed ((w4.setCell ⟨g, m, none⟩ (.slice (some ⟨w4.heap.size, 0, none⟩) 0 0)).alloc (.cells #[] 3)) w.heap.size 25 (.slice none 0 0) := Boxed.alloc ((heap_setCell_other _ ⟨g, m, none⟩ w.heap.size _ (fun e => hne0 e.symm)).trans R4.out) _
          have hres5 := hR5.cell
          have hrf5 := hR5.frozen
          have HR5 := Lib.hid hR5
          have hc9 := World.cell?_setCell_same' ((w4.setCell ⟨g, m, none⟩ (.slice (some ⟨w4.heap.size, 0, none⟩) 0 0)).alloc (.cells #[] 3)) ⟨w.heap.size, 0, none⟩ (.slice (some ⟨g, 0, none⟩) i CL) (by rw [hres5]; rfl)
          clear hk0 hk1 hm n5 n6 n7 hS hR5 hne hne0 hb4
          go_wp2
          refine bodyPost_ret (v := .agg #[.slice (some ⟨g, 0, none⟩) i CL]) (by simp [results, Tryd.results126, go_sem, hc9]) rfl ?_
          refine OrdE.fin (rows := rowsOf (fun q => if q = m then [] else rowsF L q) i) ((D4.out.setNew hwg m _).step ((Below.refl _ _).alloc (Nat.le_refl _) _)) HR5.out ?_ (HBK.out m [] (Nat.zero_le _)) (by omega)
          have h := HS.out
          rw [World.size_alloc, size_setCell]
          rw [World.size_alloc] at h
          exact h.list
        · have hkz1 : ((k4 : Int) == 1) = false := by rw [beq_eq_false_iff_ne]; omega
          by_cases hk2 : k4 = 2
          · have hkz2 : ((k4 : Int) == 2) = true := by rw [beq_iff_eq]; omega
            have hc9 := World.cell?_setCell_same' w4 ⟨w.heap.size, 0, none⟩ (.slice none 0 0) (by rw [hres]; rfl)
            clear hk0 hk1 hk2
            go_wp2
            refine bodyPost_ret (v := .agg #[.slice none 0 0]) (by simp [results, Tryd.results126, go_sem, hc9]) rfl ?_
            exact OrdE.fin (rows := []) D4.out R4.out (OwnR.nil _ _ _ _ _ _) (by decide) (by omega)
          · have hkz2 : ((k4 : Int) == 2) = false := by rw [beq_eq_false_iff_ne]; omega
            have hc9 := World.cell?_setCell_same' w4 ⟨w.heap.size, 0, none⟩ (.slice aL i CL) (by rw [hres]; rfl)
            clear hk0 hk1 hk2
            go_wp2
            refine bodyPost_ret (v := .agg #[.slice aL i CL]) (by simp [results, Tryd.results126, go_sem, hc9]) rfl ?_
            exact OrdE.fin (rows := L) D4.out R4.out (by rw [hfl]; exact O4.out) (by omega) (by omega)
end Go.Proofs.YtkomghohdhengaaDoor


