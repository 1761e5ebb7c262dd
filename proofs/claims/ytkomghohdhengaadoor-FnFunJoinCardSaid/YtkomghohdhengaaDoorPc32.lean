/- Flat domains and chains: the model's functions. -/
import Derived.Test.YtkomghohdhengaaDoorPc31
namespace Go.Proofs.YtkomghohdhengaaDoor
open Go.RowKit Go.Deep

theorem infoBoolF : (Tryd.prog.info? 4).map (fun i => (i.zero, i.size, i.bytes)) = some (some (.bool false), 1, 1) := by kernel_rfl

set_option maxRecDepth 100000 in
set_option maxHeartbeats 4000000 in
theorem l2Flat_any (n : Nat) (w : World) (hn : n ≤ 199) :
    Calls Tryd.prog 115 #[.int .i64 (n : Int)] w (OrdNew (n + 1) (fun a => bRow flatB a (n + 1)) w) := by
  have b2 := (Below.refl w.heap.size w).alloc (Nat.le_refl _) (.cells #[.slice none 0 0] 25)
  have hbR := Boxed.new w 25 (.slice none 0 0)
  have s2 : (w.alloc (.cells #[.slice none 0 0] 25)).heap.size = w.heap.size + 1 := World.size_alloc _ _
  generalize hw0 : (w.alloc (.cells #[.slice none 0 0] 25)) = w0 at b2 hbR s2
  obtain ⟨i0, hi0, hz0, hz1, hz2⟩ := info_parts infoInt
  obtain ⟨j0, hj0, hy0, hy1, hy2⟩ := info_parts infoInts
  have hN0 := Out.empty w0 (fun a => bRow flatB a (n + 1))
  rw [s2] at hN0
  have B2 := Lib.hid b2
  have BR := Lib.hid hbR
  have S2 := Lib.hid s2
  have hmk := run_make_row' (P := Tryd.prog) 101 4 (.bool false) 1 Tryd.underlying101 infoBoolF rfl .i64 .i64 (n + 1) (by omega) (by omega)
  rw [show ((n + 1 : Nat) : Int) = (n : Int) + 1 from rfl] at hmk
  clear b2 hbR
  go_enter Tryd.func115, Tryd.ntmps115
  go_upto_region 2 with fail
  clear hw0 s2
  generalize ((w0.alloc (.cells #[] 26)).alloc (.cells #[.slice (some ⟨w.heap.size + 1, 0, none⟩) 0 0] 25)) = wq at hN0 ⊢
  generalize w.heap.size + 1 + 1 = Z at hN0 ⊢
  have HST := Lib.hid hN0
  clear hN0
  go_wp2
  go_loopw [4] (fun av wx => ∃ (a : Nat) (u : Value), a ≤ (n + 1) ∧ av = .int .i64 a ∧ Out w0 Z u a (fun a => bRow flatB a (n + 1)) wx) (fun av _ => (n + 1) - (intOf av).toNat)
  case atStart => exact ⟨0, _, Nat.zero_le _, rfl, HST.out⟩
  case round =>
    obtain ⟨wo, hwo⟩ : ∃ wo : World, wo = wr := ⟨_, rfl⟩
    subst hwo
    obtain ⟨a, u, ha, rfl, ho⟩ := hrel
    have HK := Lib.hid ho
    obtain ⟨au, Cu, rfl⟩ := ho.own.form
    clear HST
    by_cases hlt : a < (n + 1)
    · have hltz : (a : Int) ≤ (n : Int) := by omega
      have HRW := Lib.hid (World.rowIs_made wo (.bool false) (n + 1) 4)
      have HBB := Lib.hid ((Below.refl wo.heap.size wo).alloc (Nat.le_refl _) (.cells (madeCells #[.bool false] (n + 1)) 4))
      clear ho
      go_upto_region 6 with fail
      generalize wo.alloc (.cells (madeCells #[.bool false] (n + 1)) 4) = wa at HRW HBB ⊢
      go_wp2
      go_loopw [6] (fun bv wx => ∃ b : Nat, b ≤ (n + 1) ∧ bv = .int .i64 b ∧ wx.rowIs wo.heap.size 4 (n + 1) (fun i => if i < b then .bool (flatB a i) else .bool false) ∧ Below wo.heap.size wo wx) (fun bv _ => (n + 1) - (intOf bv).toNat)
      case atStart => exact ⟨0, Nat.zero_le _, rfl, HRW.out.congr (fun i _ => by rw [if_neg (Nat.not_lt_zero i)]), HBB.out⟩
      case round =>
        obtain ⟨b, hb, rfl, hr, hB⟩ := hrel
        have HR := Lib.hid hr
        have HB := Lib.hid hB
        clear HRW HBB hB
        by_cases hbl : b < (n + 1)
        · have hbz : (b : Int) ≤ (n : Int) := by omega
          have hbN : (b : Int) < (n : Int) + 1 := by omega
          have hc := hr.cell hbl
          have hfz := hr.frozen b
          rw [if_neg (Nat.lt_irrefl b)] at hc
          clear hr
          by_cases h0 : a = 0
          · subst h0
            have HA := Lib.hid (show flatB 0 b = true by unfold flatB; simp)
            go_wp2
            go_roundw
            case rel =>
              refine ⟨b + 1, by omega, by go_num, (HR.out.set b (.bool true)).congr (fun i hi => ?_), HB.out.setCell (p := ⟨wo.heap.size, b, none⟩) (Nat.le_refl _) _⟩
              by_cases e : i = b
              · subst e; rw [if_pos (Nat.lt_succ_self i), HA.out]; simp
              · by_cases e2 : i < b
                · simp [e, e2, show i < b + 1 by omega]
                · simp [e, e2, show ¬ i < b + 1 by omega]
            case measure => simp [intOf]; omega
          · have q1 : ((a : Int) == 0) = false := by rw [beq_eq_false_iff_ne]; omega
            have q2 : (a == 0) = false := by rw [beq_eq_false_iff_ne]; exact h0
            obtain ⟨t, ht⟩ : ∃ t : Bool, ((a : Int) == (b : Int)) = t := ⟨_, rfl⟩
            have ht2 : (a == b) = t := by rw [← ht, Bool.eq_iff_iff, beq_iff_eq, beq_iff_eq]; omega
            have HA := Lib.hid (show flatB a b = t by unfold flatB; rw [decide_eq_false h0, Bool.false_or, ← ht2]; rfl)
            clear h0
            go_wp2
            go_roundw
            case rel =>
              refine ⟨b + 1, by omega, by go_num, (HR.out.set b (.bool t)).congr (fun i hi => ?_), HB.out.setCell (p := ⟨wo.heap.size, b, none⟩) (Nat.le_refl _) _⟩
              by_cases e : i = b
              · subst e; rw [if_pos (Nat.lt_succ_self i), HA.out]; simp
              · by_cases e2 : i < b
                · simp [e, e2, show i < b + 1 by omega]
                · simp [e, e2, show ¬ i < b + 1 by omega]
            case measure => simp [intOf]; omega
        · obtain rfl : b = n + 1 := by omega
          have hbz : ¬ (((n + 1 : Nat) : Int) ≤ (n : Int)) := by omega
          have HOX := Lib.hid (HK.out.step HB.out)
          have hout := HOX.out.out.cell
          have hZ2 := HOX.out.out.lt
          have hb0 := HOX.out.below.size
          have HRO := Lib.hid (l2Row_any wo.heap.size (n + 1) (n + 1) (flatB a) wr.drew (by omega) (fun i hi => by have := HR.out.cell hi; rw [if_pos hi] at this; exact this))
          obtain ⟨f, hf0, hf1, hf2⟩ := HOX.out.own.owns
          have HF0 := Lib.hid hf0
          have HF1 := Lib.hid hf1
          have HF2 := Lib.hid hf2
          clear hf0 hf1 hf2 hr
          go_upto_region 10 with fail
          go_region_law (first | (go_simp; go_at_call 91; refine HRO.out.mono ?_; clear HRO; rintro e w2 ⟨v', rfl, hv', hb2⟩; obtain ⟨a2, C2, rfl⟩ := hv'.form; have HV2 := Lib.hid hv'; have HB2 := Lib.hid ((below_drew wr _).trans hb2); have HK2 := Lib.hid (HOX.out.step HB2.out); have HW0 := Lib.hid (owns_below HF0.out HB2.out); have hout2 := HK2.out.out.cell; have hout3 := cell_alloc_any hout2; have hz22 : wr.heap.size ≤ w2.heap.size := hb2.size; clear hv' hb2) | (refine step_append_lies _ (by rfl) _ _ 23 (by rfl) w0.heap.size 26 j0 (.slice none 0 0) 1 24 Tryd.underlying23 hj0 hy0 hy1 hy2 rfl (by decide) (.slice au a Cu) a ((List.range a).map f) (by rfl) (HW0.out.alloc _) ⟨w2.heap.size, 0, none⟩ 1 1 [.slice a2 (keptN (flatB a) (n + 1)).length C2] (by rfl) rfl (World.news_of_block (heap_alloc_new w2 _)) (by simp [Value.oneCell']) (by omega) (by unfold maxLen; omega) (by omega) (by simp; omega) (w2.heap.size + 1) (by simp) ?_; intro g' cap' w3 hown hgrow hat hlt'; have hfar := HK2.out.far HW0.out hgrow; have hc3 := hfar.cell; have hf3 := hfar.frozen; clear hfar))
          all_goals
            go_wp2
            go_roundw
            case rel =>
              refine ⟨a + 1, _, by omega, by go_num, (HOX.out.pushed HF0.out HF1.out HF2.out HB2.out HV2.out hown ⟨hgrow.os, hgrow.tape, hgrow.output, hgrow.size, hgrow.block⟩).congr fun j hj => ?_⟩
              by_cases e : j = a
              · subst e; rw [if_pos rfl]; rfl
              · rw [if_neg e]
            case measure => simp [intOf]; omega
    · obtain rfl : a = n + 1 := by omega
      have hltz : ¬ (((n + 1 : Nat) : Int) ≤ (n : Int)) := by omega
      have hres := (ho.below.block _ (by rw [S2.out]; omega)).trans BR.out
      have hrc := Boxed.cell hres
      have hrf := Boxed.frozen hres
      have hout := ho.out.cell
      have hc9 := World.cell?_setCell_same' wo ⟨w.heap.size, 0, none⟩ (.slice au (n + 1) Cu) (by rw [hrc]; rfl)
      clear ho hres
      go_wp2
      refine bodyPost_ret (v := .agg #[.slice au (n + 1) Cu]) (by simp [results, Tryd.results115, go_sem, hc9]) rfl ?_
      refine ⟨_, rfl, ?_, (B2.out.trans (HK.out.below.mono (by rw [S2.out]; omega))).setCell (p := ⟨w.heap.size, 0, none⟩) (Nat.le_refl _) _⟩
      rw [size_setCell]
      exact (HK.out.own.kept fun b hb _ => Below.heap_setCell _ _ _ b (show b ≠ w.heap.size by have := S2.out; omega)).wider (by rw [S2.out]; omega) (Nat.le_refl _)

set_option maxRecDepth 100000 in
set_option maxHeartbeats 4000000 in
theorem specChain_any (z : Int) (w : World) : Calls Tryd.prog 127 #[.int .i64 z] w (OrderP (chainL z) (chainOk z) w) := by
  have b2 := (Below.refl w.heap.size w).alloc (Nat.le_refl _) (.cells #[.slice none 0 0] 25)
  have hbR := Boxed.new w 25 (.slice none 0 0)
  have s2 : (w.alloc (.cells #[.slice none 0 0] 25)).heap.size = w.heap.size + 1 := World.size_alloc _ _
  by_cases hz : 1 ≤ z ∧ z ≤ 200
  · obtain ⟨n, rfl⟩ : ∃ n : Nat, z = (n : Int) := ⟨z.toNat, by omega⟩
    have hn : n ≤ 200 := by omega
    have hE : chainOk (n : Int) = true := decide_eq_true hz
    have HE := Lib.hid hE
    have HL := Lib.hid (show chainL (n : Int) = madeL chainB n by unfold chainL; rw [if_pos hE, Int.toNat_natCast])
    have hin := fun W => l6In_yes (n : Int) 1 200 W hz.1 hz.2
    generalize hw0 : (w.alloc (.cells #[.slice none 0 0] 25)) = w0 at b2 hbR s2
    obtain ⟨i0, hi0, hz0, hz1, hz2⟩ := info_parts infoInt
    obtain ⟨j0, hj0, hy0, hy1, hy2⟩ := info_parts infoInts
    have hN0 := Out.empty w0 (fun a => bRow chainB a n)
    rw [s2] at hN0
    have B2 := Lib.hid b2
    have BR := Lib.hid hbR
    have S2 := Lib.hid s2
    have hmk := run_make_row' (P := Tryd.prog) 101 4 (.bool false) 1 Tryd.underlying101 infoBoolF rfl .i64 .i64 n (by omega) (by omega)
    clear b2 hbR hz hE
    go_enter Tryd.func127, Tryd.ntmps127
    go_upto_region 4 with (go_at_call 123; refine (hin _).mono ?_; clear hin; rintro e w1 ⟨rfl, hw1⟩; obtain rfl : w0 = w1 := by first | exact hw1 | exact hw1.symm)
    clear hw0 s2
    generalize ((w0.alloc (.cells #[] 26)).alloc (.cells #[.slice (some ⟨w.heap.size + 1, 0, none⟩) 0 0] 25)) = wq at hN0 ⊢
    generalize w.heap.size + 1 + 1 = Z at hN0 ⊢
    have HST := Lib.hid hN0
    clear hN0
    go_wp2
    go_loopw [5] (fun av wx => ∃ (a : Nat) (u : Value), a ≤ n ∧ av = .int .i64 a ∧ Out w0 Z u a (fun a => bRow chainB a n) wx) (fun av _ => n - (intOf av).toNat)
    case atStart => exact ⟨0, _, Nat.zero_le _, rfl, HST.out⟩
    case round =>
      obtain ⟨wo, hwo⟩ : ∃ wo : World, wo = wr := ⟨_, rfl⟩
      subst hwo
      obtain ⟨a, u, ha, rfl, ho⟩ := hrel
      have HK := Lib.hid ho
      obtain ⟨au, Cu, rfl⟩ := ho.own.form
      clear HST
      by_cases hlt : a < n
      · have hltz : (a : Int) < (n : Int) := by omega
        have HRW := Lib.hid (World.rowIs_made wo (.bool false) n 4)
        have HBB := Lib.hid ((Below.refl wo.heap.size wo).alloc (Nat.le_refl _) (.cells (madeCells #[.bool false] n) 4))
        clear ho
        go_upto_region 8 with fail
        generalize wo.alloc (.cells (madeCells #[.bool false] n) 4) = wa at HRW HBB ⊢
        go_wp2
        go_loopw [7] (fun bv wx => ∃ b : Nat, a ≤ b ∧ b ≤ n ∧ bv = .int .i64 b ∧ wx.rowIs wo.heap.size 4 n (fun i => .bool (decide (a ≤ i) && decide (i < b))) ∧ Below wo.heap.size wo wx) (fun bv _ => n - (intOf bv).toNat)
        case atStart => exact ⟨a, Nat.le_refl _, ha, rfl, HRW.out.congr (fun i _ => by
          by_cases h : a ≤ i
          · rw [decide_eq_false (show ¬ i < a by omega), Bool.and_false]
          · rw [decide_eq_false h, Bool.false_and]), HBB.out⟩
        case round =>
          obtain ⟨b, hab, hb, rfl, hr, hB⟩ := hrel
          have HR := Lib.hid hr
          have HB := Lib.hid hB
          clear HRW HBB hB
          by_cases hbl : b < n
          · have hbz : (b : Int) < (n : Int) := by omega
            have hc := hr.cell hbl
            have hfz := hr.frozen b
            rw [decide_eq_false (Nat.lt_irrefl b), Bool.and_false] at hc
            clear hr
            go_wp2
            go_roundw
            case rel =>
              refine ⟨b + 1, by omega, by omega, by go_num, (HR.out.set b (.bool true)).congr (fun i hi => ?_), HB.out.setCell (p := ⟨wo.heap.size, b, none⟩) (Nat.le_refl _) _⟩
              by_cases e : i = b
              · subst e; rw [decide_eq_true hab, decide_eq_true (Nat.lt_succ_self i)]; simp
              · have e3 : decide (i < b + 1) = decide (i < b) := by rw [Bool.eq_iff_iff, decide_eq_true_iff, decide_eq_true_iff]; omega
                simp [e, e3]
            case measure => simp [intOf]; omega
          · obtain rfl : b = n := by omega
            have hbz : ¬ ((b : Int) < (b : Int)) := by omega
            have HOX := Lib.hid (HK.out.step HB.out)
            have hout := HOX.out.out.cell
            have hZ2 := HOX.out.out.lt
            have hb0 := HOX.out.below.size
            have HRO := Lib.hid (l2Row_any wo.heap.size b b (chainB a) wr.drew (by omega) (fun i hi => by have := HR.out.cell hi; rw [decide_eq_true hi, Bool.and_true] at this; exact this))
            obtain ⟨f, hf0, hf1, hf2⟩ := HOX.out.own.owns
            have HF0 := Lib.hid hf0
            have HF1 := Lib.hid hf1
            have HF2 := Lib.hid hf2
            clear hf0 hf1 hf2 hr
            go_upto_region 12 with fail
            go_region_law (first | (go_simp; go_at_call 91; refine HRO.out.mono ?_; clear HRO; rintro e w2 ⟨v', rfl, hv', hb2⟩; obtain ⟨a2, C2, rfl⟩ := hv'.form; have HV2 := Lib.hid hv'; have HB2 := Lib.hid ((below_drew wr _).trans hb2); have HK2 := Lib.hid (HOX.out.step HB2.out); have HW0 := Lib.hid (owns_below HF0.out HB2.out); have hout2 := HK2.out.out.cell; have hout3 := cell_alloc_any hout2; have hz22 : wr.heap.size ≤ w2.heap.size := hb2.size; clear hv' hb2) | (refine step_append_lies _ (by rfl) _ _ 23 (by rfl) w0.heap.size 26 j0 (.slice none 0 0) 1 24 Tryd.underlying23 hj0 hy0 hy1 hy2 rfl (by decide) (.slice au a Cu) a ((List.range a).map f) (by rfl) (HW0.out.alloc _) ⟨w2.heap.size, 0, none⟩ 1 1 [.slice a2 (keptN (chainB a) b).length C2] (by rfl) rfl (World.news_of_block (heap_alloc_new w2 _)) (by simp [Value.oneCell']) (by omega) (by unfold maxLen; omega) (by omega) (by simp; omega) (w2.heap.size + 1) (by simp) ?_; intro g' cap' w3 hown hgrow hat hlt'; have hfar := HK2.out.far HW0.out hgrow; have hc3 := hfar.cell; have hf3 := hfar.frozen; clear hfar))
            all_goals
              go_wp2
              go_roundw
              case rel =>
                refine ⟨a + 1, _, by omega, by go_num, (HOX.out.pushed HF0.out HF1.out HF2.out HB2.out HV2.out hown ⟨hgrow.os, hgrow.tape, hgrow.output, hgrow.size, hgrow.block⟩).congr fun j hj => ?_⟩
                by_cases e : j = a
                · subst e; rw [if_pos rfl]; rfl
                · rw [if_neg e]
              case measure => simp [intOf]; omega
      · obtain rfl : a = n := by omega
        have hltz : ¬ ((a : Int) < (a : Int)) := by omega
        have hres := (ho.below.block _ (by rw [S2.out]; omega)).trans BR.out
        have hrc := Boxed.cell hres
        have hrf := Boxed.frozen hres
        have hout := ho.out.cell
        have hc9 := World.cell?_setCell_same' wo ⟨w.heap.size, 0, none⟩ (.slice au a Cu) (by rw [hrc]; rfl)
        clear ho hres
        go_wp2
        refine bodyPost_ret (v := .tuple #[.agg #[.slice au a Cu], .bool true]) (by simp [results, Tryd.results127, go_sem, hc9]) rfl ?_
        exact orderP_made HL.out HE.out (HK.out.own.wider (by rw [S2.out]; omega) (Nat.le_refl _)) (B2.out.trans (HK.out.below.mono (by rw [S2.out]; omega))) rfl
  · have hE : chainOk z = false := decide_eq_false hz
    have HE := Lib.hid hE
    have HL := Lib.hid (show chainL z = [] by unfold chainL; rw [if_neg (by rw [hE]; simp)])
    have HB0 := Lib.hid b2
    have hres := hbR.cell
    have hfr := hbR.frozen
    have hin := l6In_no z 1 200 (w.alloc (.cells #[.slice none 0 0] 25)) hz
    clear hE hbR b2 hz
    go_enter Tryd.func127, Tryd.ntmps127
    go_wp2_with (first | (go_at_call 123; refine hin.mono ?_; clear hin; rintro e w1 ⟨rfl, rfl⟩))
    refine bodyPost_ret (v := .tuple #[.agg #[.slice none 0 0], .bool false]) (by simp [results, Tryd.results127, go_sem]) rfl ?_
    exact orderP_zero HL.out HE.out HB0.out
end Go.Proofs.YtkomghohdhengaaDoor


