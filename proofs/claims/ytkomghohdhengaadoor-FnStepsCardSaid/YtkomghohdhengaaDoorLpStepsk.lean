/- The law FnSteps: functions are joins of steps. -/
import Derived.Test.YtkomghohdhengaaDoorKsk
import Derived.Test.YtkomghohdhengaaDoorDrCk
import Derived.Test.YtkomghohdhengaaDoorStepsQk
import Derived.Test.YtkomghohdhengaaDoorPc24
import Derived.Test.YtkomghohdhengaaDoorPc20
import Derived.Test.YtkomghohdhengaaDoorPc26
import Derived.Test.YtkomghohdhengaaDoorPc36
import Derived.Test.YtkomghohdhengaaDoorPc37
import Derived.Test.YtkomghohdhengaaDoorPc38
namespace Go.Proofs.YtkomghohdhengaaDoor
open Go.RowKit Go.Deep Go.Shelf

theorem starts_len (rows rows' : Rows2) (f : List Int) (hf : f.length ≤ 200) : (startsL rows rows' f).length ≤ 1048576 := by
  unfold startsL
  split
  · have := startsN_le rows rows' f f.length; omega
  · exact Nat.zero_le _

set_option maxRecDepth 100000 in
set_option maxHeartbeats 16000000 in
theorem lawStepsP (v : Value) (w : World) (hv : CodeAt w.heap.size w v) (hT : Tab w) : Calls Tryd.prog 8 #[v] w (SaysN true w) := by
  have hdraw := drawSteps_any v w hv
  obtain ⟨a, n, C, rfl, hnC, hCm, _⟩ := hv
  unfold maxLen at hCm
  have HTT := Lib.hid hT
  clear hT
  by_cases hn : 1048576 < n
  · have hz : (1048576 : Int) < (n : Int) := by omega
    clear hdraw
    go_enter Tryd.func8, Tryd.ntmps8
    go_wp2
    go_ret
    exact ⟨rfl, Below.refl _ _⟩
  · have hz : ¬ (1048576 : Int) < (n : Int) := by omega
    go_enter Tryd.func8, Tryd.ntmps8
    go_upto_region 4 with (go_at_call 41; refine hdraw.mono ?_; clear hdraw; rintro e w1 ⟨r0, u0, r1, u1, x2, ux2, rfl, hr0, hr1, hr2, hk0, hk1, hk2, hb⟩; obtain ⟨a0, C0, rfl⟩ := hr0.form; obtain ⟨a1, C1, rfl⟩ := hr1.form; obtain ⟨ax2, Cx2, rfl⟩ := hr2.form; have HBW := Lib.hid hb; have HR0 := Lib.hid hr0.at; have HR1 := Lib.hid hr1.at; have HR2 := Lib.hid hr2.at; clear hb hr0 hr1 hr2)
    have HB0 := Lib.hid (show bulk r0 ≤ 1048576 by omega)
    have HB1 := Lib.hid (show bulk r1 ≤ 1048576 by omega)
    have HL2 := Lib.hid (show x2.length ≤ 200 from hk2)
    clear hk0 hk1 hk2
    have H0 := Lib.hid (((((Ks.start w).step HBW.out).push (i := .ints (.slice ax2 x2.length Cx2) x2) HR2.out).push (i := .ord (.slice a0 r0.length C0) r0) HR0.out).push (i := .ord (.slice a1 r1.length C1) r1) HR1.out)
    have HX0 := Lib.hid (H0.out.box (H0.out.ord 1 rfl))
    have HX1 := Lib.hid (HX0.out.box (HX0.out.ord 1 rfl))
    have H1 : Hid (Ks w [.box (w1.heap.size + 1) (.slice a1 r1.length C1) r1, .box (w1.heap.size) (.slice a0 r0.length C0) r0, .ord (.slice a1 r1.length C1) r1, .ord (.slice a0 r0.length C0) r0, .ints (.slice ax2 x2.length Cx2) x2] ((w1.alloc (.cells #[.slice a0 r0.length C0] 25)).alloc (.cells #[.slice a1 r1.length C1] 25))) := Lib.hid (by have h := HX1.out; (try simp only [World.size_alloc] at h); exact h)
    clear H0 HX0 HX1 HR0 HR1 HR2 HBW
    generalize ((w1.alloc (.cells #[.slice a0 r0.length C0] 25)).alloc (.cells #[.slice a1 r1.length C1] 25)) = W1 at H1 ⊢
    generalize w1.heap.size = B at H1 ⊢
    have hc0 := H1.out.cell 1 rfl
    have hc1 := H1.out.cell 0 rfl
    have hci := implSteps_any (.slice a0 r0.length C0) (.slice a1 r1.length C1) (.slice ax2 x2.length Cx2) r0 r1 x2 W1 (H1.out.rows 1 rfl) (H1.out.rows 0 rfl) (H1.out.ints 4 rfl) (HTT.out.below H1.out.below) HB0.out HB1.out
    go_upto_region 5 with (go_at_call 42; refine hci.mono ?_; clear hci; rintro e W2 ⟨v2, rfl, ho, hb⟩; have H2 := Lib.hid ((H1.out.step hb).push (i := .ints v2 (startsL r0 r1 x2)) ho.at); obtain ⟨a2L, C2L, rfl⟩ := ho.form; clear ho hb)
    clear hc0 hc1
    have hc0 := H2.out.cell 2 rfl
    have hc1 := H2.out.cell 1 rfl
    have hcs := specSteps_any (.slice a0 r0.length C0) (.slice a1 r1.length C1) (.slice ax2 x2.length Cx2) r0 r1 x2 W2 (H2.out.rows 2 rfl) (H2.out.rows 1 rfl) (H2.out.ints 5 rfl) HB0.out HB1.out
    go_upto_region 6 with (go_at_call 43; refine hcs.mono ?_; clear hcs; rintro e W3 ⟨v3, rfl, ho, hb⟩; have H3 := Lib.hid ((H2.out.step hb).push (i := .ints v3 (startsL r0 r1 x2)) ho.at); obtain ⟨a3L, C3L, rfl⟩ := ho.form; clear ho hb)
    clear hc0 hc1
    clear H1 H2
    have HFACT := Lib.hid (trivial)
    have HRES0 := Lib.hid (show (startsL r0 r1 x2).length ≤ 1048576 by exact starts_len r0 r1 x2 HL2.out)
    have hres0 := HRES0.out
    cases hq : monoB r0 r1 x2 with
    | false =>
      clear HFACT hq
      go_wp2_with (first | (go_at_call 19; refine (sameInts_self (.slice a2L _ C2L) (.slice a3L _ C3L) (startsL r0 r1 x2) _ (H3.out.ints 1 rfl) (H3.out.ints 0 rfl)).mono ?_; rintro e W4 ⟨rfl, hb⟩; have H4 := Lib.hid (H3.out.step hb); clear hb H3) | (go_at_call 19; refine (sameInts_self (.slice a2L _ C2L) (.slice a3L _ C3L) (startsL r0 r1 x2) _ (H4.out.ints 1 rfl) (H4.out.ints 0 rfl)).mono ?_; rintro e W5 ⟨rfl, hb⟩; have H5 := Lib.hid (H4.out.step hb); clear hb H4))
      go_ret
      exact ⟨rfl, H5.out.below⟩
    | true =>
      have HMV := Lib.hid (mono_v hq)
      have hLN : startsL r0 r1 x2 = startsN r0 r1 x2 x2.length := startsL_yes hq
      obtain ⟨m, hm1, hm2, hu0⟩ := steps_start (mono_v hq)
      have HAT := Lib.hid (fun q (hq' : q < (startsL r0 r1 x2).length) => show ∃ a : Nat, (startsL r0 r1 x2)[q] = (a : Int) ∧ a < x2.length by
        have h := hq'
        rw [hLN] at h
        obtain ⟨a, e, ha⟩ := start_at h
        exact ⟨a, by simp only [hLN]; exact e, ha⟩)
      have HDONE := Lib.hid (fun S (hs : Under r0 r1 S x2) (hall : ∀ q (hq' : q < (startsL r0 r1 x2).length), Lq r1 (nextF x2 (startsL r0 r1 x2)[q].toNat) (nextF S (startsL r0 r1 x2)[q].toNat) = true) => show S = x2 from steps_done (mono_v hq) hs fun a ha => by
        rw [← hLN] at ha
        obtain ⟨q, hq', e⟩ := List.getElem_of_mem ha
        have := hall q hq'
        rw [e, Int.toNat_natCast] at this
        exact this)
      have HU0 := Lib.hid hu0
      have HM := Lib.hid hm1
      clear HFACT hq hLN hu0 hm1 hm2
      generalize hL : startsL r0 r1 x2 = L at H3 HRES0 hres0 HAT HDONE ⊢
      clear hL
      have hl2 := HL2.out
      go_upto_region 8 with (go_at_call 19; refine (sameInts_self (.slice a2L _ C2L) (.slice a3L _ C3L) (L) _ (H3.out.ints 1 rfl) (H3.out.ints 0 rfl)).mono ?_; rintro e W4 ⟨rfl, hb⟩; have H4 := Lib.hid (H3.out.step hb); clear hb H3)
      have HMADE := Lib.hid (World.ownsRow_made (e := 3) (size := 1) W4 #[] 0 (base := W4.heap.size) (Nat.le_refl _) (Nat.zero_le _) (by simp))
      have HB := Lib.hid ((Below.refl W4.heap.size W4).alloc (Nat.le_refl _) (.cells #[] 3))
      obtain ⟨j0, hj0, hz0, hz1, hz2⟩ := info_parts infoInt
      have HLE := Lib.hid (fun W (h : Ks w [.ints (.slice a3L (L).length C3L) (L), .ints (.slice a2L (L).length C2L) (L), .box (B + 1) (.slice a1 r1.length C1) r1, .box (B) (.slice a0 r0.length C0) r0, .ord (.slice a1 r1.length C1) r1, .ord (.slice a0 r0.length C0) r0, .ints (.slice ax2 x2.length Cx2) x2] W) => implLeast_any (.slice a1 r1.length C1) r1 W (h.rows 2 rfl) (HTT.out.below h.below) HB1.out)
      rw [HM.out] at HLE
      have hm200 : m < 200 := by
        have h1 := HU0.out.mono.ok'.len
        obtain ⟨k, hk, _, hkB, _⟩ := dom_low HMV.out.dom'
        have h2 := HM.out
        omega
      go_wp2
      go_loopw [10, 11] (fun rv iv wx => ∃ i : Nat, i ≤ x2.length ∧ iv = .int .i64 i ∧ Below W4.heap.size W4 wx ∧ wx.ownsRow W4.heap.size 3 1 rv i (cellsI (repL i m))) (fun _ iv _ => x2.length - (intOf iv).toNat)
      case atStart => exact ⟨0, Nat.zero_le _, rfl, HB.out, HMADE.out⟩
      case round =>
        obtain ⟨i, hi, rfl, hb, hown⟩ := hrel
        have HBX := Lib.hid hb
        have HOW := Lib.hid hown
        have HX := Lib.hid (H4.out.step hb)
        obtain ⟨ar, Cr, rfl⟩ := owns_form hown
        have hsz := hb.size
        clear hb hown HB HMADE
        by_cases hlt : i < x2.length
        · have hltz : (i : Int) < (x2.length : Int) := by omega
          have hc1 := (HX.out.cell 2 rfl)
          go_wp2_with (first | (go_at_call 38; refine (HLE.out _ HX.out).mono ?_; rintro e w9 ⟨rfl, hb9⟩; have HB9 := Lib.hid (HBX.out.trans (hb9.mono HBX.out.size)); have HO9 := Lib.hid (owns_below HOW.out hb9); have hs9 := hb9.size; clear hb9) | (at_builtin; refine wpList_append_own _ rfl _ _ 26 rfl W4.heap.size 3 j0 (.int .i64 0) 1 8 Tryd.underlying26 hj0 hz0 hz1 hz2 rfl (by decide) _ _ _ rfl (HO9.out.alloc _) ⟨w9.heap.size, 0, none⟩ 1 1 [.int .i64 (m : Int)] rfl rfl (cell_one_new _ _ _) (by simp [Value.oneCell']) (by unfold maxLen; omega) (by omega) (by simp; omega) ?_; intro v' w3 hown' hgrow _))
          go_roundw
          case rel =>
            refine ⟨i + 1, by omega, by go_num, ?_, ?_⟩
            · have hal := (Below.refl w9.heap.size w9).alloc (Nat.le_refl _) (.cells #[.int .i64 (m : Int)] 3)
              exact HB9.out.trans ((hal.mono HB9.out.size).trans ⟨hgrow.os, hgrow.tape, hgrow.output, hgrow.size, fun b hb => hgrow.block b (by rw [World.size_alloc]; omega) (fun e => by have := (HO9.out.lt b e.symm).1; omega)⟩)
            · rw [repL_succ, show cellsI (repL i m ++ [(m : Int)]) = cellsI (repL i m) ++ [.int .i64 (m : Int)] by simp]
              exact hown'
          case measure => simp [intOf]; omega
        · obtain rfl : i = x2.length := by omega
          have hltz : ¬ (x2.length : Int) < (x2.length : Int) := by omega
          have ho : wr.ownsRow W4.heap.size 3 1 (.slice ar x2.length Cr) (repL x2.length m).length (cellsI (repL x2.length m)) := by rw [repL_len]; exact HOW.out
          have hat := (OwnI.of_owns ho (fun y hy => by unfold repL at hy; rw [List.mem_map] at hy; obtain ⟨_, _, rfl⟩ := hy; exact wf_int (by omega) (by omega)) (fun b hb => (HOW.out.lt b hb).2)).at
          have HAT0 := Lib.hid hat
          clear ho hat HOW HBX hsz
          go_wp2
          go_loopw [10, 12] (fun sv iv wx => ∃ (i : Nat) (S : List Int), i ≤ L.length ∧ iv = .int .i64 i ∧ Under r0 r1 S x2 ∧ (∀ q (hq : q < L.length), q < i → Lq r1 (nextF x2 L[q].toNat) (nextF S L[q].toNat) = true) ∧ Ks w [.ints (.slice a3L (L).length C3L) (L), .ints (.slice a2L (L).length C2L) (L), .box (B + 1) (.slice a1 r1.length C1) r1, .box (B) (.slice a0 r0.length C0) r0, .ord (.slice a1 r1.length C1) r1, .ord (.slice a0 r0.length C0) r0, .ints (.slice ax2 x2.length Cx2) x2] wx ∧ IntsAt wx sv S) (fun _ iv _ => L.length - (intOf iv).toNat)
          case atStart => exact ⟨0, _, Nat.zero_le _, rfl, HU0.out, fun q hq h => absurd h (Nat.not_lt_zero _), HX.out, HAT0.out⟩
          case round =>
            obtain ⟨i, S, hi2, rfl, hus, hall, hh, hs⟩ := hrel
            have HJ := Lib.hid hh
            have HUS := Lib.hid hus
            have HALL := Lib.hid hall
            obtain ⟨as0, Cs0, rfl, hCs0, _⟩ := id hs
            have HS := Lib.hid hs
            clear hus hall hh hs HX HAT0
            have hl3 := HRES0.out
            by_cases hil : i < L.length
            · have hiz : (i : Int) < (L.length : Int) := by omega
              obtain ⟨a, ea, ha⟩ := HAT.out i hil
              have HA := Lib.hid ea
              have har : a < r0.length := by rw [← HMV.out.len]; exact ha
              have haz : (a : Int) < (x2.length : Int) := by omega
              obtain ⟨s1, s2, s3, s4, s5⟩ := steps_next HMV.out HUS.out har
              have hfa := (HMV.out.at' a ha).1
              obtain ⟨bl, ol, e1, hcl⟩ := (HJ.out.ints 1 rfl).get hil
              cases e1
              obtain ⟨bx, ox, e2, hcx⟩ := (HJ.out.ints 6 rfl).get ha
              cases e2
              rw [ea] at hcl
              rw [hfa] at hcx
              obtain ⟨fa, hfe⟩ : ∃ fa, nextF x2 a = fa := ⟨_, rfl⟩
              rw [hfe] at hcx s1 s2 s3 s4 s5
              have HFE := Lib.hid hfe
              clear hfe
              have hcS := implStep_any (.slice a0 r0.length C0) (.slice a1 r1.length C1) r0 r1 (a : Int) (fa : Int) wr.drew (HJ.out.drew.rows 3 rfl) (HJ.out.drew.rows 2 rfl) (HTT.out.below HJ.out.drew.below) HB0.out HB1.out
              rw [s1] at hcS
              generalize stepL r0 r1 (a : Int) (fa : Int) = T at hcS s2 s3 s4 s5
              have HJO := Lib.hid s2
              have HUN := Lib.hid s3
              have HUP := Lib.hid s4
              have HTOP := Lib.hid s5
              clear s1 s2 s3 s4 s5 hfa ea
              obtain ⟨sv, hsv⟩ : ∃ sv, Value.slice as0 S.length Cs0 = sv := ⟨_, rfl⟩
              have hc0 := (HJ.out.cell 3 rfl)
              have hc1 := (HJ.out.cell 2 rfl)
              go_wp2
              rw [hsv] at HS ⊢
              clear hsv
              refine wp_region_held_drew (S := fun W' : World => W'.cell? ⟨B, 0, none⟩ = some (.slice a0 r0.length C0) ∧ W'.cell? ⟨B + 1, 0, none⟩ = some (.slice a1 r1.length C1) ∧ W'.cell? ⟨bl, ol + i, none⟩ = some (.int .i64 (a : Int)) ∧ W'.cell? ⟨bx, ox + a, none⟩ = some (.int .i64 (fa : Int)) ∧ True) (by kernel_rfl) (⟨hc0, hc1, hcl, hcx, trivial⟩) (fun hHeld => ?_)
              refine wpAnyH_take (i := 0) (v := .agg #[.slice a0 r0.length C0]) rfl (by kernel_rfl) (by kernel_rfl) (by kernel_rfl) (fun _ _ _ h => h) (Or.inl ⟨by rfl, ?_⟩) (by assumption) ?_
              · (intro W hSw; obtain ⟨hs0, hs1, hs2, hs3, hsz⟩ := hSw; go_simp)
              try dsimp only [Act.put]
              refine wpAnyH_take (i := 1) (v := .agg #[.slice a1 r1.length C1]) rfl (by kernel_rfl) (by kernel_rfl) (by kernel_rfl) (fun _ _ _ h => h) (Or.inl ⟨by rfl, ?_⟩) (by assumption) ?_
              · (intro W hSw; obtain ⟨hs0, hs1, hs2, hs3, hsz⟩ := hSw; go_simp)
              try dsimp only [Act.put]
              refine wpAnyH_take (i := 2) (v := .slice (some ⟨bl, ol, none⟩) L.length C2L) rfl (by kernel_rfl) (by kernel_rfl) (by kernel_rfl) (fun _ _ _ h => h) (Or.inl ⟨by rfl, ?_⟩) (by assumption) ?_
              · (intro W hSw; obtain ⟨hs0, hs1, hs2, hs3, hsz⟩ := hSw; go_simp)
              try dsimp only [Act.put]
              refine wpAnyH_take (i := 3) (v := .int .i64 (i : Int)) rfl (by kernel_rfl) (by kernel_rfl) (by kernel_rfl) (fun _ _ _ h => h) (Or.inl ⟨by rfl, ?_⟩) (by assumption) ?_
              · (intro W hSw; obtain ⟨hs0, hs1, hs2, hs3, hsz⟩ := hSw; go_simp)
              try dsimp only [Act.put]
              refine wpAnyH_take (i := 4) (v := .pointer (some ⟨bl, ol + i, none⟩)) rfl (by kernel_rfl) (by kernel_rfl) (by kernel_rfl) (fun _ _ _ h => h) (Or.inl ⟨by rfl, ?_⟩) (by assumption) ?_
              · (intro W hSw; obtain ⟨hs0, hs1, hs2, hs3, hsz⟩ := hSw; go_simp)
              try dsimp only [Act.put]
              refine wpAnyH_take (i := 5) (v := .int .i64 (a : Int)) rfl (by kernel_rfl) (by kernel_rfl) (by kernel_rfl) (fun _ _ _ h => h) (Or.inl ⟨by rfl, ?_⟩) (by assumption) ?_
              · (intro W hSw; obtain ⟨hs0, hs1, hs2, hs3, hsz⟩ := hSw; go_simp)
              try dsimp only [Act.put]
              refine wpAnyH_take (i := 6) (v := .slice (some ⟨bx, ox, none⟩) x2.length Cx2) rfl (by kernel_rfl) (by kernel_rfl) (by kernel_rfl) (fun _ _ _ h => h) (Or.inl ⟨by rfl, ?_⟩) (by assumption) ?_
              · (intro W hSw; obtain ⟨hs0, hs1, hs2, hs3, hsz⟩ := hSw; go_simp)
              try dsimp only [Act.put]
              refine wpAnyH_take (i := 7) (v := .slice (some ⟨bl, ol, none⟩) L.length C2L) rfl (by kernel_rfl) (by kernel_rfl) (by kernel_rfl) (fun _ _ _ h => h) (Or.inl ⟨by rfl, ?_⟩) (by assumption) ?_
              · (intro W hSw; obtain ⟨hs0, hs1, hs2, hs3, hsz⟩ := hSw; go_simp)
              try dsimp only [Act.put]
              refine wpAnyH_take (i := 8) (v := .int .i64 (i : Int)) rfl (by kernel_rfl) (by kernel_rfl) (by kernel_rfl) (fun _ _ _ h => h) (Or.inl ⟨by rfl, ?_⟩) (by assumption) ?_
              · (intro W hSw; obtain ⟨hs0, hs1, hs2, hs3, hsz⟩ := hSw; go_simp)
              try dsimp only [Act.put]
              refine wpAnyH_take (i := 9) (v := .pointer (some ⟨bl, ol + i, none⟩)) rfl (by kernel_rfl) (by kernel_rfl) (by kernel_rfl) (fun _ _ _ h => h) (Or.inl ⟨by rfl, ?_⟩) (by assumption) ?_
              · (intro W hSw; obtain ⟨hs0, hs1, hs2, hs3, hsz⟩ := hSw; go_simp)
              try dsimp only [Act.put]
              refine wpAnyH_take (i := 10) (v := .int .i64 (a : Int)) rfl (by kernel_rfl) (by kernel_rfl) (by kernel_rfl) (fun _ _ _ h => h) (Or.inl ⟨by rfl, ?_⟩) (by assumption) ?_
              · (intro W hSw; obtain ⟨hs0, hs1, hs2, hs3, hsz⟩ := hSw; go_simp)
              try dsimp only [Act.put]
              refine wpAnyH_take (i := 11) (v := .pointer (some ⟨bx, ox + a, none⟩)) rfl (by kernel_rfl) (by kernel_rfl) (by kernel_rfl) (fun _ _ _ h => h) (Or.inl ⟨by rfl, ?_⟩) (by assumption) ?_
              · (intro W hSw; obtain ⟨hs0, hs1, hs2, hs3, hsz⟩ := hSw; go_simp)
              try dsimp only [Act.put]
              refine wpAnyH_take (i := 12) (v := .int .i64 (fa : Int)) rfl (by kernel_rfl) (by kernel_rfl) (by kernel_rfl) (fun _ _ _ h => h) (Or.inl ⟨by rfl, ?_⟩) (by assumption) ?_
              · (intro W hSw; obtain ⟨hs0, hs1, hs2, hs3, hsz⟩ := hSw; go_simp)
              try dsimp only [Act.put]
              refine wpAnyH_ready (rs := [13]) (by kernel_rfl) (by simp) ?_
              refine AllReadyH.cons rfl (fun K hK => ?_) ?_
              · go_simp
                go_at_call 44
                refine hcS.mono ?_
                clear hcS
                rintro e W7 ⟨v7, rfl, ho7, hb7⟩
                have H7 := Lib.hid ((HJ.out.drew.step hb7).push (i := .ints v7 T) ho7.at)
                have HSV := Lib.hid ((HS.out.below (below_drew wr _)).below hb7)
                obtain ⟨asx, Cs, rfl⟩ := ho7.form
                clear ho7
                have hd0 := (H7.out.cell 4 rfl)
                have hd1 := (H7.out.cell 3 rfl)
                have hdl : W7.cell? ⟨bl, ol + i, none⟩ = some (.int .i64 (a : Int)) := by rw [((below_drew wr _).trans hb7).cell (p := ⟨bl, ol + i, none⟩) (cell_lt hcl)]; exact hcl
                have hdx : W7.cell? ⟨bx, ox + a, none⟩ = some (.int .i64 (fa : Int)) := by rw [((below_drew wr _).trans hb7).cell (p := ⟨bx, ox + a, none⟩) (cell_lt hcx)]; exact hcx
                clear hb7
                go_wp2_with fail
                refine hK.out _ _ (⟨hd0, hd1, hdl, hdx, trivial⟩) (fun hHeld => ?_)
                clear hK K
                try dsimp only [Act.put]
                refine wpAnyH_take (i := 14) (v := .tuple #[.slice asx T.length Cs, .bool true]) rfl (by kernel_rfl) (by kernel_rfl) (by kernel_rfl) (fun _ _ _ h => h) (Or.inl ⟨by rfl, ?_⟩) (by assumption) ?_
                · (intro W hSw; obtain ⟨hs0, hs1, hs2, hs3, hsz⟩ := hSw; go_simp)
                try dsimp only [Act.put]
                refine wpAnyH_take (i := 15) (v := .slice asx T.length Cs) rfl (by kernel_rfl) (by kernel_rfl) (by kernel_rfl) (fun _ _ _ h => h) (Or.inl ⟨by rfl, ?_⟩) (by assumption) ?_
                · (intro W hSw; obtain ⟨hs0, hs1, hs2, hs3, hsz⟩ := hSw; go_simp)
                try dsimp only [Act.put]
                refine wpAnyH_take (i := 16) (v := .bool true) rfl (by kernel_rfl) (by kernel_rfl) (by kernel_rfl) (fun _ _ _ h => h) (Or.inl ⟨by rfl, ?_⟩) (by assumption) ?_
                · (intro W hSw; obtain ⟨hs0, hs1, hs2, hs3, hsz⟩ := hSw; go_simp)
                try dsimp only [Act.put]
                refine wpAnyH_ready (rs := [17]) (by kernel_rfl) (by simp) ?_
                refine AllReadyH.cons rfl (fun K hK => ?_) ?_
                · go_simp
                  refine hK.out _ _ (⟨hd0, hd1, hdl, hdx, trivial⟩) (fun hHeld => ?_)
                  clear hK K
                  try dsimp only [Act.put]
                  refine wpAnyH_ready (rs := [18]) (by kernel_rfl) (by simp) ?_
                  refine AllReadyH.cons rfl (fun K hK => ?_) ?_
                  · go_simp
                    refine hK.out _ _ (⟨hd0, hd1, hdl, hdx, trivial⟩) (fun hHeld => ?_)
                    clear hK K
                    try dsimp only [Act.put]
                    refine wpAnyH_done (by kernel_rfl) ?_ _
                    have hcJ := implFunJoin_any (.slice a0 r0.length C0) (.slice a1 r1.length C1) sv (.slice asx T.length Cs) r0 r1 S T W7 (H7.out.rows 4 rfl) (H7.out.rows 3 rfl) HSV.out (H7.out.ints 0 rfl) (HTT.out.below H7.out.below) HB0.out HB1.out
                    rw [HJO.out] at hcJ
                    clear hc0 hc1 hcl hcx
                    go_wp2_with (go_at_call 17; refine hcJ.mono ?_; clear hcJ; rintro e W8 ⟨v8, rfl, ho8, hb8⟩; have H8 := Lib.hid (H7.out.step hb8); have HS8 := Lib.hid ho8.at; clear ho8 hb8)
                    go_roundw
                    case rel =>
                      refine ⟨i + 1, _, by omega, by go_num, HUN.out, fun q hq hqi => ?_, ⟨H8.out.below, fun j hj => H8.out.all j (List.mem_cons_of_mem _ hj)⟩, HS8.out⟩
                      by_cases e : q = i
                      · subst e; rw [HA.out, Int.toNat_natCast, HFE.out]; exact HTOP.out
                      · obtain ⟨a', ea, ha'⟩ := HAT.out q hq
                        have := HALL.out q hq (by omega)
                        rw [ea, Int.toNat_natCast] at this ⊢
                        exact Lq.trans HMV.out.ok' this (HUP.out a' (by rw [← HMV.out.len]; exact ha'))
                    case measure => simp [intOf]; omega
                  exact AllReadyH.nil
                exact AllReadyH.nil
              exact AllReadyH.nil
            · obtain rfl : i = L.length := by omega
              have hiz : ¬ (L.length : Int) < (L.length : Int) := by omega
              obtain rfl := HDONE.out S HUS.out (fun q hq => HALL.out q hq hq)
              go_wp2_with (go_at_call 19; refine (sameInts_self _ _ _ _ HS.out (HJ.out.ints 6 rfl)).mono ?_; rintro e w9 ⟨rfl, hb9⟩; have H9 := Lib.hid (HJ.out.step hb9); clear hb9)
              go_ret
              exact ⟨rfl, H9.out.below⟩
end Go.Proofs.YtkomghohdhengaaDoor
