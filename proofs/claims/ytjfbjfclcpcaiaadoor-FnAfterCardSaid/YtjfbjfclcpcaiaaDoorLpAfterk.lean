/- The law FnAfter: functions one after the other are a function. -/
import Derived.Test.YtjfbjfclcpcaiaaDoorKsk
import Derived.Test.YtjfbjfclcpcaiaaDoorDrXk
import Derived.Test.YtjfbjfclcpcaiaaDoorAfterQk
import Derived.Test.YtjfbjfclcpcaiaaDoorCountUk
import Derived.Test.YtjfbjfclcpcaiaaDoorPb24
import Derived.Test.YtjfbjfclcpcaiaaDoorPb20
namespace Go.Proofs.YtjfbjfclcpcaiaaDoor
open Go.RowKit Go.Deep Go.Shelf

theorem after_len (rows rows' rows2 : Rows2) (f g : List Int) (hf : f.length ≤ 200) : (afterL rows rows' rows2 f g).length ≤ 1048576 := by
  unfold afterL
  split
  · rw [afterN_length]; omega
  · exact Nat.zero_le _

set_option maxRecDepth 100000 in
set_option maxHeartbeats 16000000 in
theorem lawAfterP (v : Value) (w : World) (hv : CodeAt w.heap.size w v) (hT : Tab w) : Calls Tryd.prog 8 #[v] w (SaysN true w) := by
  have hdraw := drawAfter_any v w hv
  obtain ⟨a, n, C, rfl, hnC, hCm, _⟩ := hv
  unfold maxLen at hCm
  have HTT := Lib.hid hT
  clear hT
  by_cases hn : 1048576 < n
  · have hz : (1048576 : Int) < (n : Int) := by omega
    clear hdraw
    go_enter Tryd.func8, Tryd.ntmps8
    go_wp2
    go_ret
    exact ⟨rfl, Below.refl _ _⟩
  · have hz : ¬ (1048576 : Int) < (n : Int) := by omega
    go_enter Tryd.func8, Tryd.ntmps8
    go_upto_region 4 with (go_at_call 40; refine hdraw.mono ?_; clear hdraw; rintro e w1 ⟨r0, u0, r1, u1, r2, u2, x3, ux3, x4, ux4, rfl, hr0, hr1, hr2, hr3, hr4, hk0, hk1, hk2, hk3, hk4, hb⟩; obtain ⟨a0, C0, rfl⟩ := hr0.form; obtain ⟨a1, C1, rfl⟩ := hr1.form; obtain ⟨a2, C2, rfl⟩ := hr2.form; obtain ⟨ax3, Cx3, rfl⟩ := hr3.form; obtain ⟨ax4, Cx4, rfl⟩ := hr4.form; have HBW := Lib.hid hb; have HR0 := Lib.hid hr0.at; have HR1 := Lib.hid hr1.at; have HR2 := Lib.hid hr2.at; have HR3 := Lib.hid hr3.at; have HR4 := Lib.hid hr4.at; clear hb hr0 hr1 hr2 hr3 hr4)
    have HB0 := Lib.hid (show bulk r0 ≤ 1048576 by omega)
    have HB1 := Lib.hid (show bulk r1 ≤ 1048576 by omega)
    have HB2 := Lib.hid (show bulk r2 ≤ 1048576 by omega)
    have HL3 := Lib.hid (show x3.length ≤ 200 from hk3)
    have HL4 := Lib.hid (show x4.length ≤ 200 from hk4)
    clear hk0 hk1 hk2 hk3 hk4
    have H0 := Lib.hid (((((((Ks.start w).step HBW.out).push (i := .ints (.slice ax3 x3.length Cx3) x3) HR3.out).push (i := .ints (.slice ax4 x4.length Cx4) x4) HR4.out).push (i := .ord (.slice a0 r0.length C0) r0) HR0.out).push (i := .ord (.slice a1 r1.length C1) r1) HR1.out).push (i := .ord (.slice a2 r2.length C2) r2) HR2.out)
    have HX0 := Lib.hid (H0.out.box (H0.out.ord 2 rfl))
    have HX1 := Lib.hid (HX0.out.box (HX0.out.ord 2 rfl))
    have HX2 := Lib.hid (HX1.out.box (HX1.out.ord 2 rfl))
    have H1 : Hid (Ks w [.box (w1.heap.size + 2) (.slice a2 r2.length C2) r2, .box (w1.heap.size + 1) (.slice a1 r1.length C1) r1, .box (w1.heap.size) (.slice a0 r0.length C0) r0, .ord (.slice a2 r2.length C2) r2, .ord (.slice a1 r1.length C1) r1, .ord (.slice a0 r0.length C0) r0, .ints (.slice ax4 x4.length Cx4) x4, .ints (.slice ax3 x3.length Cx3) x3] (((w1.alloc (.cells #[.slice a0 r0.length C0] 25)).alloc (.cells #[.slice a1 r1.length C1] 25)).alloc (.cells #[.slice a2 r2.length C2] 25))) := Lib.hid (by have h := HX2.out; (try simp only [World.size_alloc] at h); exact h)
    clear H0 HX0 HX1 HX2 HR0 HR1 HR2 HR3 HR4 HBW
    generalize (((w1.alloc (.cells #[.slice a0 r0.length C0] 25)).alloc (.cells #[.slice a1 r1.length C1] 25)).alloc (.cells #[.slice a2 r2.length C2] 25)) = W1 at H1 ⊢
    generalize w1.heap.size = B at H1 ⊢
    have hc0 := H1.out.cell 2 rfl
    have hc1 := H1.out.cell 1 rfl
    have hc2 := H1.out.cell 0 rfl
    have hci := implAfter_any (.slice a0 r0.length C0) (.slice a1 r1.length C1) (.slice a2 r2.length C2) (.slice ax3 x3.length Cx3) (.slice ax4 x4.length Cx4) r0 r1 r2 x3 x4 W1 (H1.out.rows 2 rfl) (H1.out.rows 1 rfl) (H1.out.rows 0 rfl) (H1.out.ints 7 rfl) (H1.out.ints 6 rfl) (HTT.out.below H1.out.below) HB0.out HB1.out HB2.out
    go_upto_region 5 with (go_at_call 41; refine hci.mono ?_; clear hci; rintro e W2 ⟨v2, rfl, ho, hb⟩; have H2 := Lib.hid ((H1.out.step hb).push (i := .ints v2 (afterL r0 r1 r2 x3 x4)) ho.at); obtain ⟨a2L, C2L, rfl⟩ := ho.form; clear ho hb)
    clear hc0 hc1 hc2
    have hc0 := H2.out.cell 3 rfl
    have hc1 := H2.out.cell 2 rfl
    have hc2 := H2.out.cell 1 rfl
    have hcs := specAfter_any (.slice a0 r0.length C0) (.slice a1 r1.length C1) (.slice a2 r2.length C2) (.slice ax3 x3.length Cx3) (.slice ax4 x4.length Cx4) r0 r1 r2 x3 x4 W2 (H2.out.rows 3 rfl) (H2.out.rows 2 rfl) (H2.out.rows 1 rfl) (H2.out.ints 8 rfl) (H2.out.ints 7 rfl) HB0.out HB1.out HB2.out
    go_upto_region 6 with (go_at_call 42; refine hcs.mono ?_; clear hcs; rintro e W3 ⟨v3, rfl, ho, hb⟩; have H3 := Lib.hid ((H2.out.step hb).push (i := .ints v3 (afterL r0 r1 r2 x3 x4)) ho.at); obtain ⟨a3L, C3L, rfl⟩ := ho.form; clear ho hb)
    clear hc0 hc1 hc2
    clear H1 H2
    have HFACT := Lib.hid (fact_after (rows := r0) (rows' := r1) (rows2 := r2) (f := x3) (g := x4))
    have HRES0 := Lib.hid (show (afterL r0 r1 r2 x3 x4).length ≤ 1048576 by exact after_len r0 r1 r2 x3 x4 HL3.out)
    have hres0 := HRES0.out
    cases hq : afterOk r0 r1 r2 x3 x4 with
    | false =>
      clear HFACT hq
      go_wp2_with (first | (go_at_call 43; refine (sameInts_self (.slice a2L _ C2L) (.slice a3L _ C3L) (afterL r0 r1 r2 x3 x4) _ (H3.out.ints 1 rfl) (H3.out.ints 0 rfl)).mono ?_; rintro e W4 ⟨rfl, hb⟩; have H4 := Lib.hid (H3.out.step hb); clear hb H3) | (go_at_call 43; refine (sameInts_self (.slice a2L _ C2L) (.slice a3L _ C3L) (afterL r0 r1 r2 x3 x4) _ (H4.out.ints 1 rfl) (H4.out.ints 0 rfl)).mono ?_; rintro e W5 ⟨rfl, hb⟩; have H5 := Lib.hid (H4.out.step hb); clear hb H4))
      go_ret
      exact ⟨rfl, H5.out.below⟩
    | true =>
      obtain ⟨f1, f2, f3⟩ := HFACT.out hq
      have hlen2 : r2.length ≤ 200 := by
        unfold afterOk at hq
        rw [Bool.and_eq_true] at hq
        exact (mono_v hq.2).ok'.len.2
      have F1 := Lib.hid f1
      have F2 := Lib.hid f2
      have F3 := Lib.hid f3
      clear HFACT hq f1 f2 f3
      generalize hL : afterL r0 r1 r2 x3 x4 = L at H3 HRES0 hres0 F1 F2 F3 ⊢
      clear hL
      go_upto_region 8 with (go_at_call 43; refine (sameInts_self (.slice a2L _ C2L) (.slice a3L _ C3L) (L) _ (H3.out.ints 1 rfl) (H3.out.ints 0 rfl)).mono ?_; rintro e W4 ⟨rfl, hb⟩; have H4 := Lib.hid (H3.out.step hb); clear hb H3)
      have hc0 := (H4.out.cell 4 rfl)
      have hc2 := (H4.out.cell 2 rfl)
      have hcu := countUp_any r2.length W4.drew (by omega)
      refine wp_region_held_drew (S := fun W' : World => W'.cell? ⟨B, 0, none⟩ = some (.slice a0 r0.length C0) ∧ W'.cell? ⟨B + 2, 0, none⟩ = some (.slice a2 r2.length C2) ∧ True) (by kernel_rfl) (⟨hc0, hc2, trivial⟩) (fun hHeld => ?_)
      refine wpAnyH_take (i := 0) (v := .agg #[.slice a0 r0.length C0]) rfl (by kernel_rfl) (by kernel_rfl) (by kernel_rfl) (fun _ _ _ h => h) (Or.inl ⟨by rfl, ?_⟩) (by assumption) ?_
      · (intro W hSw; obtain ⟨hs0, hs1, hsz⟩ := hSw; go_simp)
      try dsimp only [Act.put]
      refine wpAnyH_take (i := 1) (v := .agg #[.slice a2 r2.length C2]) rfl (by kernel_rfl) (by kernel_rfl) (by kernel_rfl) (fun _ _ _ h => h) (Or.inl ⟨by rfl, ?_⟩) (by assumption) ?_
      · (intro W hSw; obtain ⟨hs0, hs1, hsz⟩ := hSw; go_simp)
      try dsimp only [Act.put]
      refine wpAnyH_take (i := 2) (v := .agg #[.slice a2 r2.length C2]) rfl (by kernel_rfl) (by kernel_rfl) (by kernel_rfl) (fun _ _ _ h => h) (Or.inl ⟨by rfl, ?_⟩) (by assumption) ?_
      · (intro W hSw; obtain ⟨hs0, hs1, hsz⟩ := hSw; go_simp)
      try dsimp only [Act.put]
      refine wpAnyH_take (i := 3) (v := .slice a2L L.length C2L) rfl (by kernel_rfl) (by kernel_rfl) (by kernel_rfl) (fun _ _ _ h => h) (Or.inl ⟨by rfl, ?_⟩) (by assumption) ?_
      · (intro W hSw; obtain ⟨hs0, hs1, hsz⟩ := hSw; go_simp)
      try dsimp only [Act.put]
      refine wpAnyH_take (i := 4) (v := .pointer (some ⟨B + 2, 0, none⟩)) rfl (by kernel_rfl) (by kernel_rfl) (by kernel_rfl) (fun _ _ _ h => h) (Or.inl ⟨by rfl, ?_⟩) (by assumption) ?_
      · (intro W hSw; obtain ⟨hs0, hs1, hsz⟩ := hSw; go_simp)
      try dsimp only [Act.put]
      refine wpAnyH_take (i := 5) (v := .slice a2 r2.length C2) rfl (by kernel_rfl) (by kernel_rfl) (by kernel_rfl) (fun _ _ _ h => h) (Or.inl ⟨by rfl, ?_⟩) (by assumption) ?_
      · (intro W hSw; obtain ⟨hs0, hs1, hsz⟩ := hSw; go_simp)
      try dsimp only [Act.put]
      refine wpAnyH_take (i := 6) (v := .int .i64 (r2.length : Int)) rfl (by kernel_rfl) (by kernel_rfl) (by kernel_rfl) (fun _ _ _ h => h) (Or.inl ⟨by rfl, ?_⟩) (by assumption) ?_
      · (intro W hSw; obtain ⟨hs0, hs1, hsz⟩ := hSw; go_simp)
      try dsimp only [Act.put]
      refine wpAnyH_ready (rs := [7]) (by kernel_rfl) (by simp) ?_
      refine AllReadyH.cons rfl (fun K hK => ?_) ?_
      · go_simp
        go_at_call 44
        refine hcu.mono ?_
        clear hcu
        rintro e W5 ⟨v5, rfl, ho5, hb5⟩
        have H5 := Lib.hid ((H4.out.drew.step hb5).push (i := .ints v5 (upL r2.length)) ho5.at)
        obtain ⟨a5, C5, rfl⟩ := ho5.form
        clear ho5 hb5
        have hd0 := (H5.out.cell 5 rfl)
        have hd2 := (H5.out.cell 3 rfl)
        have hcF := implAfter_any (.slice a0 r0.length C0) (.slice a2 r2.length C2) (.slice a2 r2.length C2) (.slice a2L L.length C2L) (.slice a5 (upL r2.length).length C5) r0 r2 r2 L (upL r2.length) W5 (H5.out.rows 5 rfl) (H5.out.rows 3 rfl) (H5.out.rows 3 rfl) (H5.out.ints 2 rfl) (H5.out.ints 0 rfl) (HTT.out.below H5.out.below) HB0.out HB2.out HB2.out
        rw [F1.out, F2.out] at hcF
        go_wp2_with fail
        refine hK.out _ _ (⟨hd0, hd2, trivial⟩) (fun hHeld => ?_)
        clear hK K
        try dsimp only [Act.put]
        refine wpAnyH_ready (rs := [8]) (by kernel_rfl) (by simp) ?_
        refine AllReadyH.cons rfl (fun K hK => ?_) ?_
        · go_simp
          go_at_call 41
          refine hcF.mono ?_
          clear hcF
          rintro e W6 ⟨v6, rfl, ho6, hb6⟩
          have H6 := Lib.hid ((H5.out.step hb6).push (i := .ints v6 L) ho6.at)
          obtain ⟨a6, C6, rfl⟩ := ho6.form
          clear ho6 hb6
          have he0 := (H6.out.cell 6 rfl)
          have he2 := (H6.out.cell 4 rfl)
          go_wp2_with fail
          refine hK.out _ _ (⟨he0, he2, trivial⟩) (fun hHeld => ?_)
          clear hK K
          try dsimp only [Act.put]
          refine wpAnyH_take (i := 9) (v := .tuple #[.slice a6 L.length C6, .bool true]) rfl (by kernel_rfl) (by kernel_rfl) (by kernel_rfl) (fun _ _ _ h => h) (Or.inl ⟨by rfl, ?_⟩) (by assumption) ?_
          · (intro W hSw; obtain ⟨hs0, hs1, hsz⟩ := hSw; go_simp)
          try dsimp only [Act.put]
          refine wpAnyH_take (i := 10) (v := .slice a6 L.length C6) rfl (by kernel_rfl) (by kernel_rfl) (by kernel_rfl) (fun _ _ _ h => h) (Or.inl ⟨by rfl, ?_⟩) (by assumption) ?_
          · (intro W hSw; obtain ⟨hs0, hs1, hsz⟩ := hSw; go_simp)
          try dsimp only [Act.put]
          refine wpAnyH_take (i := 11) (v := .bool true) rfl (by kernel_rfl) (by kernel_rfl) (by kernel_rfl) (fun _ _ _ h => h) (Or.inl ⟨by rfl, ?_⟩) (by assumption) ?_
          · (intro W hSw; obtain ⟨hs0, hs1, hsz⟩ := hSw; go_simp)
          try dsimp only [Act.put]
          refine wpAnyH_ready (rs := [12]) (by kernel_rfl) (by simp) ?_
          refine AllReadyH.cons rfl (fun K hK => ?_) ?_
          · go_simp
            refine hK.out _ _ (⟨he0, he2, trivial⟩) (fun hHeld => ?_)
            clear hK K
            try dsimp only [Act.put]
            refine wpAnyH_ready (rs := [13]) (by kernel_rfl) (by simp) ?_
            refine AllReadyH.cons rfl (fun K hK => ?_) ?_
            · go_simp
              refine hK.out _ _ (⟨he0, he2, trivial⟩) (fun hHeld => ?_)
              clear hK K
              try dsimp only [Act.put]
              refine wpAnyH_done (by kernel_rfl) ?_ _
              have hcM := fun W (h : Ks w (.ints (.slice a6 L.length C6) L :: .ints (.slice a5 (upL r2.length).length C5) (upL r2.length) :: [.ints (.slice a3L (L).length C3L) (L), .ints (.slice a2L (L).length C2L) (L), .box (B + 2) (.slice a2 r2.length C2) r2, .box (B + 1) (.slice a1 r1.length C1) r1, .box (B) (.slice a0 r0.length C0) r0, .ord (.slice a2 r2.length C2) r2, .ord (.slice a1 r1.length C1) r1, .ord (.slice a0 r0.length C0) r0, .ints (.slice ax4 x4.length Cx4) x4, .ints (.slice ax3 x3.length Cx3) x3]) W) => implMono_any (.slice a0 r0.length C0) (.slice a2 r2.length C2) (.slice a2L L.length C2L) r0 r2 L W (h.rows 6 rfl) (h.rows 4 rfl) (h.ints 3 rfl) (HTT.out.below h.below) HB0.out HB2.out
              simp only [F3.out] at hcM
              go_wp2_with (first | (go_at_call 43; refine (sameInts_self (.slice a6 _ C6) (.slice a2L _ C2L) L _ (H6.out.ints 0 rfl) (H6.out.ints 3 rfl)).mono ?_; rintro e W7 ⟨rfl, hb7⟩; have H7 := Lib.hid (H6.out.step hb7); have hf0 := (H7.out.cell 6 rfl); have hf2 := (H7.out.cell 4 rfl); clear hb7) | (go_at_call 37; refine (hcM _ H7.out).mono ?_; rintro e W8 ⟨rfl, hb8⟩; have H8 := Lib.hid (H7.out.step hb8); clear hb8))
              go_ret
              exact ⟨rfl, H8.out.below⟩
            exact AllReadyH.nil
          exact AllReadyH.nil
        exact AllReadyH.nil
      exact AllReadyH.nil
end Go.Proofs.YtjfbjfclcpcaiaaDoor
