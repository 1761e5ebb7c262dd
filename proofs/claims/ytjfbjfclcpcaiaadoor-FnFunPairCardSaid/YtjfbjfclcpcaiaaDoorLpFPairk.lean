/- The law FnFunPair: pairs of functions are functions to pairs. -/
import Derived.Test.YtjfbjfclcpcaiaaDoorKsk
import Derived.Test.YtjfbjfclcpcaiaaDoorDrYk
import Derived.Test.YtjfbjfclcpcaiaaDoorAfterQk
import Derived.Test.YtjfbjfclcpcaiaaDoorPb24
import Derived.Test.YtjfbjfclcpcaiaaDoorPb21
import Derived.Test.YtjfbjfclcpcaiaaDoorPb35
namespace Go.Proofs.YtjfbjfclcpcaiaaDoor
open Go.RowKit Go.Deep Go.Shelf

theorem pair_len (rows rows' rows2 : Rows2) (f g : List Int) (hf : f.length ≤ 200) : (pairL rows rows' rows2 f g).length ≤ 1048576 := by
  unfold pairL
  split
  · rw [pairN_length]; omega
  · exact Nat.zero_le _

set_option maxRecDepth 100000 in
set_option maxHeartbeats 16000000 in
theorem lawFPairP (v : Value) (w : World) (hv : CodeAt w.heap.size w v) (hT : Tab w) : Calls Tryd.prog 12 #[v] w (SaysN true w) := by
  have hdraw := drawPair_any v w hv
  obtain ⟨a, n, C, rfl, hnC, hCm, _⟩ := hv
  unfold maxLen at hCm
  have HTT := Lib.hid hT
  clear hT
  by_cases hn : 1048576 < n
  · have hz : (1048576 : Int) < (n : Int) := by omega
    clear hdraw
    go_enter Tryd.func12, Tryd.ntmps12
    go_wp2
    go_ret
    exact ⟨rfl, Below.refl _ _⟩
  · have hz : ¬ (1048576 : Int) < (n : Int) := by omega
    go_enter Tryd.func12, Tryd.ntmps12
    go_upto_region 4 with (go_at_call 54; refine hdraw.mono ?_; clear hdraw; rintro e w1 ⟨r0, u0, r1, u1, r2, u2, x3, ux3, x4, ux4, rfl, hr0, hr1, hr2, hr3, hr4, hk0, hk1, hk2, hk3, hk4, hb⟩; obtain ⟨a0, C0, rfl⟩ := hr0.form; obtain ⟨a1, C1, rfl⟩ := hr1.form; obtain ⟨a2, C2, rfl⟩ := hr2.form; obtain ⟨ax3, Cx3, rfl⟩ := hr3.form; obtain ⟨ax4, Cx4, rfl⟩ := hr4.form; have HBW := Lib.hid hb; have HR0 := Lib.hid hr0.at; have HR1 := Lib.hid hr1.at; have HR2 := Lib.hid hr2.at; have HR3 := Lib.hid hr3.at; have HR4 := Lib.hid hr4.at; clear hb hr0 hr1 hr2 hr3 hr4)
    have HB0 := Lib.hid (show bulk r0 ≤ 1048576 by omega)
    have HB1 := Lib.hid (show bulk r1 ≤ 1048576 by omega)
    have HB2 := Lib.hid (show bulk r2 ≤ 1048576 by omega)
    have HL3 := Lib.hid (show x3.length ≤ 200 from hk3)
    have HL4 := Lib.hid (show x4.length ≤ 200 from hk4)
    clear hk0 hk1 hk2 hk3 hk4
    have H0 := Lib.hid (((((((Ks.start w).step HBW.out).push (i := .ints (.slice ax3 x3.length Cx3) x3) HR3.out).push (i := .ints (.slice ax4 x4.length Cx4) x4) HR4.out).push (i := .ord (.slice a0 r0.length C0) r0) HR0.out).push (i := .ord (.slice a1 r1.length C1) r1) HR1.out).push (i := .ord (.slice a2 r2.length C2) r2) HR2.out)
    have HX0 := Lib.hid (H0.out.box (H0.out.ord 2 rfl))
    have HX1 := Lib.hid (HX0.out.box (HX0.out.ord 2 rfl))
    have HX2 := Lib.hid (HX1.out.box (HX1.out.ord 2 rfl))
    have H1 : Hid (Ks w [.box (w1.heap.size + 2) (.slice a2 r2.length C2) r2, .box (w1.heap.size + 1) (.slice a1 r1.length C1) r1, .box (w1.heap.size) (.slice a0 r0.length C0) r0, .ord (.slice a2 r2.length C2) r2, .ord (.slice a1 r1.length C1) r1, .ord (.slice a0 r0.length C0) r0, .ints (.slice ax4 x4.length Cx4) x4, .ints (.slice ax3 x3.length Cx3) x3] (((w1.alloc (.cells #[.slice a0 r0.length C0] 25)).alloc (.cells #[.slice a1 r1.length C1] 25)).alloc (.cells #[.slice a2 r2.length C2] 25))) := Lib.hid (by have h := HX2.out; (try simp only [World.size_alloc] at h); exact h)
    clear H0 HX0 HX1 HX2 HR0 HR1 HR2 HR3 HR4 HBW
    generalize (((w1.alloc (.cells #[.slice a0 r0.length C0] 25)).alloc (.cells #[.slice a1 r1.length C1] 25)).alloc (.cells #[.slice a2 r2.length C2] 25)) = W1 at H1 ⊢
    generalize w1.heap.size = B at H1 ⊢
    have hc0 := H1.out.cell 2 rfl
    have hc1 := H1.out.cell 1 rfl
    have hc2 := H1.out.cell 0 rfl
    have hci := implPair_any (.slice a0 r0.length C0) (.slice a1 r1.length C1) (.slice a2 r2.length C2) (.slice ax3 x3.length Cx3) (.slice ax4 x4.length Cx4) r0 r1 r2 x3 x4 W1 (H1.out.rows 2 rfl) (H1.out.rows 1 rfl) (H1.out.rows 0 rfl) (H1.out.ints 7 rfl) (H1.out.ints 6 rfl) (HTT.out.below H1.out.below) HB0.out HB1.out HB2.out
    go_upto_region 5 with (go_at_call 55; refine hci.mono ?_; clear hci; rintro e W2 ⟨v2, rfl, ho, hb⟩; have H2 := Lib.hid ((H1.out.step hb).push (i := .ints v2 (pairL r0 r1 r2 x3 x4)) ho.at); obtain ⟨a2L, C2L, rfl⟩ := ho.form; clear ho hb)
    clear hc0 hc1 hc2
    have hc0 := H2.out.cell 3 rfl
    have hc1 := H2.out.cell 2 rfl
    have hc2 := H2.out.cell 1 rfl
    have hcs := specPair_any (.slice a0 r0.length C0) (.slice a1 r1.length C1) (.slice a2 r2.length C2) (.slice ax3 x3.length Cx3) (.slice ax4 x4.length Cx4) r0 r1 r2 x3 x4 W2 (H2.out.rows 3 rfl) (H2.out.rows 2 rfl) (H2.out.rows 1 rfl) (H2.out.ints 8 rfl) (H2.out.ints 7 rfl) HB0.out HB1.out HB2.out
    go_upto_region 6 with (go_at_call 56; refine hcs.mono ?_; clear hcs; rintro e W3 ⟨v3, rfl, ho, hb⟩; have H3 := Lib.hid ((H2.out.step hb).push (i := .ints v3 (pairL r0 r1 r2 x3 x4)) ho.at); obtain ⟨a3L, C3L, rfl⟩ := ho.form; clear ho hb)
    clear hc0 hc1 hc2
    clear H1 H2
    have HFACT := Lib.hid (fact_pair (rows := r0) (rows' := r1) (rows2 := r2) (f := x3) (g := x4))
    have HRES0 := Lib.hid (show (pairL r0 r1 r2 x3 x4).length ≤ 1048576 by exact pair_len r0 r1 r2 x3 x4 HL3.out)
    have hres0 := HRES0.out
    cases hq : pairOk r0 r1 r2 x3 x4 with
    | false =>
      clear HFACT hq
      go_wp2_with (first | (go_at_call 43; refine (sameInts_self (.slice a2L _ C2L) (.slice a3L _ C3L) (pairL r0 r1 r2 x3 x4) _ (H3.out.ints 1 rfl) (H3.out.ints 0 rfl)).mono ?_; rintro e W4 ⟨rfl, hb⟩; have H4 := Lib.hid (H3.out.step hb); clear hb H3) | (go_at_call 43; refine (sameInts_self (.slice a2L _ C2L) (.slice a3L _ C3L) (pairL r0 r1 r2 x3 x4) _ (H4.out.ints 1 rfl) (H4.out.ints 0 rfl)).mono ?_; rintro e W5 ⟨rfl, hb⟩; have H5 := Lib.hid (H4.out.step hb); clear hb H4))
      go_ret
      exact ⟨rfl, H5.out.below⟩
    | true =>
      obtain ⟨f1, f2, f3⟩ := HFACT.out hq
      clear HFACT hq
      generalize hL : pairL r0 r1 r2 x3 x4 = L at H3 HRES0 hres0 f1 f2 f3 ⊢
      clear hL
      have F1 := Lib.hid f1
      have F2 := Lib.hid f2
      have F3 := Lib.hid f3
      clear f1 f2 f3
      go_upto_region 8 with (go_at_call 43; refine (sameInts_self (.slice a2L _ C2L) (.slice a3L _ C3L) (L) _ (H3.out.ints 1 rfl) (H3.out.ints 0 rfl)).mono ?_; rintro e W4 ⟨rfl, hb⟩; have H4 := Lib.hid (H3.out.step hb); clear hb H3)
      have hc0 := (H4.out.cell 4 rfl)
      have hc1 := (H4.out.cell 3 rfl)
      have hc2 := (H4.out.cell 2 rfl)
      have hcP := implPart_any (.slice a0 r0.length C0) (.slice a1 r1.length C1) (.slice a2 r2.length C2) (.slice a2L L.length C2L) r0 r1 r2 L W4 (H4.out.rows 4 rfl) (H4.out.rows 3 rfl) (H4.out.rows 2 rfl) (H4.out.ints 1 rfl) (HTT.out.below H4.out.below) HB0.out HB1.out HB2.out
      rw [F1.out, F2.out, F3.out] at hcP
      go_upto_region 9 with (go_at_call 57; refine hcP.mono ?_; clear hcP; rintro e W5 ⟨v5, y5, rfl, ho, ho', _, hb⟩; have H5 := Lib.hid (((H4.out.step hb).push (i := .ints v5 x3) ho.at).push (i := .ints y5 x4) ho'.at); obtain ⟨a5, C5, rfl⟩ := ho.form; obtain ⟨a6, C6, rfl⟩ := ho'.form; clear ho ho' hb)
      clear hc0 hc1 hc2 H4
      have hl3 := HL3.out
      have hl4 := HL4.out
      go_wp2_with (first | (go_at_call_of 43 (Value.slice a5 x3.length C5); refine (sameInts_self (.slice a5 x3.length C5) (.slice ax3 x3.length Cx3) x3 _ (H5.out.ints 1 rfl) (H5.out.ints 11 rfl)).mono ?_; rintro e W6 ⟨rfl, hb⟩; have H6 := Lib.hid (H5.out.step hb); clear hb) | (go_at_call_of 43 (Value.slice a6 x4.length C6); refine (sameInts_self (.slice a6 x4.length C6) (.slice ax4 x4.length Cx4) x4 _ (H6.out.ints 0 rfl) (H6.out.ints 10 rfl)).mono ?_; rintro e W7 ⟨rfl, hb⟩; have H7 := Lib.hid (H6.out.step hb); clear hb))
      go_ret
      exact ⟨rfl, H7.out.below⟩
end Go.Proofs.YtjfbjfclcpcaiaaDoor
