/- The law FnFunParts: functions to pairs are pairs of functions. -/
import Derived.Test.YtkomghohdhengaaDoorKsk
import Derived.Test.YtkomghohdhengaaDoorDrQk
import Derived.Test.YtkomghohdhengaaDoorFunsQk
import Derived.Test.YtkomghohdhengaaDoorPc24
import Derived.Test.YtkomghohdhengaaDoorPc35
namespace Go.Proofs.YtkomghohdhengaaDoor
open Go.RowKit Go.Deep Go.Shelf

theorem part1_len (rows rows' rows2 : Rows2) (f : List Int) (hf : f.length ≤ 200) : (part1 rows rows' rows2 f).length ≤ 1048576 := by
  unfold part1
  split
  · rw [quoN_length]; omega
  · exact Nat.zero_le _
theorem part2_len (rows rows' rows2 : Rows2) (f : List Int) (hf : f.length ≤ 200) : (part2 rows rows' rows2 f).length ≤ 1048576 := by
  unfold part2
  split
  · rw [remN_length]; omega
  · exact Nat.zero_le _

set_option maxRecDepth 100000 in
set_option maxHeartbeats 16000000 in
theorem lawFPartsP (v : Value) (w : World) (hv : CodeAt w.heap.size w v) (hT : Tab w) : Calls Tryd.prog 9 #[v] w (SaysN true w) := by
  have hdraw := drawParts_any v w hv
  obtain ⟨a, n, C, rfl, hnC, hCm, _⟩ := hv
  unfold maxLen at hCm
  have HTT := Lib.hid hT
  clear hT
  by_cases hn : 1048576 < n
  · have hz : (1048576 : Int) < (n : Int) := by omega
    clear hdraw
    go_enter Tryd.func9, Tryd.ntmps9
    go_wp2
    go_ret
    exact ⟨rfl, Below.refl _ _⟩
  · have hz : ¬ (1048576 : Int) < (n : Int) := by omega
    go_enter Tryd.func9, Tryd.ntmps9
    go_upto_region 4 with (go_at_call 45; refine hdraw.mono ?_; clear hdraw; rintro e w1 ⟨r0, u0, r1, u1, r2, u2, x3, ux3, rfl, hr0, hr1, hr2, hr3, hk0, hk1, hk2, hk3, hb⟩; obtain ⟨a0, C0, rfl⟩ := hr0.form; obtain ⟨a1, C1, rfl⟩ := hr1.form; obtain ⟨a2, C2, rfl⟩ := hr2.form; obtain ⟨ax3, Cx3, rfl⟩ := hr3.form; have HBW := Lib.hid hb; have HR0 := Lib.hid hr0.at; have HR1 := Lib.hid hr1.at; have HR2 := Lib.hid hr2.at; have HR3 := Lib.hid hr3.at; clear hb hr0 hr1 hr2 hr3)
    have HB0 := Lib.hid (show bulk r0 ≤ 1048576 by omega)
    have HB1 := Lib.hid (show bulk r1 ≤ 1048576 by omega)
    have HB2 := Lib.hid (show bulk r2 ≤ 1048576 by omega)
    have HL3 := Lib.hid (show x3.length ≤ 200 from hk3)
    clear hk0 hk1 hk2 hk3
    have H0 := Lib.hid ((((((Ks.start w).step HBW.out).push (i := .ints (.slice ax3 x3.length Cx3) x3) HR3.out).push (i := .ord (.slice a0 r0.length C0) r0) HR0.out).push (i := .ord (.slice a1 r1.length C1) r1) HR1.out).push (i := .ord (.slice a2 r2.length C2) r2) HR2.out)
    have HX0 := Lib.hid (H0.out.box (H0.out.ord 2 rfl))
    have HX1 := Lib.hid (HX0.out.box (HX0.out.ord 2 rfl))
    have HX2 := Lib.hid (HX1.out.box (HX1.out.ord 2 rfl))
    have H1 : Hid (Ks w [.box (w1.heap.size + 2) (.slice a2 r2.length C2) r2, .box (w1.heap.size + 1) (.slice a1 r1.length C1) r1, .box (w1.heap.size) (.slice a0 r0.length C0) r0, .ord (.slice a2 r2.length C2) r2, .ord (.slice a1 r1.length C1) r1, .ord (.slice a0 r0.length C0) r0, .ints (.slice ax3 x3.length Cx3) x3] (((w1.alloc (.cells #[.slice a0 r0.length C0] 25)).alloc (.cells #[.slice a1 r1.length C1] 25)).alloc (.cells #[.slice a2 r2.length C2] 25))) := Lib.hid (by have h := HX2.out; (try simp only [World.size_alloc] at h); exact h)
    clear H0 HX0 HX1 HX2 HR0 HR1 HR2 HR3 HBW
    generalize (((w1.alloc (.cells #[.slice a0 r0.length C0] 25)).alloc (.cells #[.slice a1 r1.length C1] 25)).alloc (.cells #[.slice a2 r2.length C2] 25)) = W1 at H1 ⊢
    generalize w1.heap.size = B at H1 ⊢
    have hc0 := H1.out.cell 2 rfl
    have hc1 := H1.out.cell 1 rfl
    have hc2 := H1.out.cell 0 rfl
    have hci := implPart_any (.slice a0 r0.length C0) (.slice a1 r1.length C1) (.slice a2 r2.length C2) (.slice ax3 x3.length Cx3) r0 r1 r2 x3 W1 (H1.out.rows 2 rfl) (H1.out.rows 1 rfl) (H1.out.rows 0 rfl) (H1.out.ints 6 rfl) (HTT.out.below H1.out.below) HB0.out HB1.out HB2.out
    go_upto_region 5 with (go_at_call 46; refine hci.mono ?_; clear hci; rintro e W2 ⟨v2, y2, rfl, ho, ho', _, hb⟩; have H2 := Lib.hid (((H1.out.step hb).push (i := .ints v2 (part1 r0 r1 r2 x3)) ho.at).push (i := .ints y2 (part2 r0 r1 r2 x3)) ho'.at); obtain ⟨a2L, C2L, rfl⟩ := ho.form; obtain ⟨a2M, C2M, rfl⟩ := ho'.form; clear ho ho' hb)
    clear hc0 hc1 hc2
    have hc0 := H2.out.cell 4 rfl
    have hc1 := H2.out.cell 3 rfl
    have hc2 := H2.out.cell 2 rfl
    have hcs := specPart_any (.slice a0 r0.length C0) (.slice a1 r1.length C1) (.slice a2 r2.length C2) (.slice ax3 x3.length Cx3) r0 r1 r2 x3 W2 (H2.out.rows 4 rfl) (H2.out.rows 3 rfl) (H2.out.rows 2 rfl) (H2.out.ints 8 rfl) HB0.out HB1.out HB2.out
    go_upto_region 6 with (go_at_call 47; refine hcs.mono ?_; clear hcs; rintro e W3 ⟨v3, y3, rfl, ho, ho', _, hb⟩; have H3 := Lib.hid (((H2.out.step hb).push (i := .ints v3 (part1 r0 r1 r2 x3)) ho.at).push (i := .ints y3 (part2 r0 r1 r2 x3)) ho'.at); obtain ⟨a3L, C3L, rfl⟩ := ho.form; obtain ⟨a3M, C3M, rfl⟩ := ho'.form; clear ho ho' hb)
    clear hc0 hc1 hc2
    clear H1 H2
    have HFACT := Lib.hid (fact_parts (rows := r0) (rows' := r1) (rows2 := r2) (f := x3))
    have HRES0 := Lib.hid (show (part1 r0 r1 r2 x3).length ≤ 1048576 by exact part1_len r0 r1 r2 x3 HL3.out)
    have HRES1 := Lib.hid (show (part2 r0 r1 r2 x3).length ≤ 1048576 by exact part2_len r0 r1 r2 x3 HL3.out)
    have hres0 := HRES0.out
    have hres1 := HRES1.out
    cases hq : partOk r0 r1 r2 x3 with
    | false =>
      clear HFACT hq
      go_wp2_with (first | (go_at_call_of 19 (Value.slice a2L (part1 r0 r1 r2 x3).length C2L); refine (sameInts_self (.slice a2L _ C2L) (.slice a3L _ C3L) (part1 r0 r1 r2 x3) _ (H3.out.ints 3 rfl) (H3.out.ints 1 rfl)).mono ?_; rintro e W4 ⟨rfl, hb⟩; have H4 := Lib.hid (H3.out.step hb); clear hb H3) | (go_at_call_of 19 (Value.slice a2M (part2 r0 r1 r2 x3).length C2M); refine (sameInts_self (.slice a2M _ C2M) (.slice a3M _ C3M) (part2 r0 r1 r2 x3) _ (H4.out.ints 2 rfl) (H4.out.ints 0 rfl)).mono ?_; rintro e W5 ⟨rfl, hb⟩; have H5 := Lib.hid (H4.out.step hb); clear hb H4) | (go_at_call_of 19 (Value.slice a2L (part1 r0 r1 r2 x3).length C2L); refine (sameInts_self (.slice a2L _ C2L) (.slice a3L _ C3L) (part1 r0 r1 r2 x3) _ (H5.out.ints 3 rfl) (H5.out.ints 1 rfl)).mono ?_; rintro e W6 ⟨rfl, hb⟩; have H6 := Lib.hid (H5.out.step hb); clear hb H5) | (go_at_call_of 19 (Value.slice a2M (part2 r0 r1 r2 x3).length C2M); refine (sameInts_self (.slice a2M _ C2M) (.slice a3M _ C3M) (part2 r0 r1 r2 x3) _ (H6.out.ints 2 rfl) (H6.out.ints 0 rfl)).mono ?_; rintro e W7 ⟨rfl, hb⟩; have H7 := Lib.hid (H6.out.step hb); clear hb H6))
      go_ret
      exact ⟨rfl, H7.out.below⟩
    | true =>
      obtain ⟨f1, f2⟩ := HFACT.out hq
      clear HFACT hq
      generalize hL1 : part1 r0 r1 r2 x3 = L1 at H3 HRES0 hres0 f1 f2 ⊢
      generalize hL2 : part2 r0 r1 r2 x3 = L2 at H3 HRES1 hres1 f1 f2 ⊢
      clear hL1 hL2
      have F1 := Lib.hid f1
      have F2 := Lib.hid f2
      clear f1 f2
      go_upto_region 8 with (first | (go_at_call_of 19 (Value.slice a2L (L1).length C2L); refine (sameInts_self (.slice a2L _ C2L) (.slice a3L _ C3L) (L1) _ (H3.out.ints 3 rfl) (H3.out.ints 1 rfl)).mono ?_; rintro e W4 ⟨rfl, hb⟩; have H4 := Lib.hid (H3.out.step hb); clear hb H3) | (go_at_call_of 19 (Value.slice a2M (L2).length C2M); refine (sameInts_self (.slice a2M _ C2M) (.slice a3M _ C3M) (L2) _ (H4.out.ints 2 rfl) (H4.out.ints 0 rfl)).mono ?_; rintro e W5 ⟨rfl, hb⟩; have H5 := Lib.hid (H4.out.step hb); clear hb H4))
      have hc0 := (H5.out.cell 6 rfl)
      have hc1 := (H5.out.cell 5 rfl)
      have hc2 := (H5.out.cell 4 rfl)
      have hcP := implPair_any (.slice a0 r0.length C0) (.slice a1 r1.length C1) (.slice a2 r2.length C2) (.slice a2L L1.length C2L) (.slice a2M L2.length C2M) r0 r1 r2 L1 L2 W5 (H5.out.rows 6 rfl) (H5.out.rows 5 rfl) (H5.out.rows 4 rfl) (H5.out.ints 3 rfl) (H5.out.ints 2 rfl) (HTT.out.below H5.out.below) HB0.out HB1.out HB2.out
      rw [F1.out, F2.out] at hcP
      go_upto_region 9 with (go_at_call 48; refine hcP.mono ?_; clear hcP; rintro e W6 ⟨v6, rfl, ho, hb⟩; have H6 := Lib.hid ((H5.out.step hb).push (i := .ints v6 x3) ho.at); obtain ⟨a6, C6, rfl⟩ := ho.form; clear ho hb)
      clear hc0 hc1 hc2 H5
      have hl3 := HL3.out
      go_wp2_with (go_at_call 19; refine (sameInts_self (.slice a6 x3.length C6) (.slice ax3 x3.length Cx3) x3 _ (H6.out.ints 0 rfl) (H6.out.ints 11 rfl)).mono ?_; rintro e W7 ⟨rfl, hb⟩; have H7 := Lib.hid (H6.out.step hb); clear hb)
      go_ret
      exact ⟨rfl, H7.out.below⟩
end Go.Proofs.YtkomghohdhengaaDoor
