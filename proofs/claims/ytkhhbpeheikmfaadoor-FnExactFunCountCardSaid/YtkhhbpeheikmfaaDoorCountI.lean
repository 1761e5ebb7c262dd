/- The program's FunCount. -/
import Derived.Test.YtkhhbpeheikmfaaDoorMidFb
import Derived.Test.YtkhhbpeheikmfaaDoorFunType
namespace Go.Proofs.YtkhhbpeheikmfaaDoor
open Go.RowKit Go.Deep Go.Shelf

theorem ftB_nil (rows rows' : Rows2) : ftB rows rows' [] = (domB rows && domB rows') := by unfold ftB; simp

set_option maxRecDepth 100000 in
set_option maxHeartbeats 8000000 in
theorem implCount_any (v v' : Value) (rows rows' : Rows2) (w : World) (hv : RowsAt w v rows) (hv' : RowsAt w v' rows') (hT : Tab w) (hn : bulk rows ≤ 1048576) (hn' : bulk rows' ≤ 1048576) :
    Calls Tryd.prog 32 #[.agg #[v], .agg #[v']] w (SaysJ (countI rows rows') w) := by
  have h0 := Two.start w 26 26 hv hv'
  have hft := funTypeOf_any _ _ (.slice none 0 0) rows rows' [] _ h0.r0 h0.r1 ⟨none, 0, rfl, Nat.le_refl _, Nat.zero_le _, fun i hi => absurd hi (Nat.not_lt_zero _)⟩ (hT.below h0.below) hn hn'
  have hc0 := h0.c0
  have hc1 := h0.c1
  obtain ⟨A, C, rfl, _⟩ := hv
  obtain ⟨A', C', rfl, _⟩ := hv'
  have H0 := Lib.hid h0
  have HTA := Lib.hid (fun W (h : Below w.heap.size w W) => hT.below h)
  clear h0 hT
  rw [ftB_nil] at hft
  go_enter Tryd.func32, Tryd.ntmps32
  go_wp2_with fail
  refine hft.mono ?_
  rintro e w1 ⟨⟨q, q', rfl, hq⟩, hb1⟩
  have H1 := Lib.hid (H0.out.step hb1)
  clear hft hc0 hc1 hb1
  cases h1 : (domB rows && domB rows') with
  | false =>
    have HE := Lib.hid (show countI rows rows' = -1 by unfold countI; rw [h1]; rfl)
    have hz1 := H1.out.below.size
    go_wp2
    go_ret
    exact ⟨by rw [HE.out]; rfl, H1.out.below.alloc hz1 _⟩
  | true =>
    obtain ⟨p, p', rfl, rfl, hpz, hpz', hg, hg'⟩ := hq h1
    have h12 := h1
    rw [Bool.and_eq_true] at h12
    have hok := ok_of_valid (show validB rows = true by have h := h12.1; unfold domB at h; rw [Bool.and_eq_true] at h; exact h.1)
    have hb2 := (Below.refl w1.heap.size w1).alloc (Nat.le_refl _) (.cells #[.pointer (some ⟨p, 0, none⟩), .pointer (some ⟨p', 0, none⟩)] 75)
    have B2 := Lib.hid (H1.out.below.trans (hb2.mono H1.out.below.size))
    have hml := lists_any p p' 5000 rows rows' hok h12.2 (Nat.le_refl _) _ (hg.below hb2 hg.lt) (hg'.below hb2 hg'.lt) (HTA.out _ B2.out)
    clear hg hg' hq hb2
    go_wp2_with fail
    refine hml.mono ?_
    rintro e w3 ⟨hres, hb3⟩
    have B3 := Lib.hid (B2.out.trans (hb3.mono B2.out.size))
    clear hml hb3
    rcases hres with ⟨hlt, rfl⟩ | ⟨hle, u, rfl, hu⟩
    · have HE := Lib.hid (show countI rows rows' = -1 by unfold countI; rw [h1, if_pos rfl, if_neg (by omega)])
      go_wp2
      go_ret
      exact ⟨by rw [HE.out]; rfl, B3.out⟩
    · have HE := Lib.hid (show countI rows rows' = ((funsR rows rows').length : Int) by unfold countI; rw [h1, if_pos rfl, if_pos hle])
      obtain ⟨au, Cu, rfl⟩ := hu.form
      clear hu
      go_wp2
      go_ret
      exact ⟨by rw [HE.out]; rfl, B3.out⟩
end Go.Proofs.YtkhhbpeheikmfaaDoor
