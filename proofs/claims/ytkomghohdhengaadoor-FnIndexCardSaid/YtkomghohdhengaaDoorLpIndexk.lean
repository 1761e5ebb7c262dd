/- The law FnIndex: indexes are those of the list. -/
import Derived.Test.YtkomghohdhengaaDoorKsk
import Derived.Test.YtkomghohdhengaaDoorDrCk
import Derived.Test.YtkomghohdhengaaDoorFunsQk
import Derived.Test.YtkomghohdhengaaDoorPc26
import Derived.Test.YtkomghohdhengaaDoorPc36
import Derived.Test.YtkomghohdhengaaDoorPc37
import Derived.Test.YtkomghohdhengaaDoorPc38
namespace Go.Proofs.YtkomghohdhengaaDoor
open Go.RowKit Go.Deep Go.Shelf

set_option maxRecDepth 100000 in
set_option maxHeartbeats 16000000 in
theorem lawIndexP (v : Value) (w : World) (hv : CodeAt w.heap.size w v) (hT : Tab w) : Calls Tryd.prog 5 #[v] w (SaysN true w) := by
  have hdraw := drawIndex_any v w hv
  obtain ⟨a, n, C, rfl, hnC, hCm, _⟩ := hv
  unfold maxLen at hCm
  have HTT := Lib.hid hT
  clear hT
  by_cases hn : 1048576 < n
  · have hz : (1048576 : Int) < (n : Int) := by omega
    clear hdraw
    go_enter Tryd.func5, Tryd.ntmps5
    go_wp2
    go_ret
    exact ⟨rfl, Below.refl _ _⟩
  · have hz : ¬ (1048576 : Int) < (n : Int) := by omega
    go_enter Tryd.func5, Tryd.ntmps5
    go_upto_region 4 with (go_at_call 28; refine hdraw.mono ?_; clear hdraw; rintro e w1 ⟨r0, u0, r1, u1, x2, ux2, rfl, hr0, hr1, hr2, hk0, hk1, hk2, hb⟩; obtain ⟨a0, C0, rfl⟩ := hr0.form; obtain ⟨a1, C1, rfl⟩ := hr1.form; obtain ⟨ax2, Cx2, rfl⟩ := hr2.form; have HBW := Lib.hid hb; have HR0 := Lib.hid hr0.at; have HR1 := Lib.hid hr1.at; have HR2 := Lib.hid hr2.at; clear hb hr0 hr1 hr2)
    have HB0 := Lib.hid (show bulk r0 ≤ 1048576 by omega)
    have HB1 := Lib.hid (show bulk r1 ≤ 1048576 by omega)
    have HL2 := Lib.hid (show x2.length ≤ 200 from hk2)
    clear hk0 hk1 hk2
    have H0 := Lib.hid (((((Ks.start w).step HBW.out).push (i := .ints (.slice ax2 x2.length Cx2) x2) HR2.out).push (i := .ord (.slice a0 r0.length C0) r0) HR0.out).push (i := .ord (.slice a1 r1.length C1) r1) HR1.out)
    have HX0 := Lib.hid (H0.out.box (H0.out.ord 1 rfl))
    have HX1 := Lib.hid (HX0.out.box (HX0.out.ord 1 rfl))
    have H1 : Hid (Ks w [.box (w1.heap.size + 1) (.slice a1 r1.length C1) r1, .box (w1.heap.size) (.slice a0 r0.length C0) r0, .ord (.slice a1 r1.length C1) r1, .ord (.slice a0 r0.length C0) r0, .ints (.slice ax2 x2.length Cx2) x2] ((w1.alloc (.cells #[.slice a0 r0.length C0] 25)).alloc (.cells #[.slice a1 r1.length C1] 25))) := Lib.hid (by have h := HX1.out; (try simp only [World.size_alloc] at h); exact h)
    clear H0 HX0 HX1 HR0 HR1 HR2 HBW
    generalize ((w1.alloc (.cells #[.slice a0 r0.length C0] 25)).alloc (.cells #[.slice a1 r1.length C1] 25)) = W1 at H1 ⊢
    generalize w1.heap.size = B at H1 ⊢
    have hc0 := H1.out.cell 1 rfl
    have hc1 := H1.out.cell 0 rfl
    have hci := implIndex_any (.slice a0 r0.length C0) (.slice a1 r1.length C1) (.slice ax2 x2.length Cx2) r0 r1 x2 W1 (H1.out.rows 1 rfl) (H1.out.rows 0 rfl) (H1.out.ints 4 rfl) (HTT.out.below H1.out.below) HB0.out HB1.out
    go_upto_region 5 with (go_at_call 21; refine hci.mono ?_; clear hci; rintro e W2 ⟨rfl, hb⟩; have H2 := Lib.hid (H1.out.step hb); clear hb)
    clear hc0 hc1
    have hc0 := H2.out.cell 1 rfl
    have hc1 := H2.out.cell 0 rfl
    have hcs := specIndex_any (.slice a0 r0.length C0) (.slice a1 r1.length C1) (.slice ax2 x2.length Cx2) r0 r1 x2 W2 (H2.out.rows 1 rfl) (H2.out.rows 0 rfl) (H2.out.ints 4 rfl) HB0.out HB1.out
    go_upto_region 6 with (go_at_call 29; refine hcs.mono ?_; clear hcs; rintro e W3 ⟨rfl, hb⟩; have H3 := Lib.hid (H2.out.step hb); clear hb)
    clear hc0 hc1
    clear H1 H2
    have HFACT := Lib.hid (fact_index (rows := r0) (rows' := r1) (f := x2))
    cases hq : decide (0 ≤ indexI r0 r1 x2) with
    | false =>
      have hneg : indexI r0 r1 x2 < 0 := by have := of_decide_eq_false hq; omega
      generalize indexI r0 r1 x2 = y at hneg ⊢
      clear HFACT hq
      go_wp2
      go_ret
      exact ⟨rfl, H3.out.below⟩
    | true =>
      obtain ⟨hbf, i, e1, hi, e2⟩ := HFACT.out (of_decide_eq_true hq)
      clear HFACT hq
      rw [e1]
      have hiz : ¬ (i : Int) < 0 := by omega
      have HE := Lib.hid e2
      clear e1 e2
      have hc0 := (H3.out.cell 1 rfl)
      have hc1 := (H3.out.cell 0 rfl)
      have hcF := implFuns_any (.slice a0 r0.length C0) (.slice a1 r1.length C1) r0 r1 W3 (H3.out.rows 1 rfl) (H3.out.rows 0 rfl) (HTT.out.below H3.out.below) HB0.out HB1.out
      rw [hbf] at hcF
      have hil : (i : Int) < ((funsL r0 r1).length : Int) := by omega
      go_upto_region 9 with (go_at_call 30; refine hcF.mono ?_; clear hcF; rintro e W4 ⟨v4, rfl, ho, hb⟩; have H4 := Lib.hid ((H3.out.step hb).push (i := .ord v4 (funsL r0 r1)) ho.at); obtain ⟨a4, C4, rfl⟩ := ho.form; clear ho hb)
      obtain ⟨b, o, u, e5, hcu, hu⟩ := (by obtain ⟨A0, C0', e0, _, _, hx⟩ := (H4.out.ord 0 rfl); cases e0; exact hx i hi : ∃ b o u, a4 = some ⟨b, o, none⟩ ∧ W4.cell? ⟨b, o + i, none⟩ = some u ∧ IntsAt W4 u (funsL r0 r1)[i])
      cases e5
      rw [HE.out] at hu
      obtain ⟨A1, C1', rfl, hC1, hm1, _⟩ := id hu
      have HU := Lib.hid hu
      clear hu
      have hl2 := HL2.out
      go_wp2_with (go_at_call 19; refine (sameInts_self (.slice A1 x2.length C1') (.slice ax2 x2.length Cx2) x2 _ HU.out (H4.out.ints 5 rfl)).mono ?_; rintro e W5 ⟨rfl, hb⟩; have H5 := Lib.hid (H4.out.step hb); clear hb)
      go_ret
      exact ⟨rfl, H5.out.below⟩
end Go.Proofs.YtkomghohdhengaaDoor
