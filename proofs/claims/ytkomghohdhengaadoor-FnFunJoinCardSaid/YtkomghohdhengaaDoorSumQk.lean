/- Sums have both side by side; cuts have all joins. Plain facts: no function is walked here. -/
import Derived.Test.YtkomghohdhengaaDoorLiftQk
namespace Go.Proofs.YtkomghohdhengaaDoor
open Go.RowKit Go.Deep

theorem least_mk {rows : Rows2} (hok : Ok rows) {m : Nat} (hm : ∀ i, i < rows.length → Lq rows m i = true) : gridF rows m = allF rows.length ∧ 0 ≤ leastI rows := by
  have e : gridF rows m = allF rows.length := by
    apply Nat.eq_of_testBit_eq
    intro i
    rw [testBit_allF, Bool.eq_iff_iff, decide_eq_true_iff]
    exact ⟨fun hi => (hok.bit_lt hi).2, hm i⟩
  refine ⟨e, ?_⟩
  rw [least_eq hok]
  have h0 := hm 0 (by have := hok.len; omega)
  exact (bottomF_pos (allF_lt (by have := hok.len; omega))).2 ⟨m, by rw [testBit_allF]; exact decide_eq_true (hok.bit_lt h0).1, e⟩
theorem dom_mk {rows : Rows2} (hok : Ok rows) {m : Nat} (hm : ∀ i, i < rows.length → Lq rows m i = true)
    (hj : ∀ a b c, Lq rows a c = true → Lq rows b c = true → ∃ j, Lq rows a j = true ∧ Lq rows b j = true ∧ ∀ d, Lq rows a d = true → Lq rows b d = true → Lq rows j d = true) : domB rows = true := by
  have h0 := hm 0 (by have := hok.len; omega)
  refine domB_iff.2 ⟨hok, ⟨m, (hok.bit_lt h0).1, (least_mk hok hm).1⟩, fun a b ha hb hne => ?_⟩
  have hex : ∃ x, (gridF rows a &&& gridF rows b).testBit x = true := by
    refine Classical.byContradiction fun hno => hne (Nat.eq_of_testBit_eq fun x => ?_)
    rw [Nat.zero_testBit]
    cases hx : (gridF rows a &&& gridF rows b).testBit x with
    | false => rfl
    | true => exact absurd ⟨x, hx⟩ hno
  obtain ⟨x, hx⟩ := hex
  rw [Nat.testBit_and, Bool.and_eq_true] at hx
  obtain ⟨j, j1, j2, j3⟩ := hj a b x hx.1 hx.2
  refine ⟨j, (hok.bit_lt j1).2, Nat.eq_of_testBit_eq fun y => ?_⟩
  rw [Nat.testBit_and, Bool.eq_iff_iff, Bool.and_eq_true]
  exact ⟨fun hy => ⟨Lq.trans hok j1 hy, Lq.trans hok j2 hy⟩, fun hy => j3 y hy.1 hy.2⟩

end Go.Proofs.YtkomghohdhengaaDoor
