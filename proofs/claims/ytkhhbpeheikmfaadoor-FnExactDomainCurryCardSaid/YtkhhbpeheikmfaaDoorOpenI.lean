/- An argument that is a slice of integers, opened. -/
import Derived.Test.YtkhhbpeheikmfaaDoorOpen
namespace Go.Proofs.YtkhhbpeheikmfaaDoor
open Go.ChangeShapes Go.WideShapes Go.ChangeAt Go.RowKit Go.Deep

set_option maxRecDepth 100000 in
/-- A slice of integers, opened. -/
theorem ints_of {H : Type} {enc : TypeId × Value → H} {w : World} {base b0 : Nat} {r : Reach} {held : Bool} {v : Value} {d : DataW H} {p : List MemPlace} (hv : Value.okWide Tryd.prog w r b0 37 v)
    (h : DataW.Trod enc Tryd.prog w base (fun _ => true) held 37 v d p) : ∃ xs : List Int, IntsAt w v xs := by
  obtain ⟨a, len, cap, rfl⟩ := okWide_slice Tryd.underlying37 hv
  obtain ⟨fuel, hf⟩ := h
  rcases open_ints Tryd.underlying37 Tryd.underlying3 cellsInt hf with ⟨hcs, _⟩ | ⟨ad, l, c, zs, hcs, _, hl, hm, hz, _, hc, hw⟩
  · have e : Value.slice a len cap = .slice none 0 0 := by simpa [Value.cells] using hcs
    rw [e]
    exact ⟨[], none, 0, rfl, Nat.le_refl _, Nat.zero_le _, fun x hx => (by cases hx), fun i hi => absurd hi (Nat.not_lt_zero _)⟩
  · have e : Value.slice a len cap = .slice (some ad) l c := by simpa [Value.cells] using hcs
    rw [e]
    have hz2 : zs.length = c := by simpa using hz
    have htl : (zs.take l).length = l := by rw [List.length_take]; omega
    refine ⟨zs.take l, some ad, c, by rw [htl], by rw [htl]; exact hl, hm, fun n hn => hw n (List.mem_of_mem_take hn), fun i hi => ?_⟩
    rw [htl] at hi
    obtain ⟨b, o, rfl⟩ := plain_addr (hc 0 (by omega))
    have hck := hc i (by omega)
    rw [WideShapes.add_plain] at hck
    refine ⟨b, o, rfl, ?_⟩
    rw [hck, List.getElem_take, List.getD_eq_getElem?_getD, List.getElem?_eq_getElem (by omega)]
    rfl
end Go.Proofs.YtkhhbpeheikmfaaDoor
