/- An argument that is an order, opened: it reads as rows; the library's table out of the row's list. -/
import Derived.Test.YtkhhbpeheikmfaaDoorCards
import Derived.Test.YtkhhbpeheikmfaaDoorTie
import Derived.Test.YtkhhbpeheikmfaaDoorFirst
import Derived.Lib.LaidTab
import Derived.Lib.SmallJoins
import Derived.OpenShut
import Derived.Deep.DeepHandedRow
namespace Go.Proofs.YtkhhbpeheikmfaaDoor
open Go.ChangeShapes Go.WideShapes Go.ChangeAt Go.RowKit Go.Deep

theorem cellsInt : Tryd.prog.cellsOf 3 = 1 := by kernel_rfl
theorem cellsInts : Tryd.prog.cellsOf 37 = 1 := by kernel_rfl
theorem cellsRows : Tryd.prog.cellsOf 22 = 1 := by kernel_rfl
theorem cellsOrder : Tryd.prog.cellsOf 24 = 1 := by kernel_rfl

theorem plain_addr {w : World} {a : Addr} {v : Value} (h : w.cell? (a.add 0) = some v) : ∃ b o, a = ⟨b, o, none⟩ := by
  obtain ⟨b, o, spot⟩ := a
  have hs : spot = none := by simpa [Addr.add] using World.cell?_spot h
  subst hs
  exact ⟨b, o, rfl⟩

/-- A slice of slices of integers, opened. -/
theorem rows_of {H : Type} {enc : TypeId × Value → H} {w : World} {base fuel : Nat} {held : Bool} {c : Value} {x : DataW H × List MemPlace}
    (h : DataW.trod enc Tryd.prog w base (fun _ => true) held fuel 22 [c] = some x) : ∃ rows : Rows2, RowsAt w c rows := by
  rcases open_int_rows Tryd.underlying22 Tryd.underlying37 Tryd.underlying3 cellsInts cellsInt h with ⟨hcs, _⟩ | ⟨a, len, cap, A, L, C, Z, hcs, _, hl, hm, _, hr⟩
  · obtain rfl : c = .slice none 0 0 := by simpa using hcs
    exact ⟨[], none, 0, rfl, Nat.le_refl _, Nat.zero_le _, fun i hi => absurd hi (Nat.not_lt_zero _)⟩
  · obtain rfl : c = .slice (some a) len cap := by simpa using hcs
    refine ⟨(List.range len).map fun r => (Z r).take (L r), some a, cap, by simp, by simpa using hl, hm, fun i hi => ?_⟩
    have hi' : i < len := by simpa using hi
    obtain ⟨b, o, rfl⟩ := plain_addr (hr 0 (by omega)).1
    obtain ⟨h1, h2, h3, h4, h5, h6, h7⟩ := hr i (by omega)
    rw [WideShapes.add_plain] at h1
    have e : ((List.range len).map fun r => (Z r).take (L r))[i] = (Z i).take (L i) := by simp
    have elen : ((Z i).take (L i)).length = L i := by rw [List.length_take, h4]; omega
    refine ⟨b, o, _, rfl, h1, ?_⟩
    rw [e]
    refine ⟨A i, C i, by rw [elen], by rw [elen]; exact h2, h3, fun n hn => h5 n (List.mem_of_mem_take hn), fun k hk => ?_⟩
    rw [elen] at hk
    cases hA : A i with
    | none => have := h6 hA; omega
    | some a' =>
      obtain ⟨_, hc⟩ := h7 a' hA
      obtain ⟨b', o', rfl⟩ := plain_addr (hc 0 (by omega))
      have hck := hc k (by omega)
      rw [WideShapes.add_plain] at hck
      refine ⟨b', o', rfl, ?_⟩
      rw [hck, List.getElem_take, List.getD_eq_getElem?_getD, List.getElem?_eq_getElem (by rw [h4]; omega)]
      rfl

set_option maxRecDepth 100000 in
/-- An order by value, opened. -/
theorem order_of {H : Type} {enc : TypeId × Value → H} {w : World} {base b0 : Nat} {r : Reach} {held : Bool} {v : Value} {d : DataW H} {p : List MemPlace} (hv : Value.okWide Tryd.prog w r b0 24 v)
    (h : DataW.Trod enc Tryd.prog w base (fun _ => true) held 24 v d p) : ∃ (c : Value) (rows : Rows2), v = .agg #[c] ∧ RowsAt w c rows := by
  obtain ⟨cs, rfl, hsz⟩ := okWide_struct Tryd.underlying24 hv
  rw [cellsOrder] at hsz
  obtain ⟨c, rfl⟩ : ∃ c, cs = #[c] := by
    obtain ⟨l⟩ := cs
    match l, hsz with
    | [c], _ => exact ⟨c, rfl⟩
  obtain ⟨fuel, hf⟩ := h
  obtain ⟨y0, n, _, _, hy⟩ := trod_struct1 Tryd.underlying24 hf
  simp only [Value.cells, List.drop_zero, cellsRows] at hy
  obtain ⟨rows, hr⟩ := rows_of (by simpa using hy)
  exact ⟨c, rows, rfl, hr⟩

theorem own : ownKnob Tryd.prog.godebug = none := by kernel_rfl
theorem gTab : Tryd.prog.globalNamed "math/bits.deBruijn64tab" = some 0 := by kernel_rfl
theorem gTabType : (Tryd.prog.globals[0]?).map (·.type) = some 134 := by kernel_rfl
theorem cellsTab : Tryd.prog.cellsOf 134 = 64 := by kernel_rfl
theorem cellsByte : Tryd.prog.cellsOf 5 = 1 := by kernel_rfl

theorem tab_of {W : World} (h : laidMetH Tryd.prog [("math/bits.deBruijn64tab", Rows.laid_math_bits_deBruijn64tab)] W) : Tab W := by
  have ht : Lib.TabIs Tryd.prog W "math/bits.deBruijn64tab" .u8 (Lib.deBruijn64tab.map fun n : Nat => (n : Int)) :=
    Lib.tabIs_of_head (rest := []) gTab gTabType Tryd.underlying134 Tryd.underlying5 cellsByte cellsTab h
  intro j hj
  have := ht.cell gTab j (by simpa [Lib.deBruijn64tab] using hj)
  rw [this]
  have hl : j < Lib.deBruijn64tab.length := by simpa [Lib.deBruijn64tab] using hj
  rw [List.getD_eq_getElem?_getD, List.getElem?_map, List.getD_eq_getElem?_getD, List.getElem?_eq_getElem hl]
  rfl
end Go.Proofs.YtkhhbpeheikmfaaDoor
