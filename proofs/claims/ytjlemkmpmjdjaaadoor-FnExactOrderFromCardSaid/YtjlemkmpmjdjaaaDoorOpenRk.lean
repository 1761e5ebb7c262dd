/- An argument that is a slice of slices of integers, opened. -/
import Derived.Test.YtjlemkmpmjdjaaaDoorPa4
namespace Go.Proofs.YtjlemkmpmjdjaaaDoor
open Go.ChangeShapes Go.WideShapes Go.ChangeAt Go.RowKit Go.Deep

set_option maxRecDepth 100000 in
/-- A slice of slices of integers, opened. -/
theorem rowsArg_of {H : Type} {enc : TypeId × Value → H} {w : World} {base b0 : Nat} {r : Reach} {held : Bool} {v : Value} {d : DataW H} {p : List MemPlace} (hv : Value.okWide Tryd.prog w r b0 23 v)
    (h : DataW.Trod enc Tryd.prog w base (fun _ => true) held 23 v d p) : ∃ rows : Rows2, RowsAt w v rows := by
  obtain ⟨a, len, cap, rfl⟩ := okWide_slice Tryd.underlying23 hv
  obtain ⟨fuel, hf⟩ := h
  exact rows_of (by simpa [Value.cells] using hf)
end Go.Proofs.YtjlemkmpmjdjaaaDoor
