/- OrderBack, of the model and of the program. -/
import Derived.Test.YtachmaldcakgcaaDoorBackS
import Derived.Test.YtachmaldcakgcaaDoorOkG
import Derived.Test.YtachmaldcakgcaaDoorOrderG
import Derived.Test.YtachmaldcakgcaaDoorLw
namespace Go.Proofs.YtachmaldcakgcaaDoor
open Go.RowKit Go.Deep Go.Shelf

/-- What OrderBack answers. -/
noncomputable def backB (rows : Rows2) : Rows2 := if validB rows = true then backRows rows else []

theorem RowsPost.form {n : Nat} {R : Nat → List Int} {w w' : World} {e : Ending} (h : RowsPost n R w e w') : ∃ a C, e = .returned (.agg #[.slice a n C]) ∧ OwnR 3 42 w' (.slice a n C) n R w.heap.size w'.heap.size ∧ Below w.heap.size w w' := by
  obtain ⟨v, rfl, h1, h2⟩ := h
  obtain ⟨a, C, rfl⟩ := h1.form
  exact ⟨a, C, rfl, h1, h2⟩

end Go.Proofs.YtachmaldcakgcaaDoor
