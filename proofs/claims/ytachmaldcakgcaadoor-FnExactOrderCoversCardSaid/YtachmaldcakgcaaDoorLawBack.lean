/- The law of OrderBack: model and program answer alike, the argument is left alone, and the answer's memory is its own. -/
import Derived.Test.YtachmaldcakgcaaDoorBackSpec
import Derived.Test.YtachmaldcakgcaaDoorLw
namespace Go.Proofs.YtachmaldcakgcaaDoor
open Go.RowKit Go.Deep Go.Shelf

theorem lens_bulk (rows : Rows2) : lens rows rows.length ≤ bulk rows := by have := lens_all rows; omega
theorem backB_bulk (rows : Rows2) : bulk (backB rows) ≤ 1048576 := by
  unfold backB
  by_cases h : validB rows = true
  · rw [if_pos h]; exact (ok_of_valid h).back.bulk
  · rw [if_neg h]; simp [bulk]

end Go.Proofs.YtachmaldcakgcaaDoor
