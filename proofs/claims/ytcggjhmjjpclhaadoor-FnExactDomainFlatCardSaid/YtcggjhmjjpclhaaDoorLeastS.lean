/- The model's OrderLeast. -/
import Derived.Test.YtcggjhmjjpclhaaDoorElemP
import Derived.Test.YtcggjhmjjpclhaaDoorValid
namespace Go.Proofs.YtcggjhmjjpclhaaDoor
open Go.RowKit Go.Deep

theorem leastI_at {rows : Rows2} {i : Nat} (hi : i < rows.length) (h : rows[i].length = rows.length) (hj : ∀ j (hj : j < rows.length), j < i → rows[j].length ≠ rows.length) : leastI rows = i := by
  unfold leastI
  have e : (List.range rows.length).find? (fun i => (rows.getD i []).length == rows.length) = some i := by
    rw [List.find?_range_eq_some]
    refine ⟨by rw [getD_at [] hi]; simpa using h, by simpa using hi, fun j hlt => ?_⟩
    rw [getD_at [] (by omega)]
    simpa using hj j (by omega) hlt
  rw [e]
theorem leastI_none {rows : Rows2} (hj : ∀ j (hj : j < rows.length), rows[j].length ≠ rows.length) : leastI rows = -1 := by
  unfold leastI
  have e : (List.range rows.length).find? (fun i => (rows.getD i []).length == rows.length) = none := by
    rw [List.find?_eq_none]
    intro i hi
    have hi' : i < rows.length := by simpa using hi
    rw [getD_at [] hi']
    simpa using hj i hi'
  rw [e]

/-- What OrderLeast answers. -/
noncomputable def leastB (rows : Rows2) : Int := if validB rows = true then leastI rows else -1

end Go.Proofs.YtcggjhmjjpclhaaDoor
