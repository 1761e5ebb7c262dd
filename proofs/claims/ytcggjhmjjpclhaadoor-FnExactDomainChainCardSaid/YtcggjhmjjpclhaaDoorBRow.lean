/- The rows that a relation makes. Plain facts: no function is walked here. -/
import Derived.Test.YtcggjhmjjpclhaaDoorBackS
namespace Go.Proofs.YtcggjhmjjpclhaaDoor
open Go.RowKit Go.Deep

/-- What row a holds when b elements have been looked at. -/
def bRow (B : Nat → Nat → Bool) (a b : Nat) : List Int := ((List.range b).filter fun k => B a k).map fun k : Nat => (k : Int)
theorem bRow_yes {B : Nat → Nat → Bool} {a b : Nat} (h : B a b = true) : bRow B a (b + 1) = bRow B a b ++ [(b : Int)] := by
  unfold bRow
  rw [List.range_succ, List.filter_append, List.map_append, List.filter_cons, h]
  rfl
theorem bRow_no {B : Nat → Nat → Bool} {a b : Nat} (h : B a b = false) : bRow B a (b + 1) = bRow B a b := by
  unfold bRow
  rw [List.range_succ, List.filter_append, List.filter_cons, h]
  simp
theorem bRow_len (B : Nat → Nat → Bool) (a b : Nat) : (bRow B a b).length ≤ b := by
  unfold bRow
  rw [List.length_map]
  have := List.length_filter_le (fun k => B a k) (List.range b)
  simpa using this
end Go.Proofs.YtcggjhmjjpclhaaDoor
