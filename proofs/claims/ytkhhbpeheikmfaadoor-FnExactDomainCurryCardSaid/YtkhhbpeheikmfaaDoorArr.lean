/- '==' on two arrays, whatever their elements: all pairs of elements are equal. A law over any program. -/
import Derived.WalkKit
import Derived.Laws.StructEq
namespace Go.Proofs.YtkhhbpeheikmfaaDoor
open Go

section
variable {P : Program}

theorem run_eq_rounds (d : Nat) (e : TypeId) (m : Nat) (xs ys : Array Value) (F : Nat → Bool) : ∀ (l : List Nat)
    (_ : ∀ i ∈ l, ∃ a b, (∀ w, (part e xs (i * m)).run P w = .ok a w) ∧ (∀ w, (part e ys (i * m)).run P w = .ok b w) ∧ ∀ w, (Op.equalIn d e a b).run P w = .ok (F i) w) (w : World),
    (forIn l ((none : Option Bool), ()) (fun i _ => do
      let a ← part e xs (i * m)
      let b ← part e ys (i * m)
      let c ← Op.equalIn d e a b
      if (!c) = true then pure (ForInStep.done (some false, ())) else pure (ForInStep.yield ((none : Option Bool), ())))).run P w = .ok (if l.all F then none else some false, ()) w
  | [], _, w => by simp
  | i :: l, h, w => by
    obtain ⟨a, b, h1, h2, h3⟩ := h i (by simp)
    have ih := run_eq_rounds d e m xs ys F l (fun j hj => h j (by simp [hj])) w
    cases hF : F i with
    | false =>
      rw [hF] at h3
      simp [List.forIn_cons, Sem.run_bind, h1, h2, h3, hF]
    | true =>
      rw [hF] at h3
      simpa [List.forIn_cons, Sem.run_bind, h1, h2, h3, hF] using ih

theorem run_eq_array (d n m : Nat) (t e : TypeId) (xs ys : Array Value) (F : Nat → Bool) (ht : P.underlying t = some (.array n e)) (hs : ∀ w, (sizeOf e).run P w = .ok m w)
    (h : ∀ i, i < n → ∃ a b, (∀ w, (part e xs (i * m)).run P w = .ok a w) ∧ (∀ w, (part e ys (i * m)).run P w = .ok b w) ∧ ∀ w, (Op.equalIn d e a b).run P w = .ok (F i) w) (w : World) :
    (Op.equalIn (d + 1) t (.agg xs) (.agg ys)).run P w = .ok ((List.range n).all F) w := by
  have key := run_eq_rounds (P := P) d e m xs ys F (List.range n) (fun i hi => h i (List.mem_range.1 hi)) w
  unfold Op.equalIn
  simp only [Sem.run_bind, run_underlying ht, Result.andThen_ok, hs]
  rw [Std.Legacy.Range.forIn_eq_forIn_range']
  simp only [Std.Legacy.Range.size, Nat.sub_zero, Nat.add_sub_cancel, Nat.div_one, ← List.range_eq_range']
  rw [key]
  cases (List.range n).all F <;> simp
end
end Go.Proofs.YtkhhbpeheikmfaaDoor
