/- A slice of slices in memory of its own grows by a row. Plain facts on worlds: no function is walked here. -/
import Derived.Test.YtiaajegdaipdmaaDoorOwnA
namespace Go.Proofs.YtiaajegdaipdmaaDoor
open Go.RowKit Go.Deep

theorem rowIs_owns {u : TypeId} {W : World} {g C n lo : Nat} {f : Nat → Value} (h : W.rowIs g u C f) (hC : n ≤ C) (hm : C ≤ maxLen) (hlo : lo ≤ g) : W.ownsRow lo u 1 (.slice (some ⟨g, 0, none⟩) n C) n ((List.range n).map f) := by
  obtain ⟨c, h5, h6, h7⟩ := h
  refine ⟨by simp, .inr ⟨g, C, c, rfl, hlo, h5, hC, hm, by omega, ?_⟩⟩
  apply List.ext_getElem?
  intro i
  rw [List.getElem?_take, Nat.mul_one]
  by_cases hi : i < n
  · rw [if_pos hi, Array.getElem?_toList, h7 i (by omega)]
    simp [hi]
  · rw [if_neg hi]
    rw [List.getElem?_eq_none (by simp; omega)]
theorem owns_rowIs {u : TypeId} {W : World} {v : Value} {n lo : Nat} {f : Nat → Value} (h : W.ownsRow lo u 1 v n ((List.range n).map f)) (hn : 0 < n) :
    ∃ g C f', v = .slice (some ⟨g, 0, none⟩) n C ∧ n ≤ C ∧ C ≤ maxLen ∧ lo ≤ g ∧ g < W.heap.size ∧ W.rowIs g u C f' ∧ ∀ i, i < n → f' i = f i := by
  obtain ⟨_, ⟨rfl, h0⟩ | ⟨g, C, c, rfl, h3, h5, h1, h2, h6, h7⟩⟩ := h
  · omega
  · refine ⟨g, C, fun i => c[i]?.getD (.int .i64 0), rfl, h1, h2, h3, (Array.getElem?_eq_some_iff.1 h5).1, ⟨c, h5, by omega, fun i hi => ?_⟩, fun i hi => ?_⟩
    · dsimp only
      rw [Array.getElem?_eq_getElem (by omega)]
      rfl
    · have h8 := congrArg (fun l => l[i]?) h7
      rw [List.getElem?_take, Nat.mul_one, if_pos hi, Array.getElem?_toList] at h8
      dsimp only
      rw [h8]
      simp [hi]

/-- What is known of rows, their cells named. -/
theorem OwnR.owns {t u : TypeId} {W : World} {v : Value} {n : Nat} {R : Nat → List Int} {lo hi : Nat} (h : OwnR t u W v n R lo hi) :
    ∃ f, W.ownsRow lo u 1 v n ((List.range n).map f) ∧ (∀ j, j < n → OwnI t W (f j) (R j) lo hi) ∧ (∀ i j, i < j → j < n → (f i).ownBlock = none ∨ (f i).ownBlock ≠ (f j).ownBlock) := by
  obtain ⟨rfl, rfl⟩ | ⟨g, C, f, rfl, h1, h2, h3, h4, h5, h6, h7⟩ := h
  · exact ⟨fun _ => .slice none 0 0, World.ownsRow_nil _ _ _ _, fun j hj => absurd hj (Nat.not_lt_zero _), fun i j _ hj => absurd hj (Nat.not_lt_zero _)⟩
  · exact ⟨f, rowIs_owns h5 h1 h2 h3, h6, h7⟩

/-- A row is added behind. -/
theorem OwnR.pushed {t u : TypeId} {W W1 W2 : World} {v v' v2 : Value} {n lo mid : Nat} {R : Nat → List Int} {f : Nat → Value} {xs : List Int} (htu : t ≠ u)
    (h0 : W.ownsRow lo u 1 v n ((List.range n).map f)) (h1 : ∀ j, j < n → OwnI t W (f j) (R j) lo mid) (h2 : ∀ i j, i < j → j < n → (f i).ownBlock = none ∨ (f i).ownBlock ≠ (f j).ownBlock)
    (hlo : lo ≤ mid) (hmid : mid ≤ W.heap.size) (hn : OwnI t W v' xs mid W.heap.size) (hb1 : Below W.heap.size W W1)
    (hown : W2.ownsRow lo u 1 v2 (n + 1) ((List.range n).map f ++ [v'])) (hgrow : W1.grownBy W2 v.ownBlock) :
    OwnR t u W2 v2 (n + 1) (fun q => if q = n then xs else R q) lo W2.heap.size := by
  have hz : W.heap.size ≤ W2.heap.size := Nat.le_trans hb1.size hgrow.size
  have hvt : ∀ b, v.ownBlock = some b → ∃ c, W.heap[b]? = some (.cells c u (0, 0)) := fun b hb => by
    obtain ⟨_, ⟨rfl, _⟩ | ⟨g, C, c, rfl, _, h5, _⟩⟩ := h0
    · simp [Value.ownBlock] at hb
    · simp [Value.ownBlock] at hb; subst hb; exact ⟨c, h5⟩
  have hkeep : ∀ (b : Nat) (c : Array Value), W.heap[b]? = some (Obj.cells c t (0, 0)) → W2.heap[b]? = W.heap[b]? := fun b c hb => by
    have hlt : b < W.heap.size := (Array.getElem?_eq_some_iff.1 hb).1
    refine (hgrow.block b (Nat.lt_of_lt_of_le hlt hb1.size) (fun e => ?_)).trans (hb1.block b hlt)
    obtain ⟨c', hc'⟩ := hvt b e.symm
    rw [hb] at hc'
    injection hc' with hc'
    injection hc' with _ h5
    exact htu h5
  have hf : (List.range (n + 1)).map (fun q => if q = n then v' else f q) = (List.range n).map f ++ [v'] := by
    rw [List.range_succ, List.map_append]
    congr 1
    · apply List.map_congr_left
      intro q hq
      have : q ≠ n := by have := List.mem_range.1 hq; omega
      rw [if_neg this]
    · simp
  rw [← hf] at hown
  obtain ⟨g, C, f', rfl, k1, k2, k3, k4, k5, k6⟩ := owns_rowIs hown (Nat.succ_pos n)
  refine .inr ⟨g, C, f', rfl, k1, k2, k3, k4, k5, fun q hq => ?_, fun p q hpq hq => ?_⟩
  · rw [k6 q hq]
    dsimp only
    by_cases e : q = n
    · subst e
      rw [if_pos rfl, if_pos rfl]
      refine (hn.wider hlo hz).kept fun b hb => ?_
      obtain ⟨_, _, c, hc⟩ := hn.block b hb
      exact hkeep b c hc
    · rw [if_neg e, if_neg e]
      have hq' : q < n := by omega
      refine ((h1 q hq').wider (Nat.le_refl _) (by omega)).kept fun b hb => ?_
      obtain ⟨_, _, c, hc⟩ := (h1 q hq').block b hb
      exact hkeep b c hc
  · rw [k6 p (by omega), k6 q hq]
    have hp' : p ≠ n := by omega
    rw [if_neg hp']
    by_cases e : q = n
    · rw [if_pos e]
      cases hb : (f p).ownBlock with
      | none => exact .inl rfl
      | some b =>
        right
        intro e2
        have := ((h1 p (by omega)).block b hb).2.1
        have := (hn.block b e2.symm).1
        omega
    · rw [if_neg e]
      exact h2 p q hpq (by omega)

theorem owns_below {t : TypeId} {W W' : World} {lo n : Nat} {v : Value} {xs : List Value} (h : W.ownsRow lo t 1 v n xs) (hb : Below W.heap.size W W') : W'.ownsRow lo t 1 v n xs := by
  refine h.kept (row := none) ⟨hb.os, hb.tape, hb.output, hb.size, fun k hk _ => hb.block k hk⟩ ?_
  cases hv : v.ownBlock with
  | none => exact .inl rfl
  | some b => exact .inr (by simp)
theorem wf_int {y : Int} (h0 : 0 ≤ y) (h1 : y ≤ 1048576) : (Lit.int .i64 y).wf = true := by
  have e1 : IntKind.i64.min = -9223372036854775808 := rfl
  have e2 : IntKind.i64.max = 9223372036854775807 := rfl
  simp [Lit.wf, e1, e2]
  omega
end Go.Proofs.YtiaajegdaipdmaaDoor
