/- Slices of slices in memory of their own: a row is appended to, a row is put in, a row is added behind. Plain facts on worlds: no function is walked here. -/
import Derived.Test.YtkhhbpeheikmfaaDoorAns
import Derived.Deep.AppendLies
namespace Go.Proofs.YtkhhbpeheikmfaaDoor
open Go.RowKit Go.Deep

/-- A list of integers as cells. -/
abbrev cellsI (xs : List Int) : List Value := xs.map (Value.int .i64)

theorem OwnI.owns {t : TypeId} {W : World} {v : Value} {xs : List Int} {lo hi : Nat} (h : OwnI t W v xs lo hi) : W.ownsRow lo t 1 v xs.length (cellsI xs) := by
  refine ⟨by simp, ?_⟩
  obtain ⟨_, ⟨rfl, rfl⟩ | ⟨g, C, f, rfl, h1, h2, h3, h4, ⟨c, h5, h6, h7⟩, h8⟩⟩ := h
  · exact .inl ⟨rfl, rfl⟩
  · refine .inr ⟨g, C, c, rfl, h3, h5, h1, h2, by omega, ?_⟩
    apply List.ext_getElem?
    intro i
    rw [List.getElem?_take, Nat.mul_one]
    by_cases hi : i < xs.length
    · rw [if_pos hi, Array.getElem?_toList, h7 i (by omega), h8 i hi]
      simp [hi]
    · rw [if_neg hi]
      simp [List.getElem?_eq_none (by omega : xs.length ≤ i)]
theorem OwnI.of_owns {t : TypeId} {W : World} {v : Value} {xs : List Int} {lo hi : Nat} (h : W.ownsRow lo t 1 v xs.length (cellsI xs)) (hw : ∀ x ∈ xs, (Lit.int .i64 x).wf = true) (hb : ∀ b, v.ownBlock = some b → b < hi) : OwnI t W v xs lo hi := by
  refine ⟨hw, ?_⟩
  obtain ⟨_, ⟨rfl, h0⟩ | ⟨g, C, c, rfl, h3, h5, h1, h2, h6, h7⟩⟩ := h
  · exact .inl ⟨rfl, List.length_eq_zero_iff.1 h0⟩
  · refine .inr ⟨g, C, fun i => c[i]?.getD (.int .i64 0), rfl, h1, h2, h3, hb g rfl, ⟨c, h5, by omega, fun i hi => ?_⟩, fun i hi => ?_⟩
    · dsimp only
      rw [Array.getElem?_eq_getElem (by omega)]
      rfl
    · have h8 := congrArg (fun l => l[i]?) h7
      rw [List.getElem?_take, Nat.mul_one, if_pos hi, Array.getElem?_toList] at h8
      dsimp only
      rw [h8]
      simp [hi]

/-- What an append of one number to row j, and the store of it, do to rows. -/
theorem OwnR.appended {t u : TypeId} {W W1 W2 : World} {g C n : Nat} {f : Nat → Value} {R : Nat → List Int} {lo j g' cap' : Nat} {x : Int}
    (htu : t ≠ u) (hC : n ≤ C) (hm : C ≤ maxLen) (hlo : lo ≤ g) (hr : W.rowIs g u C f) (hI : ∀ q, q < n → OwnI t W (f q) (R q) lo W.heap.size) (hD : ∀ p q, p < q → q < n → (f p).ownBlock = none ∨ (f p).ownBlock ≠ (f q).ownBlock) (hj : j < n)
    (hx : (Lit.int .i64 x).wf = true) (hz : W.heap.size ≤ W1.heap.size) (hb1 : ∀ b, b < W.heap.size → W1.heap[b]? = W.heap[b]?)
    (hown : W2.ownsRow lo t 1 (.slice (some ⟨g', 0, none⟩) ((R j).length + 1) cap') ((R j).length + 1) (cellsI (R j) ++ [.int .i64 x])) (hgrow : W1.grownBy W2 (f j).ownBlock) (hat : (f j).ownBlock = some g' ∨ W.heap.size ≤ g') (hlt : g' < W2.heap.size) :
    OwnR t u (W2.setCell ⟨g, j, none⟩ (.slice (some ⟨g', 0, none⟩) ((R j).length + 1) cap')) (.slice (some ⟨g, 0, none⟩) n C) n (fun q => if q = j then R j ++ [x] else R q) lo W2.heap.size := by
  have hgt : g < W.heap.size := hr.lt
  have hsz : W.heap.size ≤ W2.heap.size := Nat.le_trans hz hgrow.size
  have hfb : ∀ q, q < n → ∀ b, (f q).ownBlock = some b → lo ≤ b ∧ b < W.heap.size ∧ b ≠ g := fun q hq b hb => by
    obtain ⟨h1, h2, c, h3⟩ := (hI q hq).block b hb
    refine ⟨h1, h2, fun e => ?_⟩
    obtain ⟨c0, h4, _⟩ := hr
    rw [e, h4] at h3
    injection h3 with h3
    injection h3 with _ h5
    exact htu h5.symm
  have hg'g : g' ≠ g := by
    rcases hat with h | h
    · exact (hfb j hj _ h).2.2
    · omega
  have hkeep : ∀ b, b < W.heap.size → (f j).ownBlock ≠ some b → W2.heap[b]? = W.heap[b]? := fun b hb hne => (hgrow.block b (by omega) (fun e => hne e.symm)).trans (hb1 b hb)
  have hset : ∀ b, b ≠ g → (W2.setCell ⟨g, j, none⟩ (.slice (some ⟨g', 0, none⟩) ((R j).length + 1) cap')).heap[b]? = W2.heap[b]? := fun b hb => Below.heap_setCell _ _ _ b hb
  have hr2 : W2.rowIs g u C f := hr.of_block (hkeep g hgt (fun e => (hfb j hj g e).2.2 rfl))
  refine .inr ⟨g, C, _, rfl, hC, hm, hlo, by omega, hr2.set j _, fun q hq => ?_, fun p q hpq hq => ?_⟩
  · dsimp only
    by_cases e : q = j
    · subst e
      rw [if_pos rfl, if_pos rfl]
      have h1 : W2.ownsRow lo t 1 (.slice (some ⟨g', 0, none⟩) ((R q).length + 1) cap') (R q ++ [x]).length (cellsI (R q ++ [x])) := by
        rw [List.length_append, List.length_singleton, show cellsI (R q ++ [x]) = cellsI (R q) ++ [.int .i64 x] by simp]
        exact hown
      refine OwnI.kept (OwnI.of_owns h1 (fun y hy => ?_) (fun b hb => ?_)) (fun b hb => ?_)
      · rcases List.mem_append.1 hy with hy | hy
        · exact (hI q hq).1 y hy
        · rw [List.mem_singleton] at hy; subst hy; exact hx
      · simp [Value.ownBlock] at hb; omega
      · simp [Value.ownBlock] at hb
        exact hset b (by omega)
    · rw [if_neg e, if_neg e]
      refine ((hI q hq).wider (Nat.le_refl _) hsz).kept (fun b hb => ?_)
      obtain ⟨h1, h2, h3⟩ := hfb q hq b hb
      rw [hset b h3]
      refine hkeep b h2 (fun e2 => ?_)
      rcases Nat.lt_or_gt_of_ne e with h | h
      · rcases hD q j h hj with h4 | h4
        · rw [h4] at hb; cases hb
        · exact h4 (hb.trans e2.symm)
      · rcases hD j q h hq with h4 | h4
        · rw [h4] at e2; cases e2
        · exact h4 (e2.trans hb.symm)
  · have hne : ∀ q', q' < n → q' ≠ j → (f q').ownBlock ≠ some g' := fun q' hq' hqj hb => by
      rcases hat with h | h
      · rcases Nat.lt_or_gt_of_ne hqj with h5 | h5
        · rcases hD q' j h5 hj with h4 | h4
          · rw [h4] at hb; cases hb
          · exact h4 (hb.trans h.symm)
        · rcases hD j q' h5 hq' with h4 | h4
          · rw [h4] at h; cases h
          · exact h4 (h.trans hb.symm)
      · have := (hfb q' hq' g' hb).2.1; omega
    by_cases e1 : p = j
    · subst e1
      rw [if_pos rfl, if_neg (by omega)]
      right
      exact fun e => hne q hq (by omega) (e.symm.trans rfl)
    · rw [if_neg e1]
      by_cases e2 : q = j
      · subst e2
        rw [if_pos rfl]
        right
        exact fun e => hne p (by omega) e1 (e.trans rfl)
      · rw [if_neg e2]
        exact hD p q hpq hq

/-- What a store of a new slice into row j does to rows. -/
theorem OwnR.stored {t u : TypeId} {W W2 : World} {g C n : Nat} {f : Nat → Value} {R : Nat → List Int} {lo j : Nat} {v' : Value} {xs : List Int}
    (htu : t ≠ u) (hC : n ≤ C) (hm : C ≤ maxLen) (hlo : lo ≤ g) (hr : W.rowIs g u C f) (hI : ∀ q, q < n → OwnI t W (f q) (R q) lo W.heap.size) (hD : ∀ p q, p < q → q < n → (f p).ownBlock = none ∨ (f p).ownBlock ≠ (f q).ownBlock)
    (hb : Below W.heap.size W W2) (hn : OwnI t W2 v' xs W.heap.size W2.heap.size) :
    OwnR t u (W2.setCell ⟨g, j, none⟩ v') (.slice (some ⟨g, 0, none⟩) n C) n (fun q => if q = j then xs else R q) lo W2.heap.size := by
  have hgt : g < W.heap.size := hr.lt
  have hsz := hb.size
  have hfb : ∀ q, q < n → ∀ b, (f q).ownBlock = some b → lo ≤ b ∧ b < W.heap.size ∧ b ≠ g := fun q hq b hb' => by
    obtain ⟨h1, h2, c, h3⟩ := (hI q hq).block b hb'
    refine ⟨h1, h2, fun e => ?_⟩
    obtain ⟨c0, h4, _⟩ := hr
    rw [e, h4] at h3
    injection h3 with h3
    injection h3 with _ h5
    exact htu h5.symm
  have hset : ∀ b, b ≠ g → (W2.setCell ⟨g, j, none⟩ v').heap[b]? = W2.heap[b]? := fun b hb' => Below.heap_setCell _ _ _ b hb'
  have hr2 : W2.rowIs g u C f := hr.of_block (hb.block g hgt)
  refine .inr ⟨g, C, _, rfl, hC, hm, hlo, by omega, hr2.set j _, fun q hq => ?_, fun p q hpq hq => ?_⟩
  · dsimp only
    by_cases e : q = j
    · subst e
      rw [if_pos rfl, if_pos rfl]
      refine (hn.wider (by omega) (Nat.le_refl _)).kept (fun b hb' => ?_)
      have := (hn.block b hb').1
      exact hset b (by omega)
    · rw [if_neg e, if_neg e]
      refine ((hI q hq).wider (Nat.le_refl _) hsz).kept (fun b hb' => ?_)
      obtain ⟨h1, h2, h3⟩ := hfb q hq b hb'
      rw [hset b h3]
      exact hb.block b h2
  · have hne : ∀ q', q' < n → ∀ b, (f q').ownBlock = some b → v'.ownBlock ≠ some b := fun q' hq' b hb' e => by
      have := (hn.block b e).1
      have := (hfb q' hq' b hb').2.1
      omega
    by_cases e1 : p = j
    · subst e1
      rw [if_pos rfl, if_neg (by omega)]
      cases hv : v'.ownBlock with
      | none => exact .inl rfl
      | some b => exact .inr fun e => hne q hq b e.symm hv
    · rw [if_neg e1]
      by_cases e2 : q = j
      · subst e2
        rw [if_pos rfl]
        cases hv : (f p).ownBlock with
        | none => exact .inl rfl
        | some b => exact .inr fun e => hne p (by omega) b hv e.symm
      · rw [if_neg e2]
        exact hD p q hpq hq
end Go.Proofs.YtkhhbpeheikmfaaDoor
