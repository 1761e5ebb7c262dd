/- Loops over iterators within a plain loop: each leaves a mark among the deferred calls; what a body that ends behind them owes. Plain facts: no function is walked here. -/
import Derived.RangeFuncNested
import Derived.RangeFuncBound
import Derived.RangeFuncCalls
import Derived.RangeFuncLeaves
import Derived.RangeFuncBox
import Derived.Shelf.Abstract
namespace Go.Proofs.YtkhhbpeheikmfaaDoor
open Go Go.RowKit

/-- The marks of loops that have ended, as deferred calls. -/
def marksOf (Ds : List Nat) : List Deferred := Ds.map fun D => { target := .collected D, args := #[] }
theorem marksOf_cons (D : Nat) (Ds : List Nat) : marksOf (D :: Ds) = { target := .collected D, args := #[] } :: marksOf Ds := rfl

/-- The marks' blocks: all different, at or beyond block n₀, none taken yet. -/
structure MarksAt (n₀ : Nat) (Ds : List Nat) (W : World) : Prop where
  nodup : Ds.Nodup
  at_ : ∀ D ∈ Ds, n₀ ≤ D ∧ W.heap[D]? = some (.deferred (some []))

theorem MarksAt.nil (n₀ : Nat) (W : World) : MarksAt n₀ [] W := ⟨List.nodup_nil, fun _ h => by cases h⟩
theorem MarksAt.lt {n₀ : Nat} {Ds : List Nat} {W : World} (h : MarksAt n₀ Ds W) {D : Nat} (hD : D ∈ Ds) : D < W.heap.size := (Array.getElem?_eq_some_iff.1 (h.at_ D hD).2).1
theorem MarksAt.keeps {n₀ : Nat} {Ds : List Nat} {W W' : World} (h : MarksAt n₀ Ds W) (k : KeepsOthers W W') : MarksAt n₀ Ds W' :=
  ⟨h.nodup, fun D hD => ⟨(h.at_ D hD).1, k.same D _ (h.at_ D hD).2 rfl⟩⟩
theorem MarksAt.below {n₀ : Nat} {Ds : List Nat} {W W' : World} (h : MarksAt n₀ Ds W) (k : Below W.heap.size W W') : MarksAt n₀ Ds W' :=
  ⟨h.nodup, fun D hD => ⟨(h.at_ D hD).1, (k.block D (h.lt hD)).trans (h.at_ D hD).2⟩⟩
theorem MarksAt.cons {n₀ : Nat} {Ds : List Nat} {W : World} (h : MarksAt n₀ Ds W) {D : Nat} (hD : ∀ E ∈ Ds, E < D) (hn : n₀ ≤ D) (hK : W.heap[D]? = some (.deferred (some []))) : MarksAt n₀ (D :: Ds) W :=
  ⟨List.nodup_cons.2 ⟨fun hm => absurd (hD D hm) (Nat.lt_irrefl _), h.nodup⟩, fun E hE => by
    rcases List.mem_cons.1 hE with rfl | hE
    · exact ⟨hn, hK⟩
    · exact h.at_ E hE⟩
theorem MarksAt.own {β : Type} {n₀ : Nat} {Ds : List Nat} {B : Nat} (hB : ∀ D ∈ Ds, D < B) : OwnFrom B (fun (_ : β) W => MarksAt n₀ Ds W) := fun _ W W' row hs hg hr =>
  ⟨hs.nodup, fun D hD => ⟨(hs.at_ D hD).1, (hg.block D (hs.lt hD) (fun e => by have := (hr D e.symm).1; have := hB D hD; omega)).trans (hs.at_ D hD).2⟩⟩

/-- A body that ends behind such loops: the marks are taken, and the results are read. -/
theorem leaves_marks {F : Fence} {n : Nat} {P : Program} {fn : Func} {tmps : Array Value} {R : Ending → World → Prop} {n₀ : Nat} {K : World → Prop}
    (hK : ∀ (W : World) (D : Nat), K W → n₀ ≤ D → W.heap[D]? = some (.deferred (some [])) → K (W.putObj D (.deferred none)))
    (hend : ∀ W, K W → ∃ v, (results fn tmps).run P W = .ok v W ∧ R (.returned v) W) :
    ∀ (Ds : List Nat) (W : World), MarksAt n₀ Ds W → K W → LeavesInM F n P fn tmps R (marksOf Ds) .returning W
  | [], W, _, hk => hend W hk
  | D :: Ds, W, h, hk => by
    obtain ⟨h1, h2⟩ := h.at_ D (by simp)
    refine ⟨by simp, .inl ⟨D, _, rfl, run_takeDeferred h2, ?_⟩⟩
    refine leaves_marks hK hend Ds _ ⟨(List.nodup_cons.1 h.nodup).2, fun E hE => ⟨(h.at_ E (by simp [hE])).1, ?_⟩⟩ (hK W D hk h1 h2)
    have hne : E ≠ D := fun e => (List.nodup_cons.1 h.nodup).1 (by rw [← e]; exact hE)
    rw [World.putObj_heap_other hne]
    exact (h.at_ E (by simp [hE])).2

/-- Whatever it asks; and that it does not panic. -/
def NoPanic (Q : Exit → Act → World → Prop) : Exit → Act → World → Prop
  | .panic _, _, _ => False
  | .normal, a, w => Q .normal a w
  | .ret, a, w => Q .ret a w
  | .exit id, a, w => Q (.exit id) a w
  | .goto t, a, w => Q (.goto t) a w
  | .outgrown, a, w => Q .outgrown a w
theorem NoPanic.le {Q : Exit → Act → World → Prop} : ∀ (e : Exit) (a : Act) (w : World), NoPanic Q e a w → Q e a w
  | .panic _, _, _, h => h.elim
  | .normal, _, _, h => h
  | .ret, _, _, h => h
  | .exit _, _, _, h => h
  | .goto _, _, _, h => h
  | .outgrown, _, _, h => h
end Go.Proofs.YtkhhbpeheikmfaaDoor
