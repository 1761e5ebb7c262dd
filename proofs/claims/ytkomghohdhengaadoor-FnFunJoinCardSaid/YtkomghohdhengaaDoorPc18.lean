/- The model's longest chains (l1Chain). -/
import Derived.Test.YtkomghohdhengaaDoorPc10
import Derived.Test.YtkomghohdhengaaDoorPc8
import Derived.Test.YtkomghohdhengaaDoorPc1
import Derived.Deep.RegionWith
import Derived.RangeFuncBox
namespace Go.Proofs.YtkomghohdhengaaDoor
open Go.RowKit Go.Deep

/-- What is known of the chains: 0, or the longest one. -/
def ChainK (rows : Rows2) (kb : Nat) (K : Nat → Nat) (W : World) : Prop :=
  W.rowIs kb 3 rows.length (fun j => .int .i64 ((K j : Nat) : Int)) ∧ ∀ j, j < rows.length → K j = 0 ∨ K j = rankF (gridF rows) j

theorem chain_le {rows : Rows2} {kb : Nat} {K : Nat → Nat} {W : World} (h : ChainK rows kb K W) {j : Nat} (hj : j < rows.length) : K j ≤ 256 := by
  rcases h.2 j hj with e | e
  · omega
  · rw [e]; exact rank_le _ _
theorem ChainK.grown {rows : Rows2} {kb : Nat} {K : Nat → Nat} {W W' : World} (h : ChainK rows kb K W) (hb : W'.heap[kb]? = W.heap[kb]?) : ChainK rows kb K W' := ⟨h.1.of_block hb, h.2⟩
theorem ChainK.set {rows : Rows2} {kb : Nat} {K : Nat → Nat} {W : World} (h : ChainK rows kb K W) {i r : Nat} (hr : r = rankF (gridF rows) i) : ChainK rows kb (fun j => if j = i then r else K j) (W.setCell ⟨kb, i, none⟩ (.int .i64 ((r : Nat) : Int))) := by
  refine ⟨(h.1.set i _).congr fun j _ => ?_, fun j hj => ?_⟩
  · dsimp only
    by_cases e : j = i
    · rw [if_pos e, if_pos e]
    · rw [if_neg e, if_neg e]
  · dsimp only
    by_cases e : j = i
    · subst e; rw [if_pos rfl]; exact .inr hr
    · rw [if_neg e]; exact h.2 j hj

/-- The best of the first k elements above i. -/
def bestN (rows : Rows2) (i k : Nat) : Nat := maxL (rankF (gridF rows)) (((elems (gridF rows i)).take k).filter fun c => !decide (c = i))
theorem bestN_zero (rows : Rows2) (i : Nat) : bestN rows i 0 = 0 := by simp [bestN, maxL]
theorem bestN_step {rows : Rows2} {i k : Nat} (hk : k < (elems (gridF rows i)).length) : bestN rows i (k + 1) = if (elems (gridF rows i))[k] = i then bestN rows i k else max (bestN rows i k) (rankF (gridF rows) (elems (gridF rows i))[k]) := by
  unfold bestN
  rw [List.take_succ_eq_append_getElem hk, List.filter_append, List.filter_cons, List.filter_nil]
  by_cases e : (elems (gridF rows i))[k] = i
  · rw [if_pos e, decide_eq_true e]
    simp
  · rw [if_neg e, decide_eq_false e]
    simp only [Bool.not_false, if_true]
    exact maxL_snoc _ _ _
theorem bestN_done {rows : Rows2} (h : Ok rows) {i : Nat} (hi : i < rows.length) : bestN rows i (elems (gridF rows i)).length + 1 = rankF (gridF rows) i := by
  unfold bestN
  rw [List.take_length, rank_eq h hi]
  rfl
theorem bestN_le (rows : Rows2) (i k : Nat) : bestN rows i k ≤ 256 := by
  apply Nat.le_of_not_lt
  unfold bestN
  rw [lt_maxL]
  rintro ⟨c, _, hc⟩
  have := rank_le (gridF rows) c
  omega

/-- What l1Chain answers, and how it leaves memory. -/
def ChainPost (rows : Rows2) (i kb : Nat) (w : World) (e : Ending) (w' : World) : Prop :=
  e = .returned (.int .i64 ((rankF (gridF rows) i : Nat) : Int)) ∧ (∃ K, ChainK rows kb K w') ∧ w.grownBy w' (some kb)

theorem grownBy_refl (w : World) (row : Option Nat) : w.grownBy w row := ⟨rfl, rfl, rfl, Nat.le_refl _, fun _ _ _ => rfl⟩
theorem grownBy_then {a b c : World} {row : Option Nat} (h : a.grownBy b row) (k : b.grownBy c row) : a.grownBy c row :=
  ⟨k.os.trans h.os, k.tape.trans h.tape, k.output.trans h.output, Nat.le_trans h.size k.size, fun i hi hr => (k.block i (Nat.lt_of_lt_of_le hi h.size) hr).trans (h.block i hi hr)⟩
theorem grownBy_below {a b : World} (h : Below a.heap.size a b) (row : Option Nat) : a.grownBy b row := ⟨h.os, h.tape, h.output, h.size, fun k hk _ => h.block k hk⟩
theorem grownBy_cell (W : World) (g o : Nat) (v : Value) : W.grownBy (W.setCell ⟨g, o, none⟩ v) (some g) :=
  ⟨rfl, rfl, rfl, by simp [World.setCell], fun k _ hk => Below.heap_setCell _ _ _ k (fun e => hk (by rw [e]))⟩

end Go.Proofs.YtkomghohdhengaaDoor


