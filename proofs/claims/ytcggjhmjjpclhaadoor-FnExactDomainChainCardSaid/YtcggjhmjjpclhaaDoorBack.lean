/- The program's order turned round (grid.back). -/
import Derived.Test.YtcggjhmjjpclhaaDoorBottom
import Derived.Test.YtcggjhmjjpclhaaDoorMarks
import Derived.Test.YtcggjhmjjpclhaaDoorGridK
import Derived.Test.YtcggjhmjjpclhaaDoorRowIn
namespace Go.Proofs.YtcggjhmjjpclhaaDoor
open Go.RowKit Go.Deep Go.Shelf
attribute [local go_sem] Oper.semAt_some

/-! ### Plain facts -/
/-- Row k of the first n rows turned round. -/
def backN (g : Nat → Nat) : Nat → Nat → Nat
  | 0, _ => 0
  | i + 1, k => if (g i).testBit k then put (backN g i k) i else backN g i k
theorem backN_bit (g : Nat → Nat) (k i : Nat) : ∀ n, (backN g n k).testBit i = (decide (i < n) && (g i).testBit k)
  | 0 => by simp [backN]
  | n + 1 => by
    have ih := backN_bit g k i n
    unfold backN
    by_cases h : (g n).testBit k = true
    · rw [if_pos h, testBit_put, ih]
      by_cases e : n = i
      · subst e; simp [h]
      · rw [decide_eq_false e, Bool.or_false]
        congr 1
        rw [decide_eq_decide]; omega
    · rw [if_neg h, ih]
      by_cases e : i = n
      · subst e; simp [h]
      · congr 1
        rw [decide_eq_decide]; omega
theorem backN_lt (g : Nat → Nat) (k : Nat) : ∀ n, n ≤ 256 → backN g n k < 2 ^ 256
  | 0, _ => Nat.two_pow_pos 256
  | n + 1, h => by
    have ih := backN_lt g k n (by omega)
    unfold backN
    split
    · exact put_lt ih (by omega)
    · exact ih
/-- The same, with the numbers ks of row i. -/
def backM (g : Nat → Nat) (i : Nat) (ks : List Nat) (k : Nat) : Nat := if k ∈ ks then put (backN g i k) i else backN g i k
theorem backM_nil (g : Nat → Nat) (i : Nat) : backM g i [] = backN g i := by funext k; simp [backM]
theorem put_put (r k : Nat) : put (put r k) k = put r k := by unfold put; rw [Nat.or_assoc, Nat.or_self]
theorem backM_snoc (g : Nat → Nat) (i : Nat) (ks : List Nat) (k : Nat) : (fun j => if j = k then put (backM g i ks k) i else backM g i ks j) = backM g i (ks ++ [k]) := by
  funext j
  unfold backM
  by_cases e : j = k
  · subst e
    rw [if_pos rfl, if_pos (show j ∈ ks ++ [j] by simp)]
    split
    · exact put_put _ _
    · rfl
  · rw [if_neg e]
    have : (j ∈ ks ++ [k]) = (j ∈ ks) := by simp [e]
    simp only [this]
theorem backM_done {g : Nat → Nat} {i : Nat} (h : g i < 2 ^ 256) : backM g i (elems (g i)) = backN g (i + 1) := by
  funext k
  unfold backM
  rw [show backN g (i + 1) k = if (g i).testBit k then put (backN g i k) i else backN g i k from rfl]
  by_cases e : (g i).testBit k = true
  · rw [if_pos ((mem_elems h).2 e), if_pos e]
  · rw [if_neg (fun hm => e ((mem_elems h).1 hm)), if_neg e]

/-- A number is put into row k of a grid. -/
theorem GridAt.putAt {W : World} {b : Nat} {g : Nat → Nat} (h : GridAt W b g) {k i : Nat} (hk : k < 200) (hi : i < 256) (m : Nat) :
    GridAt ((W.drewN m).setCell ⟨b, k * 4 + i / 64, none⟩ (.int .u64 ((word (g k) (i / 64) ||| 2 ^ (i % 64) : Nat) : Int))) b (fun j => if j = k then put (g k) i else g j) := by
  have hW : GridAt (W.drewN m) b g := h.below (below_drewN' _ _ _) h.lt
  have hset := hW.set (g' := fun j => if j = k then put (g k) i else g j) k (i / 64) hk (by omega) (word (g k) (i / 64) ||| 2 ^ (i % 64)) (fun j => by
    show (if j = k then put (g k) i else g j) < 2 ^ 256
    split
    · exact put_lt (h.2 k) hi
    · exact h.2 j) (fun i' j' _ _ => by
    show word (if i' = k then put (g k) i else g i') j' = _
    by_cases e : i' = k
    · subst e
      rw [if_pos rfl, word_put]
      by_cases e2 : i / 64 = j'
      · subst e2; rw [if_pos rfl, if_pos ⟨rfl, rfl⟩]
      · rw [if_neg e2, if_neg (fun h => e2 h.2.symm)]
    · rw [if_neg e, if_neg (fun h => e h.1)])
  rw [Nat.mul_comm] at hset
  exact hset

theorem addTo_any (b k i : Nat) (a : Int) (g : Nat → Nat) (W : World) (h : GridAt W b g) (hk : k < 200) (hi : i < 200) (ha : a = i) :
    Calls Tryd.prog 24 #[.pointer (some ⟨b, k * 4, none⟩), .int .i64 a] W (Puts ⟨b, k * 4 + i / 64, none⟩ (.int .u64 ((word (g k) (i / 64) ||| 2 ^ (i % 64) : Nat) : Int)) W) := by
  have hw := h.cell k (i / 64) hk (by omega)
  rw [Nat.mul_comm] at hw
  exact add_any b (k * 4) a i (word (g k) (i / 64)) W ha (by omega) (word_lt _ _) hw (h.frozen _)
theorem GridAt.kept {W W' : World} {row : Option Nat} {b : Nat} {g : Nat → Nat} (h : GridAt W b g) (hg : W.grownBy W' row) (hr : ∀ r, row = some r → ∃ o : Obj, W.heap[r]? = some o ∧ o.isCells = false) : GridAt W' b g := ⟨blk_kept h.1 hg hr, h.2⟩

theorem keeps_put (W : World) (m : Nat) (a : Addr) (v : Value) : KeepsOthers W ((W.drewN m).setCell a v) :=
  (show KeepsOthers W (W.drewN m) from ⟨Nat.le_refl _, fun _ _ h _ => h⟩).trans (KeepsOthers.setCell _ _ _)
theorem boxed_apart {W : World} {p : Nat} {t : TypeId} {u : Value} (h : Boxed W p t u) (m : Nat) {q : Nat} (hq : p ≠ q) (o : Nat) (v : Value) : Boxed ((W.drewN m).setCell ⟨q, o, none⟩ v) p t u := by
  show ((W.drewN m).setCell ⟨q, o, none⟩ v).heap[p]? = _
  rw [heap_setCell_other _ ⟨q, o, none⟩ p v hq]
  exact h
theorem GridAt.apart {W : World} {b : Nat} {g : Nat → Nat} (h : GridAt W b g) (m : Nat) {q : Nat} (hq : b ≠ q) (o : Nat) (v : Value) : GridAt ((W.drewN m).setCell ⟨q, o, none⟩ v) b g :=
  (h.below (below_drewN' W m _) h.lt).setOther (a := ⟨q, o, none⟩) hq v
theorem below_put {B : Nat} {w W : World} (h : Below B w W) (m : Nat) {q : Nat} (hq : B ≤ q) (o : Nat) (v : Value) : Below B w ((W.drewN m).setCell ⟨q, o, none⟩ v) :=
  (h.trans (below_drewN' _ m _)).setCell (p := ⟨q, o, none⟩) hq _

/-- The grid g as a value, and a world in which nothing that was there has turned. -/
def SaysG (g : Nat → Nat) (w : World) (e : Ending) (w' : World) : Prop := e = .returned (.agg (gridCells g)) ∧ Below w.heap.size w w'

end Go.Proofs.YtcggjhmjjpclhaaDoor
