/- What the walks of heights and covers share: boxes, a row in a block, what a call keeps. -/
import Derived.Test.YtnniffjjbekodaaDoorBack
import Derived.Test.YtnniffjjbekodaaDoorHgtP
namespace Go.Proofs.YtnniffjjbekodaaDoor
open Go.RowKit Go.Deep Go.Shelf
attribute [local go_sem] Oper.semAt_some

theorem keeps_below {W W' : World} (h : Below W.heap.size W W') : KeepsOthers W W' :=
  ⟨h.size, fun k _ hk _ => (h.block k (Array.getElem?_eq_some_iff.1 hk).1).trans hk⟩
theorem topsOf_nil (g : Nat → Nat) (s : Nat) : topsOf g s [] = 0 := rfl
theorem rowIn_zero (W : World) : RowIn (W.alloc (.cells #[.int .u64 0, .int .u64 0, .int .u64 0, .int .u64 0] 86)) W.heap.size 0 := by
  refine ⟨?_, Nat.two_pow_pos 256⟩
  have h := heap_alloc_new W (.cells #[.int .u64 0, .int .u64 0, .int .u64 0, .int .u64 0] 86)
  simpa [word] using h

theorem boxed_other {W : World} {p q : Nat} {t : TypeId} {u : Value} (h : Boxed W p t u) (hq : p ≠ q) (o : Nat) (v : Value) : Boxed (W.setCell ⟨q, o, none⟩ v) p t u := by
  show (W.setCell ⟨q, o, none⟩ v).heap[p]? = _
  rw [heap_setCell_other _ ⟨q, o, none⟩ p v hq]
  exact h
theorem rowAdd_any (p s k : Nat) (a : Int) (W : World) (ha : a = k) (h : RowIn W p s) (hk : k < 256) :
    Calls Tryd.prog 94 #[.pointer (some ⟨p, 0, none⟩), .int .i64 a] W (Puts ⟨p, k / 64, none⟩ (.int .u64 ((word s (k / 64) ||| 2 ^ (k % 64) : Nat) : Int)) W) := by
  have hcall := add_any p 0 a k (word s (k / 64)) W ha hk (word_lt _ _) (by rw [Nat.zero_add]; exact h.cellAt (by omega)) (h.frozen _)
  rw [Nat.zero_add] at hcall
  exact hcall
end Go.Proofs.YtnniffjjbekodaaDoor
