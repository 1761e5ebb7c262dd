/- What a promise's law holds while it runs: orders in their variables, orders, lists; all of it stays. Plain facts on worlds. -/
import Derived.Test.YtkomghohdhengaaDoorPc31
import Derived.Test.YtkomghohdhengaaDoorPc1
namespace Go.Proofs.YtkomghohdhengaaDoor
open Go.RowKit Go.Deep Go.Shelf

/-- A thing that is held: an order in its variable; an order; a list; a number's box. -/
inductive Th where
  | box (b : Nat) (u : Value) (rows : Rows2)
  | ord (u : Value) (rows : Rows2)
  | ints (u : Value) (xs : List Int)
def Th.at (W : World) : Th → Prop
  | .box b u rows => Boxed W b 25 u ∧ RowsAt W u rows
  | .ord u rows => RowsAt W u rows
  | .ints u xs => IntsAt W u xs
theorem Th.below {W W' : World} {i : Th} (h : i.at W) (hb : Below W.heap.size W W') : i.at W' := by
  cases i with
  | box b u rows => exact ⟨(hb.block _ h.1.lt).trans h.1, h.2.below hb⟩
  | ord u rows => exact RowsAt.below h hb
  | ints u xs => exact IntsAt.below h hb
/-- The world W, since w: all that lay there lies as it lay, and these things are there. -/
structure Ks (w : World) (is : List Th) (W : World) : Prop where
  below : Below w.heap.size w W
  all : ∀ i ∈ is, i.at W
section
variable {w W W' : World} {is : List Th}
theorem Ks.start (w : World) : Ks w [] w := ⟨Below.refl _ _, fun _ h => by cases h⟩
theorem Ks.step (h : Ks w is W) (hb : Below W.heap.size W W') : Ks w is W' := ⟨h.below.trans (hb.mono h.below.size), fun i hi => Th.below (h.all i hi) hb⟩
theorem Ks.drew (h : Ks w is W) : Ks w is W.drew := h.step ⟨rfl, rfl, rfl, Nat.le_refl _, fun _ _ => rfl⟩
theorem Ks.push {i : Th} (h : Ks w is W) (hi : i.at W) : Ks w (i :: is) W := ⟨h.below, fun j hj => by
  rcases List.mem_cons.1 hj with e | e
  · subst e; exact hi
  · exact h.all j e⟩
theorem Ks.alloc (h : Ks w is W) (o : Obj) : Ks w is (W.alloc o) := h.step ((Below.refl _ _).alloc (Nat.le_refl _) o)
/-- A variable for an order. -/
theorem Ks.box {u : Value} {rows : Rows2} (h : Ks w is W) (hr : RowsAt W u rows) : Ks w (.box W.heap.size u rows :: is) (W.alloc (.cells #[u] 25)) :=
  (h.alloc _).push ⟨Boxed.new _ _ _, hr.below ((Below.refl _ _).alloc (Nat.le_refl _) _)⟩
theorem Ks.get {i : Th} (h : Ks w is W) (k : Nat) (e : is[k]? = some i) : i.at W := h.all i (List.mem_of_getElem? e)
theorem Ks.cell {b : Nat} {u : Value} {rows : Rows2} (h : Ks w is W) (k : Nat) (e : is[k]? = some (.box b u rows)) : W.cell? ⟨b, 0, none⟩ = some u := (h.get k e : Boxed _ _ _ _ ∧ _).1.cell
theorem Ks.rows {b : Nat} {u : Value} {rows : Rows2} (h : Ks w is W) (k : Nat) (e : is[k]? = some (.box b u rows)) : RowsAt W u rows := (h.get k e : Boxed _ _ _ _ ∧ _).2
theorem Ks.ord {u : Value} {rows : Rows2} (h : Ks w is W) (k : Nat) (e : is[k]? = some (.ord u rows)) : RowsAt W u rows := h.get k e
theorem Ks.ints {u : Value} {xs : List Int} (h : Ks w is W) (k : Nat) (e : is[k]? = some (.ints u xs)) : IntsAt W u xs := h.get k e
end
theorem sameInts_self (v u : Value) (xs : List Int) (w : World) (hv : IntsAt w v xs) (hu : IntsAt w u xs) : Calls Tryd.prog 19 #[v, u] w (SaysN true w) :=
  (sameInts_any v u xs xs w hv hu).mono fun _ _ ⟨he, n, hw⟩ => ⟨by rw [he]; simp, by rw [hw]; exact below_drewN' _ _ _⟩
theorem sameOrderP_self (v u : Value) (xs : Rows2) (w : World) (hv : RowsAt w v xs) (hu : RowsAt w u xs) : Calls Tryd.prog 37 #[.agg #[v], .agg #[u]] w (SaysN true w) :=
  (sameOrder_any v u xs xs w hv hu).mono fun _ _ ⟨he, hw⟩ => ⟨by rw [he]; simp, hw⟩
end Go.Proofs.YtkomghohdhengaaDoor
