/- While a code is drawn from: the reader, and all that has been drawn, lie behind one another in memory. Plain facts on worlds. -/
import Derived.Test.YtkomghohdhengaaDoorPc8
import Derived.Test.YtkomghohdhengaaDoorPc35
namespace Go.Proofs.YtkomghohdhengaaDoor
open Go.RowKit Go.Deep Go.Shelf

/-- The reader at block r, q picks on. -/
def ItD (r : Nat) (v : Value) (q : Nat) : It := ⟨r, r + 1, fun W => W.rowIs r 138 2 (rdF v q), fun _ _ h k => k.of_block (h r (Nat.le_refl _) (Nat.lt_succ_self _))⟩
theorem CodeAt.back {B : Nat} {W W' : World} {v : Value} (h : CodeAt B W' v) (hb : Below B W W') : CodeAt B W v := by
  obtain ⟨a, n, C, rfl, h1, h2, h3⟩ := h
  refine ⟨a, n, C, rfl, h1, h2, fun i hi => ?_⟩
  obtain ⟨b, o, x, e, hlt, hx, hc⟩ := h3 i hi
  exact ⟨b, o, x, e, hlt, hx, by rw [← hb.cell (p := ⟨b, o + i, none⟩) hlt]; exact hc⟩
theorem Holds.abovePush {W W' : World} {it : It} (h1 : W.heap.size ≤ it.lo) (h2 : it.lo ≤ it.hi) (h3 : it.hi ≤ W'.heap.size) (hP : it.P W') :
    ∀ {is : List It} {n : Nat}, Holds W n is → (∀ b, n ≤ b → b < W.heap.size → W'.heap[b]? = W.heap[b]?) → Holds W' n (is ++ [it])
  | [], _, h, _ => ⟨Nat.le_trans h h1, h2, hP, h3⟩
  | i :: _, _, h, hb => ⟨h.1, h.2.1, i.loc W W' (fun b hl hh => hb b (Nat.le_trans h.1 hl) (Nat.lt_of_lt_of_le hh h.2.2.2.le)) h.2.2.1, Holds.abovePush h1 h2 h3 hP h.2.2.2 (fun b hl hs => hb b (Nat.le_trans h.1 (Nat.le_trans h.2.1 hl)) hs)⟩
theorem Holds.turnPush {W W' : World} {i0 i1 it : It} (hlo : i1.lo = i0.lo) (hhi : i1.hi = i0.hi) (ht : Turned i0.lo i0.hi W W') (hP1 : i1.P W') (h1 : W.heap.size ≤ it.lo) (h2 : it.lo ≤ it.hi) (h3 : it.hi ≤ W'.heap.size) (hP : it.P W') :
    ∀ {is : List It} {n : Nat} (k : Nat), is[k]? = some i0 → Holds W n is → Holds W' n (is.set k i1 ++ [it])
  | [], _, k, e, _ => by simp at e
  | i :: is, n, 0, e, h => by
    obtain rfl : i = i0 := by simpa using e
    refine ⟨by rw [hlo]; exact h.1, by rw [hlo, hhi]; exact h.2.1, hP1, ?_⟩
    rw [hhi]
    exact Holds.abovePush h1 h2 h3 hP h.2.2.2 fun b hl hs => ht.above b hl hs
  | i :: is, n, k + 1, e, h => by
    have e' : is[k]? = some i0 := by simpa using e
    have hg := Holds.get k e' h.2.2.2
    exact ⟨h.1, h.2.1, i.loc W W' (fun b _ hh => ht.below.block b (Nat.lt_of_lt_of_le hh hg.1)) h.2.2.1, Holds.turnPush hlo hhi ht hP1 h1 h2 h3 hP k e' h.2.2.2⟩

section
variable {w W W' : World} {is : List It} {r q q' : Nat} {v : Value}
theorem St.rdAt (h : St w is W) (hc : CodeAt w.heap.size w v) (k : Nat) (e : is[k]? = some (ItD r v q)) : RdAt r v q W := by
  obtain ⟨h1, _, _, h4⟩ := h.holds.get k e
  exact ⟨h4, (hc.below h.below).wider h1⟩
/-- A reader that is new. -/
theorem St.reader (h : RdAt w.heap.size v 0 W) (hb : Below w.heap.size w W) (hz : W.heap.size = w.heap.size + 1) : St w [ItD w.heap.size v 0] W :=
  (St.start w).push (it := ItD w.heap.size v 0) hb (Nat.le_refl _) (Nat.le_succ _) (by show w.heap.size + 1 ≤ _; omega) h.row
theorem St.picked (h : St w is W) (k : Nat) (e : is[k]? = some (ItD r v q)) (hd : Dr r v W q' W') : St w (is.set k (ItD r v q')) W' :=
  h.turn (it' := ItD r v q') k e rfl rfl hd.turned hd.rd.row
theorem St.drawn {it : It} (h : St w is W) (k : Nat) (e : is[k]? = some (ItD r v q)) (hd : Dr r v W q' W') (h1 : W.heap.size ≤ it.lo) (h2 : it.lo ≤ it.hi) (h3 : it.hi ≤ W'.heap.size) (hP : it.P W') : St w (is.set k (ItD r v q') ++ [it]) W' :=
  ⟨h.below.trans (hd.turned.below.mono (h.holds.get k e).1), h.holds.turnPush (i0 := ItD r v q) (i1 := ItD r v q') rfl rfl hd.turned hd.rd.row h1 h2 h3 hP k e⟩
theorem St.drawnR {u : Value} {n : Nat} {R : Nat → List Int} (h : St w is W) (k : Nat) (e : is[k]? = some (ItD r v q)) (hd : Dr r v W q' W') (ho : OwnR 3 26 W' u n R W.heap.size W'.heap.size) :
    St w (is.set k (ItD r v q') ++ [ItR u n R W.heap.size W'.heap.size]) W' :=
  h.drawn (it := ItR u n R W.heap.size W'.heap.size) k e hd (Nat.le_refl _) hd.size (Nat.le_refl _) ho
theorem St.drawnI {u : Value} {xs : List Int} (h : St w is W) (k : Nat) (e : is[k]? = some (ItD r v q)) (hd : Dr r v W q' W') (ho : OwnI 3 W' u xs W.heap.size W'.heap.size) :
    St w (is.set k (ItD r v q') ++ [ItI u xs W.heap.size W'.heap.size]) W' :=
  h.drawn (it := ItI u xs W.heap.size W'.heap.size) k e hd (Nat.le_refl _) hd.size (Nat.le_refl _) ho
/-- A list of one number, 0. -/
theorem St.lit (h : St w is W) : St w (is ++ [ItI (.slice (some ⟨W.heap.size, 0, none⟩) 1 1) [0] W.heap.size (W.heap.size + 1)]) (W.alloc (.cells #[.int .i64 0] 3)) := by
  refine h.push (it := ItI (.slice (some ⟨W.heap.size, 0, none⟩) 1 1) [0] W.heap.size (W.heap.size + 1)) ((Below.refl _ _).alloc (Nat.le_refl _) _) (Nat.le_refl _) (Nat.le_succ _) (by rw [World.size_alloc]; exact Nat.le_refl _) ?_
  refine ⟨fun x hx => by rw [List.mem_singleton] at hx; rw [hx]; decide, .inr ⟨W.heap.size, 1, fun _ => .int .i64 0, rfl, Nat.le_refl _, by decide, Nat.le_refl _, Nat.lt_succ_self _, World.rowIs_alloc W #[.int .i64 0] 3 _ (fun i hi => ?_), fun i hi => ?_⟩⟩
  · have h1 : i < 1 := by simpa using hi
    obtain rfl : i = 0 := by omega
    rfl
  · have h1 : i < 1 := by simpa using hi
    obtain rfl : i = 0 := by omega
    rfl
end
theorem Holds.ownRW {W : World} {is : List It} {n m N lo hi : Nat} {u : Value} {R : Nat → List Int} (h : Holds W n is) (k : Nat) (e : is[k]? = some (ItR u N R lo hi)) (hm : m ≤ n) : OwnR 3 26 W u N R m W.heap.size := by
  obtain ⟨h1, _, h3, h4⟩ := h.get k e
  exact OwnR.wider h4 (Nat.le_trans hm h1) h3
theorem Holds.ownIW {W : World} {is : List It} {n m lo hi : Nat} {u : Value} {xs : List Int} (h : Holds W n is) (k : Nat) (e : is[k]? = some (ItI u xs lo hi)) (hm : m ≤ n) : OwnI 3 W u xs m W.heap.size := by
  obtain ⟨h1, _, h3, h4⟩ := h.get k e
  exact OwnI.wider h4 (Nat.le_trans hm h1) h3
/-- Nothing has turned but blocks from lo on and below hi. -/
structure Low (lo hi : Nat) (W W' : World) : Prop where
  below : Below lo W W'
  same : ∀ b, hi ≤ b → W'.heap[b]? = W.heap[b]?
  size : W'.heap.size = W.heap.size
theorem Low.refl (lo hi : Nat) (W : World) : Low lo hi W W := ⟨Below.refl _ _, fun _ _ => rfl, rfl⟩
theorem Low.set {lo hi b o : Nat} {x : Value} {W W' : World} (h : Low lo hi W W') (h1 : lo ≤ b) (h2 : b < hi) : Low lo hi W (W'.setCell ⟨b, o, none⟩ x) :=
  ⟨h.below.setCell (p := ⟨b, o, none⟩) h1 _, fun c hc => (Below.heap_setCell _ _ _ c (show c ≠ b by omega)).trans (h.same c hc), by rw [size_setCell]; exact h.size⟩
theorem Low.holds {lo : Nat} {w W W' : World} {is : List It} (h : Low lo w.heap.size W W') (hs : St w is W) : Holds W' w.heap.size is := hs.holds.above (fun b hb _ => h.same b hb) (by rw [h.size]; exact Nat.le_refl _)
theorem Low.ownR {lo hi N m : Nat} {W W' : World} {u : Value} {R : Nat → List Int} (h : Low lo hi W W') (ho : OwnR 3 26 W u N R hi W.heap.size) (hm : m ≤ hi) : OwnR 3 26 W' u N R m W'.heap.size := by
  rw [h.size]
  exact (ho.kept fun b hb _ => h.same b hb).wider hm (Nat.le_refl _)
theorem Low.ownI {lo hi m : Nat} {W W' : World} {u : Value} {xs : List Int} (h : Low lo hi W W') (ho : OwnI 3 W u xs hi W.heap.size) (hm : m ≤ hi) : OwnI 3 W' u xs m W'.heap.size := by
  rw [h.size]
  exact (ho.kept fun b hb => h.same b (ho.block b hb).1).wider hm (Nat.le_refl _)
theorem cell_keep {W : World} {p a : Addr} {v x : Value} (h : W.cell? a = some v) (hne : p.block ≠ a.block) : (W.setCell p x).cell? a = some v := by rw [World.cell?_setCell_far _ _ _ _ hne]; exact h
theorem below_trans2 {w W1 W2 W3 : World} (h : Below w.heap.size w W1) (h2 : Below W1.heap.size W1 W2) (h3 : Below w.heap.size W2 W3) : Below w.heap.size w W3 := (h.trans (h2.mono h.size)).trans h3
end Go.Proofs.YtkomghohdhengaaDoor
