/- What a law holds while it runs, as a list of things that lie one behind the other in memory: variables' boxes, copies, answers. Plain facts on worlds: no function is walked here. -/
import Derived.Test.YtkomghohdhengaaDoorPc1
import Derived.Test.YtkomghohdhengaaDoorPc5
import Derived.Test.YtkomghohdhengaaDoorPc4
import Derived.RangeFuncBox
import Derived.Test.YtkomghohdhengaaDoorPc6
import Derived.RangeFuncNested
import Derived.RangeFuncBound
import Derived.RangeFuncCalls
import Derived.RangeFuncLeaves
import Derived.Shelf.Abstract
import Derived.Shelf.RegionOpen
import Derived.OwnWalkIn
import Derived.TacticsInMore
import Derived.LoopNIn
import Derived.LoopIn
import Derived.Maps.AppendAt
import Derived.Laws.MakeOwn
namespace Go.Proofs.YtkomghohdhengaaDoor
open Go.RowKit Go.Deep

/-- A thing that lies between the blocks lo and hi, and hangs on these alone. -/
structure It where
  lo : Nat
  hi : Nat
  P : World → Prop
  loc : ∀ W W' : World, (∀ b, lo ≤ b → b < hi → W'.heap[b]? = W.heap[b]?) → P W → P W'

/-- A list of integers in memory of its own; rows likewise; a variable's box. -/
def ItI (v : Value) (xs : List Int) (lo hi : Nat) : It := ⟨lo, hi, fun W => OwnI 3 W v xs lo hi, fun _ _ h k => k.kept fun b e => h b (k.block b e).1 (k.block b e).2.1⟩
def ItR (v : Value) (n : Nat) (R : Nat → List Int) (lo hi : Nat) : It := ⟨lo, hi, fun W => OwnR 3 26 W v n R lo hi, fun _ _ h k => k.kept h⟩
def ItB (b : Nat) (t : TypeId) (v : Value) : It := ⟨b, b + 1, fun W => Boxed W b t v, fun _ _ h k => (h b (Nat.le_refl _) (Nat.lt_succ_self _)).trans k⟩

def Holds (W : World) : Nat → List It → Prop
  | n, [] => n ≤ W.heap.size
  | n, i :: is => n ≤ i.lo ∧ i.lo ≤ i.hi ∧ i.P W ∧ Holds W i.hi is

theorem Holds.le {W : World} : ∀ {is : List It} {n : Nat}, Holds W n is → n ≤ W.heap.size
  | [], _, h => h
  | _ :: _, _, h => Nat.le_trans h.1 (Nat.le_trans h.2.1 (Holds.le h.2.2.2))
theorem Holds.above {W W' : World} : ∀ {is : List It} {n : Nat}, Holds W n is → (∀ b, n ≤ b → b < W.heap.size → W'.heap[b]? = W.heap[b]?) → W.heap.size ≤ W'.heap.size → Holds W' n is
  | [], _, h, _, hz => Nat.le_trans h hz
  | i :: _, _, h, hb, hz => ⟨h.1, h.2.1, i.loc W W' (fun b hl hh => hb b (Nat.le_trans h.1 hl) (Nat.lt_of_lt_of_le hh h.2.2.2.le)) h.2.2.1, h.2.2.2.above (fun b hl hs => hb b (Nat.le_trans h.1 (Nat.le_trans h.2.1 hl)) hs) hz⟩
theorem Holds.step {W W' : World} {is : List It} {n : Nat} (h : Holds W n is) (hb : Below W.heap.size W W') : Holds W' n is := h.above (fun b _ hs => hb.block b hs) hb.size
theorem Holds.push {W W' : World} {it : It} (hb : Below W.heap.size W W') (h1 : W.heap.size ≤ it.lo) (h2 : it.lo ≤ it.hi) (h3 : it.hi ≤ W'.heap.size) (hP : it.P W') : ∀ {is : List It} {n : Nat}, Holds W n is → Holds W' n (is ++ [it])
  | [], _, h => ⟨Nat.le_trans h h1, h2, hP, h3⟩
  | i :: _, _, h => ⟨h.1, h.2.1, i.loc W W' (fun b _ hh => hb.block b (Nat.lt_of_lt_of_le hh h.2.2.2.le)) h.2.2.1, Holds.push hb h1 h2 h3 hP h.2.2.2⟩
theorem Holds.pop {W : World} {it : It} : ∀ {is : List It} {n : Nat}, Holds W n (is ++ [it]) → Holds W n is
  | [], _, h => Nat.le_trans h.1 (Nat.le_trans h.2.1 h.2.2.2)
  | _ :: _, _, h => ⟨h.1, h.2.1, h.2.2.1, Holds.pop h.2.2.2⟩
theorem Holds.take {W : World} : ∀ {is : List It} {n : Nat} (k : Nat), Holds W n is → Holds W n (is.take k)
  | [], _, k, h => by rw [List.take_nil]; exact h
  | _ :: _, _, 0, h => Nat.le_trans h.1 (Nat.le_trans h.2.1 h.2.2.2.le)
  | _ :: _, _, k + 1, h => ⟨h.1, h.2.1, h.2.2.1, Holds.take k h.2.2.2⟩
theorem Holds.get {W : World} {it : It} : ∀ {is : List It} {n : Nat} (k : Nat), is[k]? = some it → Holds W n is → n ≤ it.lo ∧ it.lo ≤ it.hi ∧ it.hi ≤ W.heap.size ∧ it.P W
  | [], _, k, e, _ => by simp at e
  | i :: is, n, 0, e, h => by
    obtain rfl : i = it := by simpa using e
    exact ⟨h.1, h.2.1, h.2.2.2.le, h.2.2.1⟩
  | i :: is, n, k + 1, e, h => by
    have e' : is[k]? = some it := by simpa using e
    obtain ⟨a, b, c, d⟩ := Holds.get k e' h.2.2.2
    exact ⟨Nat.le_trans h.1 (Nat.le_trans h.2.1 a), b, c, d⟩
theorem Holds.turn {W W' : World} {it it' : It} (hlo : it'.lo = it.lo) (hhi : it'.hi = it.hi) (ht : Turned it.lo it.hi W W') (hP : it'.P W') : ∀ {is : List It} {n : Nat} (k : Nat), is[k]? = some it → Holds W n is → Holds W' n (is.set k it')
  | [], _, k, e, _ => by simp at e
  | i :: is, n, 0, e, h => by
    obtain rfl : i = it := by simpa using e
    refine ⟨by rw [hlo]; exact h.1, by rw [hlo, hhi]; exact h.2.1, hP, ?_⟩
    rw [hhi]
    exact h.2.2.2.above (fun b hl hs => ht.above b hl hs) ht.below.size
  | i :: is, n, k + 1, e, h => by
    have e' : is[k]? = some it := by simpa using e
    have hg := Holds.get k e' h.2.2.2
    exact ⟨h.1, h.2.1, i.loc W W' (fun b _ hh => ht.below.block b (Nat.lt_of_lt_of_le hh hg.1)) h.2.2.1, Holds.turn hlo hhi ht hP k e' h.2.2.2⟩

/-- The world W, since w: all that lay there lies as it lay, and behind it lie these things. -/
structure St (w : World) (is : List It) (W : World) : Prop where
  below : Below w.heap.size w W
  holds : Holds W w.heap.size is

section
variable {w : World} {is : List It} {W W' : World}
theorem St.start (w : World) : St w [] w := ⟨Below.refl _ _, Nat.le_refl _⟩
theorem St.step (h : St w is W) (hb : Below W.heap.size W W') : St w is W' := ⟨h.below.trans (hb.mono h.below.size), h.holds.step hb⟩
theorem St.drew (h : St w is W) : St w is W.drew := h.step ⟨rfl, rfl, rfl, Nat.le_refl _, fun _ _ => rfl⟩
theorem St.drewN (h : St w is W) (n : Nat) : St w is (W.drewN n) := h.step ⟨rfl, rfl, rfl, Nat.le_refl _, fun _ _ => rfl⟩
theorem St.push {it : It} (h : St w is W) (hb : Below W.heap.size W W') (h1 : W.heap.size ≤ it.lo) (h2 : it.lo ≤ it.hi) (h3 : it.hi ≤ W'.heap.size) (hP : it.P W') : St w (is ++ [it]) W' :=
  ⟨h.below.trans (hb.mono h.below.size), h.holds.push hb h1 h2 h3 hP⟩
theorem St.pop {it : It} (h : St w (is ++ [it]) W) : St w is W := ⟨h.below, h.holds.pop⟩
theorem St.take (h : St w is W) (k : Nat) : St w (is.take k) W := ⟨h.below, h.holds.take k⟩
theorem St.box (h : St w is W) (t : TypeId) (v : Value) : St w (is ++ [ItB W.heap.size t v]) (W.alloc (.cells #[v] t)) :=
  h.push ((Below.refl _ _).alloc (Nat.le_refl _) _) (Nat.le_refl _) (Nat.le_succ _) (by rw [World.size_alloc]; exact Nat.le_refl _) (Boxed.new W t v)
theorem St.pushI {v : Value} {xs : List Int} (h : St w is W) (hb : Below W.heap.size W W') (ho : OwnI 3 W' v xs W.heap.size W'.heap.size) : St w (is ++ [ItI v xs W.heap.size W'.heap.size]) W' :=
  h.push hb (Nat.le_refl _) hb.size (Nat.le_refl _) ho
theorem St.pushR {v : Value} {n : Nat} {R : Nat → List Int} (h : St w is W) (hb : Below W.heap.size W W') (ho : OwnR 3 26 W' v n R W.heap.size W'.heap.size) : St w (is ++ [ItR v n R W.heap.size W'.heap.size]) W' :=
  h.push hb (Nat.le_refl _) hb.size (Nat.le_refl _) ho
/-- The copies that the laws make. -/
theorem St.copyR {g : Nat} {G : Nat → Nat} {rows : Rows2} (h : St w is W) (hn : bulk rows ≤ maxLen) (hg : W.heap.size ≤ g) (ho : OwnRows 3 26 W' g W'.heap.size G rows) (hb : Below W.heap.size W W') :
    St w (is ++ [ItR (whole g rows.length) rows.length (rowsF rows) W.heap.size W'.heap.size]) W' :=
  h.pushR hb ((ho.ownR hn).wider hg (Nat.le_refl _))
theorem OwnInts.ownI {t : TypeId} {g : Nat} {xs : List Int} {hi : Nat} (h : OwnInts t W g xs) (hn : xs.length ≤ maxLen) (hg : g < hi) : OwnI t W (whole g xs.length) xs g hi :=
  ⟨h.2, .inr ⟨g, _, _, rfl, Nat.le_refl _, hn, Nat.le_refl _, hg, h.1, fun _ hi => intCell_lt hi⟩⟩
theorem St.copyI {xs : List Int} (h : St w is W) (hn : xs.length ≤ maxLen) (ho : OwnInts 3 W' W.heap.size xs) (hz : W'.heap.size = W.heap.size + 1) (hb : Below W.heap.size W W') :
    St w (is ++ [ItI (whole W.heap.size xs.length) xs W.heap.size W'.heap.size]) W' :=
  h.pushI hb (ho.ownI hn (by omega))
theorem St.cell {b : Nat} {t : TypeId} {v : Value} (h : St w is W) (k : Nat) (e : is[k]? = some (ItB b t v)) : W.cell? ⟨b, 0, none⟩ = some v := Boxed.cell (h.holds.get k e).2.2.2
theorem St.lt {b : Nat} {t : TypeId} {v : Value} (h : St w is W) (k : Nat) (e : is[k]? = some (ItB b t v)) : b < W.heap.size := Boxed.lt (h.holds.get k e).2.2.2
theorem St.ownI {v : Value} {xs : List Int} {lo hi : Nat} (h : St w is W) (k : Nat) (e : is[k]? = some (ItI v xs lo hi)) : OwnI 3 W v xs lo hi := (h.holds.get k e).2.2.2
theorem St.ownR {v : Value} {n : Nat} {R : Nat → List Int} {lo hi : Nat} (h : St w is W) (k : Nat) (e : is[k]? = some (ItR v n R lo hi)) : OwnR 3 26 W v n R lo hi := (h.holds.get k e).2.2.2
theorem St.ints {v : Value} {xs : List Int} {lo hi : Nat} (h : St w is W) (k : Nat) (e : is[k]? = some (ItI v xs lo hi)) : IntsAt W v xs := (h.ownI k e).at
theorem St.rows {v : Value} {rows : Rows2} {lo hi : Nat} (h : St w is W) (k : Nat) (e : is[k]? = some (ItR v rows.length (rowsF rows) lo hi)) : RowsAt W v rows := (h.ownR k e).at
theorem St.boundsR {v : Value} {n : Nat} {R : Nat → List Int} {lo hi : Nat} (h : St w is W) (k : Nat) (e : is[k]? = some (ItR v n R lo hi)) : lo ≤ W.heap.size ∧ hi ≤ W.heap.size := ⟨Nat.le_trans (h.holds.get k e).2.1 (h.holds.get k e).2.2.1, (h.holds.get k e).2.2.1⟩
theorem St.turn {it it' : It} (h : St w is W) (k : Nat) (e : is[k]? = some it) (hlo : it'.lo = it.lo) (hhi : it'.hi = it.hi) (ht : Turned it.lo it.hi W W') (hP : it'.P W') : St w (is.set k it') W' :=
  ⟨h.below.trans (ht.below.mono (h.holds.get k e).1), h.holds.turn hlo hhi ht hP k e⟩
theorem St.turnR {v : Value} {n : Nat} {R R' : Nat → List Int} {lo hi : Nat} (h : St w is W) (k : Nat) (e : is[k]? = some (ItR v n R lo hi)) (ht : Turned lo hi W W') (ho : OwnR 3 26 W' v n R' lo hi) : St w (is.set k (ItR v n R' lo hi)) W' :=
  h.turn (it' := ItR v n R' lo hi) k e rfl rfl ht ho
theorem St.turnI {v : Value} {xs ys : List Int} {lo hi : Nat} (h : St w is W) (k : Nat) (e : is[k]? = some (ItI v xs lo hi)) (hg : W.grownBy W' v.ownBlock) (ho : OwnI 3 W' v ys lo hi) : St w (is.set k (ItI v ys lo hi)) W' :=
  have hk := h.holds.get k e
  h.turn (it' := ItI v ys lo hi) k e rfl rfl (Turned.of_grownBy hg (Nat.le_trans hk.2.1 hk.2.2.1) fun b e' => ⟨((h.ownI k e).block b e').1, ((h.ownI k e).block b e').2.1⟩) ho
end
theorem St.start1 (w : World) (t : TypeId) (v : Value) : St w [ItB w.heap.size t v] (w.alloc (.cells #[v] t)) := (St.start w).box t v
theorem St.start2 (w : World) (t t' : TypeId) (v v' : Value) : St w [ItB w.heap.size t v, ItB (w.heap.size + 1) t' v'] ((w.alloc (.cells #[v] t)).alloc (.cells #[v'] t')) := by
  have h := (St.start1 w t v).box t' v'
  rw [World.size_alloc] at h
  exact h
theorem St.start3 (w : World) (t t' t2 : TypeId) (v v' v2 : Value) : St w [ItB w.heap.size t v, ItB (w.heap.size + 1) t' v', ItB (w.heap.size + 2) t2 v2] (((w.alloc (.cells #[v] t)).alloc (.cells #[v'] t')).alloc (.cells #[v2] t2)) := by
  have h := (St.start2 w t t' v v').box t2 v2
  rw [World.size_alloc, World.size_alloc] at h
  exact h
end Go.Proofs.YtkomghohdhengaaDoor

/- The reader of a code: its bytes and its place. Plain facts on worlds: no function is walked here. -/
namespace Go.Proofs.YtkomghohdhengaaDoor
open Go.RowKit Go.Deep

/-- A slice value that reads as bytes, all of them in blocks below B. -/
def CodeAt (B : Nat) (W : World) (v : Value) : Prop :=
  ∃ (a : Option Addr) (n C : Nat), v = .slice a n C ∧ n ≤ C ∧ C ≤ maxLen ∧ ∀ i, i < n → ∃ b o x : Nat, a = some ⟨b, o, none⟩ ∧ b < B ∧ x < 256 ∧ W.cell? ⟨b, o + i, none⟩ = some (.int .u8 (x : Int))
theorem CodeAt.below {B : Nat} {W W' : World} {v : Value} (h : CodeAt B W v) (hb : Below B W W') : CodeAt B W' v := by
  obtain ⟨a, n, C, rfl, h1, h2, h3⟩ := h
  refine ⟨a, n, C, rfl, h1, h2, fun i hi => ?_⟩
  obtain ⟨b, o, x, e, hlt, hx, hc⟩ := h3 i hi
  exact ⟨b, o, x, e, hlt, hx, by rw [hb.cell (p := ⟨b, o + i, none⟩) hlt]; exact hc⟩
theorem CodeAt.wider {B B' : Nat} {W : World} {v : Value} (h : CodeAt B W v) (hB : B ≤ B') : CodeAt B' W v := by
  obtain ⟨a, n, C, rfl, h1, h2, h3⟩ := h
  refine ⟨a, n, C, rfl, h1, h2, fun i hi => ?_⟩
  obtain ⟨b, o, x, e, hlt, hx, hc⟩ := h3 i hi
  exact ⟨b, o, x, e, Nat.lt_of_lt_of_le hlt hB, hx, hc⟩
theorem CodeAt.take {B : Nat} {W : World} {a : Option Addr} {n C m : Nat} (h : CodeAt B W (.slice a n C)) (hm : m ≤ n) : CodeAt B W (.slice a m C) := by
  obtain ⟨a', n', C', e, h1, h2, h3⟩ := h
  cases e
  exact ⟨a, m, C, rfl, Nat.le_trans hm h1, h2, fun i hi => h3 i (Nat.lt_of_lt_of_le hi hm)⟩

/-- What the reader's two cells hold. -/
def rdF (v : Value) (p : Nat) (i : Nat) : Value := if i = 0 then v else .int .i64 (p : Int)
/-- The reader at block r: its bytes v, its place p. -/
structure RdAt (r : Nat) (v : Value) (p : Nat) (W : World) : Prop where
  row : W.rowIs r 138 2 (rdF v p)
  code : CodeAt r W v
section
variable {r : Nat} {v : Value} {p : Nat} {W W' : World}
theorem RdAt.lt (h : RdAt r v p W) : r < W.heap.size := h.row.lt
theorem RdAt.below {B : Nat} (h : RdAt r v p W) (hb : Below B W W') (hr : r < B) : RdAt r v p W' :=
  ⟨rowIs_below h.row hb hr, h.code.below (hb.mono (Nat.le_of_lt hr))⟩
theorem RdAt.cells (h : RdAt r v p W) : W.cell? ⟨r, 0, none⟩ = some v ∧ W.cell? ⟨r, 1, none⟩ = some (.int .i64 (p : Int)) ∧ W.frozen? ⟨r, 1, none⟩ = false :=
  ⟨by rw [h.row.cell (by omega)]; rfl, by rw [h.row.cell (by omega)]; rfl, h.row.frozen 1⟩
theorem RdAt.set (h : RdAt r v p W) (q : Nat) : RdAt r v q (W.setCell ⟨r, 1, none⟩ (.int .i64 (q : Int))) := by
  refine ⟨(h.row.set 1 _).congr fun i hi => ?_, h.code.below ((Below.refl r W).setCell (p := ⟨r, 1, none⟩) (Nat.le_refl _) _)⟩
  unfold rdF
  by_cases e : i = 1
  · subst e; rfl
  · obtain rfl : i = 0 := by omega
    rfl
theorem turned_set (r : Nat) (W : World) (o : Nat) (x : Value) : Turned r (r + 1) W (W.setCell ⟨r, o, none⟩ x) :=
  ⟨(Below.refl r W).setCell (p := ⟨r, o, none⟩) (Nat.le_refl _) _, fun b hb _ => Below.heap_setCell _ _ _ b (show b ≠ r by omega)⟩
end

/-- The world W, since w, while a reader is drawn from: it alone has turned. -/
structure Dr (r : Nat) (v : Value) (w : World) (p : Nat) (W : World) : Prop where
  turned : Turned r (r + 1) w W
  rd : RdAt r v p W
  old : r < w.heap.size
section
variable {r : Nat} {v : Value} {w : World} {p : Nat} {W W' : World}
theorem Dr.start (h : RdAt r v p w) : Dr r v w p w := ⟨Turned.refl _ _ _, h, h.lt⟩
theorem Dr.size (h : Dr r v w p W) : w.heap.size ≤ W.heap.size := h.turned.below.size
theorem Dr.step (h : Dr r v w p W) (hb : Below W.heap.size W W') : Dr r v w p W' :=
  ⟨h.turned.trans (Turned.of_below hb (Nat.le_of_lt h.rd.lt)), h.rd.below hb h.rd.lt, h.old⟩
theorem Dr.turn {q : Nat} (h : Dr r v w p W) (ht : Turned r (r + 1) W W') (hr : RdAt r v q W') : Dr r v w q W' :=
  ⟨h.turned.trans ht, hr, h.old⟩
theorem Dr.trans {w0 : World} {q : Nat} (h : Dr r v w0 p W) (h2 : Dr r v W q W') : Dr r v w0 q W' := ⟨h.turned.trans h2.turned, h2.rd, h.old⟩
/-- What lies in memory that is new since w stays. -/
theorem Dr.ownI {t : TypeId} {u : Value} {xs : List Int} {lo hi q : Nat} (h : Dr r v w p W) (h2 : Dr r v W q W') (ho : OwnI t W u xs lo hi) (hl : w.heap.size ≤ lo) (hh : hi ≤ W.heap.size) : OwnI t W' u xs lo hi :=
  ho.kept fun b e => h2.turned.above b (by have := (ho.block b e).1; have := h.old; omega) (by have := (ho.block b e).2.1; omega)
theorem Dr.ownR {t t' : TypeId} {u : Value} {n lo hi q : Nat} {R : Nat → List Int} (h : Dr r v w p W) (h2 : Dr r v W q W') (ho : OwnR t t' W u n R lo hi) (hl : w.heap.size ≤ lo) (hh : hi ≤ W.heap.size) : OwnR t t' W' u n R lo hi :=
  ho.kept fun b h3 h4 => h2.turned.above b (by have := h.old; omega) (by omega)
end
/-- What a pick answers. -/
def PickP (r : Nat) (v : Value) (p : Nat) (n : Int) (w : World) (e : Ending) (w' : World) : Prop :=
  (∃ k : Nat, e = .returned (.int .i64 (k : Int)) ∧ (1 ≤ n → (k : Int) < n) ∧ (n < 1 → k = 0)) ∧ Dr r v w (p + 1) w'
/-- What is drawn when an order is, in at most K picks. -/
def OrdE (K r : Nat) (v : Value) (p : Nat) (w : World) (e : Ending) (w' : World) : Prop :=
  ∃ (rows : Rows2) (u : Value) (q : Nat), e = .returned (.agg #[u]) ∧ q ≤ p + K ∧ Dr r v w q w' ∧ OwnR 3 26 w' u rows.length (rowsF rows) w.heap.size w'.heap.size ∧ bulk rows ≤ 100000
abbrev OrdD := OrdE 1024
/-- What is drawn when a list of numbers is. -/
def IntsD (r : Nat) (v : Value) (p : Nat) (w : World) (e : Ending) (w' : World) : Prop :=
  ∃ (xs : List Int) (u : Value) (q : Nat), e = .returned u ∧ q ≤ p + 4096 ∧ Dr r v w q w' ∧ OwnI 3 w' u xs w.heap.size w'.heap.size ∧ xs.length ≤ 100000
end Go.Proofs.YtkomghohdhengaaDoor

/- The rows of bits of an order: what they say of it. Plain facts. -/
namespace Go.Proofs.YtkomghohdhengaaDoor

/-- A list of numbers as a number of bits. -/
def bitsOf (l : List Int) : Nat := l.foldl (fun r k => put r k.toNat) 0
theorem bitsOf_snoc (l : List Int) (k : Int) : bitsOf (l ++ [k]) = put (bitsOf l) k.toNat := by
  unfold bitsOf
  rw [List.foldl_append]
  rfl
theorem testBit_foldl (j : Nat) : ∀ (l : List Int) (r : Nat), (l.foldl (fun r k => put r k.toNat) r).testBit j = (r.testBit j || decide (∃ k ∈ l, k.toNat = j))
  | [], r => by simp
  | k :: l, r => by
    rw [List.foldl_cons, testBit_foldl j l, testBit_put, Bool.or_assoc]
    congr 1
    rw [Bool.eq_iff_iff]
    simp
theorem testBit_bitsOf {l : List Int} (h : ∀ x ∈ l, 0 ≤ x) (j : Nat) : (bitsOf l).testBit j = decide ((j : Int) ∈ l) := by
  unfold bitsOf
  rw [testBit_foldl, Nat.zero_testBit, Bool.false_or, decide_eq_decide]
  constructor
  · rintro ⟨k, hk, rfl⟩
    rwa [Int.toNat_of_nonneg (h k hk)]
  · intro hj
    exact ⟨_, hj, Int.toNat_natCast j⟩
theorem bitsOf_lt_foldl : ∀ (l : List Int) (r : Nat), r < 2 ^ 256 → (∀ x ∈ l, x < 256) → (l.foldl (fun r k => put r k.toNat) r) < 2 ^ 256
  | [], _, hr, _ => hr
  | k :: l, r, hr, h => by
    rw [List.foldl_cons]
    exact bitsOf_lt_foldl l _ (put_lt hr (by have := h k (by simp); omega)) (fun x hx => h x (by simp [hx]))
theorem bitsOf_lt {l : List Int} (h : ∀ x ∈ l, x < 256) : bitsOf l < 2 ^ 256 := bitsOf_lt_foldl l 0 (Nat.two_pow_pos 256) h

/-- The grid of an order. -/
def gridF (rows : List (List Int)) (i : Nat) : Nat := bitsOf (rows.getD i [])

/-- A covered row holds the rows of all its elements. -/
theorem cover_good {g : Nat → Nat} {n : Nat} (hown : ∀ k, k < n → (g k).testBit k = true) (hbits : ∀ k j, k < n → (g k).testBit j = true → j < n) (hc : ∀ i, i < n → CovAll g i) :
    ∀ (N i : Nat), g i ≤ N → i < n → ∀ j, (g i).testBit j = true → j ≠ i → (g j).testBit i = false ∧ ∀ m, (g j).testBit m = true → (g i).testBit m = true := by
  intro N
  induction N with
  | zero =>
    intro i hN hi j hj _
    have h0 : g i = 0 := by omega
    rw [h0] at hj
    simp at hj
  | succ N ih =>
    intro i hN hi j hj hne
    obtain ⟨k, hk, hki, hik, hsub, hkj⟩ := hc i hi j hj hne
    by_cases e : j = k
    · subst e; exact ⟨hik, hsub⟩
    · have hlt : g k < g i := lt_of_sub hsub (hown i hi) hik
      obtain ⟨_, h2⟩ := ih k (by omega) (hbits i k hi hk) j hkj e
      refine ⟨?_, fun m hm => hsub m (h2 m hm)⟩
      cases hji : (g j).testBit i with
      | false => rfl
      | true => have := h2 i hji; rw [hik] at this; cases this

theorem grid_bit {rows : List (List Int)} {i : Nat} (hi : i < rows.length) (ha : ascB rows.length rows[i] = true) (j : Nat) : (gridF rows i).testBit j = decide ((j : Int) ∈ rows[i]) := by
  unfold gridF
  rw [getD_at [] hi]
  exact testBit_bitsOf (fun x hx => ((ascB_iff _ _).1 ha).2 x hx |>.1) j

/-- All rows covered: an order. -/
theorem valid_of_cover {rows : List (List Int)} (hl : listsB rows = true) (hasc : ∀ i (hi : i < rows.length), ascB rows.length rows[i] = true)
    (hown : ∀ k, k < rows.length → (gridF rows k).testBit k = true) (hbits : ∀ k j, k < rows.length → (gridF rows k).testBit j = true → j < rows.length) (hc : ∀ i, i < rows.length → CovAll (gridF rows) i) : validB rows = true := by
  refine valid_yes hl fun i hi => (goodAt_iff hi).2 ⟨?_, fun k hk => ?_⟩
  · have := hown i hi
    rw [grid_bit hi (hasc i hi)] at this
    exact (upB_iff hi).2 (of_decide_eq_true this)
  · have hr := (lists_at hl i hi).2 _ (List.getElem_mem hk)
    obtain ⟨j, hj⟩ : ∃ j : Nat, rows[i][k] = (j : Int) := ⟨rows[i][k].toNat, by omega⟩
    have hjn : j < rows.length := by omega
    have hbit : (gridF rows i).testBit j = true := by
      rw [grid_bit hi (hasc i hi)]
      exact decide_eq_true (by rw [← hj]; exact List.getElem_mem hk)
    by_cases e : j = i
    · subst e
      refine ⟨fun h => absurd hj h, fun m hm => ?_⟩
      rw [hj, Int.toNat_natCast, getD_at [] hi] at hm
      exact (upB_iff hi).2 hm
    · obtain ⟨h1, h2⟩ := cover_good hown hbits hc _ i (Nat.le_refl _) hi j hbit e
      refine ⟨fun _ => ?_, fun m hm => ?_⟩
      · rw [hj, Int.toNat_natCast]
        rw [grid_bit hjn (hasc j hjn)] at h1
        exact (upB_no hjn).2 (of_decide_eq_false h1)
      · rw [hj, Int.toNat_natCast, getD_at [] hjn] at hm
        have hm0 := (lists_at hl j hjn).2 _ hm
        have h3 := h2 m.toNat (by rw [grid_bit hjn (hasc j hjn), Int.toNat_of_nonneg hm0.1]; exact decide_eq_true hm)
        rw [grid_bit hi (hasc i hi), Int.toNat_of_nonneg hm0.1] at h3
        exact (upB_iff hi).2 (of_decide_eq_true h3)

/-- A bad row: no order. -/
theorem valid_of_bad {rows : List (List Int)} (hasc : ∀ i (hi : i < rows.length), ascB rows.length rows[i] = true)
    (hbits : ∀ k j, k < rows.length → (gridF rows k).testBit j = true → j < rows.length) {i : Nat} (hi : i < rows.length) (hb : BadBit (gridF rows) i) : validB rows = false := by
  obtain ⟨k, hk, hki, h⟩ := hb
  have hkn := hbits i k hi hk
  rw [grid_bit hi (hasc i hi)] at hk
  obtain ⟨q, hq, hqk⟩ := List.getElem_of_mem (of_decide_eq_true hk)
  refine valid_no_pair hi hq fun g => ?_
  rw [hqk] at g
  unfold GoodPair at g
  rw [Int.toNat_natCast] at g
  rcases h with h | ⟨m, h1, h2⟩
  · rw [grid_bit hkn (hasc k hkn)] at h
    have := g.1 (by omega)
    rw [(upB_iff hkn).2 (of_decide_eq_true h)] at this
    cases this
  · rw [grid_bit hkn (hasc k hkn)] at h1
    rw [grid_bit hi (hasc i hi)] at h2
    have := g.2 m (by rw [getD_at [] hkn]; exact of_decide_eq_true h1)
    rw [(upB_no hi).2 (of_decide_eq_false h2)] at this
    cases this

/-- The grid while row i is being laid, k of its numbers being in. -/
def gpart (rows : List (List Int)) (i k : Nat) (i' : Nat) : Nat := if i' < i then gridF rows i' else if i' = i then bitsOf ((rows.getD i []).take k) else 0
theorem gpart_zero (rows : List (List Int)) (i' : Nat) : gpart rows 0 0 i' = 0 := by
  unfold gpart
  rw [if_neg (by omega), List.take_zero]
  split <;> rfl
theorem gpart_next (rows : List (List Int)) (i : Nat) : gpart rows i (rows.getD i []).length = gpart rows (i + 1) 0 := by
  funext i'
  unfold gpart gridF
  rw [List.take_length, List.take_zero]
  by_cases h1 : i' < i
  · rw [if_pos h1, if_pos (by omega)]
  · rw [if_neg h1]
    by_cases h2 : i' = i
    · subst h2; rw [if_pos rfl, if_pos (by omega)]
    · rw [if_neg h2, if_neg (by omega)]
      split <;> rfl
theorem gpart_done (rows : List (List Int)) : gpart rows rows.length 0 = gridF rows := by
  funext i'
  unfold gpart gridF
  by_cases h1 : i' < rows.length
  · rw [if_pos h1]
  · rw [if_neg h1, List.take_zero, List.getD_eq_getElem?_getD, List.getElem?_eq_none (by omega)]
    split <;> rfl
theorem gpart_step {rows : List (List Int)} {i k : Nat} (hi : i < rows.length) (hk : k < rows[i].length) (i' : Nat) :
    gpart rows i (k + 1) i' = if i' = i then put (gpart rows i k i) rows[i][k].toNat else gpart rows i k i' := by
  unfold gpart
  rw [getD_at [] hi, List.take_succ_eq_append_getElem hk, bitsOf_snoc]
  by_cases h : i' = i
  · subst h
    rw [if_neg (by omega), if_pos rfl, if_pos rfl, if_neg (by omega), if_pos rfl]
  · simp only [if_neg h]
theorem gpart_lt {rows : List (List Int)} {i k : Nat} (h : ∀ j (hj : j < rows.length), j ≤ i → ∀ x ∈ rows[j], x < 256) (i' : Nat) : gpart rows i k i' < 2 ^ 256 := by
  unfold gpart gridF
  have hz : (0 : Nat) < 2 ^ 256 := Nat.two_pow_pos 256
  have hat : ∀ j, j ≤ i → ∀ x ∈ rows.getD j [], x < 256 := fun j hj x hx => by
    by_cases hl : j < rows.length
    · rw [getD_at [] hl] at hx; exact h j hl hj x hx
    · rw [List.getD_eq_getElem?_getD, List.getElem?_eq_none (by omega)] at hx; cases hx
  by_cases h1 : i' < i
  · rw [if_pos h1]; exact bitsOf_lt (hat i' (by omega))
  · rw [if_neg h1]
    by_cases h2 : i' = i
    · rw [if_pos h2]; exact bitsOf_lt (fun x hx => hat i (Nat.le_refl _) x (List.mem_of_mem_take hx))
    · rw [if_neg h2]; exact hz
theorem gridF_out (rows : List (List Int)) {i : Nat} (hi : rows.length ≤ i) : gridF rows i = 0 := by
  unfold gridF
  rw [List.getD_eq_getElem?_getD, List.getElem?_eq_none hi]
  rfl
end Go.Proofs.YtkomghohdhengaaDoor

/- A row of bits as an ascending list of numbers; orders as grids of bits: least elements, joins, orders turned round. Plain facts. -/
namespace Go.Proofs.YtkomghohdhengaaDoor
open Go

/-- A word without its lowest bit. -/
theorem testBit_clear {x : Nat} (hx0 : x ≠ 0) (hx : x < 2 ^ 64) (j : Nat) : (x &&& (x - 1)).testBit j = (x.testBit j && !decide (j = Lib.ctz 64 x)) := by
  obtain ⟨m, hm, _⟩ := Lib.ctzFrom_spec 64 x (by omega) hx
  have e : Lib.ctz 64 x = Lib.ctzFrom 64 x := by unfold Lib.ctz; rw [if_neg hx0]
  rw [e]
  generalize Lib.ctzFrom 64 x = k at hm
  have hp := Nat.two_pow_pos k
  have h1 : x - 1 = 2 ^ k * (2 * m) + (2 ^ k - 1) := by rw [hm, Nat.mul_add]; omega
  have h2 : x = 2 ^ k * (2 * m + 1) + 0 := hm
  rw [Nat.testBit_and, h1, h2, Nat.testBit_two_pow_mul_add _ (by omega), Nat.testBit_two_pow_mul_add _ (by omega)]
  by_cases hj : j < k
  · simp [hj]
  · rw [if_neg hj, if_neg hj]
    by_cases e2 : j = k
    · subst e2; simp
    · obtain ⟨d, hd⟩ : ∃ d, j - k = d + 1 := ⟨j - k - 1, by omega⟩
      rw [hd, decide_eq_false e2]
      simp only [Nat.testBit_succ, Bool.not_false, Bool.and_true]
      rw [show (2 * m + 1) / 2 = m by omega, show 2 * m / 2 = m by omega, Bool.and_self]
theorem clear_lt {x : Nat} (hx0 : x ≠ 0) : x &&& (x - 1) < x := by
  have := Nat.and_le_right (n := x) (m := x - 1)
  omega

/-- The bits of a word, ascending. -/
def bitsW (x : Nat) : List Nat := (List.range 64).filter fun b => x.testBit b
theorem bitsW_zero : bitsW 0 = [] := by unfold bitsW; simp
theorem bitsW_cons {x : Nat} (hx0 : x ≠ 0) (hx : x < 2 ^ 64) : bitsW x = Lib.ctz 64 x :: bitsW (x &&& (x - 1)) := by
  obtain ⟨h1, h2, h3⟩ := ctz_low x hx0 hx
  have hc := testBit_clear hx0 hx
  unfold bitsW
  generalize Lib.ctz 64 x = k at h1 h2 h3 hc
  have hr : List.range 64 = List.range k ++ k :: (List.range (63 - k)).map (k + 1 + ·) := by
    have e : 64 = k + (1 + (63 - k)) := by omega
    rw [e, List.range_add, List.range_add, List.map_append, List.map_map]
    simp only [List.range_one, List.map_cons, List.map_nil, Nat.add_zero, List.cons_append, List.nil_append]
    congr 2
    apply List.map_congr_left
    intro a _
    simp only [Function.comp]
    omega
  rw [hr, List.filter_append, List.filter_append, List.filter_cons, List.filter_cons]
  have e1 : (List.range k).filter (fun b => x.testBit b) = [] := by
    rw [List.filter_eq_nil_iff]
    intro a ha
    rw [h2 a (by simpa using ha)]
    simp
  have e2 : (List.range k).filter (fun b => (x &&& (x - 1)).testBit b) = [] := by
    rw [List.filter_eq_nil_iff]
    intro a ha
    rw [hc, h2 a (by simpa using ha)]
    simp
  rw [e1, e2, if_pos h1, if_neg (by rw [hc]; simp)]
  simp only [List.nil_append, List.cons.injEq, true_and]
  apply List.filter_congr
  intro a ha
  have : a ≠ k := by
    obtain ⟨b, _, rfl⟩ := List.mem_map.1 ha
    omega
  rw [hc, decide_eq_false this]
  simp

/-- The numbers of a row, ascending. -/
def elems (r : Nat) : List Nat := (List.range 256).filter fun b => r.testBit b
/-- Those that stand in words from j on. -/
def tailW (r j : Nat) : List Nat := ((List.range (4 - j)).map fun i => (bitsW (word r (j + i))).map (64 * (j + i) + ·)).flatten
theorem tailW_step {r j : Nat} (hj : j < 4) : tailW r j = (bitsW (word r j)).map (64 * j + ·) ++ tailW r (j + 1) := by
  unfold tailW
  rw [show 4 - j = (4 - (j + 1)) + 1 by omega, List.range_succ_eq_map, List.map_cons, List.flatten_cons, List.map_map]
  congr 2
  apply List.map_congr_left
  intro a _
  simp only [Function.comp, show j + (a.succ) = j + 1 + a by omega]
theorem tailW_done (r : Nat) : tailW r 4 = [] := by simp [tailW]
theorem elems_words (r : Nat) : elems r = tailW r 0 := by
  have key : ∀ n, (List.range (64 * n)).filter (fun b => r.testBit b) = ((List.range n).map fun i => (bitsW (word r i)).map (64 * i + ·)).flatten := by
    intro n
    induction n with
    | zero => simp
    | succ n ih =>
      rw [Nat.mul_succ, List.range_add, List.filter_append, ih, List.range_succ (n := n), List.map_append (l₁ := List.range n), List.flatten_append]
      congr 1
      simp only [List.map_cons, List.map_nil, List.flatten_cons, List.flatten_nil, List.append_nil]
      unfold bitsW
      rw [List.filter_map]
      congr 1
      apply List.filter_congr
      intro a ha
      have : a < 64 := by simpa using ha
      rw [testBit_word]
      simp [this]
  have := key 4
  unfold elems tailW
  simpa using this
theorem mem_elems {r k : Nat} (hr : r < 2 ^ 256) : k ∈ elems r ↔ r.testBit k = true := by
  unfold elems
  rw [List.mem_filter, List.mem_range]
  constructor
  · exact fun h => h.2
  · intro h
    refine ⟨?_, h⟩
    by_cases hk : k < 256
    · exact hk
    · rw [Nat.testBit_lt_two_pow (Nat.lt_of_lt_of_le hr (Nat.pow_le_pow_right (by decide) (by omega)))] at h
      cases h


/-! ### A row of bits as a list of numbers -/
theorem elems_pairwise (r : Nat) : (elems r).Pairwise (· < ·) := by
  unfold elems
  exact List.Pairwise.filter _ List.pairwise_lt_range
theorem sorted_ext : ∀ {l m : List Nat}, l.Pairwise (· < ·) → m.Pairwise (· < ·) → (∀ x, x ∈ l ↔ x ∈ m) → l = m
  | [], [], _, _, _ => rfl
  | [], y :: m, _, _, h => absurd ((h y).2 (by simp)) (by simp)
  | x :: l, [], _, _, h => absurd ((h x).1 (by simp)) (by simp)
  | x :: l, y :: m, hl, hm, h => by
    rw [List.pairwise_cons] at hl hm
    have e : x = y := by
      rcases List.mem_cons.1 ((h x).1 (by simp)) with e | e
      · exact e
      · rcases List.mem_cons.1 ((h y).2 (by simp)) with e2 | e2
        · exact e2.symm
        · have := hm.1 x e; have := hl.1 y e2; omega
    subst e
    congr 1
    refine sorted_ext hl.2 hm.2 fun z => ⟨fun hz => ?_, fun hz => ?_⟩
    · rcases List.mem_cons.1 ((h z).1 (List.mem_cons_of_mem _ hz)) with e | e
      · have := hl.1 z hz; omega
      · exact e
    · rcases List.mem_cons.1 ((h z).2 (List.mem_cons_of_mem _ hz)) with e | e
      · have := hm.1 z hz; omega
      · exact e
theorem asc_pairwise {l : List Int} (h : Asc l) (h0 : ∀ x ∈ l, 0 ≤ x) : (l.map Int.toNat).Pairwise (· < ·) := by
  rw [List.pairwise_iff_getElem]
  intro i j hi hj hij
  simp only [List.length_map] at hi hj
  have h1 := h i j hij hj
  have h2 := h0 _ (List.getElem_mem hi)
  have h3 := h0 _ (List.getElem_mem hj)
  simp only [List.getElem_map]
  omega
theorem elems_bitsOf {l : List Int} (h : Asc l) (h0 : ∀ x ∈ l, 0 ≤ x ∧ x < 256) : elems (bitsOf l) = l.map Int.toNat := by
  refine sorted_ext (elems_pairwise _) (asc_pairwise h fun x hx => (h0 x hx).1) fun x => ?_
  rw [mem_elems (bitsOf_lt fun x hx => (h0 x hx).2), testBit_bitsOf (fun x hx => (h0 x hx).1), decide_eq_true_iff, List.mem_map]
  constructor
  · exact fun hx => ⟨_, hx, by omega⟩
  · rintro ⟨y, hy, rfl⟩
    rwa [Int.toNat_of_nonneg (h0 y hy).1]
theorem elems_and (r s : Nat) : elems (r &&& s) = (elems r).filter (fun k => s.testBit k) := by
  unfold elems
  rw [List.filter_filter]
  apply List.filter_congr
  intro k _
  rw [Nat.testBit_and, Bool.and_comm]
theorem elems_inj {r s : Nat} (hr : r < 2 ^ 256) (hs : s < 2 ^ 256) (h : elems r = elems s) : r = s := by
  apply Nat.eq_of_testBit_eq
  intro i
  rw [Bool.eq_iff_iff, ← mem_elems hr, ← mem_elems hs, h]

/-! ### A valid order -/
structure Ok (rows : List (List Int)) : Prop where
  len : 1 ≤ rows.length ∧ rows.length ≤ 200
  asc : ∀ i (hi : i < rows.length), Asc rows[i] ∧ ∀ x ∈ rows[i], 0 ≤ x ∧ x < rows.length
  own : ∀ i, i < rows.length → (gridF rows i).testBit i = true
  anti : ∀ i j, i < rows.length → (gridF rows i).testBit j = true → j ≠ i → (gridF rows j).testBit i = false
  trans : ∀ i j, i < rows.length → (gridF rows i).testBit j = true → ∀ m, (gridF rows j).testBit m = true → (gridF rows i).testBit m = true

theorem gridF_lt {rows : List (List Int)} (h : ∀ i (hi : i < rows.length), Asc rows[i] ∧ ∀ x ∈ rows[i], 0 ≤ x ∧ x < rows.length) (hn : rows.length ≤ 200) (i : Nat) : gridF rows i < 2 ^ 256 := by
  by_cases hi : i < rows.length
  · unfold gridF
    rw [getD_at [] hi]
    exact bitsOf_lt fun x hx => by have := (h i hi).2 x hx; omega
  · rw [gridF_out rows (by omega)]
    exact Nat.two_pow_pos 256
theorem Ok.lt {rows : List (List Int)} (h : Ok rows) (i : Nat) : gridF rows i < 2 ^ 256 := gridF_lt h.asc h.len.2 i
theorem Ok.bit {rows : List (List Int)} (h : Ok rows) {i : Nat} (hi : i < rows.length) (j : Nat) : (gridF rows i).testBit j = decide ((j : Int) ∈ rows[i]) :=
  grid_bit hi ((ascB_iff _ _).2 (h.asc i hi)) j
theorem Ok.bit_lt {rows : List (List Int)} (h : Ok rows) {i j : Nat} (hj : (gridF rows i).testBit j = true) : i < rows.length ∧ j < rows.length := by
  by_cases hi : i < rows.length
  · rw [h.bit hi, decide_eq_true_iff] at hj
    have := (h.asc i hi).2 _ hj
    exact ⟨hi, by omega⟩
  · rw [gridF_out rows (by omega)] at hj; simp at hj
theorem Ok.elems {rows : List (List Int)} (h : Ok rows) {i : Nat} (hi : i < rows.length) : rows[i] = (elems (gridF rows i)).map (fun k : Nat => (k : Int)) := by
  unfold gridF
  rw [getD_at [] hi, elems_bitsOf (h.asc i hi).1 (fun x hx => by have := (h.asc i hi).2 x hx; have := h.len; omega), List.map_map]
  have : ∀ x ∈ rows[i], ((fun k : Nat => (k : Int)) ∘ Int.toNat) x = x := fun x hx => by
    have := (h.asc i hi).2 x hx
    simp only [Function.comp]; omega
  rw [List.map_congr_left this]
  simp
theorem Ok.up {rows : List (List Int)} (h : Ok rows) {i : Nat} (hi : i < rows.length) (j : Nat) : upB rows i j = (gridF rows i).testBit j := by
  rw [h.bit hi]; unfold upB; rw [getD_at [] hi]

theorem ok_of_valid {rows : List (List Int)} (h : validB rows = true) : Ok rows := by
  have hl := valid_lists h
  have hv : ∀ i, i < rows.length → GoodAt rows i := by
    classical
    unfold validB at h
    exact (of_decide_eq_true h).2
  have hasc := fun i hi => lists_at hl i hi
  have hb : ∀ {i : Nat} (hi : i < rows.length) (j : Nat), (gridF rows i).testBit j = decide ((j : Int) ∈ rows[i]) := fun hi j => grid_bit hi ((ascB_iff _ _).2 (hasc _ hi)) j
  have hlt : ∀ {i j : Nat} (hi : i < rows.length), (gridF rows i).testBit j = true → j < rows.length := fun {i j} hi hj => by
    rw [hb hi, decide_eq_true_iff] at hj
    have := (hasc i hi).2 _ hj
    omega
  refine ⟨lists_len hl, hasc, fun i hi => ?_, fun i j hi hj hne => ?_, fun i j hi hj m hm => ?_⟩
  · have := (hv i hi).1
    rw [getD_at [] hi] at this
    rw [hb hi]; exact decide_eq_true this
  · have hjl := hlt hi hj
    rw [hb hi, decide_eq_true_iff] at hj
    have := ((hv i hi).2 j (by rw [getD_at [] hi]; exact hj)).1 (by omega)
    rw [Int.toNat_natCast, getD_at [] hjl] at this
    rw [hb hjl]; exact decide_eq_false this
  · have hjl := hlt hi hj
    rw [hb hi, decide_eq_true_iff] at hj
    rw [hb hjl, decide_eq_true_iff] at hm
    have := ((hv i hi).2 j (by rw [getD_at [] hi]; exact hj)).2 m (by rw [Int.toNat_natCast, getD_at [] hjl]; exact hm)
    rw [getD_at [] hi] at this
    rw [hb hi]; exact decide_eq_true this
theorem valid_of_ok {rows : List (List Int)} (h : Ok rows) : validB rows = true := by
  refine valid_yes ?_ fun i hi => ⟨?_, fun j hj => ⟨fun hne => ?_, fun m hm => ?_⟩⟩
  · rw [listsB_all fun i hi => (ascB_iff _ _).2 (h.asc i hi), Bool.and_eq_true, decide_eq_true_iff, decide_eq_true_iff]
    have := h.len; omega
  · have := h.own i hi
    rw [h.bit hi] at this
    rw [getD_at [] hi]; exact of_decide_eq_true this
  · rw [getD_at [] hi] at hj
    have h0 := (h.asc i hi).2 j hj
    have hb := h.anti i j.toNat hi (by rw [h.bit hi, Int.toNat_of_nonneg h0.1]; exact decide_eq_true hj) (by omega)
    rw [h.bit (by omega)] at hb
    rw [getD_at [] (by omega)]; exact of_decide_eq_false hb
  · rw [getD_at [] hi] at hj ⊢
    have h0 := (h.asc i hi).2 j hj
    rw [getD_at [] (by omega)] at hm
    have h1 := (h.asc j.toNat (by omega)).2 m hm
    have hb := h.trans i j.toNat hi (by rw [h.bit hi, Int.toNat_of_nonneg h0.1]; exact decide_eq_true hj) m.toNat (by rw [h.bit (by omega), Int.toNat_of_nonneg h1.1]; exact decide_eq_true hm)
    rw [h.bit hi, Int.toNat_of_nonneg h1.1] at hb
    exact of_decide_eq_true hb

/-- The first element of a set whose row is the set itself, or -1. -/
def bottomF (g : Nat → Nat) (s : Nat) : Int := match (elems s).find? (fun k => g k == s) with | some k => (k : Int) | none => -1
/-- The set of the first n numbers. -/
def allF : Nat → Nat
  | 0 => 0
  | n + 1 => put (allF n) n
theorem testBit_allF (n i : Nat) : (allF n).testBit i = decide (i < n) := by
  induction n with
  | zero => simp [allF]
  | succ n ih =>
    unfold allF
    rw [testBit_put, ih, Bool.eq_iff_iff]
    simp only [Bool.or_eq_true, decide_eq_true_eq]
    omega
theorem allF_lt {n : Nat} (h : n ≤ 256) : allF n < 2 ^ 256 := by
  induction n with
  | zero => exact Nat.two_pow_pos 256
  | succ n ih => exact put_lt (ih (by omega)) (by omega)
theorem elems_allF {n : Nat} (h : n ≤ 256) : elems (allF n) = List.range n :=
  sorted_ext (elems_pairwise _) List.pairwise_lt_range fun x => by rw [mem_elems (allF_lt h), testBit_allF, decide_eq_true_iff, List.mem_range]

theorem find?_congr_mem {α : Type} {p q : α → Bool} : ∀ {l : List α}, (∀ x ∈ l, p x = q x) → l.find? p = l.find? q
  | [], _ => rfl
  | x :: l, h => by
    rw [List.find?_cons, List.find?_cons, h x (by simp), find?_congr_mem fun y hy => h y (by simp [hy])]

theorem full_iff {rows : List (List Int)} (h : Ok rows) {i : Nat} (hi : i < rows.length) : rows[i].length = rows.length ↔ gridF rows i = allF rows.length := by
  have hn := h.len
  have e := h.elems hi
  have hsub : elems (gridF rows i) = (List.range rows.length).filter (fun k => (gridF rows i).testBit k) :=
    sorted_ext (elems_pairwise _) (List.Pairwise.filter _ List.pairwise_lt_range) fun x => by
      rw [mem_elems (h.lt i), List.mem_filter, List.mem_range]
      exact ⟨fun hx => ⟨(h.bit_lt hx).2, hx⟩, fun hx => hx.2⟩
  have hlen : rows[i].length = (elems (gridF rows i)).length := by rw [e, List.length_map]
  constructor
  · intro hl
    refine elems_inj (h.lt i) (allF_lt (by omega)) ?_
    rw [elems_allF (by omega), hsub]
    rw [hlen, hsub] at hl
    exact List.filter_eq_self.2 ((List.length_filter_eq_length_iff).1 (by rw [hl, List.length_range]))
  · intro he
    rw [hlen, he, elems_allF (by omega), List.length_range]

/-- The model's least element is the program's. -/
def leastI (rows : List (List Int)) : Int :=
  match (List.range rows.length).find? (fun i => (rows.getD i []).length == rows.length) with
  | some i => (i : Int)
  | none => -1
theorem least_eq {rows : List (List Int)} (h : Ok rows) : leastI rows = bottomF (gridF rows) (allF rows.length) := by
  unfold leastI bottomF
  rw [elems_allF (by have := h.len; omega), find?_congr_mem (q := fun k => gridF rows k == allF rows.length)]
  intro i hi
  have hi' : i < rows.length := by simpa using hi
  rw [getD_at [] hi', Bool.eq_iff_iff, beq_iff_eq, beq_iff_eq]
  exact full_iff h hi'

/-- The model's join. -/
def joinTest (rows : List (List Int)) (a b : Nat) (c : Int) : Bool := upB rows b c && (rows.getD a []).all fun e => !upB rows b e || upB rows c.toNat e
def joinI (rows : List (List Int)) (a b : Nat) : Int := match (rows.getD a []).find? (joinTest rows a b) with | some c => c | none => -1

theorem find?_map' {α β : Type} (f : α → β) (p : β → Bool) : ∀ l : List α, (l.map f).find? p = (l.find? (fun x => p (f x))).map f
  | [] => rfl
  | x :: l => by
    rw [List.map_cons, List.find?_cons, List.find?_cons]
    cases p (f x) with
    | true => rfl
    | false => exact find?_map' f p l
theorem find?_filter' {α : Type} (p q : α → Bool) : ∀ l : List α, (l.filter p).find? q = l.find? (fun x => p x && q x)
  | [] => rfl
  | x :: l => by
    rw [List.filter_cons, List.find?_cons]
    cases hp : p x with
    | true =>
      rw [if_pos rfl, List.find?_cons, find?_filter' p q l]
      cases q x <;> simp
    | false =>
      rw [if_neg (by simp), find?_filter' p q l]
      simp

theorem join_eq {rows : List (List Int)} (h : Ok rows) {a b : Nat} (ha : a < rows.length) (hb : b < rows.length) : joinI rows a b = bottomF (gridF rows) (gridF rows a &&& gridF rows b) := by
  unfold joinI bottomF
  rw [elems_and, find?_filter', getD_at [] ha, h.elems ha, find?_map', find?_congr_mem (q := fun k => (gridF rows b).testBit k && (gridF rows k == gridF rows a &&& gridF rows b))]
  · cases (elems (gridF rows a)).find? (fun k => (gridF rows b).testBit k && (gridF rows k == gridF rows a &&& gridF rows b)) <;> rfl
  · intro k hk
    rw [mem_elems (h.lt a)] at hk
    have hkl := (h.bit_lt hk).2
    unfold joinTest
    rw [h.up hb k]
    cases hbk : (gridF rows b).testBit k with
    | false => rfl
    | true =>
      rw [Bool.true_and, Bool.true_and, getD_at [] ha, h.elems ha, Bool.eq_iff_iff, List.all_eq_true, beq_iff_eq]
      simp only [List.mem_map, forall_exists_index, and_imp, Bool.or_eq_true, Bool.not_eq_true', Int.toNat_natCast]
      constructor
      · intro hall
        apply Nat.eq_of_testBit_eq
        intro m
        rw [Nat.testBit_and]
        cases hm : (gridF rows a).testBit m && (gridF rows b).testBit m with
        | true =>
          rw [Bool.and_eq_true] at hm
          have := hall m m ((mem_elems (h.lt a)).2 hm.1) rfl
          rw [h.up hb, h.up hkl, hm.2] at this
          simpa using this
        | false =>
          cases hkm : (gridF rows k).testBit m with
          | false => rfl
          | true =>
            rw [h.trans a k ha hk m hkm, h.trans b k hb hbk m hkm] at hm
            cases hm
      · intro he c m hm hc
        subst hc
        rw [mem_elems (h.lt a)] at hm
        rw [h.up hb, h.up hkl, he, Nat.testBit_and, hm, Bool.true_and]
        cases (gridF rows b).testBit m <;> simp

/-! ### Turned round -/
def backRow (rows : List (List Int)) (k : Nat) : List Int := ((List.range rows.length).filter fun i => (gridF rows i).testBit k).map (fun i : Nat => (i : Int))
def backRows (rows : List (List Int)) : List (List Int) := (List.range rows.length).map (backRow rows)
theorem backRows_len (rows : List (List Int)) : (backRows rows).length = rows.length := by unfold backRows; simp
theorem backRows_at {rows : List (List Int)} {k : Nat} (hk : k < (backRows rows).length) : (backRows rows)[k] = backRow rows k := by simp [backRows]
theorem backRow_asc (rows : List (List Int)) (k : Nat) : Asc (backRow rows k) ∧ ∀ x ∈ backRow rows k, 0 ≤ x ∧ x < rows.length := by
  have hp : ((List.range rows.length).filter fun i => (gridF rows i).testBit k).Pairwise (· < ·) := List.Pairwise.filter _ List.pairwise_lt_range
  refine ⟨fun i j hij hj => ?_, fun x hx => ?_⟩
  · unfold backRow at hj ⊢
    rw [List.length_map] at hj
    rw [List.getElem_map, List.getElem_map]
    have := (List.pairwise_iff_getElem.1 hp) i j (by omega) hj hij
    omega
  · unfold backRow at hx
    obtain ⟨i, hi, rfl⟩ := List.mem_map.1 hx
    have := (List.mem_filter.1 hi).1
    rw [List.mem_range] at this
    omega
theorem back_bit {rows : List (List Int)} (h : Ok rows) (k i : Nat) : (gridF (backRows rows) k).testBit i = (gridF rows i).testBit k := by
  by_cases hk : k < rows.length
  · have hk' : k < (backRows rows).length := by rw [backRows_len]; exact hk
    rw [grid_bit hk' (by rw [backRows_at, backRows_len, ascB_iff]; exact backRow_asc rows k), backRows_at, Bool.eq_iff_iff, decide_eq_true_iff]
    unfold backRow
    constructor
    · intro hi
      obtain ⟨j, hj, e⟩ := List.mem_map.1 hi
      obtain rfl : j = i := by omega
      exact (List.mem_filter.1 hj).2
    · intro hi
      exact List.mem_map.2 ⟨i, List.mem_filter.2 ⟨List.mem_range.2 (h.bit_lt hi).1, hi⟩, rfl⟩
  · rw [gridF_out _ (by rw [backRows_len]; omega), Nat.zero_testBit]
    cases hi : (gridF rows i).testBit k with
    | false => rfl
    | true => exact absurd (h.bit_lt hi).2 hk
theorem Ok.back {rows : List (List Int)} (h : Ok rows) : Ok (backRows rows) := by
  refine ⟨by rw [backRows_len]; exact h.len, fun i hi => by rw [backRows_at, backRows_len]; exact backRow_asc rows i, fun i hi => ?_, fun i j hi hj hne => ?_, fun i j hi hj m hm => ?_⟩
  · rw [back_bit h]; exact h.own i (by rw [backRows_len] at hi; exact hi)
  · rw [back_bit h] at hj ⊢
    cases hb : (gridF rows i).testBit j with
    | false => rfl
    | true => rw [h.anti i j (h.bit_lt hb).1 hb hne] at hj; cases hj
  · rw [back_bit h] at hj hm ⊢
    exact h.trans m j (h.bit_lt hm).1 hm i hj

/-! ### Domains -/
def boundedI (rows : List (List Int)) (a b : Nat) : Bool := (rows.getD a []).any fun c => upB rows b c
theorem bounded_eq {rows : List (List Int)} (h : Ok rows) {a b : Nat} (ha : a < rows.length) (hb : b < rows.length) : boundedI rows a b = !decide (gridF rows a &&& gridF rows b = 0) := by
  unfold boundedI
  rw [getD_at [] ha, h.elems ha, Bool.eq_iff_iff, List.any_eq_true, Bool.not_eq_true', decide_eq_false_iff_not]
  constructor
  · rintro ⟨c, hc, hu⟩ e
    obtain ⟨k, hk, rfl⟩ := List.mem_map.1 hc
    rw [mem_elems (h.lt a)] at hk
    rw [h.up hb] at hu
    have : (gridF rows a &&& gridF rows b).testBit k = true := by rw [Nat.testBit_and, hk, hu]; rfl
    rw [e, Nat.zero_testBit] at this
    cases this
  · intro hne
    obtain ⟨k, hk⟩ := Nat.exists_testBit_of_ne_zero hne
    rw [Nat.testBit_and, Bool.and_eq_true] at hk
    exact ⟨k, List.mem_map.2 ⟨k, (mem_elems (h.lt a)).2 hk.1, rfl⟩, by rw [h.up hb]; exact hk.2⟩
end Go.Proofs.YtkomghohdhengaaDoor

/- Heights of orders: plain facts. -/
namespace Go.Proofs.YtkomghohdhengaaDoor
open Go

/-! ### Heights -/
/-- The greatest of some numbers, or 0. -/
def maxL (f : Nat → Nat) (ks : List Nat) : Nat := ks.foldl (fun b k => max b (f k)) 0
theorem maxL_from (f : Nat → Nat) : ∀ (ks : List Nat) (b : Nat), ks.foldl (fun b k => max b (f k)) b = max b (maxL f ks)
  | [], b => by simp [maxL]
  | k :: ks, b => by
    unfold maxL
    rw [List.foldl_cons, List.foldl_cons, maxL_from f ks, maxL_from f ks]
    simp only [Nat.zero_max]
    omega
theorem maxL_cons (f : Nat → Nat) (k : Nat) (ks : List Nat) : maxL f (k :: ks) = max (f k) (maxL f ks) := by
  show (k :: ks).foldl _ 0 = _
  rw [List.foldl_cons, maxL_from, Nat.zero_max]
theorem maxL_snoc (f : Nat → Nat) (ks : List Nat) (k : Nat) : maxL f (ks ++ [k]) = max (maxL f ks) (f k) := by
  unfold maxL; rw [List.foldl_append]; rfl
theorem lt_maxL {f : Nat → Nat} {t : Nat} : ∀ {ks : List Nat}, t < maxL f ks ↔ ∃ k ∈ ks, t < f k
  | [] => by simp [maxL]
  | k :: ks => by
    have e : t < max (f k) (maxL f ks) ↔ t < f k ∨ t < maxL f ks := by omega
    rw [maxL_cons, e, lt_maxL (ks := ks)]
    simp
theorem maxL_congr {f h : Nat → Nat} {ks : List Nat} (e : ∀ k ∈ ks, f k = h k) : maxL f ks = maxL h ks := by
  induction ks with
  | nil => rfl
  | cons k ks ih => rw [maxL_cons, maxL_cons, e k (by simp), ih fun x hx => e x (by simp [hx])]
/-- The elements above i, without i. -/
def strictL (g : Nat → Nat) (i : Nat) : List Nat := (elems (g i)).filter fun k => !decide (k = i)
/-- The longest chain from i on, at most so long. -/
def rankN (g : Nat → Nat) : Nat → Nat → Nat
  | 0, _ => 0
  | f + 1, i => maxL (rankN g f) (strictL g i) + 1
def rankF (g : Nat → Nat) (i : Nat) : Nat := rankN g 256 i
theorem elems_length_le (r : Nat) : (elems r).length ≤ 256 := by
  unfold elems
  have := List.length_filter_le (fun b => r.testBit b) (List.range 256)
  simpa using this
theorem strict_iff {rows : List (List Int)} (h : Ok rows) {i k : Nat} : k ∈ strictL (gridF rows) i ↔ (gridF rows i).testBit k = true ∧ k ≠ i := by
  unfold strictL
  rw [List.mem_filter, mem_elems (h.lt i), Bool.not_eq_true', decide_eq_false_iff_not]
theorem strict_less {rows : List (List Int)} (h : Ok rows) {i k : Nat} (hk : k ∈ strictL (gridF rows) i) : (elems (gridF rows k)).length < (elems (gridF rows i)).length := by
  rw [strict_iff h] at hk
  have hil := (h.bit_lt hk.1).1
  have hsub : elems (gridF rows k) = (elems (gridF rows i)).filter (fun m => (gridF rows k).testBit m) :=
    sorted_ext (elems_pairwise _) (List.Pairwise.filter _ (elems_pairwise _)) fun x => by
      rw [mem_elems (h.lt k), List.mem_filter, mem_elems (h.lt i)]
      exact ⟨fun hx => ⟨h.trans i k hil hk.1 x hx, hx⟩, fun hx => hx.2⟩
  rw [hsub]
  have hle := List.length_filter_le (fun m => (gridF rows k).testBit m) (elems (gridF rows i))
  by_cases e : ((elems (gridF rows i)).filter (fun m => (gridF rows k).testBit m)).length = (elems (gridF rows i)).length
  · have := (List.length_filter_eq_length_iff).1 e i ((mem_elems (h.lt i)).2 (h.own i hil))
    rw [h.anti i k hil hk.1 hk.2] at this
    cases this
  · omega
theorem rankN_stable {rows : List (List Int)} (h : Ok rows) : ∀ (f f' i : Nat), (elems (gridF rows i)).length ≤ f → (elems (gridF rows i)).length ≤ f' → i < rows.length → rankN (gridF rows) f i = rankN (gridF rows) f' i := by
  intro f
  induction f with
  | zero =>
    intro f' i h1 _ hi
    have := (mem_elems (h.lt i)).2 (h.own i hi)
    have := List.length_pos_of_mem this
    omega
  | succ f ih =>
    intro f' i h1 h2 hi
    cases f' with
    | zero =>
      have := (mem_elems (h.lt i)).2 (h.own i hi)
      have := List.length_pos_of_mem this
      omega
    | succ f' =>
      unfold rankN
      congr 1
      refine maxL_congr fun k hk => ?_
      have := strict_less h hk
      exact ih f' k (by omega) (by omega) (h.bit_lt ((strict_iff h).1 hk).1).2
theorem rank_eq {rows : List (List Int)} (h : Ok rows) {i : Nat} (hi : i < rows.length) : rankF (gridF rows) i = maxL (rankF (gridF rows)) (strictL (gridF rows) i) + 1 := by
  unfold rankF
  rw [rankN_stable h 256 257 i (elems_length_le _) (by have := elems_length_le (gridF rows i); omega) hi]
  rfl
/-- The elements of a set above which nothing of it stands. -/
def topsOf (g : Nat → Nat) (s : Nat) (ks : List Nat) : Nat := ks.foldl (fun t i => if g i &&& s = 2 ^ i then put t i else t) 0
theorem topsOf_snoc (g : Nat → Nat) (s : Nat) (ks : List Nat) (k : Nat) : topsOf g s (ks ++ [k]) = if g k &&& s = 2 ^ k then put (topsOf g s ks) k else topsOf g s ks := by
  unfold topsOf; rw [List.foldl_append]; rfl
theorem testBit_topsFrom (g : Nat → Nat) (s j : Nat) : ∀ (ks : List Nat) (t : Nat), (ks.foldl (fun t i => if g i &&& s = 2 ^ i then put t i else t) t).testBit j = (t.testBit j || decide (j ∈ ks ∧ g j &&& s = 2 ^ j))
  | [], t => by simp
  | k :: ks, t => by
    rw [List.foldl_cons, testBit_topsFrom g s j ks]
    by_cases hk : g k &&& s = 2 ^ k
    · rw [if_pos hk, testBit_put, Bool.or_assoc]
      congr 1
      rw [Bool.eq_iff_iff]
      simp only [Bool.or_eq_true, decide_eq_true_eq, List.mem_cons]
      constructor
      · rintro (rfl | ⟨a, b⟩)
        · exact ⟨.inl rfl, hk⟩
        · exact ⟨.inr a, b⟩
      · rintro ⟨rfl | a, b⟩
        · exact .inl rfl
        · exact .inr ⟨a, b⟩
    · rw [if_neg hk]
      congr 1
      rw [decide_eq_decide, List.mem_cons]
      constructor
      · rintro ⟨a, b⟩; exact ⟨.inr a, b⟩
      · rintro ⟨rfl | a, b⟩
        · exact absurd b hk
        · exact ⟨a, b⟩
theorem topsOf_lt {g : Nat → Nat} {s : Nat} {ks : List Nat} (h : ∀ k ∈ ks, k < 256) : topsOf g s ks < 2 ^ 256 := by
  unfold topsOf
  have : ∀ (ks : List Nat) (t : Nat), (∀ k ∈ ks, k < 256) → t < 2 ^ 256 → ks.foldl (fun t i => if g i &&& s = 2 ^ i then put t i else t) t < 2 ^ 256 := by
    intro ks
    induction ks with
    | nil => exact fun t _ ht => ht
    | cons k ks ih =>
      intro t hk ht
      rw [List.foldl_cons]
      refine ih _ (fun x hx => hk x (by simp [hx])) ?_
      split
      · exact put_lt ht (hk k (by simp))
      · exact ht
  exact this ks 0 h (Nat.two_pow_pos 256)
/-- What is left when the tops have been taken away t times. -/
def leftF (g : Nat → Nat) (n : Nat) : Nat → Nat
  | 0 => allF n
  | t + 1 => diff (leftF g n t) (topsOf g (leftF g n t) (elems (leftF g n t)))
theorem left_lt {rows : List (List Int)} (h : Ok rows) (t : Nat) : leftF (gridF rows) rows.length t < 2 ^ 256 := by
  induction t with
  | zero => exact allF_lt (by have := h.len; omega)
  | succ t ih => exact diff_lt _ ih
theorem left_bit {rows : List (List Int)} (h : Ok rows) : ∀ (t i : Nat), (leftF (gridF rows) rows.length t).testBit i = decide (i < rows.length ∧ t < rankF (gridF rows) i) := by
  intro t
  induction t with
  | zero =>
    intro i
    unfold leftF
    rw [testBit_allF, decide_eq_decide]
    exact ⟨fun hi => ⟨hi, by rw [rank_eq h hi]; omega⟩, fun hi => hi.1⟩
  | succ t ih =>
    intro i
    have hl := left_lt h t
    unfold leftF
    rw [testBit_diff]
    unfold topsOf
    rw [testBit_topsFrom, Nat.zero_testBit, Bool.false_or, Bool.eq_iff_iff, Bool.and_eq_true, Bool.not_eq_true', decide_eq_false_iff_not, decide_eq_true_iff, mem_elems hl, ih i, decide_eq_true_iff]
    constructor
    · rintro ⟨⟨hi, hr⟩, hnot⟩
      refine ⟨hi, ?_⟩
      rw [rank_eq h hi]
      have hne : gridF rows i &&& leftF (gridF rows) rows.length t ≠ 2 ^ i := fun e => hnot ⟨⟨hi, hr⟩, e⟩
      have : ∃ k, (gridF rows i &&& leftF (gridF rows) rows.length t).testBit k = true ∧ k ≠ i := by
        apply Classical.byContradiction
        intro hno
        apply hne
        apply Nat.eq_of_testBit_eq
        intro k
        rw [Nat.testBit_two_pow]
        by_cases e : i = k
        · subst e
          rw [Nat.testBit_and, h.own i hi, ih i]
          simp [hi, hr]
        · rw [decide_eq_false e]
          cases hb : (gridF rows i &&& leftF (gridF rows) rows.length t).testBit k with
          | false => rfl
          | true => exact absurd ⟨k, hb, fun e2 => e e2.symm⟩ hno
      obtain ⟨k, hk, hki⟩ := this
      rw [Nat.testBit_and, Bool.and_eq_true, ih k, decide_eq_true_iff] at hk
      have := lt_maxL.2 ⟨k, (strict_iff h).2 ⟨hk.1, hki⟩, hk.2.2⟩
      omega
    · rintro ⟨hi, hr⟩
      rw [rank_eq h hi] at hr ⊢
      obtain ⟨k, hk, hkr⟩ := lt_maxL.1 (show t < maxL (rankF (gridF rows)) (strictL (gridF rows) i) by omega)
      rw [strict_iff h] at hk
      refine ⟨⟨hi, by omega⟩, ?_⟩
      rintro ⟨_, e⟩
      have hb : (gridF rows i &&& leftF (gridF rows) rows.length t).testBit k = true := by
        rw [Nat.testBit_and, hk.1, ih k]
        simp only [Bool.true_and, decide_eq_true_eq]
        exact ⟨(h.bit_lt hk.1).2, hkr⟩
      rw [e, Nat.testBit_two_pow, decide_eq_true_iff] at hb
      exact hk.2 hb.symm
/-- The height of an order. -/
def heightF (rows : List (List Int)) : Nat := maxL (rankF (gridF rows)) (List.range rows.length)
theorem left_zero {rows : List (List Int)} (h : Ok rows) (t : Nat) : leftF (gridF rows) rows.length t = 0 ↔ heightF rows ≤ t := by
  have hz : leftF (gridF rows) rows.length t = 0 ↔ ∀ i, (leftF (gridF rows) rows.length t).testBit i = false := by
    constructor
    · intro e i; rw [e]; simp
    · intro hall
      apply Nat.eq_of_testBit_eq
      intro i
      rw [hall i]; simp
  rw [hz, ← Nat.not_lt]
  unfold heightF
  rw [lt_maxL]
  constructor
  · rintro hall ⟨k, hk, hlt⟩
    have := hall k
    rw [left_bit h, decide_eq_false_iff_not] at this
    exact this ⟨by simpa using hk, hlt⟩
  · intro hno i
    rw [left_bit h, decide_eq_false_iff_not]
    rintro ⟨hi, hlt⟩
    exact hno ⟨i, by simpa using hi, hlt⟩
theorem rankN_le {g : Nat → Nat} : ∀ (f i : Nat), rankN g f i ≤ f
  | 0, _ => Nat.le_refl _
  | f + 1, i => by
    unfold rankN
    have : ¬ f < maxL (rankN g f) (strictL g i) := by
      rw [lt_maxL]
      rintro ⟨k, _, hk⟩
      have := rankN_le (g := g) f k
      omega
    omega
theorem rank_le (g : Nat → Nat) (i : Nat) : rankF g i ≤ 256 := rankN_le 256 i
theorem height_le (rows : List (List Int)) : heightF rows ≤ 256 := by
  apply Nat.le_of_not_lt
  unfold heightF
  rw [lt_maxL]
  rintro ⟨k, _, hk⟩
  have := rank_le (gridF rows) k
  omega
end Go.Proofs.YtkomghohdhengaaDoor

/- What is reached along lists: rows of bits that are made larger until nothing is added. Plain facts: no function is walked here. -/
namespace Go.Proofs.YtkomghohdhengaaDoor
open Go.RowKit Go.Deep

/-- What is reached from an element in steps along E. -/
inductive Rch (E : Nat → Nat → Prop) (i : Nat) : Nat → Prop
  | refl : Rch E i i
  | step {j k : Nat} : Rch E i j → E j k → Rch E i k
theorem Rch.trans {E : Nat → Nat → Prop} {i j k : Nat} (h : Rch E i j) (h2 : Rch E j k) : Rch E i k := by
  induction h2 with
  | refl => exact h
  | step _ e ih => exact ih.step e

/-- A row with the rows of all its elements. -/
def stepG (g : Nat → Nat) (i : Nat) : Nat := (elems (g i)).foldl (fun r k => r ||| g k) (g i)
theorem or_bits (g : Nat → Nat) (j : Nat) : ∀ (l : List Nat) (r : Nat), (l.foldl (fun r k => r ||| g k) r).testBit j = true ↔ r.testBit j = true ∨ ∃ k ∈ l, (g k).testBit j = true
  | [], r => by simp
  | a :: l, r => by
    rw [List.foldl_cons, or_bits g j l, Nat.testBit_or, Bool.or_eq_true]
    constructor
    · rintro ((h | h) | ⟨k, hk, h⟩)
      · exact .inl h
      · exact .inr ⟨a, by simp, h⟩
      · exact .inr ⟨k, by simp [hk], h⟩
    · rintro (h | ⟨k, hk, h⟩)
      · exact .inl (.inl h)
      · rcases List.mem_cons.1 hk with rfl | hk
        · exact .inl (.inr h)
        · exact .inr ⟨k, hk, h⟩
theorem stepG_bit (g : Nat → Nat) (i j : Nat) : (stepG g i).testBit j = true ↔ (g i).testBit j = true ∨ ∃ k ∈ elems (g i), (g k).testBit j = true := or_bits g j _ _
theorem or_lt (g : Nat → Nat) (hg : ∀ k, g k < 2 ^ 256) : ∀ (l : List Nat) (r : Nat), r < 2 ^ 256 → l.foldl (fun r k => r ||| g k) r < 2 ^ 256
  | [], _, h => h
  | a :: l, _, h => or_lt g hg l _ (Nat.or_lt_two_pow h (hg a))

/-- Rows of n elements on the way to what is reached. -/
structure ClI (E : Nat → Nat → Prop) (n : Nat) (g : Nat → Nat) : Prop where
  lt : ∀ i, g i < 2 ^ 256
  own : ∀ i, i < n → (g i).testBit i = true
  edge : ∀ i j, i < n → E i j → (g i).testBit j = true
  sound : ∀ i j, (g i).testBit j = true → i < n ∧ j < n ∧ Rch E i j
theorem ClI.step {E : Nat → Nat → Prop} {n : Nat} {g : Nat → Nat} (h : ClI E n g) : ClI E n (stepG g) := by
  refine ⟨fun i => or_lt g h.lt _ _ (h.lt i), fun i hi => (stepG_bit g i i).2 (.inl (h.own i hi)), fun i j hi he => (stepG_bit g i j).2 (.inl (h.edge i j hi he)), fun i j hb => ?_⟩
  rcases (stepG_bit g i j).1 hb with hb | ⟨k, hk, hb⟩
  · exact h.sound i j hb
  · have h1 := h.sound i k ((mem_elems (h.lt i)).1 hk)
    have h2 := h.sound k j hb
    exact ⟨h1.1, h2.2.1, h1.2.2.trans h2.2.2⟩
/-- Where nothing is added any more, the rows have all that is reached. -/
theorem ClI.done {E : Nat → Nat → Prop} {n : Nat} {g : Nat → Nat} (h : ClI E n g) (hf : ∀ i, i < n → stepG g i = g i) (i j : Nat) (hi : i < n) : (g i).testBit j = true ↔ Rch E i j := by
  refine ⟨fun hb => (h.sound i j hb).2.2, fun hr => ?_⟩
  induction hr with
  | refl => exact h.own i hi
  | step _ e ih =>
    have hj := (h.sound i _ ih).2.1
    rw [← hf i hi]
    exact (stepG_bit g i _).2 (.inr ⟨_, (mem_elems (h.lt i)).2 ih, h.edge _ _ hj e⟩)

theorem filter_le {p q : Nat → Bool} : ∀ l : List Nat, (∀ x ∈ l, p x = true → q x = true) → (l.filter p).length ≤ (l.filter q).length
  | [], _ => Nat.le_refl _
  | a :: l, h => by
    have ih := filter_le l fun x hx => h x (by simp [hx])
    rw [List.filter_cons, List.filter_cons]
    cases hp : p a with
    | true => rw [h a (by simp) hp]; simpa using ih
    | false => cases q a <;> simp <;> omega
theorem filter_lt {p q : Nat → Bool} : ∀ l : List Nat, (∀ x ∈ l, p x = true → q x = true) → (∃ x ∈ l, q x = true ∧ p x = false) → (l.filter p).length < (l.filter q).length
  | [], _, h => by obtain ⟨x, hx, _⟩ := h; cases hx
  | a :: l, h, hx => by
    have il := filter_le l fun x hx => h x (by simp [hx])
    rw [List.filter_cons, List.filter_cons]
    cases hp : p a with
    | true =>
      rw [h a (by simp) hp]
      obtain ⟨x, hm, hq, hn⟩ := hx
      rcases List.mem_cons.1 hm with rfl | hm
      · rw [hp] at hn; cases hn
      · have ih := filter_lt l (fun x hx => h x (by simp [hx])) ⟨x, hm, hq, hn⟩
        simpa using ih
    | false =>
      cases hq : q a with
      | true => simp; omega
      | false =>
        obtain ⟨x, hm, hq2, hn⟩ := hx
        rcases List.mem_cons.1 hm with rfl | hm
        · rw [hq] at hq2; cases hq2
        · have ih := filter_lt l (fun x hx => h x (by simp [hx])) ⟨x, hm, hq2, hn⟩
          simpa using ih
/-- How many elements the first n rows have. -/
def popG (g : Nat → Nat) : Nat → Nat
  | 0 => 0
  | n + 1 => popG g n + (elems (g n)).length
theorem popG_le (g : Nat → Nat) : ∀ n, popG g n ≤ n * 256
  | 0 => Nat.le_refl _
  | n + 1 => by
    have h1 := popG_le g n
    have h2 := elems_length_le (g n)
    unfold popG
    omega
theorem popG_mono {g h : Nat → Nat} (hb : ∀ i j, (g i).testBit j = true → (h i).testBit j = true) : ∀ n, popG g n ≤ popG h n
  | 0 => Nat.le_refl _
  | n + 1 => by
    have h1 := popG_mono hb n
    have h2 : (elems (g n)).length ≤ (elems (h n)).length := filter_le _ fun x _ hx => hb n x hx
    unfold popG
    omega
theorem popG_lt {g h : Nat → Nat} (hb : ∀ i j, (g i).testBit j = true → (h i).testBit j = true) (hl : ∀ i, h i < 2 ^ 256) {i : Nat} (hne : h i ≠ g i) (hg : g i < 2 ^ 256) : ∀ n, i < n → popG g n < popG h n
  | 0, hi => absurd hi (Nat.not_lt_zero _)
  | n + 1, hi => by
    unfold popG
    have h2 : (elems (g n)).length ≤ (elems (h n)).length := filter_le _ fun x _ hx => hb n x hx
    by_cases e : i = n
    · subst e
      have h1 := popG_mono hb i
      have h3 : (elems (g i)).length < (elems (h i)).length := by
        refine filter_lt _ (fun x _ hx => hb i x hx) ?_
        have hex : ∃ j, (h i).testBit j = true ∧ (g i).testBit j = false := by
          refine Classical.byContradiction fun hno => hne (Nat.eq_of_testBit_eq fun j => ?_)
          cases hj : (g i).testBit j with
          | true => exact hb i j hj
          | false =>
            cases hk : (h i).testBit j with
            | false => rfl
            | true => exact absurd ⟨j, hk, hj⟩ hno
        obtain ⟨j, h1, h2⟩ := hex
        refine ⟨j, List.mem_range.2 ?_, h1, h2⟩
        rcases Nat.lt_or_ge j 256 with h | h
        · exact h
        · rw [Nat.testBit_lt_two_pow (Nat.lt_of_lt_of_le (hl i) (Nat.pow_le_pow_right (by decide) h))] at h1
          cases h1
      omega
    · have h1 := popG_lt hb hl hne hg n (by omega)
      omega
/-- A list with the first element that has, with each of its elements, all that is one step on, and none that is not reached, has just what is reached. -/
theorem walk_done {E : Nat → Nat → Prop} {i : Nat} {todo : List Nat} (hs : ∀ x ∈ todo, Rch E i x) (hi : i ∈ todo) (hc : ∀ a ∈ todo, ∀ y, E a y → y ∈ todo) (x : Nat) : x ∈ todo ↔ Rch E i x := by
  refine ⟨hs x, fun h => ?_⟩
  induction h with
  | refl => exact hi
  | step _ e ih => exact hc _ ih _ e
end Go.Proofs.YtkomghohdhengaaDoor

/- The model's OrderLeast. -/
namespace Go.Proofs.YtkomghohdhengaaDoor
open Go.RowKit Go.Deep

theorem leastI_at {rows : Rows2} {i : Nat} (hi : i < rows.length) (h : rows[i].length = rows.length) (hj : ∀ j (hj : j < rows.length), j < i → rows[j].length ≠ rows.length) : leastI rows = i := by
  unfold leastI
  have e : (List.range rows.length).find? (fun i => (rows.getD i []).length == rows.length) = some i := by
    rw [List.find?_range_eq_some]
    refine ⟨by rw [getD_at [] hi]; simpa using h, by simpa using hi, fun j hlt => ?_⟩
    rw [getD_at [] (by omega)]
    simpa using hj j (by omega) hlt
  rw [e]
theorem leastI_none {rows : Rows2} (hj : ∀ j (hj : j < rows.length), rows[j].length ≠ rows.length) : leastI rows = -1 := by
  unfold leastI
  have e : (List.range rows.length).find? (fun i => (rows.getD i []).length == rows.length) = none := by
    rw [List.find?_eq_none]
    intro i hi
    have hi' : i < rows.length := by simpa using hi
    rw [getD_at [] hi']
    simpa using hj i hi'
  rw [e]

set_option maxHeartbeats 2000000 in
theorem l1Least_any (v : Value) (rows : Rows2) (w : World) (hv : RowsAt w v rows) (hn : bulk rows ≤ 1048576) :
    Calls Tryd.prog 97 #[.agg #[v]] w (SaysI (leastI rows) w) := by
  have hH := Held.start w 25 hv
  have hlen : rows.length ≤ 1048576 := by unfold bulk at hn; omega
  obtain ⟨A, C, rfl, hC, hm, _⟩ := hv
  unfold maxLen at hm
  have HH := Lib.hid hH
  clear hH
  go_enter Tryd.func97, Tryd.ntmps97
  go_wp2
  go_loopw [3] (fun kv wr => ∃ k : Nat, k ≤ rows.length ∧ kv = .int .i64 k ∧ (∀ j (hj : j < rows.length), j < k → rows[j].length ≠ rows.length) ∧ Held w (.slice A rows.length C) rows wr) (fun kv _ => rows.length - (intOf kv).toNat)
  case atStart => exact ⟨0, Nat.zero_le _, rfl, fun _ _ h => absurd h (Nat.not_lt_zero _), HH.out⟩
  case round =>
    obtain ⟨k, hk, rfl, hj, hh⟩ := hrel
    have HJ := Lib.hid hj
    have hcell := hh.1
    have HK := Lib.hid hh
    clear hj HH
    by_cases hlt : k < rows.length
    · obtain ⟨_, _, e0, _, _, hx⟩ := hh.2.1
      cases e0
      obtain ⟨b0, o0, u, rfl, hc, hu⟩ := hx k hlt
      obtain ⟨A1, C1, rfl, _, hm1, _, _⟩ := hu
      unfold maxLen at hm1
      clear hh hx
      by_cases hl : rows[k].length = rows.length
      · have hb : ((rows[k].length : Int) == (rows.length : Int)) = true := by rw [beq_iff_eq]; omega
        have hb2 : (rows[k].length == rows.length) = true := by rw [beq_iff_eq]; exact hl
        have HE := Lib.hid (leastI_at hlt hl HJ.out)
        clear hl
        go_wp2
        go_quiet (fail)
        go_wp2
        go_ret
        exact ⟨by rw [HE.out]; rfl, (HK.out.below (below_drewN' _ _ _)).2.2.1⟩
      · have hb : ((rows[k].length : Int) == (rows.length : Int)) = false := by rw [beq_eq_false_iff_ne]; omega
        have hb2 : (rows[k].length == rows.length) = false := by rw [beq_eq_false_iff_ne]; exact hl
        have HL := Lib.hid hl
        clear hl
        go_wp2
        go_quiet (fail)
        go_wp2
        go_roundw
        case rel =>
          refine ⟨k + 1, by omega, by go_num, fun j hj hlt' => ?_, HK.out.below (below_drewN' _ _ _)⟩
          by_cases e : j = k
          · subst e; exact HL.out
          · exact HJ.out j hj (by omega)
        case measure => simp [intOf]; omega
    · obtain rfl : k = rows.length := by omega
      have HE := Lib.hid (leastI_none fun j hj => HJ.out j hj hj)
      clear hh
      go_wp2
      go_ret
      exact ⟨by rw [HE.out]; rfl, HK.out.2.2.1⟩

/-- What OrderLeast answers. -/
noncomputable def leastB (rows : Rows2) : Int := if validB rows = true then leastI rows else -1

end Go.Proofs.YtkomghohdhengaaDoor

/- The program's check of all elements (isOrder). -/
namespace Go.Proofs.YtkomghohdhengaaDoor
open Go.RowKit Go.Deep

/-- All rows are covered, or one is bad. -/
def OrderPost (g : Nat → Nat) (n : Nat) (w : World) (e : Ending) (w' : World) : Prop :=
  (∃ t : Bool, (t = true → ∀ i, i < n → CovAll g i) ∧ (t = false → ∃ i, i < n ∧ BadBit g i) ∧ e = .returned (.bool t)) ∧ Below w.heap.size w w'

set_option maxHeartbeats 2000000 in
theorem isOrder_any (b n : Nat) (g : Nat → Nat) (w : World) (hg : GridAt w b g) (hT : Tab w) (hn : n ≤ 200) (h1 : n < 200 → g n = 0)
    (hown : ∀ k, k < n → (g k).testBit k = true) (hbits : ∀ k j, k < n → (g k).testBit j = true → j < n) :
    Calls Tryd.prog 121 #[.pointer (some ⟨b, 0, none⟩)] w (OrderPost g n w) := by
  have hcall := size_any b n g w hg hn (fun i hi e => by have h := hown i hi; rw [e] at h; simp at h) h1
  have HL := Lib.hid (show Look b g w w from ⟨hg, hT, Below.refl _ _, hg.lt⟩)
  have HO := Lib.hid hown
  have HI := Lib.hid hbits
  clear hg hT h1 hown hbits
  go_enter Tryd.func121, Tryd.ntmps121
  go_wp2_with (go_at_call 106; refine hcall.mono ?_; clear hcall; rintro e w1 ⟨rfl, hb1⟩)
  have HL1 := Lib.hid (HL.out.step hb1)
  clear hb1 HL
  go_loopw [6] (fun kv wr => ∃ k : Nat, k ≤ n ∧ kv = .int .i64 k ∧ (∀ i, i < k → CovAll g i) ∧ Look b g w wr) (fun kv _ => n - (intOf kv).toNat)
  case atStart => exact ⟨0, Nat.zero_le _, rfl, fun _ h => absurd h (Nat.not_lt_zero _), HL1.out⟩
  case round =>
    obtain ⟨k, hk, rfl, hc, hL⟩ := hrel
    have HC := Lib.hid hc
    have HL := Lib.hid hL
    clear hc hL HL1
    by_cases hlt : k < n
    · have hcall := fitsAt_any b n k g wr HL.out.grid HL.out.tab hn hlt HO.out HI.out
      have HCALL := Lib.hid hcall
      clear hcall
      go_wp2_with (go_at_call 155; refine HCALL.out.mono ?_; clear HCALL; rintro e w2 ⟨⟨t, ht1, ht2, rfl⟩, hb2⟩; have HT1 := Lib.hid ht1; have HT2 := Lib.hid ht2; have HB2 := Lib.hid hb2; clear ht1 ht2 hb2; cases t)
      · go_ret
        exact ⟨⟨false, fun h => (by cases h), fun _ => ⟨k, hlt, HT2.out trivial⟩, rfl⟩, (HL.out.step HB2.out).below⟩
      · go_roundw
        case rel =>
          refine ⟨k + 1, by omega, by go_num, fun i hi => ?_, HL.out.step HB2.out⟩
          by_cases e : i = k
          · subst e; exact HT1.out trivial
          · exact HC.out i (by omega)
        case measure => simp [intOf]; omega
    · obtain rfl : k = n := by omega
      go_wp2
      go_ret
      exact ⟨⟨true, fun _ => HC.out, fun h => (by cases h), rfl⟩, HL.out.below⟩
end Go.Proofs.YtkomghohdhengaaDoor

/- The program's iterator over the elements of a row (row.elements): it gives all of them, ascending. -/
namespace Go.Proofs.YtkomghohdhengaaDoor
open Go.RowKit Go.Deep Go.Shelf
attribute [local go_sem] Oper.semAt_some

/-- An element of a row. -/
abbrev Bt (r : Nat) : Type := { k : Nat // k ∈ elems r }
def eList (r : Nat) : List (Bt r) := (elems r).attach
def encBt {r : Nat} (x : Bt r) : Array Value := #[.int .i64 ((x.1 : Nat) : Int)]
def natsOf {r : Nat} (l : List (Bt r)) : List Nat := l.map (·.1)
theorem natsOf_all (r : Nat) : natsOf (eList r) = elems r := by simp [natsOf, eList]
theorem natsOf_snoc {r : Nat} (l : List (Bt r)) (x : Bt r) : natsOf (l ++ [x]) = natsOf l ++ [x.1] := by simp [natsOf]

theorem elements_any (r : Nat) (w : World) : Calls Tryd.prog 138 #[rowV r] w fun e w' =>
    e = .returned (.func (.func 159) #[] #[.pointer (some ⟨w.heap.size, 0, none⟩)]) ∧
    w' = w.alloc (.cells #[.int .u64 ((word r 0 : Nat) : Int), .int .u64 ((word r 1 : Nat) : Int), .int .u64 ((word r 2 : Nat) : Int), .int .u64 ((word r 3 : Nat) : Int)] 91) := by
  go_enter Tryd.func138, Tryd.ntmps138
  go_wp2
  go_ret
  exact ⟨rfl, rfl⟩

theorem tab_keep {w w' : World} {n₀ : Nat} (h : Tab w) (hb : Below n₀ w w') (ht : 0 < n₀) : Tab w' := fun j hj => by
  rw [hb.cell (p := ⟨0, j, none⟩) ht]
  exact h j hj

theorem ix_row (r j : Nat) (hj : j < 4) (w : World) : (Instr.index 91 (rowV r) (.int .i64 (j : Int))).run Tryd.prog w = .ok (.int .u64 ((word r j : Nat) : Int)) w := by
  obtain rfl | rfl | rfl | rfl : j = 0 ∨ j = 1 ∨ j = 2 ∨ j = 3 := by omega
  · exact ix0 _ _ _ _ w
  · exact ix1 _ _ _ _ w
  · exact ix2 _ _ _ _ w
  · exact ix3 _ _ _ _ w

theorem clear_word (x : Nat) (h0 : x ≠ 0) (hx : x < 18446744073709551616) : bits BinOp.and IntKind.u64 (x : Int) ((x : Int) - 1) = ((x &&& (x - 1) : Nat) : Int) := by
  have e : (x : Int) - 1 = ((x - 1 : Nat) : Int) := by omega
  rw [e, u64_and_nat _ _ hx (by omega)]

set_option maxRecDepth 100000 in
set_option maxHeartbeats 4000000 in
theorem elements1_stops (n n₀ Bs r : Nat) (w : World) (hn : 2 ≤ n) (_hr : r < 2 ^ 256) (hB : RowIn w Bs r) (hn₀ : n₀ ≤ w.heap.size) (htab : 0 < n₀) (hT : Tab w) :
    SeqStopsK Fence.wide n Tryd.prog 159 #[.pointer (some ⟨Bs, 0, none⟩)] (encBt (r := r)) (Below n₀) (fun xs => xs = eList r) (fun pre => pre <+: eList r) (eList r).length w := fun l J Jx W hW _ _ hY h0 => by
  have hBW := hB.below hW hB.lt
  have hTW := hT.below hW
  have hnW : n₀ ≤ W.heap.size := Nat.le_trans hn₀ hW.size
  obtain ⟨b0, b1, b2, b3⟩ := hBW.cells
  have hix := ix_row r
  have HT := Lib.hid hTW
  have HY := Lib.hid hY
  have HJ0 := Lib.hid h0
  have HNW := Lib.hid hnW
  have hwords := elems_words r
  have HW0 := Lib.hid hwords
  clear hB hT hTW hBW hY h0 hW hnW hn₀ hwords
  refine callsIn_of_wp Tryd.func159 rfl trivial ?_ rfl
  simp only [Tryd.ntmps159, List.size_toArray, List.length_cons, List.length_nil, Nat.reduceAdd, Nat.reduceSub, Array.replicate_succ, Array.replicate_zero, List.push_toArray, List.append_toArray, List.nil_append, List.cons_append]
  gi_wp2
  gi_loopw [6] (fun iv wr => ∃ (j : Nat) (pre rest : List (Bt r)), j ≤ 4 ∧ iv = .int .i64 j ∧ eList r = pre ++ rest ∧ natsOf rest = tailW r j ∧ J pre wr ∧ Below n₀ W wr) (fun iv _ => 4 - (intOf iv).toNat)
  case atStart => exact ⟨0, [], eList r, Nat.zero_le _, rfl, rfl, by rw [natsOf_all]; exact HW0.out, HJ0.out, Below.refl _ _⟩
  case round =>
    obtain ⟨j, pre, rest, hj, rfl, hall, hrest, hJ, hb⟩ := hrel
    have HALL := Lib.hid hall
    have HR := Lib.hid hrest
    have HJ := Lib.hid hJ
    have HB := Lib.hid hb
    clear hall hrest hJ hb
    by_cases hlt : j < 4
    · have hixj := hix j hlt
      have hj0 : (0 : Int) ≤ (j : Int) := by omega
      have hj3 : (j : Int) < 4 := by omega
      gi_wp2
      obtain ⟨wo, hwo⟩ : ∃ wo : World, wo = wr := ⟨_, rfl⟩
      rw [← hwo] at HJ HB ⊢
      clear hwo
      gi_loopw [4] (fun xv wr => ∃ (x : Nat) (pre rest : List (Bt r)), x < 18446744073709551616 ∧ xv = .int .u64 x ∧ eList r = pre ++ rest ∧ natsOf rest = (bitsW x).map (64 * j + ·) ++ tailW r (j + 1) ∧ J pre wr ∧ Below n₀ W wr) (fun xv _ => (intOf xv).toNat)
      case atStart => exact ⟨word r j, pre, rest, word_lt r j, rfl, HALL.out, by rw [HR.out, tailW_step hlt], HJ.out, HB.out⟩
      case round =>
        obtain ⟨x, pre, rest, hx, rfl, hall, hrest, hJ, hb⟩ := hrel
        have HALL := Lib.hid hall
        by_cases h0 : x = 0
        · have hx0 : (((x : Nat) : Int) != 0) = false := by rw [h0]; rfl
          have hrest2 : natsOf rest = tailW r (j + 1) := by rw [hrest, h0, bitsW_zero]; rfl
          have HR := Lib.hid hrest2
          have HJ := Lib.hid hJ
          have HB := Lib.hid hb
          clear hall hrest hrest2 hJ hb h0
          gi_wp2
          go_roundw
          case rel => exact ⟨j + 1, pre, rest, by omega, by go_num, HALL.out, HR.out, HJ.out, HB.out⟩
          case measure => simp [intOf]; omega
        · have hx0 : (((x : Nat) : Int) != 0) = true := bne_iff_ne.2 (by omega)
          obtain ⟨c, hc⟩ : ∃ c, c = Lib.ctz 64 x := ⟨_, rfl⟩
          have hclt : c < 64 := by rw [hc]; exact (ctz_low x h0 hx).2.2
          have hcons := bitsW_cons h0 hx
          rw [← hc] at hcons
          obtain ⟨y, rest', hre⟩ : ∃ y rest', rest = y :: rest' := by
            cases rest with
            | nil => rw [hcons] at hrest; simp [natsOf] at hrest
            | cons y rest' => exact ⟨y, rest', rfl⟩
          subst hre
          have hrest2 : y.1 = 64 * j + c ∧ natsOf rest' = (bitsW (x &&& (x - 1))).map (64 * j + ·) ++ tailW r (j + 1) := by
            rw [hcons] at hrest
            simpa [natsOf] using hrest
          have hyv : ((y.1 : Nat) : Int) = (j : Int) * 64 + (c : Int) := by rw [hrest2.1]; omega
          have htz := tz_any x hx h0 wr (tab_keep HT.out hb htab)
          rw [← hc] at htz
          have hlen : pre.length < (eList r).length := by rw [hall]; simp
          obtain ⟨fn, tmps, assign, body, hy, hR⟩ := HY.out pre y wr hJ hlen
          unfold encBt at hy
          rw [hyv] at hy
          have hcw := clear_word x h0 hx
          have hclear := clear_lt h0
          have HR := Lib.hid hrest2.2
          have HB := Lib.hid hb
          have HRD := Lib.hid hR
          have HTZ := Lib.hid htz
          clear hall hrest hrest2 hJ hb h0 hcons hyv hc hlen hR htz
          gi_wp2
          refine ⟨trivial, fun _ => by omega, (callsIn_wide.2 HTZ.out).mono ?_⟩
          rintro e w1 ⟨rfl, rfl⟩
          gi_wp2
          refine ⟨fun _ => by omega, HRD.out.mono ?_⟩
          rintro e W3 (⟨rfl, hJ3, hk3⟩ | ⟨rfl, hJx3⟩)
          · have HJ3 := Lib.hid hJ3
            have HK3 := Lib.hid hk3
            clear hJ3 hk3
            gi_wp2
            go_roundw
            case rel => exact ⟨x &&& (x - 1), pre ++ [y], rest', by omega, rfl, by rw [HALL.out]; simp, HR.out, HJ3.out, HB.out.trans HK3.out⟩
            case measure => simp [intOf]; omega
          · have HJ3 := Lib.hid hJx3
            clear hJx3
            gi_wp2
            refine bodyPost_ret (results_none rfl _ _ _) rfl ?_
            exact ⟨⟨_, rfl⟩, .inr ⟨pre ++ [y], ⟨rest', by rw [HALL.out]; simp⟩, HJ3.out⟩⟩
    · obtain rfl : j = 4 := by omega
      gi_wp2
      go_end0
      have hnil : rest = [] := by
        have h := HR.out
        rw [tailW_done] at h
        cases rest with
        | nil => rfl
        | cons y t => simp [natsOf] at h
      refine ⟨⟨_, rfl⟩, .inl ⟨pre, ?_, HJ.out⟩⟩
      have h := HALL.out
      rw [hnil, List.append_nil] at h
      exact h.symm
end Go.Proofs.YtkomghohdhengaaDoor

/- What a law holds while it looks at an answer that is an order: the argument, the model's answer, the copy that the program had, the program's answer, all in memory of their own. Plain facts on worlds. -/
namespace Go.Proofs.YtkomghohdhengaaDoor
open Go.RowKit Go.Deep

/-- The rows res as an order in memory of its own, and the Boolean t. -/
def OrderP (res : Rows2) (t : Bool) (w : World) (e : Ending) (w' : World) : Prop :=
  ∃ v, e = .returned (.tuple #[.agg #[v], .bool t]) ∧ OwnR 3 26 w' v res.length (rowsF res) w.heap.size w'.heap.size ∧ Below w.heap.size w w'


/-- The places of the answers. -/
structure Places where
  lo1 : Nat
  hi1 : Nat
  lo2 : Nat
  hi2 : Nat
  lo3 : Nat
  hi3 : Nat

structure Lw (w : World) (v : Value) (rows res : Rows2) (p : Places) (v1 v2 v3 : Value) (R2 R3 : Nat → List Int) (W : World) : Prop where
  base : RowsAt w v rows
  tab0 : Tab w
  arg : W.cell? ⟨w.heap.size, 0, none⟩ = some v
  below : Below w.heap.size w W
  b4 : Boxed W p.hi1 25 v1
  o4 : OwnR 3 26 W v1 res.length (rowsF res) p.lo1 p.hi1
  b6 : Boxed W p.hi2 25 v2
  o6 : OwnR 3 26 W v2 rows.length R2 p.lo2 p.hi2
  b7 : Boxed W p.hi3 25 v3
  o7 : OwnR 3 26 W v3 res.length R3 p.lo3 p.hi3
  ord : w.heap.size < p.lo1 ∧ p.lo1 ≤ p.hi1 ∧ p.hi1 < p.lo2 ∧ p.lo2 ≤ p.hi2 ∧ p.hi2 < p.lo3 ∧ p.lo3 ≤ p.hi3 ∧ p.hi3 < W.heap.size

section
variable {w : World} {v v1 v2 v3 : Value} {rows res : Rows2} {p : Places} {R2 R3 : Nat → List Int} {W W' : World}
theorem Lw.rowsAt (h : Lw w v rows res p v1 v2 v3 R2 R3 W) : RowsAt W v rows := h.base.below h.below
theorem Lw.tab (h : Lw w v rows res p v1 v2 v3 R2 R3 W) : Tab W := h.tab0.below h.below
theorem Lw.step (h : Lw w v rows res p v1 v2 v3 R2 R3 W) (hb : Below W.heap.size W W') : Lw w v rows res p v1 v2 v3 R2 R3 W' := by
  have ho := h.ord
  have hz := hb.size
  exact ⟨h.base, h.tab0, (hb.cell (p := ⟨w.heap.size, 0, none⟩) (cell_lt h.arg)).trans h.arg, h.below.trans (hb.mono h.below.size), (hb.block _ h.b4.lt).trans h.b4, h.o4.below hb (by omega), (hb.block _ h.b6.lt).trans h.b6, h.o6.below hb (by omega), (hb.block _ h.b7.lt).trans h.b7, h.o7.below hb (by omega), by omega⟩
/-- The copy has been marked. -/
theorem Lw.mark2 {R2' : Nat → List Int} (h : Lw w v rows res p v1 v2 v3 R2 R3 W) (ht : Turned p.lo2 p.hi2 W W') (ho : OwnR 3 26 W' v2 rows.length R2' p.lo2 p.hi2) : Lw w v rows res p v1 v2 v3 R2' R3 W' := by
  have hd := h.ord
  have hz := ht.below.size
  have hbl : ∀ b, b < p.lo2 → W'.heap[b]? = W.heap[b]? := fun b hb => ht.below.block b hb
  have hab : ∀ b, p.hi2 ≤ b → b < W.heap.size → W'.heap[b]? = W.heap[b]? := ht.above
  exact ⟨h.base, h.tab0, (World.cell?_of_block (hbl w.heap.size (by omega))).trans h.arg, h.below.trans (ht.below.mono (by omega)), (hbl _ (by omega)).trans h.b4, h.o4.kept fun b _ hb => hbl b (by omega), (hab _ (by omega) (by omega)).trans h.b6, ho, (hab _ (by omega) (by omega)).trans h.b7, h.o7.kept fun b hb hb' => hab b (by omega) (by omega), by omega⟩
/-- The program's answer has been marked. -/
theorem Lw.mark3 {R3' : Nat → List Int} (h : Lw w v rows res p v1 v2 v3 R2 R3 W) (ht : Turned p.lo3 p.hi3 W W') (ho : OwnR 3 26 W' v3 res.length R3' p.lo3 p.hi3) : Lw w v rows res p v1 v2 v3 R2 R3' W' := by
  have hd := h.ord
  have hz := ht.below.size
  have hbl : ∀ b, b < p.lo3 → W'.heap[b]? = W.heap[b]? := fun b hb => ht.below.block b hb
  have hab : ∀ b, p.hi3 ≤ b → b < W.heap.size → W'.heap[b]? = W.heap[b]? := ht.above
  exact ⟨h.base, h.tab0, (World.cell?_of_block (hbl w.heap.size (by omega))).trans h.arg, h.below.trans (ht.below.mono (by omega)), (hbl _ (by omega)).trans h.b4, h.o4.kept fun b _ hb => hbl b (by omega), (hbl _ (by omega)).trans h.b6, h.o6.kept fun b _ hb => hbl b (by omega), (hab _ (by omega) (by omega)).trans h.b7, ho, by omega⟩
end
end Go.Proofs.YtkomghohdhengaaDoor

/- Is it an order, with two such elements? The model's l1Has. -/
namespace Go.Proofs.YtkomghohdhengaaDoor
open Go.RowKit Go.Deep

/-- Is it an order, with two such elements? -/
noncomputable def hasB (rows : Rows2) (a b : Int) : Bool := validB rows && (decide (0 ≤ a ∧ a < rows.length) && decide (0 ≤ b ∧ b < rows.length))
end Go.Proofs.YtkomghohdhengaaDoor

/- OrderBelow: the model's answers. -/
namespace Go.Proofs.YtkomghohdhengaaDoor
open Go.RowKit Go.Deep

/-- Is b above a? -/
noncomputable def belowB (rows : Rows2) (a b : Int) : Bool := hasB rows a b && upB rows a.toNat b

end Go.Proofs.YtkomghohdhengaaDoor

/- The elements that cover an element: plain facts. -/
namespace Go.Proofs.YtkomghohdhengaaDoor
open Go

/-! ### Covers -/
/-- Row i without i. -/
def aboveF (g : Nat → Nat) (i : Nat) : Nat := diff (g i) (2 ^ i)
/-- What is left of a set when the strict rows of some elements are taken away. -/
def lessF (g : Nat → Nat) (ks : List Nat) (s : Nat) : Nat := ks.foldl (fun c k => diff c (aboveF g k)) s
theorem lessF_snoc (g : Nat → Nat) (ks : List Nat) (k s : Nat) : lessF g (ks ++ [k]) s = diff (lessF g ks s) (aboveF g k) := by
  unfold lessF; rw [List.foldl_append]; rfl
theorem testBit_above (g : Nat → Nat) (i j : Nat) : (aboveF g i).testBit j = ((g i).testBit j && !decide (j = i)) := by
  unfold aboveF
  rw [testBit_diff, Nat.testBit_two_pow]
  congr 2
  rw [decide_eq_decide]
  exact eq_comm
theorem testBit_less (g : Nat → Nat) (j : Nat) : ∀ (ks : List Nat) (s : Nat), (lessF g ks s).testBit j = (s.testBit j && ks.all fun k => !(aboveF g k).testBit j)
  | [], s => by simp [lessF]
  | k :: ks, s => by
    show (lessF g ks (diff s (aboveF g k))).testBit j = _
    rw [testBit_less g j ks, testBit_diff, List.all_cons, Bool.and_assoc]
theorem lessF_lt (g : Nat → Nat) : ∀ (ks : List Nat) {s : Nat}, s < 2 ^ 256 → lessF g ks s < 2 ^ 256
  | [], _, h => h
  | k :: ks, s, h => lessF_lt g ks (s := diff s (aboveF g k)) (diff_lt _ h)
/-- The elements that cover element i. -/
def coversF (g : Nat → Nat) (i : Nat) : Nat := lessF g (elems (aboveF g i)) (aboveF g i)
theorem above_lt {rows : List (List Int)} (h : Ok rows) (i : Nat) : aboveF (gridF rows) i < 2 ^ 256 := diff_lt _ (h.lt i)
theorem covers_lt {rows : List (List Int)} (h : Ok rows) (i : Nat) : coversF (gridF rows) i < 2 ^ 256 := lessF_lt _ _ (above_lt h i)
/-- The model's test. -/
def coverTest (rows : List (List Int)) (i : Nat) (j : Int) : Bool :=
  !decide (j = (i : Int)) && !(rows.getD i []).any fun e => !decide (e = (i : Int)) && (!decide (e = j) && upB rows e.toNat j)
def coversI (rows : List (List Int)) (i : Nat) : List Int := (rows.getD i []).filter (coverTest rows i)
theorem covers_eq {rows : List (List Int)} (h : Ok rows) {i : Nat} (hi : i < rows.length) : coversI rows i = (elems (coversF (gridF rows) i)).map (fun k : Nat => (k : Int)) := by
  have hc : ∀ k : Nat, (gridF rows i).testBit k = true → coverTest rows i k = (coversF (gridF rows) i).testBit k := fun k hk => by
    unfold coverTest coversF
    rw [testBit_less, testBit_above, hk, Bool.true_and]
    have e1 : decide ((k : Int) = (i : Int)) = decide (k = i) := by rw [decide_eq_decide]; omega
    rw [e1]
    congr 1
    rw [Bool.eq_iff_iff, Bool.not_eq_true', List.any_eq_false, List.all_eq_true, getD_at [] hi, h.elems hi]
    simp only [List.mem_map, forall_exists_index, and_imp]
    constructor
    · intro hall m hm
      rw [mem_elems (above_lt h i), testBit_above, Bool.and_eq_true, Bool.not_eq_true', decide_eq_false_iff_not] at hm
      have := hall m m ((mem_elems (h.lt i)).2 hm.1) rfl
      rw [Int.toNat_natCast, h.up (h.bit_lt hm.1).2] at this
      rw [testBit_above, Bool.not_eq_true', Bool.and_eq_false_iff]
      by_cases e : k = m
      · right; simp [e]
      · left
        cases hb : (gridF rows m).testBit k with
        | false => rfl
        | true =>
          exfalso
          apply this
          rw [hb, Bool.and_true, Bool.and_eq_true, Bool.not_eq_true', Bool.not_eq_true', decide_eq_false_iff_not, decide_eq_false_iff_not]
          omega
    · intro hall e m hm he
      subst he
      rw [mem_elems (h.lt i)] at hm
      rw [Int.toNat_natCast, h.up (h.bit_lt hm).2, Bool.and_eq_true, Bool.and_eq_true, Bool.not_eq_true', Bool.not_eq_true', decide_eq_false_iff_not, decide_eq_false_iff_not]
      rintro ⟨hne, hne2, hb⟩
      have := hall m (by rw [mem_elems (above_lt h i), testBit_above, hm, Bool.true_and, Bool.not_eq_true', decide_eq_false_iff_not]; omega)
      rw [testBit_above, hb, Bool.true_and, Bool.not_not, decide_eq_true_iff] at this
      omega
  unfold coversI
  rw [getD_at [] hi, h.elems hi, List.filter_map]
  congr 1
  have e : elems (coversF (gridF rows) i) = (elems (gridF rows i)).filter (fun k => (coversF (gridF rows) i).testBit k) :=
    sorted_ext (elems_pairwise _) (List.Pairwise.filter _ (elems_pairwise _)) fun x => by
      rw [mem_elems (covers_lt h i), List.mem_filter, mem_elems (h.lt i)]
      refine ⟨fun hx => ⟨?_, hx⟩, fun hx => hx.2⟩
      unfold coversF at hx
      rw [testBit_less, testBit_above] at hx
      simp only [Bool.and_eq_true] at hx
      exact hx.1.1
  rw [e]
  apply List.filter_congr
  intro k hk
  exact hc k ((mem_elems (h.lt i)).1 hk)
end Go.Proofs.YtkomghohdhengaaDoor

/- The program's list of the elements of a row (row.list), in memory of its own. -/
namespace Go.Proofs.YtkomghohdhengaaDoor
open Go.RowKit Go.Deep Go.Shelf
attribute [local go_sem] Oper.semAt_some

/-- Numbers as integers. -/
def intsOf (l : List Nat) : List Int := l.map fun k : Nat => (k : Int)
theorem intsOf_wf {l : List Nat} (h : ∀ k ∈ l, k ≤ 1048576) : ∀ x ∈ intsOf l, (Lit.int .i64 x).wf = true := by
  intro x hx
  obtain ⟨k, hk, rfl⟩ := List.mem_map.1 hx
  have := h k hk
  have e1 : IntKind.i64.min = -9223372036854775808 := rfl
  have e2 : IntKind.i64.max = 9223372036854775807 := rfl
  simp [Lit.wf, e1, e2]
  omega
theorem elems_lt256 {r k : Nat} (h : k ∈ elems r) : k < 256 := by
  unfold elems at h
  exact List.mem_range.1 (List.mem_filter.1 h).1

/-- The numbers xs, in memory of their own. -/
def ListPost (xs : List Int) (w : World) (e : Ending) (w' : World) : Prop :=
  ∃ v, e = .returned v ∧ OwnI 3 w' v xs w.heap.size w'.heap.size ∧ Below w.heap.size w w'
theorem box_ne : (26 : TypeId) ≠ 3 := by decide

set_option maxRecDepth 100000 in
set_option maxHeartbeats 4000000 in
theorem list_any (r : Nat) (w : World) (hr : r < 2 ^ 256) (hT : Tab w) :
    Calls Tryd.prog 156 #[rowV r] w (ListPost (intsOf (elems r)) w) := by
  have htab : 0 < w.heap.size := cell_lt (hT 0 (by omega))
  obtain ⟨i0, hi, hz0, hz1, hz2⟩ := info_parts infoInt
  have hb1 : Below w.heap.size w (w.alloc (.cells #[.int .u64 ((word r 0 : Nat) : Int), .int .u64 ((word r 1 : Nat) : Int), .int .u64 ((word r 2 : Nat) : Int), .int .u64 ((word r 3 : Nat) : Int)] 91)) := (Below.refl _ w).alloc (Nat.le_refl _) _
  have R1 := Lib.hid (RowIn.alloc w hr)
  have HB1 := Lib.hid hb1
  have HT := Lib.hid hT
  clear hb1 hT
  refine (callsIn_wide (n := 8)).1 ?_
  refine callsIn_of_wp_marks Tryd.func156 rfl trivial ?_ rfl
  simp only [Tryd.ntmps156, List.size_toArray, List.length_cons, List.length_nil, Nat.reduceAdd, Nat.reduceSub, Array.replicate_succ, Array.replicate_zero, List.push_toArray, List.append_toArray, List.nil_append, List.cons_append]
  gi_wp2
  refine ⟨trivial, (callsIn_wide.2 (count_any r _)).mono ?_⟩
  rintro e w1 ⟨⟨c, hc, rfl⟩, hb1⟩
  have B1 := Lib.hid (HB1.out.trans (hb1.mono HB1.out.size))
  have hz1' : w.heap.size < w1.heap.size := Nat.lt_of_lt_of_le (by simp) hb1.size
  have RR := Lib.hid (R1.out.below hb1 R1.out.lt)
  have hmk := run_make (P := Tryd.prog) w1 26 3 i0 (.int .i64 0) Tryd.underlying26 hi hz0 .i64 .i64 0 (c : Int) (by omega) (by omega) (by rw [hz2]; omega) (by omega)
  simp only [Int.toNat_zero, Int.toNat_natCast] at hmk
  clear hb1 R1 HB1
  obtain ⟨r0, r1, r2, r3⟩ := RR.out.cells
  gi_wp2
  refine ⟨trivial, (callsIn_wide.2 (elements_any r _)).mono ?_⟩
  rintro e w3 ⟨rfl, rfl⟩
  gi_wp2
  have s1 : (w1.alloc (.cells (madeCells #[.int .i64 0] c) 3)).heap.size = w1.heap.size + 1 := World.size_alloc _ _
  have s2 : ((w1.alloc (.cells (madeCells #[.int .i64 0] c) 3)).alloc (.cells #[.slice (some ⟨w1.heap.size, 0, none⟩) 0 c] 26)).heap.size = w1.heap.size + 2 := by rw [World.size_alloc, s1]
  have hB4 : Below w1.heap.size w1 (((w1.alloc (.cells (madeCells #[.int .i64 0] c) 3)).alloc (.cells #[.slice (some ⟨w1.heap.size, 0, none⟩) 0 c] 26)).alloc (.cells #[.int .u64 ((word r 0 : Nat) : Int), .int .u64 ((word r 1 : Nat) : Int), .int .u64 ((word r 2 : Nat) : Int), .int .u64 ((word r 3 : Nat) : Int)] 91)) := (((Below.refl _ w1).alloc (Nat.le_refl _) _).alloc (by simp) _).alloc (by simp; omega) _
  have p4 : Boxed (((w1.alloc (.cells (madeCells #[.int .i64 0] c) 3)).alloc (.cells #[.slice (some ⟨w1.heap.size, 0, none⟩) 0 c] 26)).alloc (.cells #[.int .u64 ((word r 0 : Nat) : Int), .int .u64 ((word r 1 : Nat) : Int), .int .u64 ((word r 2 : Nat) : Int), .int .u64 ((word r 3 : Nat) : Int)] 91)) (w1.heap.size + 1) 26 (.slice (some ⟨w1.heap.size, 0, none⟩) 0 c) := by
    have h := Boxed.new (w1.alloc (.cells (madeCells #[.int .i64 0] c) 3)) 26 (.slice (some ⟨w1.heap.size, 0, none⟩) 0 c)
    rw [s1] at h
    exact h.alloc _
  have o4 : (((w1.alloc (.cells (madeCells #[.int .i64 0] c) 3)).alloc (.cells #[.slice (some ⟨w1.heap.size, 0, none⟩) 0 c] 26)).alloc (.cells #[.int .u64 ((word r 0 : Nat) : Int), .int .u64 ((word r 1 : Nat) : Int), .int .u64 ((word r 2 : Nat) : Int), .int .u64 ((word r 3 : Nat) : Int)] 91)).ownsRow w.heap.size 3 1 (.slice (some ⟨w1.heap.size, 0, none⟩) 0 c) 0 [] :=
    ((World.ownsRow_made w1 (madeCells #[.int .i64 0] c) c (by omega) (by unfold maxLen; omega) (by rw [size_madeCells, Nat.mul_one])).alloc _).alloc _
  have r4 : RowIn (((w1.alloc (.cells (madeCells #[.int .i64 0] c) 3)).alloc (.cells #[.slice (some ⟨w1.heap.size, 0, none⟩) 0 c] 26)).alloc (.cells #[.int .u64 ((word r 0 : Nat) : Int), .int .u64 ((word r 1 : Nat) : Int), .int .u64 ((word r 2 : Nat) : Int), .int .u64 ((word r 3 : Nat) : Int)] 91)) (w1.heap.size + 2) r := by
    have h := RowIn.alloc ((w1.alloc (.cells (madeCells #[.int .i64 0] c) 3)).alloc (.cells #[.slice (some ⟨w1.heap.size, 0, none⟩) 0 c] 26)) hr
    rw [s2] at h
    exact h
  have hz4 : (((w1.alloc (.cells (madeCells #[.int .i64 0] c) 3)).alloc (.cells #[.slice (some ⟨w1.heap.size, 0, none⟩) 0 c] 26)).alloc (.cells #[.int .u64 ((word r 0 : Nat) : Int), .int .u64 ((word r 1 : Nat) : Int), .int .u64 ((word r 2 : Nat) : Int), .int .u64 ((word r 3 : Nat) : Int)] 91)).heap.size = w1.heap.size + 3 := by rw [World.size_alloc, s2]
  revert hB4 p4 o4 r4 hz4
  clear s1 s2
  generalize (((w1.alloc (.cells (madeCells #[.int .i64 0] c) 3)).alloc (.cells #[.slice (some ⟨w1.heap.size, 0, none⟩) 0 c] 26)).alloc (.cells #[.int .u64 ((word r 0 : Nat) : Int), .int .u64 ((word r 1 : Nat) : Int), .int .u64 ((word r 2 : Nat) : Int), .int .u64 ((word r 3 : Nat) : Int)] 91)) = w4
  intro hB4 p4 o4 r4 hz4
  have T4 : Tab w4 := (HT.out.below B1.out).below hB4
  have hBw : Below w.heap.size w w4 := B1.out.trans (hB4.mono (by omega))
  clear hmk r0 r1 r2 r3
  refine wpIn_rangeFunc_ownG rfl (by omega) (gf := 159) (lb := #[.pointer (some ⟨w1.heap.size + 2, 0, none⟩)]) rfl trivial (enters_of Tryd.func159 (by kernel_rfl) rfl)
    (elements1_stops _ w.heap.size (w1.heap.size + 2) r w4 (by omega) hr r4 (by omega) htab T4) belowK_t (belowK_b (by omega)) (Below.refl _ _) (fun _ => rfl)
    (fun pre W => (∃ v, Boxed W (w1.heap.size + 1) 26 v ∧ W.ownsRow w.heap.size 3 1 v (natsOf pre).length ((natsOf pre).map fun k : Nat => Value.int .i64 (k : Int)) ∧ True) ∧ Below w.heap.size w W)
    (fun _ _ _ => False)
    (OwnFrom.and (Own.from (holdsRow_own w.heap.size (w1.heap.size + 1) 26 3 1 (fun pre : List (Bt r) => (natsOf pre).length) (fun pre => (natsOf pre).map fun k : Nat => Value.int .i64 (k : Int)) (fun _ _ => True)) _) (ownFrom_below (Nat.le_refl _) (by omega)))
    (fun _ _ _ _ _ hs _ _ => hs)
    ⟨⟨_, p4, o4, trivial⟩, hBw⟩
    (fun x => { tmps := #[rowV r, .pointer (some ⟨w.heap.size, 0, none⟩), .slice none 0 0, .pointer (some ⟨w1.heap.size + 1, 0, none⟩), .int .i64 ((x.1 : Nat) : Int), rowV r, .int .i64 c, .slice (some ⟨w1.heap.size, 0, none⟩) 0 c, rowV r, .func (.func 159) #[] #[.pointer (some ⟨w1.heap.size + 2, 0, none⟩)], .int .i64 ((x.1 : Nat) : Int), undef, undef, undef, undef, undef], defers := [] }) ?assign ?body ?done ?stop
  case assign =>
    intro l x W K hK
    unfold encBt
    gi_wp2
    exact hK
  case body =>
    rintro l pre x W ⟨⟨v, hv, hrow, _⟩, hB⟩ hlt
    obtain ⟨k, hkm⟩ := x
    dsimp only
    have hc := hv.cell
    have hpl : (natsOf pre).length ≤ 256 := by
      have h1 : (eList r).length = (elems r).length := by simp [eList]
      have h2 : (elems r).length ≤ 256 := by
        unfold elems
        have := List.length_filter_le (fun b => r.testBit b) (List.range 256)
        simpa using this
      have h3 : (natsOf pre).length = pre.length := by simp [natsOf]
      omega
    have HROW := Lib.hid hrow
    have HV := Lib.hid hv
    have HBB := Lib.hid hB
    clear hrow hv hB
    gi_wp2_with (gi_at_builtin; refine wpListIn_append_own _ rfl _ _ 26 rfl w.heap.size 3 i0 (.int .i64 0) 1 8 Tryd.underlying26 hi hz0 hz1 hz2 rfl (by decide) _ _ _ rfl (HROW.out.alloc _) ⟨W.heap.size, 0, none⟩ 1 1 [.int .i64 (k : Int)] rfl rfl (cell_one_new _ _ _) (by simp [Value.oneCell']) (by unfold maxLen; omega) (by omega) (by have := HBB.out.size; simp; omega) ?_; intro v' w1' hown' hgrow _; obtain ⟨g', cap', rfl⟩ := ownsRow_succ hown'; obtain ⟨hv1, hv2, hr2, hk2, hb2⟩ := HV.out.appended box_ne HROW.out HBB.out.size (by omega) hown' hgrow; have hc1 := hv1.cell; have hf1 := hv1.frozen)
    exact ⟨hk2.from _, hb2, ⟨_, hv2, by rw [natsOf_snoc, List.length_append, List.map_append]; exact hr2, trivial⟩, HBB.out.trans hb2⟩
  case done =>
    rintro D ys W hD rfl ⟨⟨v, hv, hrow, _⟩, hB⟩ hK
    have hc := hv.cell
    rw [natsOf_all] at hrow
    have HROW := Lib.hid hrow
    have HBB := Lib.hid hB
    clear hrow hB hv
    gi_wp2
    refine ⟨by simp, .inl ⟨_, _, rfl, run_takeDeferred hK, ?_⟩⟩
    have ho := ownsRow_putObj HROW.out (.deferred none) hK rfl
    refine ⟨_, results_tmp rfl _ _ _, v, rfl, OwnI.of_owns ?_ (intsOf_wf fun k hk => by have := elems_lt256 hk; omega) (fun b hb => (ho.lt b hb).2), HBB.out.trans (belowK_b (w := w) (Nat.le_refl _) W D _ _ (by omega) hK rfl rfl)⟩
    have e1 : (intsOf (elems r)).length = (elems r).length := by simp [intsOf]
    have e2 : cellsI (intsOf (elems r)) = (elems r).map fun k : Nat => Value.int .i64 (k : Int) := by simp [intsOf, cellsI]
    rw [e1, e2]
    exact ho
  case stop =>
    rintro D c pre W _ _ h _
    exact h.elim
end Go.Proofs.YtkomghohdhengaaDoor

/- A row that a relation makes, as a number. Plain facts: no function is walked here. -/
namespace Go.Proofs.YtkomghohdhengaaDoor
open Go.RowKit Go.Deep

/-- Row a of the rows that a relation makes, when b elements have been looked at. -/
def bNum (B : Nat → Nat → Bool) (a : Nat) : Nat → Nat
  | 0 => 0
  | b + 1 => if B a b then put (bNum B a b) b else bNum B a b
theorem bNum_bit (B : Nat → Nat → Bool) (a k : Nat) : ∀ n, (bNum B a n).testBit k = (decide (k < n) && B a k)
  | 0 => by simp [bNum]
  | n + 1 => by
    have ih := bNum_bit B a k n
    unfold bNum
    by_cases h : B a n = true
    · rw [if_pos h, testBit_put, ih]
      by_cases e : n = k
      · subst e; simp [h]
      · rw [decide_eq_false e, Bool.or_false]
        congr 1
        rw [decide_eq_decide]; omega
    · rw [if_neg h, ih]
      by_cases e : k = n
      · subst e; simp [h]
      · congr 1
        rw [decide_eq_decide]; omega
theorem bNum_lt (B : Nat → Nat → Bool) (a : Nat) : ∀ n, n ≤ 256 → bNum B a n < 2 ^ 256
  | 0, _ => Nat.two_pow_pos 256
  | n + 1, h => by
    have ih := bNum_lt B a n (by omega)
    unfold bNum
    split
    · exact put_lt ih (by omega)
    · exact ih
end Go.Proofs.YtkomghohdhengaaDoor

/- An answer that is an order in a variable whose place is drawn: the box and the rows as one thing in memory. Plain facts on worlds. -/
namespace Go.Proofs.YtkomghohdhengaaDoor
open Go.RowKit Go.Deep

/-- A variable that holds an order, and the order's rows, between the blocks lo and hi. -/
def ItO (b : Nat) (u : Value) (n : Nat) (R : Nat → List Int) (lo hi : Nat) : It :=
  ⟨lo, hi, fun W => (lo ≤ b ∧ b < hi) ∧ Boxed W b 25 u ∧ OwnR 3 26 W u n R lo hi, fun _ _ h k => ⟨k.1, (h b k.1.1 k.1.2).trans k.2.1, k.2.2.kept h⟩⟩

theorem Holds.split {W : World} : ∀ {a b : List It} {n : Nat}, Holds W n (a ++ b) → ∃ m, (∀ it : It, m ≤ it.lo → it.lo ≤ it.hi → it.hi ≤ W.heap.size → it.P W → Holds W n (a ++ [it])) ∧ Holds W m b
  | [], _, n, h => ⟨n, fun _ h1 h2 h3 h4 => ⟨h1, h2, h4, h3⟩, h⟩
  | i :: a, b, n, h => by
    obtain ⟨m, hm, hb⟩ := Holds.split (a := a) h.2.2.2
    exact ⟨m, fun it h1 h2 h3 h4 => ⟨h.1, h.2.1, h.2.2.1, hm it h1 h2 h3 h4⟩, hb⟩

section
variable {w : World} {is : List It} {W W' : World}
theorem St.boxed {b : Nat} {t : TypeId} {v : Value} (h : St w is W) (k : Nat) (e : is[k]? = some (ItB b t v)) : Boxed W b t v := (h.holds.get k e).2.2.2
theorem St.cellO {b n lo hi : Nat} {u : Value} {R : Nat → List Int} (h : St w is W) (k : Nat) (e : is[k]? = some (ItO b u n R lo hi)) : W.cell? ⟨b, 0, none⟩ = some u := Boxed.cell (h.holds.get k e).2.2.2.2.1
theorem St.rowsO {b lo hi : Nat} {u : Value} {rows : Rows2} (h : St w is W) (k : Nat) (e : is[k]? = some (ItO b u rows.length (rowsF rows) lo hi)) : RowsAt W u rows := (h.holds.get k e).2.2.2.2.2.at
/-- A store into a variable. -/
theorem St.setB {b : Nat} {t : TypeId} {v : Value} (h : St w is W) (k : Nat) (e : is[k]? = some (ItB b t v)) (v' : Value) : St w (is.set k (ItB b t v')) (W.setCell ⟨b, 0, none⟩ v') := by
  have hb := h.boxed k e
  refine h.turn (it' := ItB b t v') k e rfl rfl ⟨(Below.refl b W).setCell (p := ⟨b, 0, none⟩) (Nat.le_refl _) _, fun x hx _ => ?_⟩ (hb.set v')
  exact Below.heap_setCell _ _ _ x (fun e2 => by
    subst e2
    exact absurd hx (Nat.not_le.2 (Nat.lt_succ_self _)))
theorem St.packO {b n lo hi : Nat} {u : Value} {R : Nat → List Int} (h : St w is W) (k i j : Nat) (hi' : k ≤ i) (hj' : k ≤ j) (e1 : is[i]? = some (ItB b 25 u)) (e2 : is[j]? = some (ItR u n R lo hi)) :
    ∃ lo' hi', St w (is.take k ++ [ItO b u n R lo' hi']) W := by
  have hs := h.holds
  rw [← List.take_append_drop k is] at hs
  obtain ⟨m, hm, hb⟩ := Holds.split hs
  have f1 : (is.drop k)[i - k]? = some (ItB b 25 u) := by rw [List.getElem?_drop, show k + (i - k) = i by omega]; exact e1
  have f2 : (is.drop k)[j - k]? = some (ItR u n R lo hi) := by rw [List.getElem?_drop, show k + (j - k) = j by omega]; exact e2
  have g1 : m ≤ b ∧ b ≤ b + 1 ∧ b + 1 ≤ W.heap.size ∧ Boxed W b 25 u := Holds.get _ f1 hb
  have g2 : m ≤ lo ∧ lo ≤ hi ∧ hi ≤ W.heap.size ∧ OwnR 3 26 W u n R lo hi := Holds.get _ f2 hb
  have hmn : min b lo ≤ b ∧ min b lo ≤ lo ∧ b + 1 ≤ max (b + 1) hi ∧ hi ≤ max (b + 1) hi := ⟨Nat.min_le_left _ _, Nat.min_le_right _ _, Nat.le_max_left _ _, Nat.le_max_right _ _⟩
  refine ⟨min b lo, max (b + 1) hi, h.below, hm _ (Nat.le_min.2 ⟨g1.1, g2.1⟩) (show min b lo ≤ max (b + 1) hi by omega) (Nat.max_le.2 ⟨g1.2.2.1, g2.2.2.1⟩) ?_⟩
  exact ⟨⟨hmn.1, by omega⟩, g1.2.2.2, g2.2.2.2.wider hmn.2.1 hmn.2.2.2⟩
theorem St.name (h : St w is W) : ∃ IS, IS = is ∧ St w IS W := ⟨is, rfl, h⟩
end
end Go.Proofs.YtkomghohdhengaaDoor

/- An argument that is a slice of bytes, opened. -/
namespace Go.Proofs.YtkomghohdhengaaDoor
open Go.ChangeShapes Go.WideShapes Go.ChangeAt Go.RowKit Go.Deep

set_option maxRecDepth 100000 in
/-- A slice of bytes, opened. -/
theorem bytes_of {H : Type} {enc : TypeId × Value → H} {w : World} {base b0 : Nat} {r : Reach} {held : Bool} {v : Value} {d : DataW H} {p : List MemPlace} (hv : Value.okWide Tryd.prog w r b0 22 v)
    (h : DataW.Trod enc Tryd.prog w base (fun _ => true) held 22 v d p) : CodeAt w.heap.size w v := by
  obtain ⟨a, len, cap, rfl⟩ := okWide_slice Tryd.underlying22 hv
  obtain ⟨fuel, hf⟩ := h
  rcases open_ints Tryd.underlying22 Tryd.underlying5 cellsByte hf with ⟨hcs, _⟩ | ⟨ad, l, c, zs, hcs, _, hl, hm, hz, _, hc, hw⟩
  · have e : Value.slice a len cap = .slice none 0 0 := by simpa [Value.cells] using hcs
    rw [e]
    exact ⟨none, 0, 0, rfl, Nat.le_refl _, Nat.zero_le _, fun i hi => absurd hi (Nat.not_lt_zero _)⟩
  · have e : Value.slice a len cap = .slice (some ad) l c := by simpa [Value.cells] using hcs
    rw [e]
    have hz2 : zs.length = c := by simpa using hz
    refine ⟨some ad, l, c, rfl, hl, hm, fun i hi => ?_⟩
    obtain ⟨b, o, rfl⟩ := plain_addr (hc 0 (by omega))
    have hck := hc i (by omega)
    rw [WideShapes.add_plain] at hck
    have hwf := hw (zs.getD i 0) (by
      rw [List.getD_eq_getElem?_getD, List.getElem?_eq_getElem (by omega)]
      exact List.getElem_mem _)
    have hr : 0 ≤ zs.getD i 0 ∧ zs.getD i 0 < 256 := by
      have e1 : IntKind.u8.min = 0 := rfl
      have e2 : IntKind.u8.max = 255 := rfl
      simp [Lit.wf, e1, e2] at hwf
      simp
      omega
    refine ⟨b, o, (zs.getD i 0).toNat, rfl, cell_lt hck, by omega, ?_⟩
    rw [hck, Int.toNat_of_nonneg hr.1]
end Go.Proofs.YtkomghohdhengaaDoor
