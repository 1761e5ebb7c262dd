/- Flat domains and chains: the program's and the model's functions. -/
import Derived.Test.YtjfbjfclcpcaiaaDoorPb28
import Derived.Test.YtjfbjfclcpcaiaaDoorPb29
import Derived.Test.YtjfbjfclcpcaiaaDoorPb23
import Derived.Test.YtjfbjfclcpcaiaaDoorPb13
import Derived.Test.YtjfbjfclcpcaiaaDoorPb20
import Derived.Test.YtjfbjfclcpcaiaaDoorPb8
import Derived.Deep.RegionLaw
import Derived.Deep.AppendLies
import Derived.Test.YtjfbjfclcpcaiaaDoorPb27
namespace Go.Proofs.YtjfbjfclcpcaiaaDoor
open Go.RowKit Go.Deep Go.Shelf

/-- What DomainFlat and DomainChain answer. -/
def flatOk (z : Int) : Bool := decide (0 ≤ z ∧ z ≤ 199)
def flatL (z : Int) : Rows2 := if flatOk z = true then madeL flatB (z.toNat + 1) else []
def chainOk (z : Int) : Bool := decide (1 ≤ z ∧ z ≤ 200)
def chainL (z : Int) : Rows2 := if chainOk z = true then madeL chainB z.toNat else []

theorem orderP_zero {t : Bool} {xs : Rows2} {w W : World} (hx : xs = []) (ht : t = false) (hb : Below w.heap.size w W) : OrderP xs t w (.returned (.tuple #[.agg #[.slice none 0 0], .bool false])) W := by
  subst hx ht
  exact ⟨_, rfl, OwnR.nil _ _ _ _ _ _, hb⟩
theorem orderP_made {B : Nat → Nat → Bool} {N : Nat} {t : Bool} {xs : Rows2} {w W : World} {b : Nat} {u : Value} (hx : xs = madeL B N) (ht : t = true) (ho : OwnR 3 42 W u N (fun q => bRow B q N) (w.heap.size + 1) W.heap.size) (hb : Below w.heap.size w W) (he : b = w.heap.size) :
    OrderP xs t w (.returned (.tuple #[.agg #[u], .bool true])) (W.setCell ⟨b, 0, none⟩ u) := by
  subst hx ht he
  refine ⟨_, rfl, ?_, hb.setCell (p := ⟨w.heap.size, 0, none⟩) (Nat.le_refl _) _⟩
  rw [madeL_len, size_setCell]
  refine ((ho.kept fun b hb _ => Below.heap_setCell _ _ _ b (show b ≠ w.heap.size by omega)).wider (Nat.le_succ _) (Nat.le_refl _)).congr fun q hq => ?_
  rw [rowsF_lt (by rw [madeL_len]; exact hq), madeL_at]

/-- Rows of kept elements, while a row is told. -/
theorem kept_bRow (B : Nat → Nat → Bool) (a N : Nat) : keptN (B a) N = bRow B a N := rfl
end Go.Proofs.YtjfbjfclcpcaiaaDoor

/- Draws of one order: the form that the laws use. -/
namespace Go.Proofs.YtjfbjfclcpcaiaaDoor
open Go.RowKit Go.Deep Go.Shelf

/-- Some order, in memory of its own. -/
def OrdN (w : World) (e : Ending) (w' : World) : Prop :=
  ∃ (rows : Rows2) (u : Value), e = .returned (.agg #[u]) ∧ OwnR 3 42 w' u rows.length (rowsF rows) w.heap.size w'.heap.size ∧ bulk rows ≤ 100000 ∧ Below w.heap.size w w'
/-- An order in its variable. -/
structure HoldO (w : World) (b : Nat) (u : Value) (rows : Rows2) (W : World) : Prop where
  box : Boxed W b 25 u
  rows : RowsAt W u rows
  below : Below w.heap.size w W
theorem HoldO.step {w W W' : World} {b : Nat} {u : Value} {rows : Rows2} (h : HoldO w b u rows W) (hb : Below W.heap.size W W') : HoldO w b u rows W' :=
  ⟨(hb.block _ h.box.lt).trans h.box, h.rows.below hb, h.below.trans (hb.mono h.below.size)⟩
theorem HoldO.start {w W : World} {u : Value} {rows : Rows2} (hr : RowsAt W u rows) (hb : Below w.heap.size w W) : HoldO w W.heap.size u rows (W.alloc (.cells #[u] 25)) := by
  have h := (Below.refl W.heap.size W).alloc (Nat.le_refl _) (.cells #[u] 25)
  exact ⟨Boxed.new _ _ _, hr.below h, hb.trans (h.mono hb.size)⟩
theorem HoldO.len {w W : World} {b : Nat} {u : Value} {rows : Rows2} (h : HoldO w b u rows W) : ∃ a C, u = .slice a rows.length C := by
  obtain ⟨a, C, e, _⟩ := h.rows
  exact ⟨a, C, e⟩

/-- What a reader that is new has drawn. -/
theorem ordN_of {w w1 w2 : World} {b : Nat} {x : Value} {e : Ending} {v' : Value} (b0 : Below w.heap.size w w1) (hx : Boxed w1 w.heap.size 25 x) {K : Nat} (h : OrdE K b v' 0 w1 e w2) (hb : w.heap.size < b) :
    ∃ (rows : Rows2) (u : Value), e = .returned (.agg #[u]) ∧ OwnR 3 42 w2 u rows.length (rowsF rows) (w.heap.size + 1) w2.heap.size ∧ bulk rows ≤ 100000 ∧ Below w.heap.size w w2 ∧ Boxed w2 w.heap.size 25 x := by
  obtain ⟨rows, u, q, rfl, _, hd, ho, hbk⟩ := h
  have hl := hx.lt
  exact ⟨rows, u, rfl, ho.wider hl (Nat.le_refl _), hbk, b0.trans (hd.turned.below.mono (by omega)), (hd.turned.below.block _ hb).trans hx⟩

end Go.Proofs.YtjfbjfclcpcaiaaDoor

/- Lists drawn from a code (DrawOrderFrom). -/
namespace Go.Proofs.YtjfbjfclcpcaiaaDoor
open Go.RowKit Go.Deep Go.Shelf

/-- What is held while lists are drawn, with no order about. -/
structure DrF (r : Nat) (v : Value) (w : World) (q : Nat) (u : Value) (i : Nat) (R : Nat → List Int) (W : World) : Prop where
  dr : Dr r v w q W
  own : OwnR 3 42 W u i R w.heap.size W.heap.size
theorem DrF.empty {r : Nat} {v : Value} {w : World} {q : Nat} {W : World} (h : Dr r v w q W) (R : Nat → List Int) : DrF r v w q (.slice (some ⟨W.heap.size, 0, none⟩) 0 0) 0 R (W.alloc (.cells #[] 42)) := by
  have hb := (Below.refl W.heap.size W).alloc (Nat.le_refl _) (.cells #[] 42)
  refine ⟨h.step hb, .inr ⟨W.heap.size, 0, fun _ => undef, rfl, Nat.le_refl _, Nat.zero_le _, h.size, by rw [World.size_alloc]; omega, World.rowIs_alloc W #[] 42 (fun _ => undef) (fun _ h => absurd h (Nat.not_lt_zero _)), fun j hj => absurd hj (Nat.not_lt_zero _), fun i j _ hj => absurd hj (Nat.not_lt_zero _)⟩⟩
theorem DrF.pick {r : Nat} {v : Value} {w : World} {q q' : Nat} {u : Value} {i : Nat} {R : Nat → List Int} {W W' : World} (h : DrF r v w q u i R W) (h2 : Dr r v W q' W') : DrF r v w q' u i R W' :=
  ⟨h.dr.trans h2, (h.dr.ownR h2 h.own (Nat.le_refl _) (Nat.le_refl _)).wider (Nat.le_refl _) h2.size⟩
theorem DrF.pushed {r : Nat} {v : Value} {w : World} {q : Nat} {u u2 v' : Value} {i mid : Nat} {R : Nat → List Int} {f : Nat → Value} {xs : List Int} {W w3 : World} {o : Obj} (h : DrF r v w q u i R W)
    (h0 : W.ownsRow w.heap.size 42 1 u i ((List.range i).map f)) (h1 : ∀ j, j < i → OwnI 3 W (f j) (R j) w.heap.size mid) (h2 : ∀ a b, a < b → b < i → (f a).ownBlock = none ∨ (f a).ownBlock ≠ (f b).ownBlock)
    (hlo : w.heap.size ≤ mid) (hmid : mid ≤ W.heap.size) (hn : OwnI 3 W v' xs mid W.heap.size) (hown : w3.ownsRow w.heap.size 42 1 u2 (i + 1) ((List.range i).map f ++ [v'])) (hgrow : (W.alloc o).grownBy w3 u.ownBlock) :
    DrF r v w q u2 (i + 1) (fun k => if k = i then xs else R k) w3 :=
  ⟨h.dr.far hgrow fun b hb => (h0.lt b hb).1, OwnR.pushed (W := W) (mid := mid) (lo := w.heap.size) int_ne_ints h0 h1 h2 hlo hmid hn ((Below.refl _ W).alloc (Nat.le_refl _) o) hown hgrow⟩

/-- What is drawn. -/
def ListsN (w : World) (e : Ending) (w' : World) : Prop :=
  ∃ (rows : Rows2) (u : Value), e = .returned u ∧ OwnR 3 42 w' u rows.length (rowsF rows) w.heap.size w'.heap.size ∧ bulk rows ≤ 100000 ∧ Below w.heap.size w w'

end Go.Proofs.YtjfbjfclcpcaiaaDoor
