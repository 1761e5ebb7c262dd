/- The model's FunAfter. -/
import Derived.Test.YtppjogkednclcaaDoorStepS
import Derived.Deep.RegionLaw
import Derived.Deep.AppendLies
import Derived.RangeFuncBox
import Derived.Test.YtppjogkednclcaaDoorMidPa
import Derived.Test.YtppjogkednclcaaDoorOrderG
import Derived.Test.YtppjogkednclcaaDoorOkG
import Derived.Test.YtppjogkednclcaaDoorBackS
import Derived.Test.YtppjogkednclcaaDoorLw
import Derived.Test.YtppjogkednclcaaDoorOwnB
import Derived.StillTactics
import Derived.Test.YtppjogkednclcaaDoorMark
import Derived.Test.YtppjogkednclcaaDoorValid
import Derived.Test.YtppjogkednclcaaDoorSz
import Derived.Test.YtppjogkednclcaaDoorFirst
namespace Go.Proofs.YtppjogkednclcaaDoor
open Go.RowKit Go.Deep

/-- The one function behind the other, for the first k elements. -/
def afterN (f g : List Int) (k : Nat) : List Int := (List.range k).map fun i => g.getD (f.getD i 0).toNat 0
theorem afterN_length (f g : List Int) (k : Nat) : (afterN f g k).length = k := by unfold afterN; simp
theorem afterN_succ (f g : List Int) (k : Nat) : afterN f g (k + 1) = afterN f g k ++ [g.getD (f.getD k 0).toNat 0] := by
  unfold afterN
  rw [List.range_succ, List.map_append]
  rfl
noncomputable def afterOk (rows rows' rows2 : Rows2) (f g : List Int) : Bool := monoB rows rows' f && monoB rows' rows2 g
noncomputable def afterL (rows rows' rows2 : Rows2) (f g : List Int) : List Int := if afterOk rows rows' rows2 f g = true then afterN f g f.length else []

/-- Three orders lie in the variables at blocks w.heap.size and the next two. -/
structure Thr (w : World) (v v' v2 : Value) (rows rows' rows2 : Rows2) (W : World) : Prop where
  two : Two w v v' rows rows' W
  c2 : W.cell? ⟨w.heap.size + 2, 0, none⟩ = some v2
  r2 : RowsAt W v2 rows2
theorem Thr.step {w : World} {v v' v2 : Value} {rows rows' rows2 : Rows2} {W W' : World} (h : Thr w v v' v2 rows rows' rows2 W) (hb : Below W.heap.size W W') : Thr w v v' v2 rows rows' rows2 W' :=
  ⟨h.two.step hb, (hb.cell (p := ⟨w.heap.size + 2, 0, none⟩) (cell_lt h.c2)).trans h.c2, h.r2.below hb⟩
theorem Thr.start (w : World) {v v' v2 : Value} {rows rows' rows2 : Rows2} (t : TypeId) (hv : RowsAt w v rows) (hv' : RowsAt w v' rows') (hv2 : RowsAt w v2 rows2) : Thr w v v' v2 rows rows' rows2 (((w.alloc (.cells #[v] t)).alloc (.cells #[v'] t)).alloc (.cells #[v2] t)) := by
  have h := Two.start w t t hv hv'
  have s2 : ((w.alloc (.cells #[v] t)).alloc (.cells #[v'] t)).heap.size = w.heap.size + 2 := by rw [World.size_alloc, World.size_alloc]
  have b := (Below.refl ((w.alloc (.cells #[v] t)).alloc (.cells #[v'] t)).heap.size ((w.alloc (.cells #[v] t)).alloc (.cells #[v'] t))).alloc (Nat.le_refl _) (.cells #[v2] t)
  have hc := (World.rowIs_alloc ((w.alloc (.cells #[v] t)).alloc (.cells #[v'] t)) #[v2] t (fun _ => v2) (fun i hi => by simp at hi; subst hi; rfl)).cell (i := 0) (by simp)
  rw [s2] at hc
  exact ⟨h.step b, hc, (hv2.below h.below).below b⟩
/-- And two lists. -/
structure ThrL (w : World) (v v' v2 vf vg : Value) (rows rows' rows2 : Rows2) (f g : List Int) (W : World) : Prop where
  thr : Thr w v v' v2 rows rows' rows2 W
  f : IntsAt W vf f
  g : IntsAt W vg g
theorem ThrL.step {w : World} {v v' v2 vf vg : Value} {rows rows' rows2 : Rows2} {f g : List Int} {W W' : World} (h : ThrL w v v' v2 vf vg rows rows' rows2 f g W) (hb : Below W.heap.size W W') : ThrL w v v' v2 vf vg rows rows' rows2 f g W' := ⟨h.thr.step hb, h.f.below hb, h.g.below hb⟩
theorem ThrL.below {w : World} {v v' v2 vf vg : Value} {rows rows' rows2 : Rows2} {f g : List Int} {W : World} (h : ThrL w v v' v2 vf vg rows rows' rows2 f g W) : Below w.heap.size w W := h.thr.two.below
theorem ThrL.start (w : World) {v v' v2 vf vg : Value} {rows rows' rows2 : Rows2} {f g : List Int} (t : TypeId) (hv : RowsAt w v rows) (hv' : RowsAt w v' rows') (hv2 : RowsAt w v2 rows2) (hf : IntsAt w vf f) (hg : IntsAt w vg g) : ThrL w v v' v2 vf vg rows rows' rows2 f g (((w.alloc (.cells #[v] t)).alloc (.cells #[v'] t)).alloc (.cells #[v2] t)) :=
  have h := Thr.start w t hv hv' hv2
  ⟨h, hf.below h.two.below, hg.below h.two.below⟩

theorem dom_len {rows : Rows2} (h : domB rows = true) : rows.length ≤ 200 :=
  (ok_of_valid (show validB rows = true by unfold domB at h; rw [Bool.and_eq_true] at h; exact h.1)).len.2
theorem empty_own (W : World) {lo : Nat} (hlo : lo ≤ W.heap.size) : OwnI 3 (W.alloc (.cells #[] 3)) (.slice (some ⟨W.heap.size, 0, none⟩) 0 0) [] lo (W.alloc (.cells #[] 3)).heap.size :=
  ⟨fun _ h => (by cases h), .inr ⟨W.heap.size, 0, fun _ => undef, rfl, Nat.le_refl _, Nat.zero_le _, hlo, by rw [World.size_alloc]; omega, World.rowIs_alloc W #[] 3 (fun _ => undef) (fun _ h => absurd h (Nat.not_lt_zero _)), fun _ h => absurd h (Nat.not_lt_zero _)⟩⟩

end Go.Proofs.YtppjogkednclcaaDoor

/- The model's FunPair. -/
namespace Go.Proofs.YtppjogkednclcaaDoor
open Go.RowKit Go.Deep

/-- Both parts put together, for the first k elements. -/
def pairN (f g : List Int) (n k : Nat) : List Int := (List.range k).map fun i => f.getD i 0 * (n : Int) + g.getD i 0
theorem pairN_length (f g : List Int) (n k : Nat) : (pairN f g n k).length = k := by unfold pairN; simp
theorem pairN_succ (f g : List Int) (n k : Nat) : pairN f g n (k + 1) = pairN f g n k ++ [f.getD k 0 * (n : Int) + g.getD k 0] := by
  unfold pairN
  rw [List.range_succ, List.map_append]
  rfl
noncomputable def pairOk (rows rows' rows2 : Rows2) (f g : List Int) : Bool := monoB rows rows' f && monoB rows rows2 g && decide (rows'.length * rows2.length ≤ 200)
noncomputable def pairL (rows rows' rows2 : Rows2) (f g : List Int) : List Int := if pairOk rows rows' rows2 f g = true then pairN f g rows2.length f.length else []
/-- A product of two numbers that are not great. -/
theorem mul_small {a b : Int} (ha : 0 ≤ a) (ha' : a ≤ 200) (hb : 0 ≤ b) (hb' : b ≤ 200) : 0 ≤ a * b ∧ a * b ≤ 40000 := by
  refine ⟨Int.mul_nonneg ha hb, ?_⟩
  have h1 := Int.mul_le_mul_of_nonneg_right ha' hb
  have h2 := Int.mul_le_mul_of_nonneg_left hb' (show (0 : Int) ≤ 200 by decide)
  omega
end Go.Proofs.YtppjogkednclcaaDoor

/- The program's order of a lift (built). -/
namespace Go.Proofs.YtppjogkednclcaaDoor
open Go.RowKit Go.Deep Go.Shelf

/-- What row a holds when b elements have been looked at. -/
def liftRow (g : Nat → Nat) (a b : Nat) : List Int := ((List.range b).filter fun k => liftB g a k).map fun k : Nat => (k : Int)
theorem liftRow_yes {g : Nat → Nat} {a b : Nat} (h : liftB g a b = true) : liftRow g a (b + 1) = liftRow g a b ++ [(b : Int)] := by
  unfold liftRow
  rw [List.range_succ, List.filter_append, List.map_append, List.filter_cons, h]
  rfl
theorem liftRow_no {g : Nat → Nat} {a b : Nat} (h : liftB g a b = false) : liftRow g a (b + 1) = liftRow g a b := by
  unfold liftRow
  rw [List.range_succ, List.filter_append, List.filter_cons, h]
  simp
theorem liftRow_len (g : Nat → Nat) (a b : Nat) : (liftRow g a b).length ≤ b := by
  unfold liftRow
  rw [List.length_map]
  have := List.length_filter_le (fun k => liftB g a k) (List.range b)
  simpa using this
/-- All rows, when b elements of row a have been looked at. -/
def liftP (g : Nat → Nat) (N a b q : Nat) : List Int := if q < a then liftRow g q N else if q = a then liftRow g a b else []
theorem liftP_start (g : Nat → Nat) (N : Nat) : liftP g N 0 0 = fun _ => [] := by
  funext q
  unfold liftP
  rw [if_neg (Nat.not_lt_zero _)]
  split
  · rfl
  · rfl
theorem liftP_yes {g : Nat → Nat} {N a b : Nat} (h : liftB g a b = true) : liftP g N a (b + 1) = fun q => if q = a then liftP g N a b a ++ [(b : Int)] else liftP g N a b q := by
  funext q
  unfold liftP
  by_cases e : q = a
  · subst e
    rw [if_neg (Nat.lt_irrefl _), if_pos rfl, if_pos rfl, if_neg (Nat.lt_irrefl _), if_pos rfl, liftRow_yes h]
  · rw [if_neg e, if_neg e, if_neg e]
theorem liftP_no {g : Nat → Nat} {N a b : Nat} (h : liftB g a b = false) : liftP g N a (b + 1) = liftP g N a b := by
  funext q
  unfold liftP
  rw [liftRow_no h]
theorem liftP_next (g : Nat → Nat) (N a : Nat) : liftP g N a N = liftP g N (a + 1) 0 := by
  funext q
  unfold liftP
  by_cases e : q = a
  · subst e
    rw [if_neg (Nat.lt_irrefl _), if_pos rfl, if_pos (Nat.lt_succ_self _)]
  · by_cases e2 : q < a
    · rw [if_pos e2, if_pos (by omega)]
    · rw [if_neg e2, if_neg e, if_neg (by omega)]
      split
      · rfl
      · rfl
theorem liftP_at (g : Nat → Nat) (N a b : Nat) : liftP g N a b a = liftRow g a b := by unfold liftP; rw [if_neg (Nat.lt_irrefl _), if_pos rfl]
theorem liftP_done {g : Nat → Nat} {N q : Nat} (h : q < N) : liftP g N N 0 q = liftRow g q N := by unfold liftP; rw [if_pos h]

/-- While the order is built. -/
structure Bl (w : World) (p L N : Nat) (g : Nat → Nat) (R : Nat → List Int) (W : World) : Prop where
  grid : GridAt W p g
  res : Boxed W w.heap.size 26 (.slice none 0 0)
  own : OwnR 3 33 W (.slice (some ⟨L, 0, none⟩) N N) N R (w.heap.size + 1) W.heap.size
  below : Below w.heap.size w W
theorem Bl.step {w : World} {p L N : Nat} {g : Nat → Nat} {R : Nat → List Int} {W W' : World} (h : Bl w p L N g R W) (hb : Below W.heap.size W W') : Bl w p L N g R W' :=
  ⟨h.grid.below hb h.grid.lt, (hb.block _ h.res.lt).trans h.res, (h.own.below hb (Nat.le_refl _)).wider (Nat.le_refl _) hb.size, h.below.trans (hb.mono h.below.size)⟩

theorem rows_ne : (3 : TypeId) ≠ 33 := by decide
theorem Bl.appended {w : World} {p L N : Nat} {g : Nat → Nat} {R : Nat → List Int} {W W1 W2 : World} {f : Nat → Value} {j g' cap' : Nat} {y : Int} (h : Bl w p L N g R W) (hp : p < w.heap.size) (hN : N ≤ maxLen) (hL : w.heap.size + 1 ≤ L) (hr : W.rowIs L 33 N f)
    (hI : ∀ q, q < N → OwnI 3 W (f q) (R q) (w.heap.size + 1) W.heap.size) (hD : ∀ p q, p < q → q < N → (f p).ownBlock = none ∨ (f p).ownBlock ≠ (f q).ownBlock) (hj : j < N)
    (hy : (Lit.int .i64 y).wf = true) (hb1 : Below W.heap.size W W1)
    (hown : W2.ownsRow (w.heap.size + 1) 3 1 (.slice (some ⟨g', 0, none⟩) ((R j).length + 1) cap') ((R j).length + 1) (cellsI (R j) ++ [.int .i64 y])) (hgrow : W1.grownBy W2 (f j).ownBlock) (hat : (f j).ownBlock = some g' ∨ g' = W.heap.size + 1) (hlt : g' < W2.heap.size) :
    Bl w p L N g (fun q => if q = j then R j ++ [y] else R q) (W2.setCell ⟨L, j, none⟩ (.slice (some ⟨g', 0, none⟩) ((R j).length + 1) cap')) := by
  have hz : w.heap.size < W.heap.size := h.res.lt
  have ho := OwnR.appended (t := 3) (u := 33) rows_ne (Nat.le_refl _) hN hL hr hI hD hj hy hb1.size (fun b hb => hb1.block b hb) hown hgrow (by rcases hat with h | h; exact .inl h; exact .inr (by omega)) hlt
  have hk : Below (w.heap.size + 1) W W2 := (hb1.mono (by omega)).grown hgrow (by have := hb1.size; omega) (fun b e => ((hI j hj).block b e).1)
  have hk2 := hk.setCell (p := ⟨L, j, none⟩) hL (.slice (some ⟨g', 0, none⟩) ((R j).length + 1) cap')
  exact ⟨h.grid.below hk2 (by omega), (hk2.block _ (by omega)).trans h.res, by rw [size_setCell]; exact ho, h.below.trans (hk2.mono (by omega))⟩
end Go.Proofs.YtppjogkednclcaaDoor

/- The walk of built at a lift. -/
namespace Go.Proofs.YtppjogkednclcaaDoor
open Go.RowKit Go.Deep Go.Shelf

/-- Rows in memory of their own, and a Boolean. -/
def RowsB (N : Nat) (R : Nat → List Int) (t : Bool) (w : World) (e : Ending) (w' : World) : Prop :=
  ∃ v, e = .returned (.tuple #[.agg #[v], .bool t]) ∧ OwnR 3 33 w' v N R w.heap.size w'.heap.size ∧ Below w.heap.size w w'

end Go.Proofs.YtppjogkednclcaaDoor

/- The program's DomainLift. -/
namespace Go.Proofs.YtppjogkednclcaaDoor
open Go.RowKit Go.Deep Go.Shelf

/-- What DomainLift answers. -/
noncomputable def liftOk (rows : Rows2) : Bool := domB rows && decide (rows.length < 200)
noncomputable def liftL (rows : Rows2) : Rows2 := if liftOk rows = true then (List.range (rows.length + 1)).map fun q => liftRow (gridF rows) q (rows.length + 1) else []
theorem liftL_yes {rows : Rows2} (h : liftOk rows = true) : (liftL rows).length = rows.length + 1 ∧ ∀ q, q < rows.length + 1 → rowsF (liftL rows) q = liftRow (gridF rows) q (rows.length + 1) := by
  unfold liftL
  rw [if_pos h]
  refine ⟨by simp, fun q hq => ?_⟩
  rw [rowsF_lt (by simpa using hq)]
  simp
theorem liftL_no {rows : Rows2} (h : liftOk rows = false) : liftL rows = [] := by unfold liftL; rw [if_neg (by rw [h]; simp)]

end Go.Proofs.YtppjogkednclcaaDoor

/- The model's l2Moved: a list, each number moved on. -/
namespace Go.Proofs.YtppjogkednclcaaDoor
open Go.RowKit Go.Deep

/-- The first k numbers, each moved on. -/
def movedN (xs : List Int) (by' : Int) (k : Nat) : List Int := (xs.take k).map fun x => x + by'
theorem movedN_length {xs : List Int} {y : Int} {k : Nat} (h : k ≤ xs.length) : (movedN xs y k).length = k := by unfold movedN; simp; omega
theorem movedN_succ {xs : List Int} {y : Int} {k : Nat} (h : k < xs.length) : movedN xs y (k + 1) = movedN xs y k ++ [xs[k] + y] := by
  unfold movedN
  rw [List.take_succ_eq_append_getElem h, List.map_append]
  rfl

set_option maxRecDepth 100000 in
set_option maxHeartbeats 4000000 in
theorem l2Moved_any (v : Value) (xs : List Int) (y : Int) (w : World) (hv : IntsAt w v xs) (hn : xs.length ≤ 1048576) (hr : ∀ x ∈ xs, 0 ≤ x + y ∧ x + y ≤ 1048576) :
    Calls Tryd.prog 78 #[v, .int .i64 y] w (OwnQ (movedN xs y xs.length) w) := by
  have HFA := Lib.hid (fun W (h : Below w.heap.size w W) => (by
    obtain ⟨a, C, e, h1, h2, h3, h4⟩ := hv
    exact ⟨a, C, e, h1, h2, h3, fun i hi => by
      obtain ⟨b, o, ea, hc⟩ := h4 i hi
      exact ⟨b, o, ea, (h.cell (p := ⟨b, o + i, none⟩) (cell_lt hc)).trans hc⟩⟩ : IntsAt W v xs))
  obtain ⟨A, C, rfl, hC, hm, _⟩ := hv
  unfold maxLen at hm
  obtain ⟨i0, hi0, hz0, hz1, hz2⟩ := info_parts infoInt
  have HO := Lib.hid (World.ownsRow_made (e := 3) (size := 1) w #[] 0 (base := w.heap.size) (Nat.le_refl _) (Nat.zero_le _) (by simp))
  have HB0 := Lib.hid ((Below.refl w.heap.size w).alloc (Nat.le_refl _) (.cells #[] 3))
  have HR := Lib.hid hr
  clear hr
  go_enter Tryd.func78, Tryd.ntmps78
  go_wp2
  go_loopw [5, 6] (fun ov kv wr => ∃ k : Nat, k ≤ xs.length ∧ kv = .int .i64 k ∧ wr.ownsRow w.heap.size 3 1 ov (movedN xs y k).length (cellsI (movedN xs y k)) ∧ Below w.heap.size w wr) (fun _ kv _ => xs.length - (intOf kv).toNat)
  case atStart => exact ⟨0, Nat.zero_le _, rfl, by unfold movedN; simpa using HO.out, HB0.out⟩
  case round =>
    obtain ⟨k, hk, rfl, hown, hB⟩ := hrel
    have HOWN := Lib.hid hown
    have HB := Lib.hid hB
    have hcl := Nat.le_of_eq (movedN_length (y := y) hk)
    clear hown hB HO HB0
    by_cases hlt : k < xs.length
    · obtain ⟨b1, o1, rfl, hcf⟩ := (HFA.out wr HB.out).get hlt
      have hr := HR.out _ (List.getElem_mem hlt)
      have hwr : IntKind.i64.wrap (xs[k] + y) = xs[k] + y := IntWalk.i64_in _ (by omega)
      have hbz := HB.out.size
      clear hr
      go_wp2_with (at_builtin; refine wpList_append_own _ rfl _ _ 33 rfl w.heap.size 3 i0 (.int .i64 0) 1 8 Tryd.underlying33 hi0 hz0 hz1 hz2 rfl (by decide) _ _ _ rfl (HOWN.out.alloc _) ⟨wr.heap.size, 0, none⟩ 1 1 [.int .i64 (xs[k] + y)] rfl rfl (cell_one_new _ _ _) (by simp [Value.oneCell']) (by unfold maxLen; omega) (by omega) (by simp; omega) ?_; intro v' w1 hown' hgrow _)
      go_roundw
      case rel =>
        refine ⟨k + 1, by omega, by go_num, ?_, (HB.out.alloc HB.out.size _).grown hgrow (by rw [World.size_alloc]; omega) (fun b e => (HOWN.out.lt b e).1)⟩
        rw [movedN_succ hlt, List.length_append, show cellsI (movedN xs y k ++ [xs[k] + y]) = cellsI (movedN xs y k) ++ [.int .i64 (xs[k] + y)] by simp]
        exact hown'
      case measure => simp [intOf]; omega
    · obtain rfl : k = xs.length := by omega
      go_wp2
      go_ret
      refine ⟨_, rfl, OwnI.of_owns HOWN.out ?_ (fun b hb => (HOWN.out.lt b hb).2), HB.out⟩
      intro z hz
      unfold movedN at hz
      rw [List.take_length] at hz
      obtain ⟨x, hx, rfl⟩ := List.mem_map.1 hz
      exact wf_int (HR.out x hx).1 (HR.out x hx).2
end Go.Proofs.YtppjogkednclcaaDoor

/- The rows of a lift, in numbers: the first one full, the others moved on by one. -/
namespace Go.Proofs.YtppjogkednclcaaDoor
open Go.RowKit Go.Deep

theorem liftRow_first (g : Nat → Nat) (N : Nat) : liftRow g 0 N = (List.range N).map fun k : Nat => (k : Int) := by
  unfold liftRow
  rw [List.filter_eq_self.2 (fun k _ => by unfold liftB; rfl)]
theorem filter_short {p : Nat → Bool} {n m : Nat} (h : ∀ k, p k = true → k < n) (hm : n ≤ m) : (List.range m).filter p = (List.range n).filter p := by
  obtain ⟨d, rfl⟩ : ∃ d, m = n + d := ⟨m - n, by omega⟩
  rw [List.range_add, List.filter_append]
  have e : ((List.range d).map fun x => n + x).filter p = [] := by
    rw [List.filter_eq_nil_iff]
    intro x hx hp
    obtain ⟨y, _, rfl⟩ := List.mem_map.1 hx
    have := h _ hp
    omega
  rw [e, List.append_nil]
theorem liftRow_next {rows : Rows2} (h : Ok rows) {i : Nat} (hi : i < rows.length) : liftRow (gridF rows) (i + 1) (rows.length + 1) = movedN rows[i] 1 rows[i].length := by
  unfold liftRow movedN
  rw [List.take_length, h.elems hi, List.range_succ_eq_map, List.filter_cons]
  have e0 : liftB (gridF rows) (i + 1) 0 = false := by unfold liftB; simp
  rw [e0, if_neg (by simp), List.filter_map]
  have e1 : (List.range rows.length).filter ((fun k => liftB (gridF rows) (i + 1) k) ∘ Nat.succ) = (List.range rows.length).filter (fun k => (gridF rows i).testBit k) := by
    congr 1
  have e2 : elems (gridF rows i) = (List.range rows.length).filter (fun k => (gridF rows i).testBit k) := by
    unfold elems
    exact filter_short (fun k hk => (h.bit_lt hk).2) (by have := h.len.2; omega)
  rw [e1, e2, List.map_map, List.map_map]
  apply List.map_congr_left
  intro k _
  simp
end Go.Proofs.YtppjogkednclcaaDoor

/- The rows of a product, in the model's words and in the program's. -/
namespace Go.Proofs.YtppjogkednclcaaDoor
open Go.RowKit Go.Deep

theorem flat_filter {α β : Type} (G : α → Bool) (f : α → List β) : ∀ xs : List α, (xs.filter G).flatMap f = xs.flatMap fun j => if G j = true then f j else []
  | [] => rfl
  | x :: xs => by
    rw [List.filter_cons]
    cases h : G x with
    | true => rw [if_pos rfl, List.flatMap_cons, List.flatMap_cons, flat_filter G f xs, if_pos h]
    | false => rw [if_neg (by simp), List.flatMap_cons, flat_filter G f xs, if_neg (by rw [h]; simp), List.nil_append]
theorem range_flat {n' : Nat} (hn : 0 < n') (G H : Nat → Bool) : ∀ m, (List.range (m * n')).filter (fun k => G (k / n') && H (k % n')) = (List.range m).flatMap fun j => if G j = true then ((List.range n').filter H).map (fun r => j * n' + r) else []
  | 0 => by simp
  | m + 1 => by
    rw [Nat.succ_mul, List.range_add, List.filter_append, range_flat hn G H m, List.range_succ, List.flatMap_append]
    congr 1
    rw [List.flatMap_cons, List.flatMap_nil, List.append_nil, List.filter_map]
    have h : ∀ r ∈ List.range n', ((fun k => G (k / n') && H (k % n')) ∘ fun x => m * n' + x) r = (G m && H r) := fun r hr => by
      rw [List.mem_range] at hr
      show (G ((m * n' + r) / n') && H ((m * n' + r) % n')) = _
      rw [Nat.add_comm, Nat.add_mul_div_right _ _ hn, Nat.add_mul_mod_self_right, Nat.div_eq_of_lt hr, Nat.mod_eq_of_lt hr, Nat.zero_add]
    rw [List.filter_congr h]
    cases hG : G m with
    | true => simp
    | false => simp

/-- Row q of the product when i elements of the first one's row have been looked at. -/
def catP (rows rows' : Rows2) (q i : Nat) : List Int := ((rowsF rows (q / rows'.length)).take i).flatMap fun x => movedN (rowsF rows' (q % rows'.length)) (x * (rows'.length : Int)) (rowsF rows' (q % rows'.length)).length
def prodR (rows rows' : Rows2) (q : Nat) : List Int := catP rows rows' q (rowsF rows (q / rows'.length)).length
theorem elems_row {rows : Rows2} (h : Ok rows) {i : Nat} (hi : i < rows.length) : rowsF rows i = ((List.range rows.length).filter fun k => (gridF rows i).testBit k).map fun k : Nat => (k : Int) := by
  rw [rowsF_lt hi, h.elems hi]
  congr 1
  unfold elems
  exact filter_short (fun k hk => (h.bit_lt hk).2) (by have := h.len.2; omega)
theorem prodR_row {rows rows' : Rows2} (h : Ok rows) (h' : Ok rows') {q : Nat} (hq : q < rows.length * rows'.length) : prodR rows rows' q = prodRow rows rows' q := by
  have hn := h'.len.1
  have hqa : q / rows'.length < rows.length := Nat.div_lt_of_lt_mul (by rw [Nat.mul_comm]; exact hq)
  have hra : q % rows'.length < rows'.length := Nat.mod_lt _ (by omega)
  unfold prodR catP prodRow bRow prodB movedN
  rw [List.take_length, List.take_length, elems_row h hqa, elems_row h' hra, List.flatMap_map, flat_filter, range_flat (by omega) (fun k => (gridF rows (q / rows'.length)).testBit k) (fun k => (gridF rows' (q % rows'.length)).testBit k), List.map_flatMap]
  congr 1
  funext j
  by_cases hb : (gridF rows (q / rows'.length)).testBit j = true
  · rw [if_pos hb, if_pos hb, List.map_map, List.map_map]
    apply List.map_congr_left
    intro r _
    show (r : Int) + (j : Int) * (rows'.length : Int) = ((j * rows'.length + r : Nat) : Int)
    rw [Int.natCast_add, Int.natCast_mul, Int.add_comm]
  · rw [if_neg hb, if_neg hb]
    rfl
theorem catP_succ {rows rows' : Rows2} {q i : Nat} (hi : i < (rowsF rows (q / rows'.length)).length) : catP rows rows' q (i + 1) = catP rows rows' q i ++ movedN (rowsF rows' (q % rows'.length)) ((rowsF rows (q / rows'.length))[i] * (rows'.length : Int)) (rowsF rows' (q % rows'.length)).length := by
  unfold catP
  rw [List.take_succ_eq_append_getElem hi, List.flatMap_append]
  simp
theorem catP_len {rows rows' : Rows2} {q : Nat} : ∀ i, i ≤ (rowsF rows (q / rows'.length)).length → (catP rows rows' q i).length = i * (rowsF rows' (q % rows'.length)).length
  | 0, _ => by unfold catP; simp
  | i + 1, h => by
    rw [catP_succ h, List.length_append, catP_len i (by omega), movedN_length (Nat.le_refl _), Nat.succ_mul]
theorem catP_range {rows rows' : Rows2} (h : Ok rows) (h' : Ok rows') {q i : Nat} (hq : q < rows.length * rows'.length) : ∀ x ∈ catP rows rows' q i, 0 ≤ x ∧ x ≤ 1048576 := by
  intro x hx
  have hn := h'.len
  have hqa : q / rows'.length < rows.length := Nat.div_lt_of_lt_mul (by rw [Nat.mul_comm]; exact hq)
  have hra : q % rows'.length < rows'.length := Nat.mod_lt _ (by omega)
  unfold catP at hx
  obtain ⟨y, hy, hxy⟩ := List.mem_flatMap.1 hx
  have hy2 := List.mem_of_mem_take hy
  rw [rowsF_lt hqa] at hy2
  have ry := (h.asc _ hqa).2 y hy2
  unfold movedN at hxy
  rw [List.take_length] at hxy
  obtain ⟨z, hz, rfl⟩ := List.mem_map.1 hxy
  rw [rowsF_lt hra] at hz
  have rz := (h'.asc _ hra).2 z hz
  have hl := h.len.2
  have h1 := Int.mul_nonneg ry.1 (show (0 : Int) ≤ (rows'.length : Int) by omega)
  have h2 : y * (rows'.length : Int) ≤ 200 * 200 := Int.mul_le_mul (by omega) (by omega) (by omega) (by omega)
  omega
end Go.Proofs.YtppjogkednclcaaDoor

/- An order that is built row by row in a variable of its own: 'out.Up = append(out.Up, row)'. Plain facts on worlds: no function is walked here. -/
namespace Go.Proofs.YtppjogkednclcaaDoor
open Go.RowKit Go.Deep

/-- Rows are as they were if no block turns but one of another type. -/
theorem OwnR.kept_but {t u : TypeId} {W W' : World} {v : Value} {n : Nat} {R : Nat → List Int} {lo hi z : Nat} {tz : TypeId} {x : Value} (h : OwnR t u W v n R lo hi) (hz : Boxed W z tz x) (h1 : tz ≠ t) (h2 : tz ≠ u) (hb : ∀ b, b ≠ z → W'.heap[b]? = W.heap[b]?) : OwnR t u W' v n R lo hi := by
  obtain h | ⟨g, C, f, rfl, k1, k2, k3, k4, k5, k6, k7⟩ := h
  · exact .inl h
  · have hg : g ≠ z := fun e => by
      obtain ⟨c, k5, _⟩ := k5
      unfold Boxed at hz
      rw [e, hz] at k5
      injection k5 with k5
      injection k5 with _ k5
      exact h2 k5
    refine .inr ⟨g, C, f, rfl, k1, k2, k3, k4, k5.of_block (hb g hg), fun j hj => (k6 j hj).kept fun b e => hb b fun e2 => ?_, k7⟩
    obtain ⟨_, _, c, k8⟩ := (k6 j hj).block b e
    unfold Boxed at hz
    rw [e2, hz] at k8
    injection k8 with k8
    injection k8 with _ k8
    exact h1 k8

theorem ord_ne_int : (26 : TypeId) ≠ 3 := by decide
theorem ord_ne_ints : (26 : TypeId) ≠ 33 := by decide
theorem int_ne_ints : (3 : TypeId) ≠ 33 := by decide

/-- While an order is built in the box Z: n rows R are there. -/
structure Out (w0 : World) (Z : Nat) (u : Value) (n : Nat) (R : Nat → List Int) (W : World) : Prop where
  below : Below w0.heap.size w0 W
  out : Boxed W Z 26 u
  own : OwnR 3 33 W u n R w0.heap.size W.heap.size
  place : w0.heap.size ≤ Z
theorem Out.step {w0 : World} {Z : Nat} {u : Value} {n : Nat} {R : Nat → List Int} {W W' : World} (h : Out w0 Z u n R W) (hb : Below W.heap.size W W') : Out w0 Z u n R W' :=
  ⟨h.below.trans (hb.mono h.below.size), (hb.block _ h.out.lt).trans h.out, (h.own.below hb (Nat.le_refl _)).wider (Nat.le_refl _) hb.size, h.place⟩
theorem Out.congr {w0 : World} {Z : Nat} {u : Value} {n : Nat} {R R' : Nat → List Int} {W : World} (h : Out w0 Z u n R W) (he : ∀ j, j < n → R j = R' j) : Out w0 Z u n R' W :=
  ⟨h.below, h.out, h.own.congr he, h.place⟩

theorem Out.pushed {w0 : World} {Z : Nat} {u : Value} {n : Nat} {R : Nat → List Int} {wr w2 w3 : World} {f : Nat → Value} {v' u2 : Value} {xs : List Int} {o : Obj} (h : Out w0 Z u n R wr)
    (h0 : wr.ownsRow w0.heap.size 33 1 u n ((List.range n).map f)) (h1 : ∀ j, j < n → OwnI 3 wr (f j) (R j) w0.heap.size wr.heap.size) (h2 : ∀ i j, i < j → j < n → (f i).ownBlock = none ∨ (f i).ownBlock ≠ (f j).ownBlock)
    (hb : Below wr.heap.size wr w2) (hn : OwnI 3 w2 v' xs wr.heap.size w2.heap.size) (hown : w3.ownsRow w0.heap.size 33 1 u2 (n + 1) ((List.range n).map f ++ [v'])) (hgrow : (w2.alloc o).grownBy w3 u.ownBlock) :
    Out w0 Z u2 (n + 1) (fun q => if q = n then xs else R q) (w3.setCell ⟨Z, 0, none⟩ u2) := by
  have hs := h.step hb
  have hw := h.below.size
  have hz := hb.size
  obtain ⟨k1, k2, k3, k4, k5⟩ := Boxed.appended (tmp := o) hs.out ord_ne_ints (owns_below h0 hb) hs.below.size h.place hown hgrow
  have h1' : ∀ j, j < n → OwnI 3 w2 (f j) (R j) w0.heap.size wr.heap.size := fun j hj => (h1 j hj).kept fun b hb' => hb.block b ((h1 j hj).block b hb').2.1
  have hp := OwnR.pushed (W := w2) (mid := wr.heap.size) (lo := w0.heap.size) int_ne_ints (owns_below h0 hb) h1' h2 hw hz hn ((Below.refl _ w2).alloc (Nat.le_refl _) o) hown hgrow
  refine ⟨hs.below.trans k5, k2, ?_, h.place⟩
  rw [size_setCell]
  exact hp.kept_but k1 ord_ne_int ord_ne_ints fun b hb' => Below.heap_setCell _ _ _ b hb'
/-- The variable's cell, behind the append. -/
theorem Out.far {w0 : World} {Z : Nat} {u : Value} {n : Nat} {R : Nat → List Int} {w2 w3 : World} {xs : List Value} {o : Obj} (h : Out w0 Z u n R w2) (h0 : w2.ownsRow w0.heap.size 33 1 u n xs) (hgrow : (w2.alloc o).grownBy w3 u.ownBlock) : Boxed w3 Z 26 u :=
  (h.out.alloc o).kept hgrow (Boxed.not_row h.out ord_ne_ints h0)
/-- An order of one row, right behind. -/
theorem Out.one {w0 W : World} {v : Value} {xs : List Int} (hb : Below w0.heap.size w0 W) (hv : OwnI 3 W v xs w0.heap.size W.heap.size) :
    Out w0 (W.heap.size + 1) (.slice (some ⟨W.heap.size, 0, none⟩) 1 1) 1 (fun _ => xs) ((W.alloc (.cells #[v] 33)).alloc (.cells #[.slice (some ⟨W.heap.size, 0, none⟩) 1 1] 26)) := by
  have s1 : (W.alloc (.cells #[v] 33)).heap.size = W.heap.size + 1 := World.size_alloc _ _
  have hz := hb.size
  have b1 := (Below.refl W.heap.size W).alloc (Nat.le_refl _) (.cells #[v] 33)
  have b2 := b1.alloc (by rw [s1]; omega) (.cells #[.slice (some ⟨W.heap.size, 0, none⟩) 1 1] 26)
  have r1 := World.rowIs_alloc W #[v] 33 (fun _ => v) (fun i hi => by
    obtain rfl : i = 0 := by simpa using hi
    rfl)
  have bx := Boxed.new (W.alloc (.cells #[v] 33)) 26 (.slice (some ⟨W.heap.size, 0, none⟩) 1 1)
  rw [s1] at bx
  refine ⟨hb.trans (b2.mono hz), bx, .inr ⟨W.heap.size, 1, fun _ => v, rfl, Nat.le_refl _, by decide, hz, by rw [World.size_alloc, s1]; omega, r1.alloc _, fun j _ => ?_, fun i j hij hj => absurd hj (by omega)⟩, by omega⟩
  exact (hv.wider (Nat.le_refl _) (by rw [World.size_alloc, s1]; omega)).kept fun b e => b2.block b (hv.block b e).2.1
end Go.Proofs.YtppjogkednclcaaDoor

/- An order that is new; no row of it yet. Plain facts on worlds: no function is walked here. -/
namespace Go.Proofs.YtppjogkednclcaaDoor
open Go.RowKit Go.Deep

/-- An order in new memory. -/
def OrdNew (N : Nat) (R : Nat → List Int) (w : World) (e : Ending) (w' : World) : Prop :=
  ∃ v, e = .returned (.agg #[v]) ∧ OwnR 3 33 w' v N R w.heap.size w'.heap.size ∧ Below w.heap.size w w'
/-- No row yet. -/
theorem Out.empty (w0 : World) (R : Nat → List Int) : Out w0 (w0.heap.size + 1) (.slice (some ⟨w0.heap.size, 0, none⟩) 0 0) 0 R ((w0.alloc (.cells #[] 33)).alloc (.cells #[.slice (some ⟨w0.heap.size, 0, none⟩) 0 0] 26)) := by
  have s1 : (w0.alloc (.cells #[] 33)).heap.size = w0.heap.size + 1 := World.size_alloc _ _
  have b1 := (Below.refl w0.heap.size w0).alloc (Nat.le_refl _) (.cells #[] 33)
  have b2 := b1.alloc (by rw [s1]; omega) (.cells #[.slice (some ⟨w0.heap.size, 0, none⟩) 0 0] 26)
  have r1 := World.rowIs_alloc w0 #[] 33 (fun _ => undef) (fun _ h => absurd h (Nat.not_lt_zero _))
  have bx := Boxed.new (w0.alloc (.cells #[] 33)) 26 (.slice (some ⟨w0.heap.size, 0, none⟩) 0 0)
  rw [s1] at bx
  exact ⟨b2, bx, .inr ⟨w0.heap.size, 0, _, rfl, Nat.le_refl _, Nat.zero_le _, Nat.le_refl _, by rw [World.size_alloc, s1]; omega, r1.alloc _, fun j hj => absurd hj (Nat.not_lt_zero _), fun i j _ hj => absurd hj (Nat.not_lt_zero _)⟩, Nat.le_succ _⟩
end Go.Proofs.YtppjogkednclcaaDoor

/- The model's DomainLift. -/
namespace Go.Proofs.YtppjogkednclcaaDoor
open Go.RowKit Go.Deep

/-- The numbers from 0 on. -/
def uptoL (k : Nat) : List Int := (List.range k).map fun i : Nat => (i : Int)
theorem uptoL_length (k : Nat) : (uptoL k).length = k := by unfold uptoL; simp
theorem uptoL_succ (k : Nat) : uptoL (k + 1) = uptoL k ++ [(k : Int)] := by
  unfold uptoL
  rw [List.range_succ, List.map_append]
  rfl
theorem uptoL_wf {k : Nat} (h : k ≤ 1048576) : ∀ x ∈ uptoL k, (Lit.int .i64 x).wf = true := by
  intro x hx
  unfold uptoL at hx
  obtain ⟨i, hi, rfl⟩ := List.mem_map.1 hx
  rw [List.mem_range] at hi
  exact wf_int (by omega) (by omega)

/-- The rows of the lift, in the model's words. -/
def liftR (rows : Rows2) (q : Nat) : List Int := if q = 0 then uptoL (rows.length + 1) else movedN (rowsF rows (q - 1)) 1 (rowsF rows (q - 1)).length

theorem liftR_row {rows : Rows2} (h : Ok rows) {q : Nat} (hq : q < rows.length + 1) : liftR rows q = liftRow (gridF rows) q (rows.length + 1) := by
  unfold liftR
  by_cases e : q = 0
  · subst e
    rw [if_pos rfl, liftRow_first]
    rfl
  · rw [if_neg e, rowsF_lt (by omega)]
    have := liftRow_next h (i := q - 1) (by omega)
    rw [show q - 1 + 1 = q by omega] at this
    exact this.symm

theorem lens_small {rows : Rows2} {m n : Nat} (hl : rows.length ≤ n) (h : ∀ r ∈ rows, r.length ≤ m) : bulk rows ≤ n + n * m := by
  unfold bulk
  have h1 := sum_le (m := m) (rows.map List.length) fun x hx => by
    obtain ⟨r, hr, rfl⟩ := List.mem_map.1 hx
    exact h r hr
  rw [List.length_map] at h1
  have h2 := Nat.mul_le_mul_right m hl
  omega
theorem lift_bulk (rows : Rows2) : bulk (liftL rows) ≤ 1048576 := by
  cases h : liftOk rows with
  | false => rw [liftL_no h]; simp [bulk]
  | true =>
    have hl : rows.length < 200 := by
      unfold liftOk at h
      rw [Bool.and_eq_true, decide_eq_true_iff] at h
      exact h.2
    have hb := lens_small (rows := liftL rows) (n := 200) (m := 200) (by rw [(liftL_yes h).1]; omega) (fun r hr => by
      unfold liftL at hr
      rw [if_pos h] at hr
      obtain ⟨q, _, rfl⟩ := List.mem_map.1 hr
      exact Nat.le_trans (liftRow_len _ _ _) (by omega))
    omega
end Go.Proofs.YtppjogkednclcaaDoor

/- The model's DomainProduct. -/
namespace Go.Proofs.YtppjogkednclcaaDoor
open Go.RowKit Go.Deep

/-- The cells of a list, as what is appended. -/
theorem IntsAt.news {W : World} {a : Addr} {n C : Nat} {xs : List Int} (h : IntsAt W (.slice (some a) n C) xs) : ∀ j u, (cellsI xs)[j]? = some u → W.cell? (a.add j) = some u := by
  intro j u hu
  obtain ⟨a', C', e, _, _, _, hx⟩ := h
  rw [List.getElem?_map] at hu
  have hj : j < xs.length := by
    rcases Nat.lt_or_ge j xs.length with h | h
    · exact h
    · rw [List.getElem?_eq_none h] at hu
      simp at hu
  rw [List.getElem?_eq_getElem hj] at hu
  obtain rfl : Value.int .i64 xs[j] = u := by simpa using hu
  obtain ⟨b, o, e2, hc⟩ := hx j hj
  injection e with e3 _ _
  rw [e2] at e3
  injection e3 with e3
  subst e3
  have hadd : (⟨b, o, Option.none⟩ : Addr).add j = ⟨b, o + j, Option.none⟩ := by unfold Addr.add; split <;> simp_all
  rw [hadd]
  exact hc
theorem OwnI.addr {t : TypeId} {W : World} {v : Value} {xs : List Int} {lo hi : Nat} (h : OwnI t W v xs lo hi) (hx : 0 < xs.length) : ∃ g C, v = .slice (some ⟨g, 0, Option.none⟩) xs.length C := by
  obtain ⟨_, ⟨rfl, rfl⟩ | ⟨g, C, f, rfl, _⟩⟩ := h
  · exact absurd hx (Nat.lt_irrefl _)
  · exact ⟨g, C, rfl⟩

set_option maxRecDepth 100000 in
set_option maxHeartbeats 8000000 in
theorem l2Product_any (v v' : Value) (rows rows' : Rows2) (w : World) (hv : RowsAt w v rows) (hv' : RowsAt w v' rows') (hok : Ok rows) (hok' : Ok rows') (hl : rows.length * rows'.length ≤ 200) :
    Calls Tryd.prog 67 #[.agg #[v], .agg #[v']] w (OrdNew (rows.length * rows'.length) (prodR rows rows') w) := by
  have h0 := TwoR.start w hv hv'
  have HV := Lib.hid (fun W (h : Below w.heap.size w W) => hv.below h)
  have HV' := Lib.hid (fun W (h : Below w.heap.size w W) => hv'.below h)
  have hlen := hok.len
  have hlen' := hok'.len
  have s2 : (((w.alloc (.cells #[v] 26)).alloc (.cells #[v'] 26)).alloc (.cells #[.slice none 0 0] 26)).heap.size = w.heap.size + 3 := by rw [World.size_alloc, World.size_alloc, World.size_alloc]
  obtain ⟨A, C, rfl, hC, hm, hx⟩ := hv
  obtain ⟨A', C', rfl, hC', hm', hx'⟩ := hv'
  unfold maxLen at hm hm'
  obtain ⟨b0, o0, _, rfl, _, _⟩ := hx 0 (by omega)
  obtain ⟨b0', o0', _, rfl, _, _⟩ := hx' 0 (by omega)
  generalize hw0 : (((w.alloc (.cells #[.slice (some ⟨b0, o0, none⟩) rows.length C] 26)).alloc (.cells #[.slice (some ⟨b0', o0', none⟩) rows'.length C'] 26)).alloc (.cells #[.slice none 0 0] 26)) = w0 at h0 s2
  obtain ⟨i0, hi0, hz0, hz1, hz2⟩ := info_parts infoInt
  obtain ⟨j0, hj0, hy0, hy1, hy2⟩ := info_parts infoInts
  have H0 := Lib.hid h0
  have HOK := Lib.hid hok
  have HOK' := Lib.hid hok'
  have S2 := Lib.hid s2
  have HBW := Lib.hid (fun W (h : Below w0.heap.size w0 W) => h0.below.trans (h.mono (by rw [s2]; omega)))
  have hN := Out.empty w0 (prodR rows rows')
  rw [s2] at hN
  have hNP : rows.length * rows'.length ≤ 1048576 := by omega
  have hwN : IntKind.i64.wrap ((rows.length : Int) * (rows'.length : Int)) = ((rows.length * rows'.length : Nat) : Int) := by rw [← Int.natCast_mul]; exact IntWalk.i64_in _ (by omega)
  have hcA := h0.c0
  have hcA' := h0.c1
  clear h0 hok hok' hx hx'
  go_enter Tryd.func67, Tryd.ntmps67
  go_upto_region 3 with fail
  clear hw0 hcA hcA'
  generalize ((w0.alloc (.cells #[] 33)).alloc (.cells #[.slice (some ⟨w.heap.size + 3, 0, none⟩) 0 0] 26)) = wq at hN ⊢
  generalize w.heap.size + 3 + 1 = Z at hN ⊢
  have HST := Lib.hid hN
  have hn0 : 0 < rows'.length := by omega
  have hz : ¬ rows'.length = 0 := by omega
  have HNN := Lib.hid (rfl : rows.length * rows'.length = rows.length * rows'.length)
  clear hN
  go_wp2
  go_loopw [7] (fun av wx => ∃ (a : Nat) (u : Value), a ≤ rows.length * rows'.length ∧ av = .int .i64 a ∧ Out w0 Z u a (prodR rows rows') wx) (fun av _ => rows.length * rows'.length - (intOf av).toNat)
  case atStart => exact ⟨0, _, Nat.zero_le _, rfl, HST.out⟩
  case round =>
    obtain ⟨wo, hwo⟩ : ∃ wo : World, wo = wr := ⟨_, rfl⟩
    subst hwo
    obtain ⟨a, u, ha, rfl, ho⟩ := hrel
    have HK := Lib.hid ho
    obtain ⟨au, Cu, rfl⟩ := ho.own.form
    have hcell := (ho.below.cell (p := ⟨w.heap.size, 0, none⟩) (cell_lt H0.out.c0)).trans H0.out.c0
    have hcell' := (ho.below.cell (p := ⟨w.heap.size + 1, 0, none⟩) (cell_lt H0.out.c1)).trans H0.out.c1
    have hb0 := ho.below.size
    have hZ2 := ho.out.lt
    clear HST
    by_cases hlt : a < rows.length * rows'.length
    · have hltz : (a : Int) < ((rows.length * rows'.length : Nat) : Int) := by omega
      have hqa : a / rows'.length < rows.length := Nat.div_lt_of_lt_mul (by rw [Nat.mul_comm]; exact hlt)
      have hra : a % rows'.length < rows'.length := Nat.mod_lt _ hn0
      have d1 : (a : Int).tdiv (rows'.length : Int) = ((a / rows'.length : Nat) : Int) := (Int.ofNat_tdiv a rows'.length).symm
      have d3 : (a : Int) / (rows'.length : Int) = ((a / rows'.length : Nat) : Int) := (Int.natCast_ediv a rows'.length).symm
      have m1 : (a : Int).tmod (rows'.length : Int) = ((a % rows'.length : Nat) : Int) := (Int.ofNat_tmod a rows'.length).symm
      have m3 : (a : Int) % (rows'.length : Int) = ((a % rows'.length : Nat) : Int) := (Int.natCast_emod a rows'.length).symm
      have HCS := Lib.hid (fun i (hi : i < (rowsF rows (a / rows'.length)).length) => catP_succ (rows := rows) (rows' := rows') (q := a) hi)
      have HCL := Lib.hid (fun i (hi : i ≤ (rowsF rows (a / rows'.length)).length) => catP_len (rows := rows) (rows' := rows') (q := a) i hi)
      have HCR := Lib.hid (fun i => catP_range HOK.out HOK'.out (i := i) hlt)
      have HPR := Lib.hid (show prodR rows rows' a = catP rows rows' a (rowsF rows (a / rows'.length)).length from rfl)
      have e1 := rowsF_lt hqa
      have e2 := rowsF_lt hra
      rw [e1] at HCS HCL HPR
      rw [e2] at HCS HCL
      have hran := (HOK.out.asc _ hqa).2
      have hran' := (HOK'.out.asc _ hra).2
      have hll := (HOK.out.elems hqa)
      obtain ⟨A1, C1, hC1, hm1, hc, hyy⟩ := (HV.out wo (HBW.out _ ho.below)).row hqa
      have HR1 := Lib.hid (show ∀ W, Below wo.heap.size wo W → IntsAt W (.slice A1 rows[a / rows'.length].length C1) rows[a / rows'.length] from fun W hW => IntsAt.below ⟨A1, C1, rfl, hC1, hm1, fun x hx => by have := hran x hx; exact wf_int (by omega) (by omega), hyy⟩ hW)
      obtain ⟨A2, C2, hC2, hm2, hc2, hyy2⟩ := (HV'.out wo (HBW.out _ ho.below)).row hra
      have HR2 := Lib.hid (show ∀ W, Below wo.heap.size wo W → IntsAt W (.slice A2 rows'[a % rows'.length].length C2) rows'[a % rows'.length] from fun W hW => IntsAt.below ⟨A2, C2, rfl, hC2, hm2, fun x hx => by have := hran' x hx; exact wf_int (by omega) (by omega), hyy2⟩ hW)
      have HC2 := Lib.hid hc2
      have HCE := Lib.hid hcell'
      have hrl : rows[a / rows'.length].length ≤ 256 := by rw [hll, List.length_map]; exact elems_length_le _
      have hrl' : rows'[a % rows'.length].length ≤ 256 := by rw [HOK'.out.elems hra, List.length_map]; exact elems_length_le _
      have hrp : 0 < rows'[a % rows'.length].length := by rw [HOK'.out.elems hra, List.length_map]; exact List.length_pos_of_mem ((mem_elems (HOK'.out.lt _)).2 (HOK'.out.own _ hra))
      clear ho hyy hyy2 hc2 hcell' hll
      generalize rows[a / rows'.length] = X at *
      generalize rows'[a % rows'.length] = Y at *
      generalize a / rows'.length = qa at *
      generalize a % rows'.length = ra at *
      have hwq : IntKind.i64.wrap (qa : Int) = (qa : Int) := IntWalk.i64_in _ (by omega)
      have HO := Lib.hid (World.ownsRow_made (e := 3) (size := 1) wo #[] 0 (base := wo.heap.size) (Nat.le_refl _) (Nat.zero_le _) (by simp))
      have HBA := Lib.hid ((Below.refl wo.heap.size wo).alloc (Nat.le_refl _) (.cells #[] 3))
      have hqz : (qa : Int) < (rows.length : Int) := by omega
      have hrz : (ra : Int) < (rows'.length : Int) := by omega
      clear e1 e2
      go_upto_region 7 with fail
      have hca := cell_alloc_any hcell (.cells #[] 3)
      have hcb := cell_alloc_any hc (.cells #[] 3)
      generalize wo.alloc (.cells #[] 3) = wa at HO HBA hca hcb ⊢
      go_still (by kernel_rfl)
      clear hca hcb hc hcell
      go_wp2
      go_loopw [8, 10] (fun rv iv wx => ∃ i : Nat, i ≤ X.length ∧ iv = .int .i64 i ∧ wx.ownsRow wo.heap.size 3 1 rv (catP rows rows' a i).length (cellsI (catP rows rows' a i)) ∧ Below wo.heap.size wo wx) (fun _ iv _ => X.length - (intOf iv).toNat)
      case atStart => exact ⟨0, Nat.zero_le _, rfl, by unfold catP; simpa using owns_below HO.out (below_drew wa _), HBA.out.trans (below_drew _ _)⟩
      case round =>
        obtain ⟨i, hi, rfl, hown, hB⟩ := hrel
        have HOWN := Lib.hid hown
        have HB := Lib.hid hB
        have hcE := (hB.cell (p := ⟨w.heap.size + 1, 0, none⟩) (cell_lt HCE.out)).trans HCE.out
        have hcl : (catP rows rows' a i).length ≤ 65536 := by
          rw [HCL.out i hi]
          exact Nat.mul_le_mul (show i ≤ 256 by omega) hrl'
        have hbz := hB.size
        by_cases hli : i < X.length
        · have hliz : (i : Int) < (X.length : Int) := by omega
          have hc2 := (hB.cell (p := ⟨b0', o0' + ra, none⟩) (cell_lt HC2.out)).trans HC2.out
          obtain ⟨b1, o1, rfl, hcx⟩ := (HR1.out wr hB).get hli
          have hrj := hran _ (List.getElem_mem hli)
          obtain ⟨j, hj⟩ : ∃ j : Nat, X[i] = (j : Int) := ⟨X[i].toNat, by omega⟩
          rw [hj] at hcx hrj
          have hjn : j * rows'.length ≤ 200 * 200 := Nat.mul_le_mul (by omega) (by omega)
          have hjc : ((j * rows'.length : Nat) : Int) = (j : Int) * (rows'.length : Int) := Int.natCast_mul _ _
          have hwx : IntKind.i64.wrap ((j : Int) * (rows'.length : Int)) = (j : Int) * (rows'.length : Int) := IntWalk.i64_in _ (by omega)
          have HMV := Lib.hid (l2Moved_any _ Y ((j : Int) * (rows'.length : Int)) wr.drew (HR2.out _ (hB.trans (below_drew wr _))) (by omega) (fun y hy => by have := hran' y hy; omega))
          have hml : (movedN Y ((j : Int) * (rows'.length : Int)) Y.length).length = Y.length := movedN_length (Nat.le_refl _)
          have HS1 := Lib.hid (HCS.out i hli)
          rw [hj] at HS1
          have HJ := Lib.hid hjc
          clear hown hB hj hjc
          go_upto_region 11 with fail
          go_region_law (first | (go_simp; go_at_call 78; refine HMV.out.mono ?_; clear HMV; rintro e w2 ⟨v', rfl, hv', hb2⟩; obtain ⟨g2, C9, rfl⟩ := hv'.addr (by rw [hml]; exact hrp); rw [hml] at hv'; have HNW := Lib.hid (hv'.at.news); have HB2 := Lib.hid ((below_drew wr _).trans hb2); have HW2 := Lib.hid (owns_below HOWN.out HB2.out); have hz22 : wr.heap.size ≤ w2.heap.size := hb2.size; clear hv' hb2) | (refine step_append_lies _ (by rfl) _ _ 33 (by rfl) wo.heap.size 3 i0 (.int .i64 0) 1 8 Tryd.underlying33 hi0 hz0 hz1 hz2 rfl (by decide) u8 (catP rows rows' a i).length (cellsI (catP rows rows' a i)) (by rfl) HW2.out ⟨g2, 0, none⟩ Y.length C9 (cellsI (movedN Y ((j : Int) * (rows'.length : Int)) Y.length)) (by rfl) (by rw [List.length_map, hml, Nat.mul_one]) HNW.out (by intro u hu; obtain ⟨z, _, rfl⟩ := List.mem_map.1 hu; rfl) hrp (by unfold maxLen; omega) (by omega) (by omega) w2.heap.size rfl ?_; intro g' cap' w3 hown3 hgrow hat hlt'))
          all_goals
            go_wp2
            go_roundw
            case rel =>
              refine ⟨i + 1, by omega, by go_num, ?_, ((HB.out.trans (HB2.out.mono hbz)).grown ⟨hgrow.os, hgrow.tape, hgrow.output, hgrow.size, hgrow.block⟩ (Nat.le_trans hbz hz22) (fun b e => (HW2.out.lt b e).1))⟩
              rw [HS1.out, List.length_append, hml, show ∀ P Q : List Int, cellsI (P ++ Q) = cellsI P ++ cellsI Q from fun P Q => by simp]
              exact hown3
            case measure => simp [intOf]; omega
        · obtain rfl : i = X.length := by omega
          have hliz : ¬ ((X.length : Int) < (X.length : Int)) := by omega
          have hoi : OwnI 3 wr u8 (catP rows rows' a X.length) wo.heap.size wr.heap.size := OwnI.of_owns HOWN.out (fun x hx => by have := HCR.out _ x hx; exact wf_int this.1 this.2) (fun b hb => (HOWN.out.lt b hb).2)
          obtain ⟨ar, Cr, rfl⟩ := hoi.form
          have HOI := Lib.hid hoi
          have HKx := Lib.hid (HK.out.step hB)
          obtain ⟨f, hf0, hf1, hf2⟩ := HK.out.own.owns
          have HF0 := Lib.hid hf0
          have HF1 := Lib.hid hf1
          have HF2 := Lib.hid hf2
          have HW0 := Lib.hid (owns_below hf0 hB)
          have hout2 := HKx.out.out.cell
          have hout3 := cell_alloc_any hout2
          have hw0 := HKx.out.below.size
          clear hown hB hoi hf0 hf1 hf2 hcE
          go_wp2_with (at_builtin; refine wpList_append_lies _ rfl _ _ 22 rfl w0.heap.size 33 j0 (.slice none 0 0) 1 24 Tryd.underlying22 hj0 hy0 hy1 hy2 rfl (by decide) (.slice au a Cu) a ((List.range a).map f) (by rfl) (HW0.out.alloc _) ⟨wr.heap.size, 0, none⟩ 1 1 [.slice ar (catP rows rows' a X.length).length Cr] (by rfl) rfl (World.news_of_block (heap_alloc_new wr _)) (by simp [Value.oneCell']) (by omega) (by unfold maxLen; omega) (by omega) (by simp; omega) (wr.heap.size + 1) (by simp) ?_; intro g' cap' w3 hown3 hgrow hat hlt'; have hfar := HKx.out.far HW0.out hgrow; have hc3 := hfar.cell; have hf3 := hfar.frozen; clear hfar)
          go_roundw
          case rel =>
            refine ⟨a + 1, _, by omega, by go_num, (HK.out.pushed HF0.out HF1.out HF2.out HB.out HOI.out hown3 ⟨hgrow.os, hgrow.tape, hgrow.output, hgrow.size, hgrow.block⟩).congr fun j hj => ?_⟩
            by_cases e : j = a
            · subst e; rw [if_pos rfl, HPR.out]
            · rw [if_neg e]
          case measure => simp [intOf]; omega
    · obtain rfl : a = rows.length * rows'.length := by omega
      have hltz : ¬ (((rows.length * rows'.length : Nat) : Int) < ((rows.length * rows'.length : Nat) : Int)) := by omega
      have hres := (ho.below.block _ (by rw [S2.out]; omega)).trans H0.out.res
      have hout := ho.out.cell
      have hrc := Boxed.cell hres
      have hrf := Boxed.frozen hres
      have hc9 := World.cell?_setCell_same' wo ⟨w.heap.size + 2, 0, none⟩ (.slice au (rows.length * rows'.length) Cu) (by rw [hrc]; rfl)
      clear ho hres
      go_wp2
      refine bodyPost_ret (v := .agg #[.slice au (rows.length * rows'.length) Cu]) (by simp [results, Tryd.results67, go_sem, hc9]) rfl ?_
      refine ⟨_, rfl, ?_, (HBW.out _ HK.out.below).setCell (p := ⟨w.heap.size + 2, 0, none⟩) (by show w.heap.size ≤ w.heap.size + 2; omega) _⟩
      rw [size_setCell]
      exact (HK.out.own.kept fun b hb _ => Below.heap_setCell _ _ _ b (show b ≠ w.heap.size + 2 by have := S2.out; omega)).wider (by rw [S2.out]; omega) (Nat.le_refl _)

set_option maxRecDepth 100000 in
set_option maxHeartbeats 8000000 in
theorem specProd_any (v v' : Value) (rows rows' : Rows2) (w : World) (hv : RowsAt w v rows) (hv' : RowsAt w v' rows') (hn : bulk rows ≤ 1048576) (hn' : bulk rows' ≤ 1048576) :
    Calls Tryd.prog 46 #[.agg #[v], .agg #[v']] w (OrderP (prodL rows rows') (prodOk rows rows') w) := by
  have h0 := TwoR.start w hv hv'
  have hd1 := specDom_any _ rows _ h0.r0 hn
  have hc0 := h0.c0
  obtain ⟨A, C, rfl, _⟩ := hv
  obtain ⟨A', C', rfl, _⟩ := hv'
  have H0 := Lib.hid h0
  clear h0
  cases h1 : domB rows with
  | false =>
    rw [h1] at hd1
    have HE := Lib.hid (show prodOk rows rows' = false by unfold prodOk; rw [h1]; rfl)
    go_enter Tryd.func46, Tryd.ntmps46
    go_wp2_with (go_at_call 25; refine hd1.mono ?_; clear hd1; rintro e w1 ⟨rfl, hb1⟩; have H1 := Lib.hid (H0.out.step hb1); have hres := H1.out.res.cell; have hfr := H1.out.res.frozen; clear hb1 hc0)
    have hc9 := World.cell?_setCell_same' w1 ⟨w.heap.size + 2, 0, none⟩ (.slice none 0 0) (by rw [hres]; rfl)
    refine bodyPost_ret (v := .tuple #[.agg #[.slice none 0 0], .bool false]) (by simp [results, Tryd.results46, go_sem, hc9]) rfl ?_
    exact orderP_no (prodL_no HE.out) HE.out H1.out.below (by omega) _
  | true =>
    rw [h1] at hd1
    cases h2 : domB rows' with
    | false =>
      have HE := Lib.hid (show prodOk rows rows' = false by unfold prodOk; rw [h1, h2]; rfl)
      go_enter Tryd.func46, Tryd.ntmps46
      go_wp2_with (first | (go_at_call 25; refine hd1.mono ?_; clear hd1; rintro e w1 ⟨rfl, hb1⟩; have H1 := Lib.hid (H0.out.step hb1); have hc1 := H1.out.c1; have hd2 := specDom_any _ rows' _ H1.out.r1 hn'; rw [h2] at hd2; clear hb1 hc0) | (go_at_call 25; refine hd2.mono ?_; clear hd2; rintro e w2 ⟨rfl, hb2⟩; have H2 := Lib.hid (H1.out.step hb2); have hres := H2.out.res.cell; have hfr := H2.out.res.frozen; clear hb2 hc1))
      have hc9 := World.cell?_setCell_same' w2 ⟨w.heap.size + 2, 0, none⟩ (.slice none 0 0) (by rw [hres]; rfl)
      refine bodyPost_ret (v := .tuple #[.agg #[.slice none 0 0], .bool false]) (by simp [results, Tryd.results46, go_sem, hc9]) rfl ?_
      exact orderP_no (prodL_no HE.out) HE.out H2.out.below (by omega) _
    | true =>
      have hok := ok_of_valid (show validB rows = true by have h := h1; unfold domB at h; rw [Bool.and_eq_true] at h; exact h.1)
      have hok' := ok_of_valid (show validB rows' = true by have h := h2; unfold domB at h; rw [Bool.and_eq_true] at h; exact h.1)
      have hl1 := hok.len
      have hl2 := hok'.len
      have hnn : rows.length * rows'.length ≤ 200 * 200 := Nat.mul_le_mul (by omega) (by omega)
      have hcc : ((rows.length * rows'.length : Nat) : Int) = (rows.length : Int) * (rows'.length : Int) := Int.natCast_mul _ _
      have wB : IntKind.i64.wrap ((rows.length : Int) * (rows'.length : Int)) = (rows.length : Int) * (rows'.length : Int) := IntWalk.i64_in _ (by omega)
      by_cases hl : rows.length * rows'.length ≤ 200
      · have hlz : ¬ ((200 : Int) < (rows.length : Int) * (rows'.length : Int)) := by omega
        have HE := Lib.hid (show prodOk rows rows' = true by unfold prodOk; rw [h1, h2, decide_eq_true hl]; rfl)
        have HC := Lib.hid (fun W u u' a b => l2Product_any u u' rows rows' W a b hok hok' hl)
        have HRR := Lib.hid (fun q (hq : q < rows.length * rows'.length) => prodR_row hok hok' hq)
        have HCC := Lib.hid hcc
        clear hok hok' hcc
        go_enter Tryd.func46, Tryd.ntmps46
        go_wp2_with (first | (go_at_call 25; refine hd1.mono ?_; clear hd1; rintro e w1 ⟨rfl, hb1⟩; have H1 := Lib.hid (H0.out.step hb1); have hc1 := H1.out.c1; have hd2 := specDom_any _ rows' _ H1.out.r1 hn'; rw [h2] at hd2; clear hb1 hc0) | (go_at_call 25; refine hd2.mono ?_; clear hd2; rintro e w2 ⟨rfl, hb2⟩; have H2 := Lib.hid (H1.out.step hb2); have hc2 := H2.out.c0; have hc3 := H2.out.c1; clear hb2 hc1) | (go_at_call 67; refine (HC.out _ _ _ H2.out.r0 H2.out.r1).mono ?_; rintro e w3 ⟨u, rfl, hu, hb3⟩; obtain ⟨a3, C3, rfl⟩ := hu.form; have HU := Lib.hid hu; have H3 := Lib.hid (H2.out.step hb3); have hres := H3.out.res.cell; have hfr := H3.out.res.frozen; clear hu hb3))
        have hc9 := World.cell?_setCell_same' w3 ⟨w.heap.size + 2, 0, none⟩ (.slice a3 (rows.length * rows'.length) C3) (by rw [hres]; rfl)
        have hw2 : w.heap.size + 2 < w2.heap.size := H2.out.res.lt
        refine bodyPost_ret (v := .tuple #[.agg #[.slice a3 (rows.length * rows'.length) C3], .bool true]) (by simp [results, Tryd.results46, go_sem, hc9]) rfl ?_
        obtain ⟨e1, e2⟩ := prodL_yes HE.out
        refine ⟨_, by rw [HE.out], ?_, H3.out.below.setCell (p := ⟨w.heap.size + 2, 0, none⟩) (by show w.heap.size ≤ w.heap.size + 2; omega) _⟩
        rw [e1, size_setCell]
        exact ((HU.out.kept fun b hb _ => Below.heap_setCell _ _ _ b (show b ≠ w.heap.size + 2 by omega)).wider (by omega) (Nat.le_refl _)).congr fun q hq => (HRR.out q hq).trans (e2 q hq).symm
      · have hlz : (200 : Int) < (rows.length : Int) * (rows'.length : Int) := by omega
        have HE := Lib.hid (show prodOk rows rows' = false by unfold prodOk; rw [decide_eq_false hl, Bool.and_false])
        have HCC := Lib.hid hcc
        clear hok hok' hcc
        go_enter Tryd.func46, Tryd.ntmps46
        go_wp2_with (first | (go_at_call 25; refine hd1.mono ?_; clear hd1; rintro e w1 ⟨rfl, hb1⟩; have H1 := Lib.hid (H0.out.step hb1); have hc1 := H1.out.c1; have hd2 := specDom_any _ rows' _ H1.out.r1 hn'; rw [h2] at hd2; clear hb1 hc0) | (go_at_call 25; refine hd2.mono ?_; clear hd2; rintro e w2 ⟨rfl, hb2⟩; have H2 := Lib.hid (H1.out.step hb2); have hc2 := H2.out.c0; have hc3 := H2.out.c1; have hres := H2.out.res.cell; have hfr := H2.out.res.frozen; clear hb2 hc1))
        have hc9 := World.cell?_setCell_same' w2 ⟨w.heap.size + 2, 0, none⟩ (.slice none 0 0) (by rw [hres]; rfl)
        refine bodyPost_ret (v := .tuple #[.agg #[.slice none 0 0], .bool false]) (by simp [results, Tryd.results46, go_sem, hc9]) rfl ?_
        exact orderP_no (prodL_no HE.out) HE.out H2.out.below (by omega) _

theorem prod_bulk (rows rows' : Rows2) : bulk (prodL rows rows') ≤ 1048576 := by
  cases h : prodOk rows rows' with
  | false => rw [prodL_no h]; simp [bulk]
  | true =>
    have hl : rows.length * rows'.length ≤ 200 := by
      unfold prodOk at h
      rw [Bool.and_eq_true, decide_eq_true_iff] at h
      exact h.2
    have hb := lens_small (rows := prodL rows rows') (n := 200) (m := 200) (by rw [(prodL_yes h).1]; omega) (fun r hr => by
      unfold prodL at hr
      rw [if_pos h] at hr
      obtain ⟨q, _, rfl⟩ := List.mem_map.1 hr
      exact Nat.le_trans (bRow_len _ _ _) (by omega))
    omega
end Go.Proofs.YtppjogkednclcaaDoor

/- What a law holds while it runs, as a list of things that lie one behind the other in memory: variables' boxes, copies, answers. Plain facts on worlds: no function is walked here. -/
namespace Go.Proofs.YtppjogkednclcaaDoor
open Go.RowKit Go.Deep

/-- A thing that lies between the blocks lo and hi, and hangs on these alone. -/
structure It where
  lo : Nat
  hi : Nat
  P : World → Prop
  loc : ∀ W W' : World, (∀ b, lo ≤ b → b < hi → W'.heap[b]? = W.heap[b]?) → P W → P W'

/-- A list of integers in memory of its own; rows likewise; a variable's box. -/
def ItI (v : Value) (xs : List Int) (lo hi : Nat) : It := ⟨lo, hi, fun W => OwnI 3 W v xs lo hi, fun _ _ h k => k.kept fun b e => h b (k.block b e).1 (k.block b e).2.1⟩
def ItR (v : Value) (n : Nat) (R : Nat → List Int) (lo hi : Nat) : It := ⟨lo, hi, fun W => OwnR 3 33 W v n R lo hi, fun _ _ h k => k.kept h⟩
def ItB (b : Nat) (t : TypeId) (v : Value) : It := ⟨b, b + 1, fun W => Boxed W b t v, fun _ _ h k => (h b (Nat.le_refl _) (Nat.lt_succ_self _)).trans k⟩

def Holds (W : World) : Nat → List It → Prop
  | n, [] => n ≤ W.heap.size
  | n, i :: is => n ≤ i.lo ∧ i.lo ≤ i.hi ∧ i.P W ∧ Holds W i.hi is

theorem Holds.le {W : World} : ∀ {is : List It} {n : Nat}, Holds W n is → n ≤ W.heap.size
  | [], _, h => h
  | _ :: _, _, h => Nat.le_trans h.1 (Nat.le_trans h.2.1 (Holds.le h.2.2.2))
theorem Holds.above {W W' : World} : ∀ {is : List It} {n : Nat}, Holds W n is → (∀ b, n ≤ b → b < W.heap.size → W'.heap[b]? = W.heap[b]?) → W.heap.size ≤ W'.heap.size → Holds W' n is
  | [], _, h, _, hz => Nat.le_trans h hz
  | i :: _, _, h, hb, hz => ⟨h.1, h.2.1, i.loc W W' (fun b hl hh => hb b (Nat.le_trans h.1 hl) (Nat.lt_of_lt_of_le hh h.2.2.2.le)) h.2.2.1, h.2.2.2.above (fun b hl hs => hb b (Nat.le_trans h.1 (Nat.le_trans h.2.1 hl)) hs) hz⟩
theorem Holds.step {W W' : World} {is : List It} {n : Nat} (h : Holds W n is) (hb : Below W.heap.size W W') : Holds W' n is := h.above (fun b _ hs => hb.block b hs) hb.size
theorem Holds.push {W W' : World} {it : It} (hb : Below W.heap.size W W') (h1 : W.heap.size ≤ it.lo) (h2 : it.lo ≤ it.hi) (h3 : it.hi ≤ W'.heap.size) (hP : it.P W') : ∀ {is : List It} {n : Nat}, Holds W n is → Holds W' n (is ++ [it])
  | [], _, h => ⟨Nat.le_trans h h1, h2, hP, h3⟩
  | i :: _, _, h => ⟨h.1, h.2.1, i.loc W W' (fun b _ hh => hb.block b (Nat.lt_of_lt_of_le hh h.2.2.2.le)) h.2.2.1, Holds.push hb h1 h2 h3 hP h.2.2.2⟩
theorem Holds.pop {W : World} {it : It} : ∀ {is : List It} {n : Nat}, Holds W n (is ++ [it]) → Holds W n is
  | [], _, h => Nat.le_trans h.1 (Nat.le_trans h.2.1 h.2.2.2)
  | _ :: _, _, h => ⟨h.1, h.2.1, h.2.2.1, Holds.pop h.2.2.2⟩
theorem Holds.take {W : World} : ∀ {is : List It} {n : Nat} (k : Nat), Holds W n is → Holds W n (is.take k)
  | [], _, k, h => by rw [List.take_nil]; exact h
  | _ :: _, _, 0, h => Nat.le_trans h.1 (Nat.le_trans h.2.1 h.2.2.2.le)
  | _ :: _, _, k + 1, h => ⟨h.1, h.2.1, h.2.2.1, Holds.take k h.2.2.2⟩
theorem Holds.get {W : World} {it : It} : ∀ {is : List It} {n : Nat} (k : Nat), is[k]? = some it → Holds W n is → n ≤ it.lo ∧ it.lo ≤ it.hi ∧ it.hi ≤ W.heap.size ∧ it.P W
  | [], _, k, e, _ => by simp at e
  | i :: is, n, 0, e, h => by
    obtain rfl : i = it := by simpa using e
    exact ⟨h.1, h.2.1, h.2.2.2.le, h.2.2.1⟩
  | i :: is, n, k + 1, e, h => by
    have e' : is[k]? = some it := by simpa using e
    obtain ⟨a, b, c, d⟩ := Holds.get k e' h.2.2.2
    exact ⟨Nat.le_trans h.1 (Nat.le_trans h.2.1 a), b, c, d⟩
theorem Holds.turn {W W' : World} {it it' : It} (hlo : it'.lo = it.lo) (hhi : it'.hi = it.hi) (ht : Turned it.lo it.hi W W') (hP : it'.P W') : ∀ {is : List It} {n : Nat} (k : Nat), is[k]? = some it → Holds W n is → Holds W' n (is.set k it')
  | [], _, k, e, _ => by simp at e
  | i :: is, n, 0, e, h => by
    obtain rfl : i = it := by simpa using e
    refine ⟨by rw [hlo]; exact h.1, by rw [hlo, hhi]; exact h.2.1, hP, ?_⟩
    rw [hhi]
    exact h.2.2.2.above (fun b hl hs => ht.above b hl hs) ht.below.size
  | i :: is, n, k + 1, e, h => by
    have e' : is[k]? = some it := by simpa using e
    have hg := Holds.get k e' h.2.2.2
    exact ⟨h.1, h.2.1, i.loc W W' (fun b _ hh => ht.below.block b (Nat.lt_of_lt_of_le hh hg.1)) h.2.2.1, Holds.turn hlo hhi ht hP k e' h.2.2.2⟩

/-- The world W, since w: all that lay there lies as it lay, and behind it lie these things. -/
structure St (w : World) (is : List It) (W : World) : Prop where
  below : Below w.heap.size w W
  holds : Holds W w.heap.size is

section
variable {w : World} {is : List It} {W W' : World}
theorem St.start (w : World) : St w [] w := ⟨Below.refl _ _, Nat.le_refl _⟩
theorem St.step (h : St w is W) (hb : Below W.heap.size W W') : St w is W' := ⟨h.below.trans (hb.mono h.below.size), h.holds.step hb⟩
theorem St.drew (h : St w is W) : St w is W.drew := h.step ⟨rfl, rfl, rfl, Nat.le_refl _, fun _ _ => rfl⟩
theorem St.drewN (h : St w is W) (n : Nat) : St w is (W.drewN n) := h.step ⟨rfl, rfl, rfl, Nat.le_refl _, fun _ _ => rfl⟩
theorem St.push {it : It} (h : St w is W) (hb : Below W.heap.size W W') (h1 : W.heap.size ≤ it.lo) (h2 : it.lo ≤ it.hi) (h3 : it.hi ≤ W'.heap.size) (hP : it.P W') : St w (is ++ [it]) W' :=
  ⟨h.below.trans (hb.mono h.below.size), h.holds.push hb h1 h2 h3 hP⟩
theorem St.pop {it : It} (h : St w (is ++ [it]) W) : St w is W := ⟨h.below, h.holds.pop⟩
theorem St.take (h : St w is W) (k : Nat) : St w (is.take k) W := ⟨h.below, h.holds.take k⟩
theorem St.box (h : St w is W) (t : TypeId) (v : Value) : St w (is ++ [ItB W.heap.size t v]) (W.alloc (.cells #[v] t)) :=
  h.push ((Below.refl _ _).alloc (Nat.le_refl _) _) (Nat.le_refl _) (Nat.le_succ _) (by rw [World.size_alloc]; exact Nat.le_refl _) (Boxed.new W t v)
theorem St.pushI {v : Value} {xs : List Int} (h : St w is W) (hb : Below W.heap.size W W') (ho : OwnI 3 W' v xs W.heap.size W'.heap.size) : St w (is ++ [ItI v xs W.heap.size W'.heap.size]) W' :=
  h.push hb (Nat.le_refl _) hb.size (Nat.le_refl _) ho
theorem St.pushR {v : Value} {n : Nat} {R : Nat → List Int} (h : St w is W) (hb : Below W.heap.size W W') (ho : OwnR 3 33 W' v n R W.heap.size W'.heap.size) : St w (is ++ [ItR v n R W.heap.size W'.heap.size]) W' :=
  h.push hb (Nat.le_refl _) hb.size (Nat.le_refl _) ho
/-- The copies that the laws make. -/
theorem St.copyR {g : Nat} {G : Nat → Nat} {rows : Rows2} (h : St w is W) (hn : bulk rows ≤ maxLen) (hg : W.heap.size ≤ g) (ho : OwnRows 3 33 W' g W'.heap.size G rows) (hb : Below W.heap.size W W') :
    St w (is ++ [ItR (whole g rows.length) rows.length (rowsF rows) W.heap.size W'.heap.size]) W' :=
  h.pushR hb ((ho.ownR hn).wider hg (Nat.le_refl _))
theorem OwnInts.ownI {t : TypeId} {g : Nat} {xs : List Int} {hi : Nat} (h : OwnInts t W g xs) (hn : xs.length ≤ maxLen) (hg : g < hi) : OwnI t W (whole g xs.length) xs g hi :=
  ⟨h.2, .inr ⟨g, _, _, rfl, Nat.le_refl _, hn, Nat.le_refl _, hg, h.1, fun _ hi => intCell_lt hi⟩⟩
theorem St.copyI {xs : List Int} (h : St w is W) (hn : xs.length ≤ maxLen) (ho : OwnInts 3 W' W.heap.size xs) (hz : W'.heap.size = W.heap.size + 1) (hb : Below W.heap.size W W') :
    St w (is ++ [ItI (whole W.heap.size xs.length) xs W.heap.size W'.heap.size]) W' :=
  h.pushI hb (ho.ownI hn (by omega))
theorem St.cell {b : Nat} {t : TypeId} {v : Value} (h : St w is W) (k : Nat) (e : is[k]? = some (ItB b t v)) : W.cell? ⟨b, 0, none⟩ = some v := Boxed.cell (h.holds.get k e).2.2.2
theorem St.lt {b : Nat} {t : TypeId} {v : Value} (h : St w is W) (k : Nat) (e : is[k]? = some (ItB b t v)) : b < W.heap.size := Boxed.lt (h.holds.get k e).2.2.2
theorem St.ownI {v : Value} {xs : List Int} {lo hi : Nat} (h : St w is W) (k : Nat) (e : is[k]? = some (ItI v xs lo hi)) : OwnI 3 W v xs lo hi := (h.holds.get k e).2.2.2
theorem St.ownR {v : Value} {n : Nat} {R : Nat → List Int} {lo hi : Nat} (h : St w is W) (k : Nat) (e : is[k]? = some (ItR v n R lo hi)) : OwnR 3 33 W v n R lo hi := (h.holds.get k e).2.2.2
theorem St.ints {v : Value} {xs : List Int} {lo hi : Nat} (h : St w is W) (k : Nat) (e : is[k]? = some (ItI v xs lo hi)) : IntsAt W v xs := (h.ownI k e).at
theorem St.rows {v : Value} {rows : Rows2} {lo hi : Nat} (h : St w is W) (k : Nat) (e : is[k]? = some (ItR v rows.length (rowsF rows) lo hi)) : RowsAt W v rows := (h.ownR k e).at
theorem St.boundsR {v : Value} {n : Nat} {R : Nat → List Int} {lo hi : Nat} (h : St w is W) (k : Nat) (e : is[k]? = some (ItR v n R lo hi)) : lo ≤ W.heap.size ∧ hi ≤ W.heap.size := ⟨Nat.le_trans (h.holds.get k e).2.1 (h.holds.get k e).2.2.1, (h.holds.get k e).2.2.1⟩
theorem St.turn {it it' : It} (h : St w is W) (k : Nat) (e : is[k]? = some it) (hlo : it'.lo = it.lo) (hhi : it'.hi = it.hi) (ht : Turned it.lo it.hi W W') (hP : it'.P W') : St w (is.set k it') W' :=
  ⟨h.below.trans (ht.below.mono (h.holds.get k e).1), h.holds.turn hlo hhi ht hP k e⟩
theorem St.turnR {v : Value} {n : Nat} {R R' : Nat → List Int} {lo hi : Nat} (h : St w is W) (k : Nat) (e : is[k]? = some (ItR v n R lo hi)) (ht : Turned lo hi W W') (ho : OwnR 3 33 W' v n R' lo hi) : St w (is.set k (ItR v n R' lo hi)) W' :=
  h.turn (it' := ItR v n R' lo hi) k e rfl rfl ht ho
theorem St.turnI {v : Value} {xs ys : List Int} {lo hi : Nat} (h : St w is W) (k : Nat) (e : is[k]? = some (ItI v xs lo hi)) (hg : W.grownBy W' v.ownBlock) (ho : OwnI 3 W' v ys lo hi) : St w (is.set k (ItI v ys lo hi)) W' :=
  have hk := h.holds.get k e
  h.turn (it' := ItI v ys lo hi) k e rfl rfl (Turned.of_grownBy hg (Nat.le_trans hk.2.1 hk.2.2.1) fun b e' => ⟨((h.ownI k e).block b e').1, ((h.ownI k e).block b e').2.1⟩) ho
end
theorem St.start1 (w : World) (t : TypeId) (v : Value) : St w [ItB w.heap.size t v] (w.alloc (.cells #[v] t)) := (St.start w).box t v
theorem St.start2 (w : World) (t t' : TypeId) (v v' : Value) : St w [ItB w.heap.size t v, ItB (w.heap.size + 1) t' v'] ((w.alloc (.cells #[v] t)).alloc (.cells #[v'] t')) := by
  have h := (St.start1 w t v).box t' v'
  rw [World.size_alloc] at h
  exact h
theorem St.start3 (w : World) (t t' t2 : TypeId) (v v' v2 : Value) : St w [ItB w.heap.size t v, ItB (w.heap.size + 1) t' v', ItB (w.heap.size + 2) t2 v2] (((w.alloc (.cells #[v] t)).alloc (.cells #[v'] t')).alloc (.cells #[v2] t2)) := by
  have h := (St.start2 w t t' v v').box t2 v2
  rw [World.size_alloc, World.size_alloc] at h
  exact h
end Go.Proofs.YtppjogkednclcaaDoor

/- An answer that is an order in a variable whose place is drawn: the box and the rows as one thing in memory. Plain facts on worlds. -/
namespace Go.Proofs.YtppjogkednclcaaDoor
open Go.RowKit Go.Deep

/-- A variable that holds an order, and the order's rows, between the blocks lo and hi. -/
def ItO (b : Nat) (u : Value) (n : Nat) (R : Nat → List Int) (lo hi : Nat) : It :=
  ⟨lo, hi, fun W => (lo ≤ b ∧ b < hi) ∧ Boxed W b 26 u ∧ OwnR 3 33 W u n R lo hi, fun _ _ h k => ⟨k.1, (h b k.1.1 k.1.2).trans k.2.1, k.2.2.kept h⟩⟩

theorem Holds.split {W : World} : ∀ {a b : List It} {n : Nat}, Holds W n (a ++ b) → ∃ m, (∀ it : It, m ≤ it.lo → it.lo ≤ it.hi → it.hi ≤ W.heap.size → it.P W → Holds W n (a ++ [it])) ∧ Holds W m b
  | [], _, n, h => ⟨n, fun _ h1 h2 h3 h4 => ⟨h1, h2, h4, h3⟩, h⟩
  | i :: a, b, n, h => by
    obtain ⟨m, hm, hb⟩ := Holds.split (a := a) h.2.2.2
    exact ⟨m, fun it h1 h2 h3 h4 => ⟨h.1, h.2.1, h.2.2.1, hm it h1 h2 h3 h4⟩, hb⟩

section
variable {w : World} {is : List It} {W W' : World}
theorem St.boxed {b : Nat} {t : TypeId} {v : Value} (h : St w is W) (k : Nat) (e : is[k]? = some (ItB b t v)) : Boxed W b t v := (h.holds.get k e).2.2.2
theorem St.cellO {b n lo hi : Nat} {u : Value} {R : Nat → List Int} (h : St w is W) (k : Nat) (e : is[k]? = some (ItO b u n R lo hi)) : W.cell? ⟨b, 0, none⟩ = some u := Boxed.cell (h.holds.get k e).2.2.2.2.1
theorem St.rowsO {b lo hi : Nat} {u : Value} {rows : Rows2} (h : St w is W) (k : Nat) (e : is[k]? = some (ItO b u rows.length (rowsF rows) lo hi)) : RowsAt W u rows := (h.holds.get k e).2.2.2.2.2.at
/-- A store into a variable. -/
theorem St.setB {b : Nat} {t : TypeId} {v : Value} (h : St w is W) (k : Nat) (e : is[k]? = some (ItB b t v)) (v' : Value) : St w (is.set k (ItB b t v')) (W.setCell ⟨b, 0, none⟩ v') := by
  have hb := h.boxed k e
  refine h.turn (it' := ItB b t v') k e rfl rfl ⟨(Below.refl b W).setCell (p := ⟨b, 0, none⟩) (Nat.le_refl _) _, fun x hx _ => ?_⟩ (hb.set v')
  exact Below.heap_setCell _ _ _ x (fun e2 => by
    subst e2
    exact absurd hx (Nat.not_le.2 (Nat.lt_succ_self _)))
theorem St.packO {b n lo hi : Nat} {u : Value} {R : Nat → List Int} (h : St w is W) (k i j : Nat) (hi' : k ≤ i) (hj' : k ≤ j) (e1 : is[i]? = some (ItB b 26 u)) (e2 : is[j]? = some (ItR u n R lo hi)) :
    ∃ lo' hi', St w (is.take k ++ [ItO b u n R lo' hi']) W := by
  have hs := h.holds
  rw [← List.take_append_drop k is] at hs
  obtain ⟨m, hm, hb⟩ := Holds.split hs
  have f1 : (is.drop k)[i - k]? = some (ItB b 26 u) := by rw [List.getElem?_drop, show k + (i - k) = i by omega]; exact e1
  have f2 : (is.drop k)[j - k]? = some (ItR u n R lo hi) := by rw [List.getElem?_drop, show k + (j - k) = j by omega]; exact e2
  have g1 : m ≤ b ∧ b ≤ b + 1 ∧ b + 1 ≤ W.heap.size ∧ Boxed W b 26 u := Holds.get _ f1 hb
  have g2 : m ≤ lo ∧ lo ≤ hi ∧ hi ≤ W.heap.size ∧ OwnR 3 33 W u n R lo hi := Holds.get _ f2 hb
  have hmn : min b lo ≤ b ∧ min b lo ≤ lo ∧ b + 1 ≤ max (b + 1) hi ∧ hi ≤ max (b + 1) hi := ⟨Nat.min_le_left _ _, Nat.min_le_right _ _, Nat.le_max_left _ _, Nat.le_max_right _ _⟩
  refine ⟨min b lo, max (b + 1) hi, h.below, hm _ (Nat.le_min.2 ⟨g1.1, g2.1⟩) (show min b lo ≤ max (b + 1) hi by omega) (Nat.max_le.2 ⟨g1.2.2.1, g2.2.2.1⟩) ?_⟩
  exact ⟨⟨hmn.1, by omega⟩, g1.2.2.2, g2.2.2.2.wider hmn.2.1 hmn.2.2.2⟩
theorem St.name (h : St w is W) : ∃ IS, IS = is ∧ St w IS W := ⟨is, rfl, h⟩
end
end Go.Proofs.YtppjogkednclcaaDoor

/- The model's FunParts. -/
namespace Go.Proofs.YtppjogkednclcaaDoor
open Go.RowKit Go.Deep

/-- The first parts, and the second parts, of the first k elements' pairs. -/
def quoN (f : List Int) (n k : Nat) : List Int := (List.range k).map fun i => (((f.getD i 0).toNat / n : Nat) : Int)
def remN (f : List Int) (n k : Nat) : List Int := (List.range k).map fun i => (((f.getD i 0).toNat % n : Nat) : Int)
theorem quoN_length (f : List Int) (n k : Nat) : (quoN f n k).length = k := by unfold quoN; simp
theorem remN_length (f : List Int) (n k : Nat) : (remN f n k).length = k := by unfold remN; simp
theorem quoN_succ (f : List Int) (n k : Nat) : quoN f n (k + 1) = quoN f n k ++ [(((f.getD k 0).toNat / n : Nat) : Int)] := by
  unfold quoN
  rw [List.range_succ, List.map_append]
  rfl
theorem remN_succ (f : List Int) (n k : Nat) : remN f n (k + 1) = remN f n k ++ [(((f.getD k 0).toNat % n : Nat) : Int)] := by
  unfold remN
  rw [List.range_succ, List.map_append]
  rfl
noncomputable def partOk (rows rows' rows2 : Rows2) (f : List Int) : Bool := prodOk rows' rows2 && monoB rows (prodL rows' rows2) f
noncomputable def part1 (rows rows' rows2 : Rows2) (f : List Int) : List Int := if partOk rows rows' rows2 f = true then quoN f rows2.length f.length else []
noncomputable def part2 (rows rows' rows2 : Rows2) (f : List Int) : List Int := if partOk rows rows' rows2 f = true then remN f rows2.length f.length else []

/-- Two lists, each in memory of its own, and the Boolean t. -/
def OwnBB (xs ys : List Int) (t : Bool) (w : World) (e : Ending) (w' : World) : Prop :=
  ∃ v u, e = .returned (.tuple #[v, u, .bool t]) ∧ OwnI 3 w' v xs w.heap.size w'.heap.size ∧ OwnI 3 w' u ys w.heap.size w'.heap.size ∧ (v.ownBlock = none ∨ v.ownBlock ≠ u.ownBlock) ∧ Below w.heap.size w w'

/-- What grows elsewhere leaves a list alone. -/
theorem owns_far {W W' : World} {base size n : Nat} {t : TypeId} {v : Value} {xs : List Value} {blk : Option Nat} (h : W.ownsRow base t size v n xs) (hg : W.grownBy W' blk) (hne : v.ownBlock = none ∨ v.ownBlock ≠ blk) : W'.ownsRow base t size v n xs := by
  refine ⟨h.1, ?_⟩
  rcases h.2 with hl | ⟨g, cap, cur, hv, hb, hh, hr⟩
  · exact .inl hl
  · refine .inr ⟨g, cap, cur, hv, hb, ?_, hr⟩
    have hlt : g < W.heap.size := by
      rcases Nat.lt_or_ge g W.heap.size with hlt | hge
      · exact hlt
      · rw [Array.getElem?_eq_none hge] at hh; cases hh
    rw [hg.block g hlt (fun e => by
      subst hv
      rcases hne with h1 | h1
      · simp [Value.ownBlock] at h1
      · exact h1 (by simpa [Value.ownBlock] using e))]
    exact hh
theorem part_wf {n k : Nat} {f : List Int} (hf : ∀ i, i < k → f.getD i 0 ≤ 40000) (hn : n ≤ 200) (hn0 : 0 < n) : (∀ x ∈ quoN f n k, (Lit.int .i64 x).wf = true) ∧ (∀ x ∈ remN f n k, (Lit.int .i64 x).wf = true) := by
  constructor
  · intro x hx
    unfold quoN at hx
    obtain ⟨i, hi, rfl⟩ := List.mem_map.1 hx
    rw [List.mem_range] at hi
    have h1 := hf i hi
    have h2 := Nat.div_le_self (f.getD i 0).toNat n
    generalize (f.getD i 0).toNat / n = q at h2 ⊢
    exact wf_int (by omega) (by omega)
  · intro x hx
    unfold remN at hx
    obtain ⟨i, hi, rfl⟩ := List.mem_map.1 hx
    have h2 := Nat.mod_lt (f.getD i 0).toNat hn0
    exact wf_int (by omega) (by omega)
theorem empty_two {w W : World} (hb : Below w.heap.size w W) (t : Bool) (ht : t = false) {xs ys : List Int} (hx : xs = []) (hy : ys = []) : OwnBB xs ys t w (.returned (.tuple #[.slice (some ⟨W.heap.size, 0, none⟩) 0 0, .slice (some ⟨W.heap.size + 1, 0, none⟩) 0 0, .bool false])) ((W.alloc (.cells #[] 3)).alloc (.cells #[] 3)) := by
  subst ht hx hy
  have e1 := empty_own W hb.size
  have hb1 := hb.alloc hb.size (.cells #[] 3)
  have e2 := empty_own (W.alloc (.cells #[] 3)) hb1.size
  have hs : (W.alloc (.cells #[] 3)).heap.size = W.heap.size + 1 := World.size_alloc _ _
  rw [hs] at e2
  have hk := (Below.refl (W.alloc (.cells #[] 3)).heap.size (W.alloc (.cells #[] 3))).alloc (Nat.le_refl _) (.cells #[] 3)
  refine ⟨_, _, rfl, (e1.kept fun b hb => ?_).wider (Nat.le_refl _) hk.size, e2, .inr ?_, hb1.alloc hb1.size _⟩
  · have hbb : b = W.heap.size := by simpa [Value.ownBlock, eq_comm] using hb
    exact hk.block b (by rw [hbb, hs]; exact Nat.lt_succ_self _)
  · simp [Value.ownBlock]

set_option maxRecDepth 100000 in
set_option maxHeartbeats 8000000 in
theorem specPart_any (v v' v2 vf : Value) (rows rows' rows2 : Rows2) (f : List Int) (w : World) (hv : RowsAt w v rows) (hv' : RowsAt w v' rows') (hv2 : RowsAt w v2 rows2) (hf : IntsAt w vf f)
    (hn : bulk rows ≤ 1048576) (hn' : bulk rows' ≤ 1048576) (hn2 : bulk rows2 ≤ 1048576) :
    Calls Tryd.prog 22 #[.agg #[v], .agg #[v'], .agg #[v2], vf] w (OwnBB (part1 rows rows' rows2 f) (part2 rows rows' rows2 f) (partOk rows rows' rows2 f) w) := by
  have hV := fun W (h : Below w.heap.size w W) => hv.below h
  have hV' := fun W (h : Below w.heap.size w W) => hv'.below h
  have hV2 := fun W (h : Below w.heap.size w W) => hv2.below h
  have HFA := Lib.hid (fun W (h : Below w.heap.size w W) => hf.below h)
  obtain ⟨A, C, rfl, _⟩ := hv
  obtain ⟨A', C', rfl, _⟩ := hv'
  obtain ⟨A2, C2, rfl, _⟩ := hv2
  obtain ⟨Af, Cf, rfl, _⟩ := hf
  have h0 := St.start3 w 26 26 26 (.slice A rows.length C) (.slice A' rows'.length C') (.slice A2 rows2.length C2)
  have hc0 := h0.cell 0 rfl
  have hc1 := h0.cell 1 rfl
  have hc2 := h0.cell 2 rfl
  have H0 := Lib.hid h0
  have HP := Lib.hid (fun W (h : Below w.heap.size w W) => specProd_any (.slice A' rows'.length C') (.slice A2 rows2.length C2) rows' rows2 W (hV' W h) (hV2 W h) hn' hn2)
  have HM := Lib.hid (fun W u (h : Below w.heap.size w W) (hu : RowsAt W u (prodL rows' rows2)) => specMono_any (.slice A rows.length C) u (.slice Af f.length Cf) rows (prodL rows' rows2) f W (hV W h) hu (HFA.out W h) hn (prod_bulk rows' rows2))
  clear h0 hV hV' hV2
  cases h1 : prodOk rows' rows2 with
  | false =>
    have HE := Lib.hid (show partOk rows rows' rows2 f = false by unfold partOk; rw [h1]; rfl)
    rw [h1] at HP
    go_enter Tryd.func22, Tryd.ntmps22
    go_wp2_with (go_at_call 46; refine (HP.out _ H0.out.below).mono ?_; clear HP; rintro e w1 ⟨u, rfl, hu, hb1⟩; obtain ⟨a1, C1, rfl⟩ := hu.form; have H1 := Lib.hid (H0.out.step hb1); have HU := Lib.hid hu; have hd0 := H1.out.cell 0 rfl; clear hu hb1 hc0 hc1 hc2)
    refine bodyPost_ret (v := .tuple #[.slice (some ⟨w1.heap.size + 1, 0, none⟩) 0 0, .slice (some ⟨w1.heap.size + 1 + 1, 0, none⟩) 0 0, .bool false]) (by simp [results, Tryd.results22, go_sem]) rfl ?_
    have hh := empty_two (W := w1.alloc (.cells #[.slice a1 (List.length (prodL rows' rows2)) C1] 26)) (H1.out.below.alloc H1.out.below.size _) _ HE.out (show part1 rows rows' rows2 f = [] by unfold part1; rw [HE.out]; rfl) (show part2 rows rows' rows2 f = [] by unfold part2; rw [HE.out]; rfl)
    rw [World.size_alloc] at hh
    rw [HE.out]
    rw [HE.out] at hh
    exact hh
  | true =>
    rw [h1] at HP
    cases h2 : monoB rows (prodL rows' rows2) f with
    | false =>
      have HE := Lib.hid (show partOk rows rows' rows2 f = false by unfold partOk; rw [h1, h2]; rfl)
      rw [h2] at HM
      go_enter Tryd.func22, Tryd.ntmps22
      go_wp2_with (first | (go_at_call 46; refine (HP.out _ H0.out.below).mono ?_; clear HP; rintro e w1 ⟨u, rfl, hu, hb1⟩; obtain ⟨a1, C1, rfl⟩ := hu.form; have H1 := Lib.hid ((H0.out.step hb1).box 26 (.slice a1 (List.length (prodL rows' rows2)) C1)); have HU := Lib.hid (hu.at.below ((Below.refl w1.heap.size w1).alloc (Nat.le_refl _) (.cells #[.slice a1 (List.length (prodL rows' rows2)) C1] 26))); have hd0 := H1.out.cell 0 rfl; clear hu hb1 hc0 hc1 hc2) | (go_at_call 38; refine (HM.out _ _ H1.out.below HU.out).mono ?_; clear HM; rintro e w2 ⟨rfl, hb2⟩; have H2 := Lib.hid (H1.out.step hb2); clear hb2 hd0))
      refine bodyPost_ret (v := .tuple #[.slice (some ⟨w2.heap.size, 0, none⟩) 0 0, .slice (some ⟨w2.heap.size + 1, 0, none⟩) 0 0, .bool false]) (by simp [results, Tryd.results22, go_sem]) rfl ?_
      have hh := empty_two (W := w2) H2.out.below _ HE.out (show part1 rows rows' rows2 f = [] by unfold part1; rw [HE.out]; rfl) (show part2 rows rows' rows2 f = [] by unfold part2; rw [HE.out]; rfl)
      rw [HE.out]
      rw [HE.out] at hh
      exact hh
    | true =>
      have HE := Lib.hid (show partOk rows rows' rows2 f = true by unfold partOk; rw [h1, h2]; rfl)
      rw [h2] at HM
      obtain ⟨hD, _, hm⟩ := monoB_parts h2
      have hnn : rows'.length * rows2.length ≤ 200 := by
        unfold prodOk at h1
        rw [Bool.and_eq_true, decide_eq_true_iff] at h1
        exact h1.2
      have hl2 : 0 < rows2.length ∧ rows2.length ≤ 200 := by
        unfold prodOk at h1
        rw [Bool.and_eq_true, Bool.and_eq_true] at h1
        exact ⟨(domB_iff.1 h1.1.2).1.len.1, dom_len h1.1.2⟩
      have hfl : f.length ≤ 200 := by
        have h3 := hm.1
        have h4 := dom_len hD
        omega
      have HR := Lib.hid (show ∀ i (hi : i < f.length), ∃ q : Nat, f[i] = (q : Int) ∧ q ≤ 200 from fun i hi => by
        have h3 := hm.2.1 _ (List.getElem_mem hi)
        rw [(prodL_yes h1).1] at h3
        exact ⟨f[i].toNat, by omega, by omega⟩)
      obtain ⟨i0, hi0, hz0, hz1, hz2⟩ := info_parts infoInt
      clear hD hm h1 h2 hnn
      go_enter Tryd.func22, Tryd.ntmps22
      go_wp2_with (first | (go_at_call 46; refine (HP.out _ H0.out.below).mono ?_; clear HP; rintro e w1 ⟨u, rfl, hu, hb1⟩; obtain ⟨a1, C1, rfl⟩ := hu.form; have H1 := Lib.hid ((H0.out.step hb1).box 26 (.slice a1 (List.length (prodL rows' rows2)) C1)); have HU := Lib.hid (hu.at.below ((Below.refl w1.heap.size w1).alloc (Nat.le_refl _) (.cells #[.slice a1 (List.length (prodL rows' rows2)) C1] 26))); have hd0 := H1.out.cell 0 rfl; clear hu hb1 hc0 hc1 hc2) | (go_at_call 38; refine (HM.out _ _ H1.out.below HU.out).mono ?_; clear HM; rintro e w2 ⟨rfl, hb2⟩; have H2 := Lib.hid (H1.out.step hb2); clear hb2 hd0))
      have HO1 := Lib.hid (World.ownsRow_made (e := 3) (size := 1) w2 #[] 0 (base := w2.heap.size) (Nat.le_refl _) (Nat.zero_le _) (by simp))
      have HO2 := Lib.hid (World.ownsRow_made (e := 3) (size := 1) (w2.alloc (.cells #[] 3)) #[] 0 (base := w2.heap.size) (by rw [World.size_alloc]; omega) (Nat.zero_le _) (by simp))
      have HB2 := Lib.hid (((Below.refl w2.heap.size w2).alloc (Nat.le_refl _) (.cells #[] 3)).alloc (by rw [World.size_alloc]; omega) (.cells #[] 3))
      have hw2 : w.heap.size + 2 < w2.heap.size := H2.out.lt 2 rfl
      go_loopw [13, 14, 15] (fun o1 o2 kv wr => ∃ k g1 C1 g2 C2 : Nat, k ≤ f.length ∧ o1 = .slice (some ⟨g1, 0, none⟩) k C1 ∧ o2 = .slice (some ⟨g2, 0, none⟩) k C2 ∧ g1 ≠ g2 ∧ kv = .int .i64 k ∧ wr.ownsRow w2.heap.size 3 1 (.slice (some ⟨g1, 0, none⟩) k C1) k (cellsI (quoN f rows2.length k)) ∧ wr.ownsRow w2.heap.size 3 1 (.slice (some ⟨g2, 0, none⟩) k C2) k (cellsI (remN f rows2.length k)) ∧ Below w2.heap.size w2 wr) (fun _ _ kv _ => f.length - (intOf kv).toNat)
      case atStart =>
        have hx := HO2.out
        rw [World.size_alloc] at hx
        exact ⟨0, _, _, _, _, Nat.zero_le _, rfl, rfl, by omega, rfl, HO1.out.alloc _, hx, HB2.out⟩
      case round =>
        obtain ⟨k, g1, C1', g2, C2', hk, rfl, rfl, hne, rfl, ho1, ho2, hB⟩ := hrel
        have HOWN1 := Lib.hid ho1
        have HOWN2 := Lib.hid ho2
        have HB := Lib.hid hB
        have hg2 : g2 < wr.heap.size := (ho2.lt g2 rfl).2
        have hg1 : g1 < wr.heap.size := (ho1.lt g1 rfl).2
        clear ho1 ho2 hB HO1 HO2 HB2
        by_cases hlt : k < f.length
        · have HW := Lib.hid (H2.out.below.trans (HB.out.mono (by omega)))
          obtain ⟨b1, o1, rfl, hcf⟩ := (HFA.out wr HW.out).get hlt
          obtain ⟨q, hq, hq2⟩ := HR.out k hlt
          rw [hq] at hcf
          have hc2 : wr.cell? ⟨w.heap.size + 2, 0, none⟩ = some (.slice A2 rows2.length C2) := (HB.out.cell (p := ⟨w.heap.size + 2, 0, none⟩) hw2).trans (H2.out.cell 2 rfl)
          have hbz : w2.heap.size ≤ wr.heap.size := HB.out.size
          have HOA1 := Lib.hid fun X => HOWN1.out.alloc X
          have hrn : rows2 ≠ [] := fun e => by rw [e] at hl2; exact absurd hl2.1 (Nat.lt_irrefl 0)
          go_upto_region 9 with fail
          go_region_law ((refine step_append_lies _ (by rfl) _ _ 33 (by rfl) w2.heap.size 3 i0 (.int .i64 0) 1 8 Tryd.underlying33 hi0 hz0 hz1 hz2 rfl (by decide) (.slice (some ⟨g1, 0, none⟩) k C1') k (cellsI (quoN f rows2.length k)) (by rfl) (HOA1.out _) ⟨wr.heap.size, 0, none⟩ 1 1 [.int .i64 (IntKind.i64.wrap ((q : Int) / (rows2.length : Int)))] (by rfl) rfl (World.news_of_block (heap_alloc_new wr _)) (by simp [Value.oneCell']) (by omega) (by unfold maxLen; omega) (by omega) (by simp; omega) (wr.heap.size + 1) (by simp) ?_; intro g' cap' w3 hown hgrow hat hlt'))
          all_goals
            have HOWN1' := Lib.hid hown
            have HG1 := Lib.hid hgrow
            have HOWN2' := Lib.hid (owns_far (W := (wr.alloc (.cells #[.int .i64 (IntKind.i64.wrap ((q : Int) / (rows2.length : Int)))] 3)).drew) (HOWN2.out.alloc (.cells #[.int .i64 (IntKind.i64.wrap ((q : Int) / (rows2.length : Int)))] 3)) hgrow (.inr (by simp [Value.ownBlock]; omega)))
            have HBX := Lib.hid ((HB.out.alloc hbz (.cells #[.int .i64 (IntKind.i64.wrap ((q : Int) / (rows2.length : Int)))] 3)).grown ⟨hgrow.os, hgrow.tape, hgrow.output, hgrow.size, hgrow.block⟩ (by rw [World.size_alloc]; omega) (fun b e => (HOWN1.out.lt b e).1))
            have hg' : g' ≠ g2 := by
              rcases hat with h | h
              · simp [Value.ownBlock] at h; omega
              · omega
            clear hown hgrow hat hcf hc2
            have HW' := Lib.hid (H2.out.below.trans (HBX.out.mono (show w.heap.size ≤ w2.heap.size by omega)))
            obtain ⟨b3, o3, e3, hcf⟩ := (HFA.out w3 HW'.out).get hlt
            cases e3
            rw [hq] at hcf
            have hc2 : w3.cell? ⟨w.heap.size + 2, 0, none⟩ = some (.slice A2 rows2.length C2) := (HBX.out.cell (p := ⟨w.heap.size + 2, 0, none⟩) hw2).trans (H2.out.cell 2 rfl)
            have hbz' : w2.heap.size ≤ w3.heap.size := HBX.out.size
            have HOA2 := Lib.hid fun X => HOWN2'.out.alloc X
            go_upto_region 10 with fail
            go_region_law ((refine step_append_lies _ (by rfl) _ _ 33 (by rfl) w2.heap.size 3 i0 (.int .i64 0) 1 8 Tryd.underlying33 hi0 hz0 hz1 hz2 rfl (by decide) (.slice (some ⟨g2, 0, none⟩) k C2') k (cellsI (remN f rows2.length k)) (by rfl) (HOA2.out _) ⟨w3.heap.size, 0, none⟩ 1 1 [.int .i64 ((q : Int).tmod (rows2.length : Int))] (by rfl) rfl (World.news_of_block (heap_alloc_new w3 _)) (by simp [Value.oneCell']) (by omega) (by unfold maxLen; omega) (by omega) (by simp; omega) (w3.heap.size + 1) (by simp) ?_; intro g2' cap2' w4 hown hgrow hat hlt2'))
            all_goals
              have hne' : g' ≠ g2' := by
                rcases hat with h | h
                · simp [Value.ownBlock] at h; omega
                · omega
              have hO1 := owns_far (W := (w3.alloc (.cells #[.int .i64 ((q : Int).tmod (rows2.length : Int))] 3)).drew) (HOWN1'.out.alloc (.cells #[.int .i64 ((q : Int).tmod (rows2.length : Int))] 3)) hgrow (.inr (by simp [Value.ownBlock]; omega))
              have hBY := (HBX.out.alloc hbz' (.cells #[.int .i64 ((q : Int).tmod (rows2.length : Int))] 3)).grown ⟨hgrow.os, hgrow.tape, hgrow.output, hgrow.size, hgrow.block⟩ (by rw [World.size_alloc]; omega) (fun b e => (HOWN2'.out.lt b e).1)
              have eD : (f.getD k 0).toNat = q := by rw [getD_lt 0 hlt, hq]; rfl
              have eQ : IntKind.i64.wrap ((q : Int) / (rows2.length : Int)) = ((q / rows2.length : Nat) : Int) := by
                rw [← Int.natCast_ediv]
                have h5 := Nat.div_le_self q rows2.length
                generalize q / rows2.length = z at h5 ⊢
                exact IntWalk.i64_in _ (by omega)
              have eR : (q : Int).tmod (rows2.length : Int) = ((q % rows2.length : Nat) : Int) := (Int.ofNat_tmod q rows2.length).symm
              rw [eQ] at hO1
              rw [eR] at hown
              have HO1' := Lib.hid hO1
              have HO2' := Lib.hid hown
              have HBY := Lib.hid hBY
              clear hO1 hown hBY hgrow hat hcf hc2 eQ eR
              go_wp2
              go_roundw
              case rel =>
                refine ⟨k + 1, g', cap', g2', cap2', by omega, rfl, rfl, hne', by go_num, ?_, ?_, HBY.out⟩
                · rw [quoN_succ, eD, show cellsI (quoN f rows2.length k ++ [((q / rows2.length : Nat) : Int)]) = cellsI (quoN f rows2.length k) ++ [.int .i64 ((q / rows2.length : Nat) : Int)] by simp]
                  exact HO1'.out
                · rw [remN_succ, eD, show cellsI (remN f rows2.length k ++ [((q % rows2.length : Nat) : Int)]) = cellsI (remN f rows2.length k) ++ [.int .i64 ((q % rows2.length : Nat) : Int)] by simp]
                  exact HO2'.out
              case measure => simp [intOf]; omega
        · obtain rfl : k = f.length := by omega
          go_wp2
          refine bodyPost_ret (v := .tuple #[.slice (some ⟨g1, 0, none⟩) f.length C1', .slice (some ⟨g2, 0, none⟩) f.length C2', .bool true]) (by simp [results, Tryd.results22, go_sem]) rfl ?_
          have hwf := part_wf (n := rows2.length) (k := f.length) (f := f) (fun i hi => by obtain ⟨q, hq, hq2⟩ := HR.out i hi; rw [getD_lt 0 hi, hq]; omega) hl2.2 hl2.1
          refine ⟨_, _, by rw [HE.out], ?_, ?_, .inr (by simp [Value.ownBlock]; omega), H2.out.below.trans (HB.out.mono (by omega))⟩
          · unfold part1
            rw [if_pos HE.out]
            refine OwnI.of_owns ?_ hwf.1 (fun b hb => (HOWN1.out.lt b hb).2)
            rw [quoN_length]
            exact owns_weaker HOWN1.out (by omega)
          · unfold part2
            rw [if_pos HE.out]
            refine OwnI.of_owns ?_ hwf.2 (fun b hb => (HOWN2.out.lt b hb).2)
            rw [remN_length]
            exact owns_weaker HOWN2.out (by omega)
end Go.Proofs.YtppjogkednclcaaDoor
