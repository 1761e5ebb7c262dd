/- The walks of rowsOf and built at sum. -/
import Derived.Test.YtkomghohdhengaaDoorPc22
import Derived.Test.YtkomghohdhengaaDoorPc19
import Derived.Test.YtkomghohdhengaaDoorPc8
import Derived.Test.YtkomghohdhengaaDoorPc13
import Derived.Deep.RegionLaw
import Derived.Deep.AppendLies
import Derived.Test.YtkomghohdhengaaDoorPc20
import Derived.Test.YtkomghohdhengaaDoorPc1
import Derived.Deep.RegionHeld3
import Derived.Laws.Tables
import Derived.Lib.QuietBelow
import Derived.BigQuiet
import Derived.Test.YtkomghohdhengaaDoorPc16
namespace Go.Proofs.YtkomghohdhengaaDoor
open Go.RowKit Go.Deep Go.Shelf

end Go.Proofs.YtkomghohdhengaaDoor

/- The program's DomainSum. -/
namespace Go.Proofs.YtkomghohdhengaaDoor
open Go.RowKit Go.Deep Go.Shelf

/-- What domainOf answers: a pointer, and whether there is one. -/
def DomP (rows : Rows2) (w : World) (e : Ending) (w' : World) : Prop :=
  (∃ q, e = .returned (.tuple #[.pointer q, .bool (domB rows)]) ∧ (domB rows = true → ∃ p, q = some ⟨p, 0, none⟩ ∧ GridAt w' p (gridF rows))) ∧ Below w.heap.size w w'
theorem domainOf_any (v : Value) (rows : Rows2) (w : World) (hv : RowsAt w v rows) (hT : Tab w) (hn : bulk rows ≤ 1048576) :
    Calls Tryd.prog 102 #[.agg #[v]] w (DomP rows w) := by
  cases h : domB rows with
  | false =>
    refine (domainOf_no v rows w hv hT hn h).mono fun e w' hp => ?_
    obtain ⟨rfl, hb⟩ := hp
    exact ⟨⟨_, by rw [h], fun h' => by rw [h] at h'; cases h'⟩, hb⟩
  | true =>
    refine (domainOf_yes v rows w hv hT hn h).mono fun e w' hp => ?_
    obtain ⟨⟨p, rfl, _, hg⟩, hb⟩ := hp
    exact ⟨⟨_, by rw [h], fun _ => ⟨p, rfl, hg⟩⟩, hb⟩

/-- Two orders in their variables, and the result's. -/
structure TwoR (w : World) (v v' : Value) (rows rows' : Rows2) (W : World) : Prop where
  r0 : RowsAt W v rows
  r1 : RowsAt W v' rows'
  c0 : W.cell? ⟨w.heap.size, 0, none⟩ = some v
  c1 : W.cell? ⟨w.heap.size + 1, 0, none⟩ = some v'
  res : Boxed W (w.heap.size + 2) 25 (.slice none 0 0)
  below : Below w.heap.size w W
theorem TwoR.step {w : World} {v v' : Value} {rows rows' : Rows2} {W W' : World} (h : TwoR w v v' rows rows' W) (hb : Below W.heap.size W W') : TwoR w v v' rows rows' W' :=
  ⟨h.r0.below hb, h.r1.below hb, (hb.cell (p := ⟨w.heap.size, 0, none⟩) (cell_lt h.c0)).trans h.c0, (hb.cell (p := ⟨w.heap.size + 1, 0, none⟩) (cell_lt h.c1)).trans h.c1, (hb.block _ h.res.lt).trans h.res, h.below.trans (hb.mono h.below.size)⟩
theorem TwoR.start (w : World) {v v' : Value} {rows rows' : Rows2} (hv : RowsAt w v rows) (hv' : RowsAt w v' rows') :
    TwoR w v v' rows rows' (((w.alloc (.cells #[v] 25)).alloc (.cells #[v'] 25)).alloc (.cells #[.slice none 0 0] 25)) := by
  have s1 : (w.alloc (.cells #[v] 25)).heap.size = w.heap.size + 1 := World.size_alloc _ _
  have s2 : ((w.alloc (.cells #[v] 25)).alloc (.cells #[v'] 25)).heap.size = w.heap.size + 2 := by rw [World.size_alloc, s1]
  have b1 := ((Below.refl w.heap.size w).alloc (Nat.le_refl _) (.cells #[v] 25)).alloc (by rw [s1]; omega) (.cells #[v'] 25)
  have b2 := b1.alloc (by rw [s2]; omega) (.cells #[.slice none 0 0] 25)
  have x0 := ((Boxed.new w 25 v).alloc (.cells #[v'] 25)).alloc (.cells #[.slice none 0 0] 25)
  have x1 := (Boxed.new (w.alloc (.cells #[v] 25)) 25 v').alloc (.cells #[.slice none 0 0] 25)
  have x2 := Boxed.new ((w.alloc (.cells #[v] 25)).alloc (.cells #[v'] 25)) 25 (.slice none 0 0)
  rw [s1] at x1
  rw [s2] at x2
  exact ⟨hv.below b2, hv'.below b2, x0.cell, x1.cell, x2, b2⟩

noncomputable def sumRow (rows rows' : Rows2) (q : Nat) : List Int := bRow (sumB (gridF rows) (gridF rows') rows.length) q (1 + rows.length + rows'.length)
/-- No order. -/
theorem orderP_no {xs : Rows2} {t : Bool} {w W : World} {b : Nat} (hx : xs = []) (ht : t = false) (hb : Below w.heap.size w W) (hl : w.heap.size ≤ b) (u : Value) : OrderP xs t w (.returned (.tuple #[.agg #[.slice none 0 0], .bool false])) (W.setCell ⟨b, 0, none⟩ u) := by
  subst hx ht
  exact ⟨_, rfl, OwnR.nil _ _ _ _ _ _, hb.setCell (p := ⟨b, 0, none⟩) hl _⟩

end Go.Proofs.YtkomghohdhengaaDoor

/- The program's DomainProduct. -/
namespace Go.Proofs.YtkomghohdhengaaDoor
open Go.RowKit Go.Deep Go.Shelf

/-- What DomainProduct answers. -/
noncomputable def prodOk (rows rows' : Rows2) : Bool := domB rows && domB rows' && decide (rows.length * rows'.length ≤ 200)
noncomputable def prodRow (rows rows' : Rows2) (q : Nat) : List Int := bRow (prodB (gridF rows) (gridF rows') rows'.length) q (rows.length * rows'.length)
noncomputable def prodL (rows rows' : Rows2) : Rows2 := if prodOk rows rows' = true then (List.range (rows.length * rows'.length)).map (prodRow rows rows') else []
theorem prodL_yes {rows rows' : Rows2} (h : prodOk rows rows' = true) : (prodL rows rows').length = rows.length * rows'.length ∧ ∀ q, q < rows.length * rows'.length → rowsF (prodL rows rows') q = prodRow rows rows' q := by
  unfold prodL
  rw [if_pos h]
  refine ⟨by simp, fun q hq => ?_⟩
  rw [rowsF_lt (by simpa using hq)]
  simp
theorem prodL_no {rows rows' : Rows2} (h : prodOk rows rows' = false) : prodL rows rows' = [] := by unfold prodL; rw [if_neg (by rw [h]; simp)]
end Go.Proofs.YtkomghohdhengaaDoor

/- The rows of a product, in the model's words and in the program's. -/
namespace Go.Proofs.YtkomghohdhengaaDoor
open Go.RowKit Go.Deep

theorem flat_filterR {α β : Type} (G : α → Bool) (f : α → List β) : ∀ xs : List α, (xs.filter G).flatMap f = xs.flatMap fun j => if G j = true then f j else []
  | [] => rfl
  | x :: xs => by
    rw [List.filter_cons]
    cases h : G x with
    | true => rw [if_pos rfl, List.flatMap_cons, List.flatMap_cons, flat_filterR G f xs, if_pos h]
    | false => rw [if_neg (by simp), List.flatMap_cons, flat_filterR G f xs, if_neg (by rw [h]; simp), List.nil_append]
theorem range_flat {n' : Nat} (hn : 0 < n') (G H : Nat → Bool) : ∀ m, (List.range (m * n')).filter (fun k => G (k / n') && H (k % n')) = (List.range m).flatMap fun j => if G j = true then ((List.range n').filter H).map (fun r => j * n' + r) else []
  | 0 => by simp
  | m + 1 => by
    rw [Nat.succ_mul, List.range_add, List.filter_append, range_flat hn G H m, List.range_succ, List.flatMap_append]
    congr 1
    rw [List.flatMap_cons, List.flatMap_nil, List.append_nil, List.filter_map]
    have h : ∀ r ∈ List.range n', ((fun k => G (k / n') && H (k % n')) ∘ fun x => m * n' + x) r = (G m && H r) := fun r hr => by
      rw [List.mem_range] at hr
      show (G ((m * n' + r) / n') && H ((m * n' + r) % n')) = _
      rw [Nat.add_comm, Nat.add_mul_div_right _ _ hn, Nat.add_mul_mod_self_right, Nat.div_eq_of_lt hr, Nat.mod_eq_of_lt hr, Nat.zero_add]
    rw [List.filter_congr h]
    cases hG : G m with
    | true => simp
    | false => simp

/-- Row q of the product when i elements of the first one's row have been looked at. -/
def catP (rows rows' : Rows2) (q i : Nat) : List Int := ((rowsF rows (q / rows'.length)).take i).flatMap fun x => movedN (rowsF rows' (q % rows'.length)) (x * (rows'.length : Int)) (rowsF rows' (q % rows'.length)).length
def prodR (rows rows' : Rows2) (q : Nat) : List Int := catP rows rows' q (rowsF rows (q / rows'.length)).length
theorem elems_row {rows : Rows2} (h : Ok rows) {i : Nat} (hi : i < rows.length) : rowsF rows i = ((List.range rows.length).filter fun k => (gridF rows i).testBit k).map fun k : Nat => (k : Int) := by
  rw [rowsF_lt hi, h.elems hi]
  congr 1
  unfold elems
  exact filter_short (fun k hk => (h.bit_lt hk).2) (by have := h.len.2; omega)
theorem prodR_row {rows rows' : Rows2} (h : Ok rows) (h' : Ok rows') {q : Nat} (hq : q < rows.length * rows'.length) : prodR rows rows' q = prodRow rows rows' q := by
  have hn := h'.len.1
  have hqa : q / rows'.length < rows.length := Nat.div_lt_of_lt_mul (by rw [Nat.mul_comm]; exact hq)
  have hra : q % rows'.length < rows'.length := Nat.mod_lt _ (by omega)
  unfold prodR catP prodRow bRow prodB movedN
  rw [List.take_length, List.take_length, elems_row h hqa, elems_row h' hra, List.flatMap_map, flat_filterR, range_flat (by omega) (fun k => (gridF rows (q / rows'.length)).testBit k) (fun k => (gridF rows' (q % rows'.length)).testBit k), List.map_flatMap]
  congr 1
  funext j
  by_cases hb : (gridF rows (q / rows'.length)).testBit j = true
  · rw [if_pos hb, if_pos hb, List.map_map, List.map_map]
    apply List.map_congr_left
    intro r _
    show (r : Int) + (j : Int) * (rows'.length : Int) = ((j * rows'.length + r : Nat) : Int)
    rw [Int.natCast_add, Int.natCast_mul, Int.add_comm]
  · rw [if_neg hb, if_neg hb]
    rfl
theorem catP_succ {rows rows' : Rows2} {q i : Nat} (hi : i < (rowsF rows (q / rows'.length)).length) : catP rows rows' q (i + 1) = catP rows rows' q i ++ movedN (rowsF rows' (q % rows'.length)) ((rowsF rows (q / rows'.length))[i] * (rows'.length : Int)) (rowsF rows' (q % rows'.length)).length := by
  unfold catP
  rw [List.take_succ_eq_append_getElem hi, List.flatMap_append]
  simp
theorem catP_len {rows rows' : Rows2} {q : Nat} : ∀ i, i ≤ (rowsF rows (q / rows'.length)).length → (catP rows rows' q i).length = i * (rowsF rows' (q % rows'.length)).length
  | 0, _ => by unfold catP; simp
  | i + 1, h => by
    rw [catP_succ h, List.length_append, catP_len i (by omega), movedN_length (Nat.le_refl _), Nat.succ_mul]
theorem catP_range {rows rows' : Rows2} (h : Ok rows) (h' : Ok rows') {q i : Nat} (hq : q < rows.length * rows'.length) : ∀ x ∈ catP rows rows' q i, 0 ≤ x ∧ x ≤ 1048576 := by
  intro x hx
  have hn := h'.len
  have hqa : q / rows'.length < rows.length := Nat.div_lt_of_lt_mul (by rw [Nat.mul_comm]; exact hq)
  have hra : q % rows'.length < rows'.length := Nat.mod_lt _ (by omega)
  unfold catP at hx
  obtain ⟨y, hy, hxy⟩ := List.mem_flatMap.1 hx
  have hy2 := List.mem_of_mem_take hy
  rw [rowsF_lt hqa] at hy2
  have ry := (h.asc _ hqa).2 y hy2
  unfold movedN at hxy
  rw [List.take_length] at hxy
  obtain ⟨z, hz, rfl⟩ := List.mem_map.1 hxy
  rw [rowsF_lt hra] at hz
  have rz := (h'.asc _ hra).2 z hz
  have hl := h.len.2
  have h1 := Int.mul_nonneg ry.1 (show (0 : Int) ≤ (rows'.length : Int) by omega)
  have h2 : y * (rows'.length : Int) ≤ 200 * 200 := Int.mul_le_mul (by omega) (by omega) (by omega) (by omega)
  omega
end Go.Proofs.YtkomghohdhengaaDoor

/- The product of two domains is a domain; monotone functions to it. Plain facts: no function is walked here. -/
namespace Go.Proofs.YtkomghohdhengaaDoor
open Go.RowKit Go.Deep

theorem prodL_made {rows rows' : Rows2} (h : prodOk rows rows' = true) : prodL rows rows' = madeL (prodB (gridF rows) (gridF rows') rows'.length) (rows.length * rows'.length) := by
  unfold prodL
  rw [if_pos h]
  rfl
theorem pair_parts {n' x y : Nat} (hy : y < n') : (x * n' + y) / n' = x ∧ (x * n' + y) % n' = y := by
  constructor
  · rw [Nat.add_comm, Nat.add_mul_div_right _ _ (by omega), Nat.div_eq_of_lt hy, Nat.zero_add]
  · rw [Nat.add_comm, Nat.add_mul_mod_self_right, Nat.mod_eq_of_lt hy]
theorem pair_lt {n n' x y : Nat} (hx : x < n) (hy : y < n') : x * n' + y < n * n' := by
  have := Nat.mul_le_mul_right n' (show x + 1 ≤ n from hx)
  rw [Nat.succ_mul] at this
  omega
theorem pair_eq {n' a b : Nat} (h1 : a / n' = b / n') (h2 : a % n' = b % n') : a = b := by
  rw [← Nat.div_add_mod a n', ← Nat.div_add_mod b n', h1, h2]

theorem prod_dom {rows rows' : Rows2} (h : prodOk rows rows' = true) : domB (prodL rows rows') = true := by
  have h' := h
  unfold prodOk at h'
  rw [Bool.and_eq_true, Bool.and_eq_true, decide_eq_true_iff] at h'
  obtain ⟨⟨hd, hd'⟩, hl⟩ := h'
  obtain ⟨ok, ⟨m, hm, hme⟩, hj⟩ := domB_iff.1 hd
  obtain ⟨ok', ⟨m', hm', hme'⟩, hj'⟩ := domB_iff.1 hd'
  rw [prodL_made h]
  have n1 := ok.len
  have n2 := ok'.len
  have hq : ∀ a, a < rows.length * rows'.length → a / rows'.length < rows.length := fun a ha => Nat.div_lt_of_lt_mul (by rw [Nat.mul_comm]; exact ha)
  have hr : ∀ a, a % rows'.length < rows'.length := fun a => Nat.mod_lt _ (by omega)
  have hand : ∀ p q r s : Bool, ((p && q) && (r && s)) = ((p && r) && (q && s)) := by decide
  refine made_dom (Nat.mul_pos n1.1 n2.1) hl (fun a ha => ?_) (fun a b ha hb hab hne => ?_) (fun a b c ha hb hc hab hbc => ?_) ⟨m * rows'.length + m', pair_lt hm hm', fun k hk => ?_⟩ (fun a b ha hb hc => ?_)
  · unfold prodB
    rw [ok.own _ (hq a ha), ok'.own _ (hr a)]
    rfl
  · unfold prodB at hab ⊢
    rw [Bool.and_eq_true] at hab
    by_cases e : b / rows'.length = a / rows'.length
    · rw [ok'.anti _ _ (hr a) hab.2 (fun e2 => hne (pair_eq e e2)), Bool.and_false]
    · rw [ok.anti _ _ (hq a ha) hab.1 e, Bool.false_and]
  · unfold prodB at hab hbc ⊢
    rw [Bool.and_eq_true] at hab hbc
    rw [ok.trans _ _ (hq a ha) hab.1 _ hbc.1, ok'.trans _ _ (hr a) hab.2 _ hbc.2]
    rfl
  · unfold prodB
    obtain ⟨e1, e2⟩ := pair_parts (x := m) hm'
    rw [e1, e2, hme, hme', testBit_allF, testBit_allF, decide_eq_true (hq k hk), decide_eq_true (hr k)]
    rfl
  · obtain ⟨c, hcl, h1, h2⟩ := hc
    unfold prodB at h1 h2
    rw [Bool.and_eq_true] at h1 h2
    have hne1 : gridF rows (a / rows'.length) &&& gridF rows (b / rows'.length) ≠ 0 := fun e => by
      have := congrArg (fun n => n.testBit (c / rows'.length)) e
      simp only [Nat.testBit_and, h1.1, h2.1, Nat.zero_testBit] at this
      cases this
    have hne2 : gridF rows' (a % rows'.length) &&& gridF rows' (b % rows'.length) ≠ 0 := fun e => by
      have := congrArg (fun n => n.testBit (c % rows'.length)) e
      simp only [Nat.testBit_and, h1.2, h2.2, Nat.zero_testBit] at this
      cases this
    obtain ⟨c1, hc1, e1⟩ := hj _ _ (hq a ha) (hq b hb) hne1
    obtain ⟨c2, hc2, e2⟩ := hj' _ _ (hr a) (hr b) hne2
    refine ⟨c1 * rows'.length + c2, pair_lt hc1 hc2, fun k _ => ?_⟩
    unfold prodB
    obtain ⟨p1, p2⟩ := pair_parts (x := c1) hc2
    rw [p1, p2, e1, e2, Nat.testBit_and, Nat.testBit_and, hand]

/-- The list f is a monotone function of n elements with the relation F to N elements with the relation B. -/
def MonoQ (F B : Nat → Nat → Bool) (n N : Nat) (f : List Int) : Prop :=
  f.length = n ∧ (∀ x ∈ f, outN N x = false) ∧ ∀ a b : Nat, a < n → b < n → F a b = true → B (f.getD a 0).toNat (f.getD b 0).toNat = true
theorem mono_made {rows : Rows2} {B : Nat → Nat → Bool} {N : Nat} (h : Ok rows) (f : List Int) : monoI rows (madeL B N) f = true ↔ MonoQ (bitB (gridF rows)) B rows.length N f := by
  classical
  unfold monoI
  rw [decide_eq_true_iff]
  have e : ∀ x : Int, outN N x = false ↔ (0 ≤ x ∧ x < (N : Int)) := fun x => by
    unfold outN
    rw [Bool.or_eq_false_iff, decide_eq_false_iff_not, decide_eq_false_iff_not]
    omega
  have hup : ∀ a b : Nat, a < N → b < N → (upB (madeL B N) a (b : Int) = true ↔ B a b = true) := fun a b ha hb => by
    unfold upB
    rw [getD_at [] (by rw [madeL_len]; exact ha), madeL_at, decide_eq_true_iff, bRow_mem]
    constructor
    · rintro ⟨k, _, h2, e3⟩
      obtain rfl : b = k := by omega
      exact h2
    · intro h2
      exact ⟨b, hb, h2, rfl⟩
  unfold Mono MonoQ bitB
  rw [madeL_len]
  constructor
  · rintro ⟨h1, h2, h3⟩
    refine ⟨h1, fun x hx => (e x).2 (h2 x hx), fun a b ha hb hab => ?_⟩
    have h4 := h3 a b ha hb (by rw [h.up ha]; exact hab)
    have hfa := h2 _ (getD_lt 0 (h1 ▸ ha) ▸ List.getElem_mem (h1 ▸ ha))
    have hfb := h2 _ (getD_lt 0 (h1 ▸ hb) ▸ List.getElem_mem (h1 ▸ hb))
    rw [← Int.toNat_of_nonneg hfb.1, hup _ _ (by omega) (by omega)] at h4
    exact h4
  · rintro ⟨h1, h2, h3⟩
    refine ⟨h1, fun x hx => (e x).1 (h2 x hx), fun a b ha hb hab => ?_⟩
    have h4 := h3 a b ha hb (by rw [← h.up ha]; exact hab)
    have ma : f.getD a 0 ∈ f := getD_lt 0 (h1 ▸ ha) ▸ List.getElem_mem (h1 ▸ ha)
    have mb : f.getD b 0 ∈ f := getD_lt 0 (h1 ▸ hb) ▸ List.getElem_mem (h1 ▸ hb)
    have hfa := (e _).1 (h2 _ ma)
    have hfb := (e _).1 (h2 _ mb)
    rw [← Int.toNat_of_nonneg hfb.1, hup _ _ (by omega) (by omega)]
    exact h4
end Go.Proofs.YtkomghohdhengaaDoor

/- The model's order of some elements (l2Within). -/
namespace Go.Proofs.YtkomghohdhengaaDoor
open Go.RowKit Go.Deep

end Go.Proofs.YtkomghohdhengaaDoor

/- The elements below an element: what DomainCut answers. Plain facts: no function is walked here. -/
namespace Go.Proofs.YtkomghohdhengaaDoor
open Go.RowKit Go.Deep

end Go.Proofs.YtkomghohdhengaaDoor

/- The program's look for the starts of a function (fun.starts). -/
namespace Go.Proofs.YtkomghohdhengaaDoor
open Go.RowKit Go.Deep Go.Shelf

/-- A variable of two cells, the first new block of a call. -/
structure Bx (w : World) (a b : Value) (W : World) : Prop where
  c0 : W.cell? ⟨w.heap.size, 0, none⟩ = some a
  c1 : W.cell? ⟨w.heap.size, 1, none⟩ = some b
  below : Below w.heap.size w W
theorem Bx.lt {w : World} {a b : Value} {W : World} (h : Bx w a b W) : w.heap.size + 1 ≤ W.heap.size := cell_lt h.c0
theorem Bx.far {w : World} {a b : Value} {W W' : World} (h : Bx w a b W) (hb : Below (w.heap.size + 1) W W') : Bx w a b W' :=
  ⟨(hb.cell (p := ⟨w.heap.size, 0, none⟩) (Nat.lt_succ_self _)).trans h.c0, (hb.cell (p := ⟨w.heap.size, 1, none⟩) (Nat.lt_succ_self _)).trans h.c1, h.below.trans (hb.mono (Nat.le_succ _))⟩
theorem Bx.step {w : World} {a b : Value} {W W' : World} (h : Bx w a b W) (hb : Below W.heap.size W W') : Bx w a b W' := h.far (hb.mono h.lt)
theorem Bx.start (w : World) (a b : Value) (t : TypeId) : Bx w a b (w.alloc (.cells #[a, b] t)) :=
  ⟨by rw [cell_of_row _ w.heap.size 0 _ _ _ (heap_alloc_new _ _)]; rfl, by rw [cell_of_row _ w.heap.size 1 _ _ _ (heap_alloc_new _ _)]; rfl, (Below.refl _ w).alloc (Nat.le_refl _) _⟩

/-- A store of a whole array into a variable, as one step of a region that draws. -/
theorem step_store_row {P : Program} {ops : Array Oper} {o : Oper} {a : Act} {w : World} {K : Act → World → Prop} {Q : Exit → Act → World → Prop} {E : Prop} (hgd : o.guard = none) (ty : TypeId) (x y : Operand) (ho : o.op = .store ty x y)
    (g : Nat) (cells : Array Value) (hx : a.eval x = .pointer (some ⟨g, 0, none⟩)) (hy : a.eval y = .agg cells)
    (t : TypeId) (old : Array Value) (hg : w.heap[g]? = some (.cells old t (0, 0))) (hi : (P.info? ty).map (·.size) = some cells.size)
    (hold : old.size = cells.size) (h1 : cells.all (·.oneCell') = true)
    (h : K (a.put o.dst undef) (w.setRow g cells)) : if Region.wanted o (yielded ops a.tmps) = true then Oper.wp P o a w K Q else E := by
  have hw : Region.wanted o (yielded ops a.tmps) = true := by simp [Region.wanted, hgd]
  rw [if_pos hw]
  exact wp_store_row ty x y ho g cells hx hy t old hg hi hold h1 h

theorem starts_eq {rows : Rows2} (h : Ok rows) {f : List Int} (hf : f.length = rows.length) {le : Int} {i : Nat} (hi : i < f.length) :
    startT rows f le i f.length = (!(f[i] == le) && !onB f (diff (gridF (backRows rows) i) (2 ^ i)) f[i]) := by
  unfold startT
  rw [getD_lt 0 hi]
  congr 1
  have hbit : ∀ k, (diff (gridF (backRows rows) i) (2 ^ i)).testBit k = ((gridF rows k).testBit i && !decide (i = k)) := fun k => by
    rw [testBit_diff, back_bit h, Nat.testBit_two_pow]
  have hlt : diff (gridF (backRows rows) i) (2 ^ i) < 2 ^ 256 := diff_lt _ (h.back.lt i)
  rw [Bool.eq_iff_iff, List.all_eq_true, Bool.not_eq_true', ← Bool.not_eq_true]
  unfold onB
  rw [List.any_eq_true]
  constructor
  · rintro hall ⟨k, hk, he⟩
    rw [mem_elems hlt, hbit, Bool.and_eq_true, Bool.not_eq_true', decide_eq_false_iff_not] at hk
    have hkl := (h.bit_lt hk.1).1
    have hp := hall k (List.mem_range.2 (by omega))
    unfold startP at hp
    rw [h.up hkl, hk.1, getD_lt 0 hi, he, show (k == i) = false by rw [beq_eq_false_iff_ne]; omega] at hp
    cases hp
  · intro hno k hk
    rw [List.mem_range] at hk
    unfold startP
    by_cases e : k = i
    · rw [show (k == i) = true by rw [beq_iff_eq]; exact e]; rfl
    · cases hu : upB rows k (i : Int) with
      | false => simp
      | true =>
        cases hq : (f.getD k 0 == f.getD i 0) with
        | false => simp
        | true =>
          exfalso
          rw [h.up (by omega)] at hu
          rw [getD_lt 0 hi] at hq
          exact hno ⟨k, (mem_elems hlt).2 (by rw [hbit, hu, decide_eq_false (fun e2 => e e2.symm)]; rfl), hq⟩

set_option maxRecDepth 100000 in
set_option maxHeartbeats 8000000 in
theorem starts_any (vf : Value) (f : List Int) (p p' : Nat) (rows rows' : Rows2) (w : World) (hf : IntsAt w vf f) (hg : GridAt w p (gridF rows)) (hg' : GridAt w p' (gridF rows')) (hT : Tab w) (hok : Ok rows) (hok' : Ok rows') (hfl : f.length = rows.length) :
    Calls Tryd.prog 96 #[vf, .agg #[.pointer (some ⟨p, 0, none⟩), .pointer (some ⟨p', 0, none⟩)]] w (OwnQ (startsN rows rows' f f.length) w) := by
  have hE := Bx.start w (.pointer (some ⟨p, 0, none⟩)) (.pointer (some ⟨p', 0, none⟩)) 72
  have HLE := Lib.hid (fun W (h : Bx w (.pointer (some ⟨p, 0, none⟩)) (.pointer (some ⟨p', 0, none⟩)) W) => (show Calls Tryd.prog 92 #[.pointer (some ⟨p', 0, none⟩)] W (SaysI (leastI rows') W) by
    rw [least_eq hok']
    exact least_any p' rows'.length (gridF rows') W (hg'.below h.below hg'.lt) (hT.below h.below) hok'.gridN))
  have HBK := Lib.hid (fun W (h : Bx w (.pointer (some ⟨p, 0, none⟩)) (.pointer (some ⟨p', 0, none⟩)) W) => (show Calls Tryd.prog 84 #[.pointer (some ⟨p, 0, none⟩)] W (SaysG (gridF (backRows rows)) W) by
    rw [← backN_rows hok]
    exact back_any p rows.length (gridF rows) W (hg.below h.below hg.lt) (hT.below h.below) hok.gridN (fun i _ k hk => hok.lt200 ((mem_elems (hok.lt i)).1 hk))))
  have hz := (zero_of_info zeroGrid).1
  have HLT := Lib.hid hok.back.lt
  have HFA := Lib.hid (fun W (h : Below w.heap.size w W) => hf.below h)
  have HTA := Lib.hid (fun W (h : Below w.heap.size w W) => hT.below h)
  have HEQ := Lib.hid (fun i (hi : i < f.length) => starts_eq (le := leastI rows') hok hfl hi)
  have HEL := Lib.hid (fun (i : Nat) (_ : i < f.length) j (hj : j ∈ elems (diff (gridF (backRows rows) i) (2 ^ i))) => (show j < f.length by
    rw [mem_elems (diff_lt _ (hok.back.lt i)), testBit_diff, Bool.and_eq_true] at hj
    have := (hok.back.bit_lt hj.1).2
    rw [backRows_len] at this
    omega))
  have hn200 : f.length ≤ 200 := by rw [hfl]; exact hok.len.2
  obtain ⟨Af, Cf, rfl, hCf, hmf, _⟩ := hf
  unfold maxLen at hmf
  obtain ⟨i0, hi0, hz0, hz1, hz2⟩ := info_parts infoInt
  generalize hle : leastI rows' = le at HLE HEQ
  have HLQ := Lib.hid hle
  obtain ⟨WB, hWB⟩ : ∃ WB, WB = w.alloc (.cells #[.pointer (some ⟨p, 0, none⟩), .pointer (some ⟨p', 0, none⟩)] 72) := ⟨_, rfl⟩
  rw [← hWB] at hE
  have HE := Lib.hid hE
  clear hE hg hg' hT hok hok' hfl hle
  go_enter Tryd.func96, Tryd.ntmps96
  go_upto_region 1 with fail
  rw [← hWB]
  clear hWB
  go_cut [5, 6] (fun lv pv wx => ∃ G, lv = .int .i64 le ∧ pv = .pointer (some ⟨G, 0, none⟩) ∧ w.heap.size + 1 ≤ G ∧ GridAt wx G (gridF (backRows rows)) ∧ Bx w (.pointer (some ⟨p, 0, none⟩)) (.pointer (some ⟨p', 0, none⟩)) wx)
  case first =>
    refine wp_region_held_drew (S := fun W' : World => W'.cell? ⟨w.heap.size, 0, none⟩ = some (.pointer (some ⟨p, 0, none⟩)) ∧ W'.cell? ⟨w.heap.size, 1, none⟩ = some (.pointer (some ⟨p', 0, none⟩))) (by kernel_rfl) ⟨HE.out.c0, HE.out.c1⟩ (fun hHeld => ?_)
    have E0 := Lib.hid (HE.out.step (below_drew WB _))
    generalize WB.drew = W0 at E0 hHeld ⊢
    refine wpAnyH_take (i := 0) (v := .pointer (some ⟨w.heap.size, 1, none⟩)) rfl (by kernel_rfl) (by kernel_rfl) (by kernel_rfl) (fun _ _ _ h => h) (Or.inl ⟨by rfl, ?_⟩) (by assumption) ?_
    · (intro W hSw; obtain ⟨hS0, hS1⟩ := hSw; go_simp)
    try dsimp only [Act.put]
    refine wpAnyH_take (i := 1) (v := .pointer (some ⟨p', 0, none⟩)) rfl (by kernel_rfl) (by kernel_rfl) (by kernel_rfl) (fun _ _ _ h => h) (Or.inl ⟨by rfl, ?_⟩) (by assumption) ?_
    · (intro W hSw; obtain ⟨hS0, hS1⟩ := hSw; go_simp)
    try dsimp only [Act.put]
    refine wpAnyH_take (i := 3) (v := .pointer (some ⟨w.heap.size, 0, none⟩)) rfl (by kernel_rfl) (by kernel_rfl) (by kernel_rfl) (fun _ _ _ h => h) (Or.inl ⟨by rfl, ?_⟩) (by assumption) ?_
    · (intro W hSw; obtain ⟨hS0, hS1⟩ := hSw; go_simp)
    try dsimp only [Act.put]
    refine wpAnyH_take (i := 4) (v := .pointer (some ⟨p, 0, none⟩)) rfl (by kernel_rfl) (by kernel_rfl) (by kernel_rfl) (fun _ _ _ h => h) (Or.inl ⟨by rfl, ?_⟩) (by assumption) ?_
    · (intro W hSw; obtain ⟨hS0, hS1⟩ := hSw; go_simp)
    try dsimp only [Act.put]
    refine wpAnyH_ready (rs := [2, 6]) (by kernel_rfl) (by simp) ?_
    refine AllReadyH.cons rfl (fun K hK => ?_) ?_
    · go_simp
      refine (HLE.out _ E0.out).mono ?_
      rintro e w1 ⟨rfl, hb⟩
      have E1 := Lib.hid (E0.out.step hb)
      clear hb
      go_wp2_with fail
      refine hK.out _ _ (⟨E1.out.c0, E1.out.c1⟩) (fun hHeld => ?_)
      clear hK K
      try dsimp only [Act.put]
      refine wpAnyH_ready (rs := [5, 6]) (by kernel_rfl) (by simp) ?_
      refine AllReadyH.cons rfl (fun K hK => ?_) ?_
      · go_simp
        refine (HBK.out _ E1.out).mono ?_
        rintro e w2 ⟨rfl, hb⟩
        have E2 := Lib.hid (E1.out.step hb)
        clear hb
        obtain ⟨V, hV⟩ : ∃ V, V = Value.agg (gridCells (gridF (backRows rows))) := ⟨_, rfl⟩
        rw [← hV]
        have HV := Lib.hid hV
        clear hV
        go_wp2_with fail
        refine hK.out _ _ (⟨E2.out.c0, E2.out.c1⟩) (fun hHeld => ?_)
        clear hK K
        try dsimp only [Act.put]
        refine wpAnyH_ready (rs := [6]) (by kernel_rfl) (by simp) ?_
        refine AllReadyH.cons rfl (fun K hK => ?_) ?_
        · go_simp
          have hb := (Below.refl w2.heap.size w2).alloc (Nat.le_refl _) (.cells (gridCells fun _ => 0) 93)
          have E3 := Lib.hid (E2.out.step hb)
          clear hb
          have Z3 := Lib.hid (store_new w2)
          have HG3 := Lib.hid (show w.heap.size + 1 ≤ w2.heap.size from E2.out.lt)
          generalize hwq3 : w2.heap.size = G at Z3 HG3 ⊢
          generalize (w2.alloc (.cells (gridCells fun _ => 0) 93)) = w3 at E3 Z3 ⊢
          clear hwq3
          refine hK.out _ _ (⟨E3.out.c0, E3.out.c1⟩) (fun hHeld => ?_)
          clear hK K
          try dsimp only [Act.put]
          refine wpAnyH_ready (rs := [7]) (by kernel_rfl) (by simp) ?_
          refine AllReadyH.cons rfl (fun K hK => ?_) ?_
          · go_simp
            refine hK.out _ _ (by assumption) (fun hHeld => ?_)
            clear hK K
            try dsimp only [Act.put]
            refine wpAnyH_ready (rs := [8]) (by kernel_rfl) (by simp) ?_
            refine AllReadyH.cons (o := { dst := none, op := .store 93 (.tmp 6) (.tmp 15), type := _, pos := _, after := _, guard := none }) rfl (fun K hK => ?_) ?_
            · refine step_store_row rfl 93 (.tmp 6) (.tmp 15) rfl G (gridCells (gridF (backRows rows))) rfl HV.out 93 (gridCells fun _ => 0) Z3.out.1 (by rw [gridCells_size]; exact sizeGrid) (by rw [gridCells_size, gridCells_size]) (gridCells_one _) ?_
              have EF := Lib.hid (E3.out.far (below_setRow' (Below.refl (w.heap.size + 1) w3) HG3.out (gridCells (gridF (backRows rows)))))
              have ZF := Lib.hid (GridAt.setRow Z3.out HLT.out)
              refine hK.out _ _ (⟨EF.out.c0, EF.out.c1⟩) (fun hHeld => ?_)
              clear hK K
              try dsimp only [Act.put]
              refine wpAnyH_done (by kernel_rfl) ?_ _
              go_wp2_with fail
              go_meet
              exact ⟨G, rfl, rfl, HG3.out, ZF.out, EF.out⟩
            exact AllReadyH.nil
          exact AllReadyH.nil
        exact AllReadyH.nil
      refine AllReadyH.cons rfl (fun K hK => ?_) ?_
      · go_simp
        have hb := (Below.refl w1.heap.size w1).alloc (Nat.le_refl _) (.cells (gridCells fun _ => 0) 93)
        have E2 := Lib.hid (E1.out.step hb)
        clear hb
        have Z2 := Lib.hid (store_new w1)
        have HG2 := Lib.hid (show w.heap.size + 1 ≤ w1.heap.size from E1.out.lt)
        generalize hwq2 : w1.heap.size = G at Z2 HG2 ⊢
        generalize (w1.alloc (.cells (gridCells fun _ => 0) 93)) = w2 at E2 Z2 ⊢
        clear hwq2
        refine hK.out _ _ (⟨E2.out.c0, E2.out.c1⟩) (fun hHeld => ?_)
        clear hK K
        try dsimp only [Act.put]
        refine wpAnyH_ready (rs := [5]) (by kernel_rfl) (by simp) ?_
        refine AllReadyH.cons rfl (fun K hK => ?_) ?_
        · go_simp
          refine (HBK.out _ E2.out).mono ?_
          rintro e w3 ⟨rfl, hb⟩
          have E3 := Lib.hid (E2.out.step hb)
          have Z3 := Lib.hid (Z2.out.below hb Z2.out.lt)
          clear hb
          obtain ⟨V, hV⟩ : ∃ V, V = Value.agg (gridCells (gridF (backRows rows))) := ⟨_, rfl⟩
          rw [← hV]
          have HV := Lib.hid hV
          clear hV
          go_wp2_with fail
          refine hK.out _ _ (⟨E3.out.c0, E3.out.c1⟩) (fun hHeld => ?_)
          clear hK K
          try dsimp only [Act.put]
          refine wpAnyH_ready (rs := [7]) (by kernel_rfl) (by simp) ?_
          refine AllReadyH.cons rfl (fun K hK => ?_) ?_
          · go_simp
            refine hK.out _ _ (by assumption) (fun hHeld => ?_)
            clear hK K
            try dsimp only [Act.put]
            refine wpAnyH_ready (rs := [8]) (by kernel_rfl) (by simp) ?_
            refine AllReadyH.cons (o := { dst := none, op := .store 93 (.tmp 6) (.tmp 15), type := _, pos := _, after := _, guard := none }) rfl (fun K hK => ?_) ?_
            · refine step_store_row rfl 93 (.tmp 6) (.tmp 15) rfl G (gridCells (gridF (backRows rows))) rfl HV.out 93 (gridCells fun _ => 0) Z3.out.1 (by rw [gridCells_size]; exact sizeGrid) (by rw [gridCells_size, gridCells_size]) (gridCells_one _) ?_
              have EF := Lib.hid (E3.out.far (below_setRow' (Below.refl (w.heap.size + 1) w3) HG2.out (gridCells (gridF (backRows rows)))))
              have ZF := Lib.hid (GridAt.setRow Z3.out HLT.out)
              refine hK.out _ _ (⟨EF.out.c0, EF.out.c1⟩) (fun hHeld => ?_)
              clear hK K
              try dsimp only [Act.put]
              refine wpAnyH_done (by kernel_rfl) ?_ _
              go_wp2_with fail
              go_meet
              exact ⟨G, rfl, rfl, HG2.out, ZF.out, EF.out⟩
            exact AllReadyH.nil
          exact AllReadyH.nil
        exact AllReadyH.nil
      exact AllReadyH.nil
    refine AllReadyH.cons rfl (fun K hK => ?_) ?_
    · go_simp
      have hb := (Below.refl W0.heap.size W0).alloc (Nat.le_refl _) (.cells (gridCells fun _ => 0) 93)
      have E1 := Lib.hid (E0.out.step hb)
      clear hb
      have Z1 := Lib.hid (store_new W0)
      have HG1 := Lib.hid (show w.heap.size + 1 ≤ W0.heap.size from E0.out.lt)
      generalize hwq1 : W0.heap.size = G at Z1 HG1 ⊢
      generalize (W0.alloc (.cells (gridCells fun _ => 0) 93)) = w1 at E1 Z1 ⊢
      clear hwq1
      refine hK.out _ _ (⟨E1.out.c0, E1.out.c1⟩) (fun hHeld => ?_)
      clear hK K
      try dsimp only [Act.put]
      refine wpAnyH_ready (rs := [2]) (by kernel_rfl) (by simp) ?_
      refine AllReadyH.cons rfl (fun K hK => ?_) ?_
      · go_simp
        refine (HLE.out _ E1.out).mono ?_
        rintro e w2 ⟨rfl, hb⟩
        have E2 := Lib.hid (E1.out.step hb)
        have Z2 := Lib.hid (Z1.out.below hb Z1.out.lt)
        clear hb
        go_wp2_with fail
        refine hK.out _ _ (⟨E2.out.c0, E2.out.c1⟩) (fun hHeld => ?_)
        clear hK K
        try dsimp only [Act.put]
        refine wpAnyH_ready (rs := [5]) (by kernel_rfl) (by simp) ?_
        refine AllReadyH.cons rfl (fun K hK => ?_) ?_
        · go_simp
          refine (HBK.out _ E2.out).mono ?_
          rintro e w3 ⟨rfl, hb⟩
          have E3 := Lib.hid (E2.out.step hb)
          have Z3 := Lib.hid (Z2.out.below hb Z2.out.lt)
          clear hb
          obtain ⟨V, hV⟩ : ∃ V, V = Value.agg (gridCells (gridF (backRows rows))) := ⟨_, rfl⟩
          rw [← hV]
          have HV := Lib.hid hV
          clear hV
          go_wp2_with fail
          refine hK.out _ _ (⟨E3.out.c0, E3.out.c1⟩) (fun hHeld => ?_)
          clear hK K
          try dsimp only [Act.put]
          refine wpAnyH_ready (rs := [7]) (by kernel_rfl) (by simp) ?_
          refine AllReadyH.cons rfl (fun K hK => ?_) ?_
          · go_simp
            refine hK.out _ _ (by assumption) (fun hHeld => ?_)
            clear hK K
            try dsimp only [Act.put]
            refine wpAnyH_ready (rs := [8]) (by kernel_rfl) (by simp) ?_
            refine AllReadyH.cons (o := { dst := none, op := .store 93 (.tmp 6) (.tmp 15), type := _, pos := _, after := _, guard := none }) rfl (fun K hK => ?_) ?_
            · refine step_store_row rfl 93 (.tmp 6) (.tmp 15) rfl G (gridCells (gridF (backRows rows))) rfl HV.out 93 (gridCells fun _ => 0) Z3.out.1 (by rw [gridCells_size]; exact sizeGrid) (by rw [gridCells_size, gridCells_size]) (gridCells_one _) ?_
              have EF := Lib.hid (E3.out.far (below_setRow' (Below.refl (w.heap.size + 1) w3) HG1.out (gridCells (gridF (backRows rows)))))
              have ZF := Lib.hid (GridAt.setRow Z3.out HLT.out)
              refine hK.out _ _ (⟨EF.out.c0, EF.out.c1⟩) (fun hHeld => ?_)
              clear hK K
              try dsimp only [Act.put]
              refine wpAnyH_done (by kernel_rfl) ?_ _
              go_wp2_with fail
              go_meet
              exact ⟨G, rfl, rfl, HG1.out, ZF.out, EF.out⟩
            exact AllReadyH.nil
          exact AllReadyH.nil
        exact AllReadyH.nil
      exact AllReadyH.nil
    exact AllReadyH.nil
  obtain ⟨G, rfl, rfl, hGw, hgr, hbx⟩ := hcut
  have HGR := Lib.hid hgr
  have HBX := Lib.hid hbx
  clear hgr hbx hGw
  go_wp2
  go_loopw [7, 8, 9, 18] (fun ov _ _ kv wr => ∃ k : Nat, k ≤ f.length ∧ kv = .int .i64 k ∧ wr.ownsRow wc.heap.size 3 1 ov (startsN rows rows' f k).length (cellsI (startsN rows rows' f k)) ∧ Below wc.heap.size wc wr) (fun _ _ _ kv _ => f.length - (intOf kv).toNat)
  case atStart => exact ⟨0, Nat.zero_le _, rfl, World.ownsRow_nil _ _ _ _, Below.refl _ _⟩
  case round =>
    obtain ⟨i, hi, rfl, hown, hB⟩ := hrel
    have HOWN := Lib.hid hown
    have HB := Lib.hid hB
    have hcl := startsN_le rows rows' f i
    have hBw := HBX.out.below.trans (HB.out.mono HBX.out.below.size)
    have HBW := Lib.hid hBw
    clear hown hB hBw
    by_cases hlt : i < f.length
    · have hltz : (i : Int) < (f.length : Int) := by omega
      obtain ⟨bf, o_f, rfl, hcf⟩ := (HFA.out wr HBW.out).get hlt
      have heq := HEQ.out i hlt
      have HS := Lib.hid (startsN_succ rows rows' f i)
      rw [HLQ.out] at HS
      obtain ⟨s0, hs0⟩ : ∃ s0 : Bool, (f[i] == le) = s0 := ⟨_, rfl⟩
      rw [hs0] at heq
      have hs1 : (f[i] != le) = !s0 := by unfold bne; rw [hs0]
      have hin0 : (0 : Int) ≤ (i : Int) := by omega
      have hin1 : (i : Int) < 200 := by omega
      obtain ⟨c0, c1, c2, c3⟩ := (HGR.out.below HB.out HGR.out.lt).row i (by omega)
      have hk0 := fun d os => cell_regrown c0 d os
      have hk1 := fun d os => cell_regrown c1 d os
      have hk2 := fun d os => cell_regrown c2 d os
      have hk3 := fun d os => cell_regrown c3 d os
      have hxR := fun d os => Calls.regrown_of (w := wr) (d := d) (os := os) (rowOf_any (i : Int) i _ rfl (by omega))
      have hxW := fun d os => Calls.regrown_of (w := wr) (d := d) (os := os) (without_any (gridF (backRows rows) i) (2 ^ i) _)
      have hxH := fun d os => Calls.regrown_of (w := wr) (d := d) (os := os) (hasOn_any (.slice (some ⟨bf, o_f, none⟩) f.length Cf) f (diff (gridF (backRows rows) i) (2 ^ i)) f[i] _ (HFA.out _ (HBW.out.trans ((below_regrown wr d os).mono HBW.out.size))) (HTA.out _ (HBW.out.trans ((below_regrown wr d os).mono HBW.out.size))) (diff_lt _ (HLT.out i)) (HEL.out i hlt))
      clear c0 c1 c2 c3
      cases s0 with
      | true =>
        have HN := Lib.hid (show startsN rows rows' f (i + 1) = startsN rows rows' f i by rw [HS.out, heq]; rfl)
        clear heq hs0
        go_upto_region 6 with fail
        refine wp_region_quiet_below (by kernel_rfl) (by kernel_rfl) ?_
        repeat (go_big_quiet_step (first | (go_at_call 147; exact hxR _ _) | (go_at_call 146; exact hxW _ _) | (go_at_call 145; exact hxH _ _)))
        refine wpQuiet_nil ?_
        intro _ hw'
        obtain ⟨⟨dq, osq⟩, hw''⟩ := hw'
        subst hw''
        clear hxR hxW hxH hk0 hk1 hk2 hk3
        have HBQ := Lib.hid (HB.out.trans ((below_regrown wr dq osq).mono HB.out.size))
        have HOQ := Lib.hid (owns_below HOWN.out (below_regrown wr dq osq))
        go_wp2
        go_roundw
        case rel => exact ⟨i + 1, by omega, by go_num, by rw [HN.out]; exact HOQ.out, HBQ.out⟩
        case measure => simp [intOf]; omega
      | false =>
        obtain ⟨t, ht⟩ : ∃ t, onB f (diff (gridF (backRows rows) i) (2 ^ i)) f[i] = t := ⟨_, rfl⟩
        rw [ht] at heq
        simp only [ht] at hxH
        have HT := Lib.hid ht
        clear hs0 ht
        cases t with
        | true =>
        have HN := Lib.hid (show startsN rows rows' f (i + 1) = startsN rows rows' f i by rw [HS.out, heq]; rfl)
        clear heq
        go_upto_region 6 with fail
        refine wp_region_quiet_below (by kernel_rfl) (by kernel_rfl) ?_
        repeat (go_big_quiet_step (first | (go_at_call 147; exact hxR _ _) | (go_at_call 146; exact hxW _ _) | (go_at_call 145; exact hxH _ _)))
        refine wpQuiet_nil ?_
        intro _ hw'
        obtain ⟨⟨dq, osq⟩, hw''⟩ := hw'
        subst hw''
        clear hxR hxW hxH hk0 hk1 hk2 hk3
        have HBQ := Lib.hid (HB.out.trans ((below_regrown wr dq osq).mono HB.out.size))
        have HOQ := Lib.hid (owns_below HOWN.out (below_regrown wr dq osq))
        go_wp2
        go_roundw
        case rel => exact ⟨i + 1, by omega, by go_num, by rw [HN.out]; exact HOQ.out, HBQ.out⟩
        case measure => simp [intOf]; omega
        | false =>
        have HN := Lib.hid (show startsN rows rows' f (i + 1) = startsN rows rows' f i ++ [(i : Int)] by rw [HS.out, heq]; rfl)
        clear heq
        go_upto_region 6 with fail
        refine wp_region_quiet_below (by kernel_rfl) (by kernel_rfl) ?_
        repeat (go_big_quiet_step (first | (go_at_call 147; exact hxR _ _) | (go_at_call 146; exact hxW _ _) | (go_at_call 145; exact hxH _ _)))
        refine wpQuiet_nil ?_
        intro _ hw'
        obtain ⟨⟨dq, osq⟩, hw''⟩ := hw'
        subst hw''
        clear hxR hxW hxH hk0 hk1 hk2 hk3
        have HBQ := Lib.hid (HB.out.trans ((below_regrown wr dq osq).mono HB.out.size))
        have HOQ := Lib.hid (owns_below HOWN.out (below_regrown wr dq osq))
        have hbz := HBQ.out.size
        generalize «Sort».grow (redrawn wr dq) osq = wq at HBQ HOQ hbz ⊢
        go_wp2_with (at_builtin; refine wpList_append_own _ rfl _ _ 26 rfl wc.heap.size 3 i0 (.int .i64 0) 1 8 Tryd.underlying26 hi0 hz0 hz1 hz2 rfl (by decide) _ _ _ rfl (HOQ.out.alloc _) ⟨wq.heap.size, 0, none⟩ 1 1 [.int .i64 (i : Int)] rfl rfl (cell_one_new _ _ _) (by simp [Value.oneCell']) (by unfold maxLen; omega) (by omega) (by simp; omega) ?_; intro v' w9 hown' hgrow _)
        go_roundw
        case rel =>
          refine ⟨i + 1, by omega, by go_num, ?_, (HBQ.out.alloc hbz _).grown hgrow (by rw [World.size_alloc]; omega) (fun b e => (HOQ.out.lt b e).1)⟩
          rw [HN.out, List.length_append, show cellsI (startsN rows rows' f i ++ [(i : Int)]) = cellsI (startsN rows rows' f i) ++ [.int .i64 (i : Int)] by simp]
          exact hown'
        case measure => simp [intOf]; omega
    · obtain rfl : i = f.length := by omega
      have hltz : ¬ ((f.length : Int) < (f.length : Int)) := by omega
      go_wp2
      go_ret
      refine ⟨_, rfl, OwnI.of_owns (owns_weaker HOWN.out HBX.out.below.size) (fun y hy => ?_) (fun b hb => (HOWN.out.lt b hb).2), HBW.out⟩
      unfold startsN at hy
      obtain ⟨j, hj, rfl⟩ := List.mem_map.1 hy
      have := List.mem_range.1 (List.mem_filter.1 hj).1
      exact wf_int (by omega) (by omega)
end Go.Proofs.YtkomghohdhengaaDoor

/- The program's look at a stable function (fun.keepsMeets). -/
namespace Go.Proofs.YtkomghohdhengaaDoor
open Go.RowKit Go.Deep Go.Shelf

end Go.Proofs.YtkomghohdhengaaDoor

/- While isMonotone runs: what of the two domains' memory is needed, and the list. Plain facts on worlds: no function is walked here. -/
namespace Go.Proofs.YtkomghohdhengaaDoor
open Go.RowKit Go.Deep

structure MK (w : World) (K : World → Prop) (vf : Value) (f : List Int) (W : World) : Prop where
  kept : K W
  f : IntsAt W vf f
  below : Below w.heap.size w W
theorem MK.step {w : World} {K : World → Prop} {vf : Value} {f : List Int} {W W' : World} (h : MK w K vf f W) (hK : Stays w K) (hb : Below W.heap.size W W') : MK w K vf f W' :=
  ⟨hK _ _ (hb.mono h.below.size) h.kept, h.f.below hb, h.below.trans (hb.mono h.below.size)⟩
theorem Stays.and {w : World} {K L : World → Prop} (h : Stays w K) (k : Stays w L) : Stays w (fun W => K W ∧ L W) := fun W W' hb hx => ⟨h W W' hb hx.1, k W W' hb hx.2⟩
theorem run_prod_nilAhead (m : Nat) (v v' : Value) (w : World) : (Go.nilAhead (m + 1) 114 (.agg #[v, v']) "loop.example/scottdomains/impl.below").run Tryd.prog w = .ok (some false) w := by kernel_rfl
end Go.Proofs.YtkomghohdhengaaDoor
