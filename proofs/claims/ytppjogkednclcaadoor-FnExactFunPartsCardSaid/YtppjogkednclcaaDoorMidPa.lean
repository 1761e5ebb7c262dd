/- The program's lift of a domain, unbuilt: how many elements it has, and what is below what. -/
import Derived.Test.YtppjogkednclcaaDoorIsMono
import Derived.Test.YtppjogkednclcaaDoorImplFun
import Derived.Test.YtppjogkednclcaaDoorOrderG
import Derived.Test.YtppjogkednclcaaDoorOkG
import Derived.Test.YtppjogkednclcaaDoorBackS
import Derived.Deep.AppendLies
import Derived.Lib.QuietBelow
import Derived.BigQuiet
import Derived.Test.YtppjogkednclcaaDoorLw
import Derived.Test.YtppjogkednclcaaDoorImplDom
namespace Go.Proofs.YtppjogkednclcaaDoor
open Go.RowKit Go.Deep Go.Shelf

theorem one_new (W : World) (a : Value) (t : TypeId) : (W.alloc (.cells #[a] t)).cell? ⟨W.heap.size, 0, none⟩ = some a := by
  rw [cell_of_row _ W.heap.size 0 _ _ _ (heap_alloc_new _ _)]; rfl

/-- Is a below b in the lift? -/
def liftB (g : Nat → Nat) (a b : Nat) : Bool := decide (a = 0) || (decide (0 < b) && (g (a - 1)).testBit (b - 1))

end Go.Proofs.YtppjogkednclcaaDoor

/- The program's order of a domain that is not built yet (built): its rows, one after the other. -/
namespace Go.Proofs.YtppjogkednclcaaDoor
open Go.RowKit Go.Deep Go.Shelf

/-- What row a holds when b elements have been looked at. -/
def bRow (B : Nat → Nat → Bool) (a b : Nat) : List Int := ((List.range b).filter fun k => B a k).map fun k : Nat => (k : Int)
theorem bRow_yes {B : Nat → Nat → Bool} {a b : Nat} (h : B a b = true) : bRow B a (b + 1) = bRow B a b ++ [(b : Int)] := by
  unfold bRow
  rw [List.range_succ, List.filter_append, List.map_append, List.filter_cons, h]
  rfl
theorem bRow_no {B : Nat → Nat → Bool} {a b : Nat} (h : B a b = false) : bRow B a (b + 1) = bRow B a b := by
  unfold bRow
  rw [List.range_succ, List.filter_append, List.filter_cons, h]
  simp
theorem bRow_len (B : Nat → Nat → Bool) (a b : Nat) : (bRow B a b).length ≤ b := by
  unfold bRow
  rw [List.length_map]
  have := List.length_filter_le (fun k => B a k) (List.range b)
  simpa using this
/-- All rows, when b elements of row a have been looked at. -/
def bP (B : Nat → Nat → Bool) (N a b q : Nat) : List Int := if q < a then bRow B q N else if q = a then bRow B a b else []
theorem bP_start (B : Nat → Nat → Bool) (N : Nat) : bP B N 0 0 = fun _ => [] := by
  funext q
  unfold bP
  rw [if_neg (Nat.not_lt_zero _)]
  split
  · rfl
  · rfl
theorem bP_yes {B : Nat → Nat → Bool} {N a b : Nat} (h : B a b = true) : bP B N a (b + 1) = fun q => if q = a then bP B N a b a ++ [(b : Int)] else bP B N a b q := by
  funext q
  unfold bP
  by_cases e : q = a
  · subst e
    rw [if_neg (Nat.lt_irrefl _), if_pos rfl, if_pos rfl, if_neg (Nat.lt_irrefl _), if_pos rfl, bRow_yes h]
  · rw [if_neg e, if_neg e, if_neg e]
theorem bP_no {B : Nat → Nat → Bool} {N a b : Nat} (h : B a b = false) : bP B N a (b + 1) = bP B N a b := by
  funext q
  unfold bP
  rw [bRow_no h]
theorem bP_next (B : Nat → Nat → Bool) (N a : Nat) : bP B N a N = bP B N (a + 1) 0 := by
  funext q
  unfold bP
  by_cases e : q = a
  · subst e
    rw [if_neg (Nat.lt_irrefl _), if_pos rfl, if_pos (Nat.lt_succ_self _)]
  · by_cases e2 : q < a
    · rw [if_pos e2, if_pos (by omega)]
    · rw [if_neg e2, if_neg e, if_neg (by omega)]
      split
      · rfl
      · rfl
theorem bP_at (B : Nat → Nat → Bool) (N a b : Nat) : bP B N a b a = bRow B a b := by unfold bP; rw [if_neg (Nat.lt_irrefl _), if_pos rfl]
theorem bP_done {B : Nat → Nat → Bool} {N q : Nat} (h : q < N) : bP B N N 0 q = bRow B q N := by unfold bP; rw [if_pos h]

/-- While the order is built; K is what of the domain's own memory is needed. -/
structure BlG (w : World) (K : World → Prop) (L N : Nat) (R : Nat → List Int) (W : World) : Prop where
  kept : K W
  res : Boxed W w.heap.size 26 (.slice none 0 0)
  own : OwnR 3 33 W (.slice (some ⟨L, 0, none⟩) N N) N R (w.heap.size + 1) W.heap.size
  below : Below w.heap.size w W
/-- K holds on when no memory turns that was there ahead of the call. -/
def Stays (w : World) (K : World → Prop) : Prop := ∀ W W' : World, Below w.heap.size W W' → K W → K W'
theorem BlG.step {w : World} {K : World → Prop} {L N : Nat} {R : Nat → List Int} {W W' : World} (hK : Stays w K) (h : BlG w K L N R W) (hb : Below W.heap.size W W') : BlG w K L N R W' :=
  ⟨hK W W' (hb.mono h.below.size) h.kept, (hb.block _ h.res.lt).trans h.res, (h.own.below hb (Nat.le_refl _)).wider (Nat.le_refl _) hb.size, h.below.trans (hb.mono h.below.size)⟩

theorem BlG.appended {w : World} {K : World → Prop} {L N : Nat} {R : Nat → List Int} {W W1 W2 : World} {f : Nat → Value} {j g' cap' : Nat} {y : Int} (hK : Stays w K) (h : BlG w K L N R W) (hN : N ≤ maxLen) (hL : w.heap.size + 1 ≤ L) (hr : W.rowIs L 33 N f)
    (hI : ∀ q, q < N → OwnI 3 W (f q) (R q) (w.heap.size + 1) W.heap.size) (hD : ∀ p q, p < q → q < N → (f p).ownBlock = none ∨ (f p).ownBlock ≠ (f q).ownBlock) (hj : j < N)
    (hy : (Lit.int .i64 y).wf = true) (hb1 : Below W.heap.size W W1)
    (hown : W2.ownsRow (w.heap.size + 1) 3 1 (.slice (some ⟨g', 0, none⟩) ((R j).length + 1) cap') ((R j).length + 1) (cellsI (R j) ++ [.int .i64 y])) (hgrow : W1.grownBy W2 (f j).ownBlock) (hat : (f j).ownBlock = some g' ∨ g' = W.heap.size + 1) (hlt : g' < W2.heap.size) :
    BlG w K L N (fun q => if q = j then R j ++ [y] else R q) (W2.setCell ⟨L, j, none⟩ (.slice (some ⟨g', 0, none⟩) ((R j).length + 1) cap')) := by
  have hz : w.heap.size < W.heap.size := h.res.lt
  have ho := OwnR.appended (t := 3) (u := 33) ints_ne (Nat.le_refl _) hN hL hr hI hD hj hy hb1.size (fun b hb => hb1.block b hb) hown hgrow (by rcases hat with h | h; exact .inl h; exact .inr (by omega)) hlt
  have hk : Below (w.heap.size + 1) W W2 := (hb1.mono (by omega)).grown hgrow (by have := hb1.size; omega) (fun b e => ((hI j hj).block b e).1)
  have hk2 := hk.setCell (p := ⟨L, j, none⟩) hL (.slice (some ⟨g', 0, none⟩) ((R j).length + 1) cap')
  exact ⟨hK _ _ (hk2.mono (by omega)) h.kept, (hk2.block _ (by omega)).trans h.res, by rw [size_setCell]; exact ho, h.below.trans (hk2.mono (by omega))⟩
/-- Rows in memory of their own, and a Boolean. -/
def RowsG (N : Nat) (R : Nat → List Int) (t : Bool) (w : World) (e : Ending) (w' : World) : Prop :=
  ∃ v, e = .returned (.tuple #[.agg #[v], .bool t]) ∧ OwnR 3 33 w' v N R w.heap.size w'.heap.size ∧ Below w.heap.size w w'
theorem Stays.grid {w : World} {p : Nat} {g : Nat → Nat} (h : p < w.heap.size) : Stays w (fun W => GridAt W p g) := fun _ _ hb hg => hg.below hb h
theorem Stays.grids {w : World} {p p' : Nat} {g g' : Nat → Nat} (h : p < w.heap.size) (h' : p' < w.heap.size) : Stays w (fun W => GridAt W p g ∧ GridAt W p' g') := fun _ _ hb hg => ⟨hg.1.below hb h, hg.2.below hb h'⟩
end Go.Proofs.YtppjogkednclcaaDoor

/- The program's sum of two domains, unbuilt: how many elements it has, and what is below what. -/
namespace Go.Proofs.YtppjogkednclcaaDoor
open Go.RowKit Go.Deep Go.Shelf

/-- Both fields of a struct of two, right behind. -/
theorem fresh2 (W : World) (a b : Value) (t : TypeId) : (W.alloc (.cells #[a, b] t)).cell? ⟨W.heap.size, 0, none⟩ = some a ∧ (W.alloc (.cells #[a, b] t)).cell? ⟨W.heap.size, 1, none⟩ = some b :=
  ⟨by rw [cell_of_row _ W.heap.size 0 _ _ _ (heap_alloc_new _ _)]; rfl, by rw [cell_of_row _ W.heap.size 1 _ _ _ (heap_alloc_new _ _)]; rfl⟩

/-- A grid behind an interface. -/
abbrev gridV (p : Nat) : Value := .iface 50 (.pointer (some ⟨p, 0, none⟩))

/-- Is a below b in the sum? -/
def sumB (g g' : Nat → Nat) (n a b : Nat) : Bool :=
  if a = 0 then true else if b = 0 then false
  else if a ≤ n then (if b ≤ n then (g (a - 1)).testBit (b - 1) else false)
  else (if b ≤ n then false else (g' (a - 1 - n)).testBit (b - 1 - n))

end Go.Proofs.YtppjogkednclcaaDoor

/- The program's product of two domains, unbuilt: how many elements it has, and what is below what. -/
namespace Go.Proofs.YtppjogkednclcaaDoor
open Go.RowKit Go.Deep Go.Shelf

theorem run_prod_size (m : Nat) (v v' : Value) (w : World) : (Go.method (m + 1) 79 (.agg #[v, v']) "loop.example/scottdomains/impl.size").run Tryd.prog w = .ok (47, .agg #[v, v']) w := by kernel_rfl
theorem run_prod_below (m : Nat) (v v' : Value) (w : World) : (Go.method (m + 1) 79 (.agg #[v, v']) "loop.example/scottdomains/impl.below").run Tryd.prog w = .ok (106, .agg #[v, v']) w := by kernel_rfl

set_option maxRecDepth 100000 in
set_option maxHeartbeats 4000000 in
theorem prodSize_any (p p' n n' : Nat) (g g' : Nat → Nat) (w : World) (hg : GridAt w p g) (hg' : GridAt w p' g') (hn : GridN g n) (hn' : GridN g' n') :
    Calls Tryd.prog 47 #[.agg #[gridV p, gridV p']] w (SaysI ((n * n' : Nat) : Int) w) := by
  have b0 := (Below.refl w.heap.size w).alloc (Nat.le_refl _) (.cells #[gridV p, gridV p'] 79)
  have hs : w.heap.size ≤ (w.alloc (.cells #[gridV p, gridV p'] 79)).heap.size := b0.size
  obtain ⟨hc, hc'⟩ := fresh2 w (gridV p) (gridV p') 79
  have hcall := fun d os => Calls.regrown_of (d := d) (os := os) (size_any p n g _ ((hg.below b0 hg.lt).below (below_regrown _ d os) (hg.below b0 hg.lt).lt) hn.le hn.some hn.none)
  have hcall' := fun d os => Calls.regrown_of (d := d) (os := os) (size_any p' n' g' _ ((hg'.below b0 hg'.lt).below (below_regrown _ d os) (hg'.below b0 hg'.lt).lt) hn'.le hn'.some hn'.none)
  have hq0 := fun d os => cell_regrown hc d os
  have hq1 := fun d os => cell_regrown hc' d os
  have hmS := run_size
  have hle := hn.le
  have hle' := hn'.le
  have hp : n * n' ≤ 40000 := Nat.le_trans (Nat.mul_le_mul hle hle') (by decide)
  have hw1 : IntKind.i64.wrap ((n : Int) * (n' : Int)) = (n : Int) * (n' : Int) := IntWalk.i64_in _ (by rw [← Int.natCast_mul]; omega)
  have HB := Lib.hid b0
  clear b0 hg hg' hn hn' hc hc'
  go_enter Tryd.func47, Tryd.ntmps47
  go_upto_region 1 with fail
  refine wp_region_quiet_below (by kernel_rfl) (by kernel_rfl) ?_
  repeat (go_big_quiet_step (first | (go_at_call_of 50 (Value.pointer (some ⟨p, 0, none⟩)); exact hcall _ _) | (go_at_call_of 50 (Value.pointer (some ⟨p', 0, none⟩)); exact hcall' _ _)))
  refine wpQuiet_nil ?_
  intro _ hw'
  obtain ⟨⟨dq, osq⟩, hw''⟩ := hw'
  subst hw''
  clear hcall hcall' hq0 hq1
  go_wp2
  go_ret
  exact ⟨by rw [Int.natCast_mul]; rfl, HB.out.trans ((below_regrown _ dq osq).mono hs)⟩

/-- Is a below b in the product? -/
def prodB (g g' : Nat → Nat) (n' a b : Nat) : Bool := (g (a / n')).testBit (b / n') && (g' (a % n')).testBit (b % n')

set_option maxRecDepth 100000 in
set_option maxHeartbeats 8000000 in
theorem prodBelow_any (p p' n n' : Nat) (g g' : Nat → Nat) (a b : Nat) (w : World) (hg : GridAt w p g) (hg' : GridAt w p' g') (hn : GridN g n) (hn' : GridN g' n') (ha : a < n * n') (hb : b < n * n') :
    Calls Tryd.prog 106 #[.agg #[gridV p, gridV p'], .int .i64 (a : Int), .int .i64 (b : Int)] w (SaysN (prodB g g' n' a b) w) := by
  have b0 := (Below.refl w.heap.size w).alloc (Nat.le_refl _) (.cells #[gridV p, gridV p'] 79)
  have hs : w.heap.size ≤ (w.alloc (.cells #[gridV p, gridV p'] 79)).heap.size := b0.size
  obtain ⟨hc, hc'⟩ := fresh2 w (gridV p) (gridV p') 79
  have hcall := size_any p' n' g' _ (hg'.below b0 hg'.lt) hn'.le hn'.some hn'.none
  have hmS := run_size
  have hmB := run_below
  have hmN := fun b w => run_nilAhead 227 b w
  have hle := hn.le
  have hle' := hn'.le
  have hn0 : 0 < n' := by
    rcases Nat.eq_zero_or_pos n' with h | h
    · subst h; simp at ha
    · exact h
  have hq1 : a / n' < n := Nat.div_lt_of_lt_mul (by rw [Nat.mul_comm]; exact ha)
  have hq2 : b / n' < n := Nat.div_lt_of_lt_mul (by rw [Nat.mul_comm]; exact hb)
  have hr1 : a % n' < n' := Nat.mod_lt _ hn0
  have hr2 : b % n' < n' := Nat.mod_lt _ hn0
  have hz : ((n' : Int) == 0) = false := by rw [beq_eq_false_iff_ne]; omega
  have hz2 : (n' == 0) = false := by rw [beq_eq_false_iff_ne]; omega
  have hz3 : ¬ n' = 0 := by omega
  unfold prodB
  have d1 : (a : Int).tdiv (n' : Int) = ((a / n' : Nat) : Int) := (Int.ofNat_tdiv a n').symm
  have d2 : (b : Int).tdiv (n' : Int) = ((b / n' : Nat) : Int) := (Int.ofNat_tdiv b n').symm
  have m1 : (a : Int).tmod (n' : Int) = ((a % n' : Nat) : Int) := (Int.ofNat_tmod a n').symm
  have m2 : (b : Int).tmod (n' : Int) = ((b % n' : Nat) : Int) := (Int.ofNat_tmod b n').symm
  have d3 : (a : Int) / (n' : Int) = ((a / n' : Nat) : Int) := (Int.natCast_ediv a n').symm
  have d4 : (b : Int) / (n' : Int) = ((b / n' : Nat) : Int) := (Int.natCast_ediv b n').symm
  have m3 : (a : Int) % (n' : Int) = ((a % n' : Nat) : Int) := (Int.natCast_emod a n').symm
  have m4 : (b : Int) % (n' : Int) = ((b % n' : Nat) : Int) := (Int.natCast_emod b n').symm
  generalize a / n' = qa at d1 d3 hq1 ⊢
  generalize b / n' = qb at d2 d4 hq2 ⊢
  generalize a % n' = ra at m1 m3 hr1 ⊢
  generalize b % n' = rb at m2 m4 hr2 ⊢
  have wa : IntKind.i64.wrap (qa : Int) = (qa : Int) := IntWalk.i64_in _ (by omega)
  have wb : IntKind.i64.wrap (qb : Int) = (qb : Int) := IntWalk.i64_in _ (by omega)
  have HB := Lib.hid b0
  have HC := Lib.hid hc
  have HC' := Lib.hid hc'
  have hd0 := hc'
  clear b0 hc hc' ha hb
  go_enter Tryd.func106, Tryd.ntmps106
  go_upto_region 2 with (go_at_call 50; refine hcall.mono ?_; clear hcall; rintro e w1 ⟨rfl, hb1⟩; have B1 := Lib.hid (HB.out.trans (hb1.mono hs)); have E0 := Lib.hid ((hb1.cell (p := ⟨w.heap.size, 0, none⟩) (cell_lt HC.out)).trans HC.out); have E1 := Lib.hid ((hb1.cell (p := ⟨w.heap.size, 1, none⟩) (cell_lt HC'.out)).trans HC'.out); clear hb1)
  clear hd0
  have hk0 := fun d os => cell_regrown E0.out d os
  have hk1 := fun d os => cell_regrown E1.out d os
  have hG := fun d os => (hg.below B1.out hg.lt).below (below_regrown w1 d os) (hg.below B1.out hg.lt).lt
  have hG' := fun d os => (hg'.below B1.out hg'.lt).below (below_regrown w1 d os) (hg'.below B1.out hg'.lt).lt
  have hx := fun d os => Calls.regrown_of (d := d) (os := os) (gbelow_any p g (qa : Int) (qb : Int) qa qb _ (hG d os) rfl (by omega) rfl (by omega))
  have hy := fun d os => Calls.regrown_of (d := d) (os := os) (gbelow_any p' g' (ra : Int) (rb : Int) ra rb _ (hG' d os) rfl (by omega) rfl (by omega))
  clear hG hG' hg hg' hn hn' HC HC'
  cases hbit : (g qa).testBit qb with
  | false =>
    simp only [hbit] at hx
    have HBIT := Lib.hid hbit
    clear hbit
    refine wp_region_quiet_below (by kernel_rfl) (by kernel_rfl) ?_
    repeat (go_big_quiet_step (first | (go_at_call_of 99 (Value.pointer (some ⟨p, 0, none⟩)); exact hx _ _) | (go_at_call_of 99 (Value.pointer (some ⟨p', 0, none⟩)); exact hy _ _)))
    refine wpQuiet_nil ?_
    intro _ hw'
    obtain ⟨⟨dq, osq⟩, hw''⟩ := hw'
    subst hw''
    clear hx hy hk0 hk1
    go_wp2
    go_ret
    exact ⟨by rw [HBIT.out, Bool.false_and]; rfl, B1.out.trans ((below_regrown w1 dq osq).mono B1.out.size)⟩
  | true =>
    simp only [hbit] at hx
    have HBIT := Lib.hid hbit
    clear hbit
    obtain ⟨t, ht⟩ : ∃ t, (g' ra).testBit rb = t := ⟨_, rfl⟩
    simp only [ht] at hy
    have HT := Lib.hid ht
    clear ht
    refine wp_region_quiet_below (by kernel_rfl) (by kernel_rfl) ?_
    repeat (go_big_quiet_step (first | (go_at_call_of 99 (Value.pointer (some ⟨p, 0, none⟩)); exact hx _ _) | (go_at_call_of 99 (Value.pointer (some ⟨p', 0, none⟩)); exact hy _ _)))
    refine wpQuiet_nil ?_
    intro _ hw'
    obtain ⟨⟨dq, osq⟩, hw''⟩ := hw'
    subst hw''
    clear hx hy hk0 hk1
    go_wp2
    go_ret
    exact ⟨by rw [HBIT.out, HT.out, Bool.true_and]; rfl, B1.out.trans ((below_regrown w1 dq osq).mono B1.out.size)⟩
end Go.Proofs.YtppjogkednclcaaDoor

/- The walks of built at prod. -/
namespace Go.Proofs.YtppjogkednclcaaDoor
open Go.RowKit Go.Deep Go.Shelf

set_option maxRecDepth 100000 in
set_option maxHeartbeats 4000000 in
theorem prodBuilt_no (p p' n n' : Nat) (g g' : Nat → Nat) (N : Nat) (w : World) (hg : GridAt w p g) (hg' : GridAt w p' g') (hn : GridN g n) (hn' : GridN g' n') (hN : N = n * n') (hN2 : 200 < N) :
    Calls Tryd.prog 33 #[.iface 79 (.agg #[.iface 50 (.pointer (some ⟨p, 0, none⟩)), .iface 50 (.pointer (some ⟨p', 0, none⟩))])] w (RowsG 0 (fun _ => []) false w) := by
  have b0 := (Below.refl w.heap.size w).alloc (Nat.le_refl _) (.cells #[.slice none 0 0] 26)
  have hbx := Boxed.new w 26 (.slice none 0 0)
  have hK : Stays w (fun W => GridAt W p g ∧ GridAt W p' g') := Stays.grids hg.lt hg'.lt
  have hcall := fun W (hk : (fun W => GridAt W p g ∧ GridAt W p' g') W) => prodSize_any p p' n n' g g' W hk.1 hk.2 hn hn'
  have hc1 := hcall _ (hK _ _ b0 ⟨hg, hg'⟩)
  rw [← hN] at hc1
  have hmS := run_prod_size
  have hN3 : (200 : Int) < (N : Int) := by omega
  have HBX := Lib.hid hbx
  have HB0 := Lib.hid b0
  clear hg hg' hn hn' hN b0 hbx hcall hK
  go_enter Tryd.func33, Tryd.ntmps33
  go_wp2_with (go_at_call 47; refine hc1.mono ?_; clear hc1; rintro e w1 ⟨rfl, hb1⟩; have HBX1 : Hid (Boxed w1 w.heap.size 26 (.slice none 0 0)) := Lib.hid ((hb1.block _ HBX.out.lt).trans HBX.out); have HB1 := Lib.hid (HB0.out.trans (hb1.mono HB0.out.size)); have hres := HBX1.out.cell; have hfr := HBX1.out.frozen; clear hb1)
  have hc9 := World.cell?_setCell_same' w1 ⟨w.heap.size, 0, none⟩ (.slice none 0 0) (by rw [hres]; rfl)
  refine bodyPost_ret (v := .tuple #[.agg #[.slice none 0 0], .bool false]) (by simp [results, Tryd.results33, go_sem, hc9]) rfl ?_
  exact ⟨_, rfl, OwnR.nil _ _ _ _ _ _, HB1.out.setCell (p := ⟨w.heap.size, 0, none⟩) (Nat.le_refl _) _⟩

set_option maxRecDepth 100000 in
set_option maxHeartbeats 4000000 in
theorem prodBuilt_yes (p p' n n' : Nat) (g g' : Nat → Nat) (N : Nat) (w : World) (hg : GridAt w p g) (hg' : GridAt w p' g') (hn : GridN g n) (hn' : GridN g' n') (hN : N = n * n') (hN2 : N ≤ 200) :
    Calls Tryd.prog 33 #[.iface 79 (.agg #[.iface 50 (.pointer (some ⟨p, 0, none⟩)), .iface 50 (.pointer (some ⟨p', 0, none⟩))])] w (RowsG N (fun q => bRow (prodB g g' n') q N) true w) := by
  have b0 := (Below.refl w.heap.size w).alloc (Nat.le_refl _) (.cells #[.slice none 0 0] 26)
  have hbx := Boxed.new w 26 (.slice none 0 0)
  have hK : Stays w (fun W => GridAt W p g ∧ GridAt W p' g') := Stays.grids hg.lt hg'.lt
  have hcall0 := fun W (hk : (fun W => GridAt W p g ∧ GridAt W p' g') W) => prodSize_any p p' n n' g g' W hk.1 hk.2 hn hn'
  have hk0 := hK _ _ b0 ⟨hg, hg'⟩
  have hcall := hcall0 _ hk0
  rw [← hN] at hcall
  have HBC := Lib.hid (fun (a b : Nat) (ha : a < N) (hb : b < N) W (hk : (fun W => GridAt W p g ∧ GridAt W p' g') W) => prodBelow_any p p' n n' g g' a b W hk.1 hk.2 hn hn' (by rw [← hN]; exact ha) (by rw [← hN]; exact hb))
  have hmk := run_make_row' (P := Tryd.prog) 22 33 (.slice none 0 0) 24 Tryd.underlying22 infoInts rfl .i64 .i64 N (by omega) (by omega)
  have hmS := run_prod_size
  have hmB := run_prod_below
  have hN3 : ¬ ((200 : Int) < (N : Int)) := by omega
  obtain ⟨i0, hi0, hz0, hz1, hz2⟩ := info_parts infoInt
  have HK0 := Lib.hid hk0
  have HKK := Lib.hid hK
  have HBX := Lib.hid hbx
  have HB0 := Lib.hid b0
  clear hg hg' hn hn' hN b0 hbx hcall0 hk0 hK
  go_enter Tryd.func33, Tryd.ntmps33
  go_wp2_with (go_at_call 47; refine hcall.mono ?_; clear hcall; rintro e w1 ⟨rfl, hb1⟩; have HK1 := Lib.hid (HKK.out _ _ (hb1.mono HB0.out.size) HK0.out); have HBX1 : Hid (Boxed w1 w.heap.size 26 (.slice none 0 0)) := Lib.hid ((hb1.block _ HBX.out.lt).trans HBX.out); have HB1 := Lib.hid (HB0.out.trans (hb1.mono HB0.out.size)); clear hb1)
  have hwl : w.heap.size < w1.heap.size := HBX1.out.lt
  have bA := (Below.refl w1.heap.size w1).alloc (Nat.le_refl _) (.cells (madeCells #[.slice none 0 0] N) 33)
  have HST := Lib.hid (show BlG w (fun W => GridAt W p g ∧ GridAt W p' g') w1.heap.size N (bP (prodB g g' n') N 0 0) (w1.alloc (.cells (madeCells #[.slice none 0 0] N) 33)) from
    ⟨HKK.out _ _ (bA.mono HB1.out.size) HK1.out, HBX1.out.alloc _, (OwnR.made w1 N (w.heap.size + 1) (by unfold maxLen; omega) hwl (fun _ => [])).congr (fun j _ => by rw [bP_start]; unfold upto; rw [if_neg (Nat.not_lt_zero _)]), HB1.out.trans (bA.mono HB1.out.size)⟩)
  clear bA hmk
  go_loopw [6, 17] (fun _ av wr => ∃ a : Nat, a ≤ N ∧ av = .int .i64 a ∧ BlG w (fun W => GridAt W p g ∧ GridAt W p' g') w1.heap.size N (bP (prodB g g' n') N a 0) wr) (fun _ av _ => N - (intOf av).toNat)
  case atStart => exact ⟨0, Nat.zero_le _, rfl, HST.out⟩
  case round =>
    obtain ⟨a, ha, rfl, ht⟩ := hrel
    have HT := Lib.hid ht
    clear HST
    by_cases hal : a < N
    · clear ht
      go_wp2
      go_loopw [7, 21] (fun _ bv wr => ∃ b : Nat, b ≤ N ∧ bv = .int .i64 b ∧ BlG w (fun W => GridAt W p g ∧ GridAt W p' g') w1.heap.size N (bP (prodB g g' n') N a b) wr) (fun _ bv _ => N - (intOf bv).toNat)
      case atStart => exact ⟨0, Nat.zero_le _, rfl, HT.out⟩
      case round =>
        obtain ⟨b, hb, rfl, ht⟩ := hrel
        have HK := Lib.hid ht
        clear ht HT
        by_cases hbl : b < N
        · have hcall := HBC.out a b hal hbl wr HK.out.kept
          cases hbit : (prodB g g' n') a b with
          | false =>
            rw [hbit] at hcall
            have HE := Lib.hid (bP_no (N := N) hbit)
            clear hbit
            go_wp2_with (go_at_call 106; refine hcall.mono ?_; clear hcall; rintro e w2 ⟨rfl, hb2⟩; have H2 := Lib.hid (HK.out.step HKK.out hb2); clear hb2)
            go_roundw
            case rel => exact ⟨b + 1, by omega, by go_num, by rw [HE.out]; exact H2.out⟩
            case measure => simp [intOf]; omega
          | true =>
            rw [hbit] at hcall
            have HE := Lib.hid (bP_yes (N := N) hbit)
            clear hbit
            go_wp2_with fail
            refine hcall.mono ?_
            clear hcall
            rintro e w2 ⟨rfl, hb2⟩
            have H2 := Lib.hid (HK.out.step HKK.out hb2)
            obtain hnil | ⟨g1, C2, f, e, hC2, hm2, hl2, hh2, hr2, hI2, hD2⟩ := H2.out.own
            · cases hnil.1
            cases e
            have hf2 := hr2.frozen a
            have hc2 := hr2.cell hal
            have HR := Lib.hid hr2
            have HI := Lib.hid hI2
            have HD := Lib.hid hD2
            have hne : some w1.heap.size ≠ (f a).ownBlock := fun e => by
              obtain ⟨_, _, c, h3⟩ := (hI2 a hal).block _ e.symm
              obtain ⟨c0, h4, _⟩ := hr2
              rw [h4] at h3
              injection h3 with h3
              injection h3 with _ h5
              exact ints_ne h5.symm
            have HNE := Lib.hid hne
            have HC2 := Lib.hid (cell_alloc_any hc2)
            have HF2 : Hid (∀ X, (w2.alloc X).frozen? ⟨w1.heap.size, a, none⟩ = false) := Lib.hid fun X => (Below.frozen ((Below.refl _ w2).alloc (Nat.le_refl _) X) (p := ⟨w1.heap.size, a, none⟩) hh2).trans hf2
            have HOWN := Lib.hid (hI2 a hal).owns
            have hln : (bP (prodB g g' n') N a b a).length ≤ 200 := by rw [bP_at]; exact Nat.le_trans (bRow_len _ a b) (by omega)
            have HWF : Hid ((Lit.int .i64 (b : Int)).wf = true) := Lib.hid (wf_nat (by omega))
            have hwz : w.heap.size < w2.heap.size := H2.out.res.lt
            have hL2 : w1.heap.size < w2.heap.size := hh2
            have haz : (a : Int) < (N : Int) := by omega
            clear hb2 hr2 hI2 hD2 hne hh2
            go_wp2_with (at_builtin; refine wpList_append_lies _ rfl _ _ 33 rfl (w.heap.size + 1) 3 i0 (.int .i64 0) 1 8 Tryd.underlying33 hi0 hz0 hz1 hz2 rfl (by decide) (f a) (bP (prodB g g' n') N a b a).length (cellsI (bP (prodB g g' n') N a b a)) (by rfl) (HOWN.out.alloc _) ⟨w2.heap.size, 0, none⟩ 1 1 [.int .i64 (b : Int)] (by rfl) rfl (World.news_of_block (heap_alloc_new w2 _)) (by simp [Value.oneCell']) (by omega) (by unfold maxLen; omega) (by omega) (by simp; omega) (w2.heap.size + 1) (by simp) ?_; intro g' cap' w3 hown hgrow hat hlt'; have hc3 : w3.cell? ⟨w1.heap.size, a, none⟩ = some (f a) := (hgrow.cell_far ⟨w1.heap.size, a, none⟩ (by simp; omega) HNE.out).trans (HC2.out _); have hf3 : w3.frozen? ⟨w1.heap.size, a, none⟩ = false := (hgrow.frozen_far ⟨w1.heap.size, a, none⟩ (by simp; omega) HNE.out).trans (HF2.out _))
            go_roundw
            case rel =>
              refine ⟨b + 1, by omega, by go_num, ?_⟩
              rw [HE.out]
              exact H2.out.appended HKK.out (by unfold maxLen; omega) hwl HR.out HI.out HD.out hal HWF.out ((Below.refl w2.heap.size w2).alloc (Nat.le_refl _) _) hown ⟨hgrow.os, hgrow.tape, hgrow.output, hgrow.size, hgrow.block⟩ hat hlt'
            case measure => simp [intOf]; omega
        · obtain rfl : b = N := by omega
          go_wp2
          go_roundw
          case rel => exact ⟨a + 1, by omega, by go_num, by rw [← bP_next]; exact HK.out⟩
          case measure => simp [intOf]; omega
    · obtain rfl : a = N := by omega
      have hres := ht.res.cell
      have hfr := ht.res.frozen
      have hc9 := World.cell?_setCell_same' wr ⟨w.heap.size, 0, none⟩ (.slice (some ⟨w1.heap.size, 0, none⟩) a a) (by rw [hres]; rfl)
      clear ht
      go_wp2
      refine bodyPost_ret (v := .tuple #[.agg #[.slice (some ⟨w1.heap.size, 0, none⟩) a a], .bool true]) (by simp [results, Tryd.results33, go_sem, hc9]) rfl ?_
      refine ⟨_, rfl, ?_, HT.out.below.setCell (p := ⟨w.heap.size, 0, none⟩) (Nat.le_refl _) _⟩
      rw [size_setCell]
      exact ((HT.out.own.kept fun b hb _ => Below.heap_setCell _ _ _ b (show b ≠ w.heap.size by omega)).wider (by omega) (Nat.le_refl _)).congr fun q hq => bP_done hq
end Go.Proofs.YtppjogkednclcaaDoor

/- The walks of built at sum. -/
namespace Go.Proofs.YtppjogkednclcaaDoor
open Go.RowKit Go.Deep Go.Shelf

end Go.Proofs.YtppjogkednclcaaDoor

/- The program's DomainSum. -/
namespace Go.Proofs.YtppjogkednclcaaDoor
open Go.RowKit Go.Deep Go.Shelf

/-- What domainOf answers: a pointer, and whether there is one. -/
def DomP (rows : Rows2) (w : World) (e : Ending) (w' : World) : Prop :=
  (∃ q, e = .returned (.tuple #[.pointer q, .bool (domB rows)]) ∧ (domB rows = true → ∃ p, q = some ⟨p, 0, none⟩ ∧ GridAt w' p (gridF rows))) ∧ Below w.heap.size w w'
theorem domainOf_any (v : Value) (rows : Rows2) (w : World) (hv : RowsAt w v rows) (hT : Tab w) (hn : bulk rows ≤ 1048576) :
    Calls Tryd.prog 30 #[.agg #[v]] w (DomP rows w) := by
  cases h : domB rows with
  | false =>
    refine (domainOf_no v rows w hv hT hn h).mono fun e w' hp => ?_
    obtain ⟨rfl, hb⟩ := hp
    exact ⟨⟨_, by rw [h], fun h' => by rw [h] at h'; cases h'⟩, hb⟩
  | true =>
    refine (domainOf_yes v rows w hv hT hn h).mono fun e w' hp => ?_
    obtain ⟨⟨p, rfl, _, hg⟩, hb⟩ := hp
    exact ⟨⟨_, by rw [h], fun _ => ⟨p, rfl, hg⟩⟩, hb⟩

/-- Two orders in their variables, and the result's. -/
structure TwoR (w : World) (v v' : Value) (rows rows' : Rows2) (W : World) : Prop where
  r0 : RowsAt W v rows
  r1 : RowsAt W v' rows'
  c0 : W.cell? ⟨w.heap.size, 0, none⟩ = some v
  c1 : W.cell? ⟨w.heap.size + 1, 0, none⟩ = some v'
  res : Boxed W (w.heap.size + 2) 26 (.slice none 0 0)
  below : Below w.heap.size w W
theorem TwoR.step {w : World} {v v' : Value} {rows rows' : Rows2} {W W' : World} (h : TwoR w v v' rows rows' W) (hb : Below W.heap.size W W') : TwoR w v v' rows rows' W' :=
  ⟨h.r0.below hb, h.r1.below hb, (hb.cell (p := ⟨w.heap.size, 0, none⟩) (cell_lt h.c0)).trans h.c0, (hb.cell (p := ⟨w.heap.size + 1, 0, none⟩) (cell_lt h.c1)).trans h.c1, (hb.block _ h.res.lt).trans h.res, h.below.trans (hb.mono h.below.size)⟩
theorem TwoR.start (w : World) {v v' : Value} {rows rows' : Rows2} (hv : RowsAt w v rows) (hv' : RowsAt w v' rows') :
    TwoR w v v' rows rows' (((w.alloc (.cells #[v] 26)).alloc (.cells #[v'] 26)).alloc (.cells #[.slice none 0 0] 26)) := by
  have s1 : (w.alloc (.cells #[v] 26)).heap.size = w.heap.size + 1 := World.size_alloc _ _
  have s2 : ((w.alloc (.cells #[v] 26)).alloc (.cells #[v'] 26)).heap.size = w.heap.size + 2 := by rw [World.size_alloc, s1]
  have b1 := ((Below.refl w.heap.size w).alloc (Nat.le_refl _) (.cells #[v] 26)).alloc (by rw [s1]; omega) (.cells #[v'] 26)
  have b2 := b1.alloc (by rw [s2]; omega) (.cells #[.slice none 0 0] 26)
  have x0 := ((Boxed.new w 26 v).alloc (.cells #[v'] 26)).alloc (.cells #[.slice none 0 0] 26)
  have x1 := (Boxed.new (w.alloc (.cells #[v] 26)) 26 v').alloc (.cells #[.slice none 0 0] 26)
  have x2 := Boxed.new ((w.alloc (.cells #[v] 26)).alloc (.cells #[v'] 26)) 26 (.slice none 0 0)
  rw [s1] at x1
  rw [s2] at x2
  exact ⟨hv.below b2, hv'.below b2, x0.cell, x1.cell, x2, b2⟩

/-- What DomainSum answers. -/
noncomputable def sumOk (rows rows' : Rows2) : Bool := domB rows && domB rows' && decide (1 + rows.length + rows'.length ≤ 200)
noncomputable def sumRow (rows rows' : Rows2) (q : Nat) : List Int := bRow (sumB (gridF rows) (gridF rows') rows.length) q (1 + rows.length + rows'.length)
noncomputable def sumL (rows rows' : Rows2) : Rows2 := if sumOk rows rows' = true then (List.range (1 + rows.length + rows'.length)).map (sumRow rows rows') else []
theorem sumL_yes {rows rows' : Rows2} (h : sumOk rows rows' = true) : (sumL rows rows').length = 1 + rows.length + rows'.length ∧ ∀ q, q < 1 + rows.length + rows'.length → rowsF (sumL rows rows') q = sumRow rows rows' q := by
  unfold sumL
  rw [if_pos h]
  refine ⟨by simp, fun q hq => ?_⟩
  rw [rowsF_lt (by simpa using hq)]
  simp
theorem sumL_no {rows rows' : Rows2} (h : sumOk rows rows' = false) : sumL rows rows' = [] := by unfold sumL; rw [if_neg (by rw [h]; simp)]
/-- No order. -/
theorem orderP_no {xs : Rows2} {t : Bool} {w W : World} {b : Nat} (hx : xs = []) (ht : t = false) (hb : Below w.heap.size w W) (hl : w.heap.size ≤ b) (u : Value) : OrderP xs t w (.returned (.tuple #[.agg #[.slice none 0 0], .bool false])) (W.setCell ⟨b, 0, none⟩ u) := by
  subst hx ht
  exact ⟨_, rfl, OwnR.nil _ _ _ _ _ _, hb.setCell (p := ⟨b, 0, none⟩) hl _⟩

end Go.Proofs.YtppjogkednclcaaDoor

/- The program's DomainProduct. -/
namespace Go.Proofs.YtppjogkednclcaaDoor
open Go.RowKit Go.Deep Go.Shelf

/-- What DomainProduct answers. -/
noncomputable def prodOk (rows rows' : Rows2) : Bool := domB rows && domB rows' && decide (rows.length * rows'.length ≤ 200)
noncomputable def prodRow (rows rows' : Rows2) (q : Nat) : List Int := bRow (prodB (gridF rows) (gridF rows') rows'.length) q (rows.length * rows'.length)
noncomputable def prodL (rows rows' : Rows2) : Rows2 := if prodOk rows rows' = true then (List.range (rows.length * rows'.length)).map (prodRow rows rows') else []
theorem prodL_yes {rows rows' : Rows2} (h : prodOk rows rows' = true) : (prodL rows rows').length = rows.length * rows'.length ∧ ∀ q, q < rows.length * rows'.length → rowsF (prodL rows rows') q = prodRow rows rows' q := by
  unfold prodL
  rw [if_pos h]
  refine ⟨by simp, fun q hq => ?_⟩
  rw [rowsF_lt (by simpa using hq)]
  simp
theorem prodL_no {rows rows' : Rows2} (h : prodOk rows rows' = false) : prodL rows rows' = [] := by unfold prodL; rw [if_neg (by rw [h]; simp)]
end Go.Proofs.YtppjogkednclcaaDoor

/- Domains told by bits; orders made of a relation; meets in domains. Plain facts: no function is walked here. -/
namespace Go.Proofs.YtppjogkednclcaaDoor
open Go.RowKit Go.Deep

theorem bottomF_pos {g : Nat → Nat} {s : Nat} (hs : s < 2 ^ 256) : 0 ≤ bottomF g s ↔ ∃ k, s.testBit k = true ∧ g k = s := by
  unfold bottomF
  cases hf : (elems s).find? (fun k => g k == s) with
  | none =>
    rw [List.find?_eq_none] at hf
    constructor
    · intro h
      exact absurd h (by decide)
    · rintro ⟨k, hk, e⟩
      exact absurd (beq_iff_eq.2 e) (hf k ((mem_elems hs).2 hk))
  | some k =>
    have h1 := List.find?_some hf
    have h2 := List.mem_of_find?_eq_some hf
    exact ⟨fun _ => ⟨k, (mem_elems hs).1 h2, beq_iff_eq.1 h1⟩, fun _ => Int.natCast_nonneg k⟩

/-- A domain, told by bits. -/
def DomBits (rows : Rows2) : Prop := (∃ m, m < rows.length ∧ gridF rows m = allF rows.length) ∧ ∀ a b, a < rows.length → b < rows.length → gridF rows a &&& gridF rows b ≠ 0 → ∃ c, c < rows.length ∧ gridF rows c = gridF rows a &&& gridF rows b
theorem domI_iff {rows : Rows2} (h : Ok rows) : domI rows = true ↔ DomBits rows := by
  have hn := h.len
  have hbad : ∀ a b, a < rows.length → b < rows.length → (badB rows a b = false ↔ (gridF rows a &&& gridF rows b ≠ 0 → ∃ c, c < rows.length ∧ gridF rows c = gridF rows a &&& gridF rows b)) := by
    intro a b ha hb
    have hlt : gridF rows a &&& gridF rows b < 2 ^ 256 := Nat.and_lt_two_pow _ (h.lt b)
    have hpos := bottomF_pos (g := gridF rows) hlt
    rw [← badF_eq h ha hb]
    unfold badF
    rw [Bool.and_eq_false_iff, Bool.not_eq_false', decide_eq_true_iff, decide_eq_false_iff_not]
    constructor
    · rintro (e | e) h0
      · exact absurd e h0
      · obtain ⟨k, hk, e2⟩ := hpos.1 (by omega)
        rw [Nat.testBit_and, Bool.and_eq_true] at hk
        exact ⟨k, (h.bit_lt hk.1).2, e2⟩
    · intro hi
      by_cases e : gridF rows a &&& gridF rows b = 0
      · exact .inl e
      · obtain ⟨c, hc, e2⟩ := hi e
        right
        have := hpos.2 ⟨c, by rw [← e2]; exact h.own c hc, e2⟩
        omega
  have hl : 0 ≤ leastI rows ↔ ∃ m, m < rows.length ∧ gridF rows m = allF rows.length := by
    rw [least_eq h, bottomF_pos (allF_lt (by omega))]
    constructor
    · rintro ⟨k, hk, e⟩
      rw [testBit_allF, decide_eq_true_iff] at hk
      exact ⟨k, hk, e⟩
    · rintro ⟨m, hm, e⟩
      exact ⟨m, by rw [testBit_allF]; exact decide_eq_true hm, e⟩
  constructor
  · intro hd
    have h1 : 0 ≤ leastI rows := by
      rcases Int.lt_or_le (leastI rows) 0 with h1 | h1
      · rw [domI_least h1] at hd; cases hd
      · exact h1
    refine ⟨hl.1 h1, fun a b ha hb hne => ?_⟩
    have hb' : ∀ a b, a < rows.length → b < a → badB rows a b = false := fun a b ha hb => by
      cases hq : badB rows a b with
      | false => rfl
      | true => rw [domI_bad ha hb hq] at hd; cases hd
    rcases Nat.lt_trichotomy b a with hlt | rfl | hlt
    · exact (hbad a b ha hb).1 (hb' a b ha hlt) hne
    · exact ⟨b, hb, (Nat.and_self _).symm⟩
    · obtain ⟨c, hc, e⟩ := (hbad b a hb ha).1 (hb' b a hb hlt) (by rw [Nat.and_comm]; exact hne)
      exact ⟨c, hc, by rw [e, Nat.and_comm]⟩
  · rintro ⟨h1, h2⟩
    exact domI_yes (hl.2 h1) fun a ha b hb => (hbad a b ha (by omega)).2 (h2 a b ha (by omega))
theorem domB_iff {rows : Rows2} : domB rows = true ↔ Ok rows ∧ DomBits rows := by
  unfold domB
  rw [Bool.and_eq_true]
  constructor
  · rintro ⟨h1, h2⟩
    exact ⟨ok_of_valid h1, (domI_iff (ok_of_valid h1)).1 h2⟩
  · rintro ⟨h1, h2⟩
    exact ⟨valid_of_ok h1, (domI_iff h1).2 h2⟩

theorem bRow_mem {B : Nat → Nat → Bool} {a N : Nat} (j : Int) : j ∈ bRow B a N ↔ ∃ k : Nat, k < N ∧ B a k = true ∧ j = (k : Int) := by
  unfold bRow
  rw [List.mem_map]
  constructor
  · rintro ⟨k, hk, rfl⟩
    rw [List.mem_filter, List.mem_range] at hk
    exact ⟨k, hk.1, hk.2, rfl⟩
  · rintro ⟨k, h1, h2, rfl⟩
    exact ⟨k, List.mem_filter.2 ⟨List.mem_range.2 h1, h2⟩, rfl⟩
theorem bRow_asc (B : Nat → Nat → Bool) (a N : Nat) : Asc (bRow B a N) := by
  have hp : ((List.range N).filter fun i => B a i).Pairwise (· < ·) := List.Pairwise.filter _ List.pairwise_lt_range
  intro i j hij hj
  unfold bRow at hj ⊢
  rw [List.length_map] at hj
  rw [List.getElem_map, List.getElem_map]
  have := (List.pairwise_iff_getElem.1 hp) i j (by omega) hj hij
  omega
/-- The order of N elements that a relation makes. -/
def madeL (B : Nat → Nat → Bool) (N : Nat) : Rows2 := (List.range N).map fun q => bRow B q N
theorem madeL_len (B : Nat → Nat → Bool) (N : Nat) : (madeL B N).length = N := by simp [madeL]
theorem madeL_at {B : Nat → Nat → Bool} {N q : Nat} (hq : q < (madeL B N).length) : (madeL B N)[q] = bRow B q N := by simp [madeL]
theorem made_asc (B : Nat → Nat → Bool) (N : Nat) (i : Nat) (hi : i < (madeL B N).length) : Asc (madeL B N)[i] ∧ ∀ x ∈ (madeL B N)[i], 0 ≤ x ∧ x < (madeL B N).length := by
  rw [madeL_at, madeL_len]
  refine ⟨bRow_asc B i N, fun x hx => ?_⟩
  obtain ⟨k, hk, _, rfl⟩ := (bRow_mem x).1 hx
  omega
theorem made_bit (B : Nat → Nat → Bool) {N q : Nat} (hq : q < N) (j : Nat) : (gridF (madeL B N) q).testBit j = (decide (j < N) && B q j) := by
  have hq' : q < (madeL B N).length := by rw [madeL_len]; exact hq
  rw [grid_bit hq' ((ascB_iff _ _).2 (made_asc B N q hq')), madeL_at, Bool.eq_iff_iff, decide_eq_true_iff, bRow_mem, Bool.and_eq_true, decide_eq_true_iff]
  constructor
  · rintro ⟨k, h1, h2, e⟩
    obtain rfl : j = k := by omega
    exact ⟨h1, h2⟩
  · rintro ⟨h1, h2⟩
    exact ⟨j, h1, h2, rfl⟩
theorem made_ok {B : Nat → Nat → Bool} {N : Nat} (h1 : 1 ≤ N) (h2 : N ≤ 200) (hr : ∀ a, a < N → B a a = true) (ha : ∀ a b, a < N → b < N → B a b = true → b ≠ a → B b a = false)
    (ht : ∀ a b c, a < N → b < N → c < N → B a b = true → B b c = true → B a c = true) : Ok (madeL B N) := by
  refine ⟨by rw [madeL_len]; exact ⟨h1, h2⟩, made_asc B N, fun i hi => ?_, fun i j hi hj hne => ?_, fun i j hi hj m hm => ?_⟩
  · rw [madeL_len] at hi
    rw [made_bit B hi, hr i hi, decide_eq_true hi]
    rfl
  · rw [madeL_len] at hi
    rw [made_bit B hi, Bool.and_eq_true, decide_eq_true_iff] at hj
    rw [made_bit B hj.1, ha i j hi hj.1 hj.2 hne, Bool.and_false]
  · rw [madeL_len] at hi
    rw [made_bit B hi, Bool.and_eq_true, decide_eq_true_iff] at hj
    rw [made_bit B hj.1, Bool.and_eq_true, decide_eq_true_iff] at hm
    rw [made_bit B hi, ht i j m hi hj.1 hm.1 hj.2 hm.2, decide_eq_true hm.1]
    rfl
theorem made_dom {B : Nat → Nat → Bool} {N : Nat} (h1 : 1 ≤ N) (h2 : N ≤ 200) (hr : ∀ a, a < N → B a a = true) (ha : ∀ a b, a < N → b < N → B a b = true → b ≠ a → B b a = false)
    (ht : ∀ a b c, a < N → b < N → c < N → B a b = true → B b c = true → B a c = true) (hl : ∃ m, m < N ∧ ∀ k, k < N → B m k = true)
    (hj : ∀ a b, a < N → b < N → (∃ c, c < N ∧ B a c = true ∧ B b c = true) → ∃ c, c < N ∧ ∀ k, k < N → B c k = (B a k && B b k)) : domB (madeL B N) = true := by
  refine domB_iff.2 ⟨made_ok h1 h2 hr ha ht, ?_, ?_⟩
  · obtain ⟨m, hm, hk⟩ := hl
    refine ⟨m, by rw [madeL_len]; exact hm, ?_⟩
    rw [madeL_len]
    apply Nat.eq_of_testBit_eq
    intro k
    rw [made_bit B hm, testBit_allF]
    by_cases hlt : k < N
    · rw [hk k hlt, Bool.and_true]
    · rw [decide_eq_false hlt, Bool.false_and]
  · intro a b ha' hb' hne
    rw [madeL_len] at ha' hb' ⊢
    obtain ⟨c, hc⟩ := Nat.exists_testBit_of_ne_zero hne
    rw [Nat.testBit_and, made_bit B ha', made_bit B hb', Bool.and_eq_true, Bool.and_eq_true, Bool.and_eq_true, decide_eq_true_iff] at hc
    obtain ⟨d, hd, hk⟩ := hj a b ha' hb' ⟨c, hc.1.1, hc.1.2, hc.2.2⟩
    refine ⟨d, hd, ?_⟩
    apply Nat.eq_of_testBit_eq
    intro k
    rw [Nat.testBit_and, made_bit B hd, made_bit B ha', made_bit B hb']
    by_cases hlt : k < N
    · rw [hk k hlt, decide_eq_true hlt]
      simp
    · rw [decide_eq_false hlt]
      simp

theorem lens_cut {rows : Rows2} {m n : Nat} (hl : rows.length ≤ n) (h : ∀ r ∈ rows, r.length ≤ m) : bulk rows ≤ n + n * m := by
  unfold bulk
  have h1 := sum_le (m := m) (rows.map List.length) fun x hx => by
    obtain ⟨r, hr, rfl⟩ := List.mem_map.1 hx
    exact h r hr
  rw [List.length_map] at h1
  have h2 := Nat.mul_le_mul_right m hl
  omega
theorem made_small {B : Nat → Nat → Bool} {N : Nat} (h : N ≤ 200) : bulk (madeL B N) ≤ 1048576 := by
  have hb := lens_cut (rows := madeL B N) (n := 200) (m := 200) (by rw [madeL_len]; exact h) (fun r hr => by
    unfold madeL at hr
    obtain ⟨q, _, rfl⟩ := List.mem_map.1 hr
    exact Nat.le_trans (bRow_len _ _ _) h)
  omega
/-- The relation of a grid. -/
def bitB (g : Nat → Nat) (a b : Nat) : Bool := (g a).testBit b

/-- In a domain each two elements have a meet. -/
theorem meet_there {rows : Rows2} (h : domB rows = true) {a b : Nat} (ha : a < rows.length) (hb : b < rows.length) : ∃ c, c < rows.length ∧ joinI (backRows rows) a b = (c : Int) := by
  obtain ⟨ok, ⟨m, hm, hme⟩, hjn⟩ := domB_iff.1 h
  have hleast : ∀ x, x < rows.length → (gridF rows m).testBit x = true := fun x hx => by rw [hme, testBit_allF]; exact decide_eq_true hx
  have key : ∀ k, k ≤ rows.length → ∃ c, c < rows.length ∧ (gridF rows c).testBit a = true ∧ (gridF rows c).testBit b = true ∧ ∀ x, x < k → (gridF rows x).testBit a = true → (gridF rows x).testBit b = true → (gridF rows x).testBit c = true := by
    intro k
    induction k with
    | zero => exact fun _ => ⟨m, hm, hleast a ha, hleast b hb, fun x hx => absurd hx (Nat.not_lt_zero _)⟩
    | succ k ih =>
      intro hk
      obtain ⟨c, hc, hca, hcb, hx⟩ := ih (by omega)
      by_cases hka : (gridF rows k).testBit a = true ∧ (gridF rows k).testBit b = true
      · have hne : gridF rows c &&& gridF rows k ≠ 0 := fun e => by
          have := congrArg (fun n => n.testBit a) e
          simp only [Nat.testBit_and, hca, hka.1, Nat.zero_testBit] at this
          cases this
        obtain ⟨d, hd, e⟩ := hjn c k hc (by omega) hne
        have hbit : ∀ x, (gridF rows d).testBit x = ((gridF rows c).testBit x && (gridF rows k).testBit x) := fun x => by rw [e, Nat.testBit_and]
        have hown := ok.own d hd
        rw [hbit, Bool.and_eq_true] at hown
        refine ⟨d, hd, by rw [hbit, hca, hka.1]; rfl, by rw [hbit, hcb, hka.2]; rfl, fun x hxk h1 h2 => ?_⟩
        by_cases exk : x = k
        · subst exk; exact hown.2
        · exact ok.trans x c (by omega) (hx x (by omega) h1 h2) d hown.1
      · refine ⟨c, hc, hca, hcb, fun x hxk h1 h2 => ?_⟩
        by_cases exk : x = k
        · subst exk; exact absurd ⟨h1, h2⟩ hka
        · exact hx x (by omega) h1 h2
  obtain ⟨c, hc, hca, hcb, hx⟩ := key rows.length (Nat.le_refl _)
  have hlen := backRows_len rows
  have hb9 := ok.back
  have hbits : gridF (backRows rows) c = gridF (backRows rows) a &&& gridF (backRows rows) b := by
    apply Nat.eq_of_testBit_eq
    intro x
    rw [Nat.testBit_and, back_bit ok, back_bit ok, back_bit ok, Bool.eq_iff_iff, Bool.and_eq_true]
    constructor
    · intro h1
      have hxl := (ok.bit_lt h1).1
      exact ⟨ok.trans x c hxl h1 a hca, ok.trans x c hxl h1 b hcb⟩
    · rintro ⟨h1, h2⟩
      exact hx x (ok.bit_lt h1).1 h1 h2
  have hpos : 0 ≤ joinI (backRows rows) a b := by
    rw [join_eq hb9 (by rw [hlen]; exact ha) (by rw [hlen]; exact hb), bottomF_pos (Nat.and_lt_two_pow _ (hb9.lt b))]
    exact ⟨c, by rw [← hbits]; exact hb9.own c (by rw [hlen]; exact hc), hbits⟩
  have hbd : joinI (backRows rows) a b < rows.length := by
    rw [join_eq hb9 (by rw [hlen]; exact ha) (by rw [hlen]; exact hb)] at hpos ⊢
    unfold bottomF at hpos ⊢
    cases hf : (elems (gridF (backRows rows) a &&& gridF (backRows rows) b)).find? (fun k => gridF (backRows rows) k == gridF (backRows rows) a &&& gridF (backRows rows) b) with
    | none => rw [hf] at hpos; exact absurd hpos (by decide)
    | some k =>
      have h2 := List.mem_of_find?_eq_some hf
      rw [mem_elems (Nat.and_lt_two_pow _ (hb9.lt b)), Nat.testBit_and, Bool.and_eq_true] at h2
      have := (hb9.bit_lt h2.1).2
      rw [hlen] at this
      show (k : Int) < _
      omega
  exact ⟨(joinI (backRows rows) a b).toNat, by omega, by omega⟩
end Go.Proofs.YtppjogkednclcaaDoor

/- The product of two domains is a domain; monotone functions to it. Plain facts: no function is walked here. -/
namespace Go.Proofs.YtppjogkednclcaaDoor
open Go.RowKit Go.Deep

theorem prodL_made {rows rows' : Rows2} (h : prodOk rows rows' = true) : prodL rows rows' = madeL (prodB (gridF rows) (gridF rows') rows'.length) (rows.length * rows'.length) := by
  unfold prodL
  rw [if_pos h]
  rfl
theorem pair_parts {n' x y : Nat} (hy : y < n') : (x * n' + y) / n' = x ∧ (x * n' + y) % n' = y := by
  constructor
  · rw [Nat.add_comm, Nat.add_mul_div_right _ _ (by omega), Nat.div_eq_of_lt hy, Nat.zero_add]
  · rw [Nat.add_comm, Nat.add_mul_mod_self_right, Nat.mod_eq_of_lt hy]
theorem pair_lt {n n' x y : Nat} (hx : x < n) (hy : y < n') : x * n' + y < n * n' := by
  have := Nat.mul_le_mul_right n' (show x + 1 ≤ n from hx)
  rw [Nat.succ_mul] at this
  omega
theorem pair_eq {n' a b : Nat} (h1 : a / n' = b / n') (h2 : a % n' = b % n') : a = b := by
  rw [← Nat.div_add_mod a n', ← Nat.div_add_mod b n', h1, h2]

theorem prod_dom {rows rows' : Rows2} (h : prodOk rows rows' = true) : domB (prodL rows rows') = true := by
  have h' := h
  unfold prodOk at h'
  rw [Bool.and_eq_true, Bool.and_eq_true, decide_eq_true_iff] at h'
  obtain ⟨⟨hd, hd'⟩, hl⟩ := h'
  obtain ⟨ok, ⟨m, hm, hme⟩, hj⟩ := domB_iff.1 hd
  obtain ⟨ok', ⟨m', hm', hme'⟩, hj'⟩ := domB_iff.1 hd'
  rw [prodL_made h]
  have n1 := ok.len
  have n2 := ok'.len
  have hq : ∀ a, a < rows.length * rows'.length → a / rows'.length < rows.length := fun a ha => Nat.div_lt_of_lt_mul (by rw [Nat.mul_comm]; exact ha)
  have hr : ∀ a, a % rows'.length < rows'.length := fun a => Nat.mod_lt _ (by omega)
  have hand : ∀ p q r s : Bool, ((p && q) && (r && s)) = ((p && r) && (q && s)) := by decide
  refine made_dom (Nat.mul_pos n1.1 n2.1) hl (fun a ha => ?_) (fun a b ha hb hab hne => ?_) (fun a b c ha hb hc hab hbc => ?_) ⟨m * rows'.length + m', pair_lt hm hm', fun k hk => ?_⟩ (fun a b ha hb hc => ?_)
  · unfold prodB
    rw [ok.own _ (hq a ha), ok'.own _ (hr a)]
    rfl
  · unfold prodB at hab ⊢
    rw [Bool.and_eq_true] at hab
    by_cases e : b / rows'.length = a / rows'.length
    · rw [ok'.anti _ _ (hr a) hab.2 (fun e2 => hne (pair_eq e e2)), Bool.and_false]
    · rw [ok.anti _ _ (hq a ha) hab.1 e, Bool.false_and]
  · unfold prodB at hab hbc ⊢
    rw [Bool.and_eq_true] at hab hbc
    rw [ok.trans _ _ (hq a ha) hab.1 _ hbc.1, ok'.trans _ _ (hr a) hab.2 _ hbc.2]
    rfl
  · unfold prodB
    obtain ⟨e1, e2⟩ := pair_parts (x := m) hm'
    rw [e1, e2, hme, hme', testBit_allF, testBit_allF, decide_eq_true (hq k hk), decide_eq_true (hr k)]
    rfl
  · obtain ⟨c, hcl, h1, h2⟩ := hc
    unfold prodB at h1 h2
    rw [Bool.and_eq_true] at h1 h2
    have hne1 : gridF rows (a / rows'.length) &&& gridF rows (b / rows'.length) ≠ 0 := fun e => by
      have := congrArg (fun n => n.testBit (c / rows'.length)) e
      simp only [Nat.testBit_and, h1.1, h2.1, Nat.zero_testBit] at this
      cases this
    have hne2 : gridF rows' (a % rows'.length) &&& gridF rows' (b % rows'.length) ≠ 0 := fun e => by
      have := congrArg (fun n => n.testBit (c % rows'.length)) e
      simp only [Nat.testBit_and, h1.2, h2.2, Nat.zero_testBit] at this
      cases this
    obtain ⟨c1, hc1, e1⟩ := hj _ _ (hq a ha) (hq b hb) hne1
    obtain ⟨c2, hc2, e2⟩ := hj' _ _ (hr a) (hr b) hne2
    refine ⟨c1 * rows'.length + c2, pair_lt hc1 hc2, fun k _ => ?_⟩
    unfold prodB
    obtain ⟨p1, p2⟩ := pair_parts (x := c1) hc2
    rw [p1, p2, e1, e2, Nat.testBit_and, Nat.testBit_and, hand]

/-- The list f is a monotone function of n elements with the relation F to N elements with the relation B. -/
def MonoQ (F B : Nat → Nat → Bool) (n N : Nat) (f : List Int) : Prop :=
  f.length = n ∧ (∀ x ∈ f, outN N x = false) ∧ ∀ a b : Nat, a < n → b < n → F a b = true → B (f.getD a 0).toNat (f.getD b 0).toNat = true
theorem mono_made {rows : Rows2} {B : Nat → Nat → Bool} {N : Nat} (h : Ok rows) (f : List Int) : monoI rows (madeL B N) f = true ↔ MonoQ (bitB (gridF rows)) B rows.length N f := by
  classical
  unfold monoI
  rw [decide_eq_true_iff]
  have e : ∀ x : Int, outN N x = false ↔ (0 ≤ x ∧ x < (N : Int)) := fun x => by
    unfold outN
    rw [Bool.or_eq_false_iff, decide_eq_false_iff_not, decide_eq_false_iff_not]
    omega
  have hup : ∀ a b : Nat, a < N → b < N → (upB (madeL B N) a (b : Int) = true ↔ B a b = true) := fun a b ha hb => by
    unfold upB
    rw [getD_at [] (by rw [madeL_len]; exact ha), madeL_at, decide_eq_true_iff, bRow_mem]
    constructor
    · rintro ⟨k, _, h2, e3⟩
      obtain rfl : b = k := by omega
      exact h2
    · intro h2
      exact ⟨b, hb, h2, rfl⟩
  unfold Mono MonoQ bitB
  rw [madeL_len]
  constructor
  · rintro ⟨h1, h2, h3⟩
    refine ⟨h1, fun x hx => (e x).2 (h2 x hx), fun a b ha hb hab => ?_⟩
    have h4 := h3 a b ha hb (by rw [h.up ha]; exact hab)
    have hfa := h2 _ (getD_lt 0 (h1 ▸ ha) ▸ List.getElem_mem (h1 ▸ ha))
    have hfb := h2 _ (getD_lt 0 (h1 ▸ hb) ▸ List.getElem_mem (h1 ▸ hb))
    rw [← Int.toNat_of_nonneg hfb.1, hup _ _ (by omega) (by omega)] at h4
    exact h4
  · rintro ⟨h1, h2, h3⟩
    refine ⟨h1, fun x hx => (e x).1 (h2 x hx), fun a b ha hb hab => ?_⟩
    have h4 := h3 a b ha hb (by rw [← h.up ha]; exact hab)
    have ma : f.getD a 0 ∈ f := getD_lt 0 (h1 ▸ ha) ▸ List.getElem_mem (h1 ▸ ha)
    have mb : f.getD b 0 ∈ f := getD_lt 0 (h1 ▸ hb) ▸ List.getElem_mem (h1 ▸ hb)
    have hfa := (e _).1 (h2 _ ma)
    have hfb := (e _).1 (h2 _ mb)
    rw [← Int.toNat_of_nonneg hfb.1, hup _ _ (by omega) (by omega)]
    exact h4
end Go.Proofs.YtppjogkednclcaaDoor
