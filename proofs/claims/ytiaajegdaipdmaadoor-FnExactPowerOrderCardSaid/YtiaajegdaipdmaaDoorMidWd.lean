/- An order that is built row by row in a variable of its own: 'out.Up = append(out.Up, row)'. Plain facts on worlds: no function is walked here. -/
import Derived.Test.YtiaajegdaipdmaaDoorOwnB
import Derived.Test.YtiaajegdaipdmaaDoorBackS
import Derived.RangeFuncBox
import Derived.Test.YtiaajegdaipdmaaDoorList
import Derived.Test.YtiaajegdaipdmaaDoorBottom
import Derived.Test.YtiaajegdaipdmaaDoorGrid
import Derived.Test.YtiaajegdaipdmaaDoorOkG
import Derived.Test.YtiaajegdaipdmaaDoorMidWb
import Derived.Deep.AppendLies
import Derived.Test.YtiaajegdaipdmaaDoorElemP
import Derived.Test.YtiaajegdaipdmaaDoorBack
import Derived.Test.YtiaajegdaipdmaaDoorLw
import Derived.Lib.SlicesSearch
import Derived.Deep.RegionLaw
import Derived.Deep.RegionHeld3
namespace Go.Proofs.YtiaajegdaipdmaaDoor
open Go.RowKit Go.Deep

/-- Rows are as they were if no block turns but one of another type. -/
theorem OwnR.kept_but {t u : TypeId} {W W' : World} {v : Value} {n : Nat} {R : Nat → List Int} {lo hi z : Nat} {tz : TypeId} {x : Value} (h : OwnR t u W v n R lo hi) (hz : Boxed W z tz x) (h1 : tz ≠ t) (h2 : tz ≠ u) (hb : ∀ b, b ≠ z → W'.heap[b]? = W.heap[b]?) : OwnR t u W' v n R lo hi := by
  obtain h | ⟨g, C, f, rfl, k1, k2, k3, k4, k5, k6, k7⟩ := h
  · exact .inl h
  · have hg : g ≠ z := fun e => by
      obtain ⟨c, k5, _⟩ := k5
      unfold Boxed at hz
      rw [e, hz] at k5
      injection k5 with k5
      injection k5 with _ k5
      exact h2 k5
    refine .inr ⟨g, C, f, rfl, k1, k2, k3, k4, k5.of_block (hb g hg), fun j hj => (k6 j hj).kept fun b e => hb b fun e2 => ?_, k7⟩
    obtain ⟨_, _, c, k8⟩ := (k6 j hj).block b e
    unfold Boxed at hz
    rw [e2, hz] at k8
    injection k8 with k8
    injection k8 with _ k8
    exact h1 k8

theorem ord_ne_int : (26 : TypeId) ≠ 3 := by decide
theorem ord_ne_ints : (26 : TypeId) ≠ 34 := by decide
theorem int_ne_ints : (3 : TypeId) ≠ 34 := by decide

/-- While an order is built in the box Z: n rows R are there. -/
structure Out (w0 : World) (Z : Nat) (u : Value) (n : Nat) (R : Nat → List Int) (W : World) : Prop where
  below : Below w0.heap.size w0 W
  out : Boxed W Z 26 u
  own : OwnR 3 34 W u n R w0.heap.size W.heap.size
  place : w0.heap.size ≤ Z
theorem Out.step {w0 : World} {Z : Nat} {u : Value} {n : Nat} {R : Nat → List Int} {W W' : World} (h : Out w0 Z u n R W) (hb : Below W.heap.size W W') : Out w0 Z u n R W' :=
  ⟨h.below.trans (hb.mono h.below.size), (hb.block _ h.out.lt).trans h.out, (h.own.below hb (Nat.le_refl _)).wider (Nat.le_refl _) hb.size, h.place⟩
theorem Out.congr {w0 : World} {Z : Nat} {u : Value} {n : Nat} {R R' : Nat → List Int} {W : World} (h : Out w0 Z u n R W) (he : ∀ j, j < n → R j = R' j) : Out w0 Z u n R' W :=
  ⟨h.below, h.out, h.own.congr he, h.place⟩

theorem Out.pushed {w0 : World} {Z : Nat} {u : Value} {n : Nat} {R : Nat → List Int} {wr w2 w3 : World} {f : Nat → Value} {v' u2 : Value} {xs : List Int} {o : Obj} (h : Out w0 Z u n R wr)
    (h0 : wr.ownsRow w0.heap.size 34 1 u n ((List.range n).map f)) (h1 : ∀ j, j < n → OwnI 3 wr (f j) (R j) w0.heap.size wr.heap.size) (h2 : ∀ i j, i < j → j < n → (f i).ownBlock = none ∨ (f i).ownBlock ≠ (f j).ownBlock)
    (hb : Below wr.heap.size wr w2) (hn : OwnI 3 w2 v' xs wr.heap.size w2.heap.size) (hown : w3.ownsRow w0.heap.size 34 1 u2 (n + 1) ((List.range n).map f ++ [v'])) (hgrow : (w2.alloc o).grownBy w3 u.ownBlock) :
    Out w0 Z u2 (n + 1) (fun q => if q = n then xs else R q) (w3.setCell ⟨Z, 0, none⟩ u2) := by
  have hs := h.step hb
  have hw := h.below.size
  have hz := hb.size
  obtain ⟨k1, k2, k3, k4, k5⟩ := Boxed.appended (tmp := o) hs.out ord_ne_ints (owns_below h0 hb) hs.below.size h.place hown hgrow
  have h1' : ∀ j, j < n → OwnI 3 w2 (f j) (R j) w0.heap.size wr.heap.size := fun j hj => (h1 j hj).kept fun b hb' => hb.block b ((h1 j hj).block b hb').2.1
  have hp := OwnR.pushed (W := w2) (mid := wr.heap.size) (lo := w0.heap.size) int_ne_ints (owns_below h0 hb) h1' h2 hw hz hn ((Below.refl _ w2).alloc (Nat.le_refl _) o) hown hgrow
  refine ⟨hs.below.trans k5, k2, ?_, h.place⟩
  rw [size_setCell]
  exact hp.kept_but k1 ord_ne_int ord_ne_ints fun b hb' => Below.heap_setCell _ _ _ b hb'
/-- The variable's cell, behind the append. -/
theorem Out.far {w0 : World} {Z : Nat} {u : Value} {n : Nat} {R : Nat → List Int} {w2 w3 : World} {xs : List Value} {o : Obj} (h : Out w0 Z u n R w2) (h0 : w2.ownsRow w0.heap.size 34 1 u n xs) (hgrow : (w2.alloc o).grownBy w3 u.ownBlock) : Boxed w3 Z 26 u :=
  (h.out.alloc o).kept hgrow (Boxed.not_row h.out ord_ne_ints h0)
/-- An order of one row, right behind. -/
theorem Out.one {w0 W : World} {v : Value} {xs : List Int} (hb : Below w0.heap.size w0 W) (hv : OwnI 3 W v xs w0.heap.size W.heap.size) :
    Out w0 (W.heap.size + 1) (.slice (some ⟨W.heap.size, 0, none⟩) 1 1) 1 (fun _ => xs) ((W.alloc (.cells #[v] 34)).alloc (.cells #[.slice (some ⟨W.heap.size, 0, none⟩) 1 1] 26)) := by
  have s1 : (W.alloc (.cells #[v] 34)).heap.size = W.heap.size + 1 := World.size_alloc _ _
  have hz := hb.size
  have b1 := (Below.refl W.heap.size W).alloc (Nat.le_refl _) (.cells #[v] 34)
  have b2 := b1.alloc (by rw [s1]; omega) (.cells #[.slice (some ⟨W.heap.size, 0, none⟩) 1 1] 26)
  have r1 := World.rowIs_alloc W #[v] 34 (fun _ => v) (fun i hi => by
    obtain rfl : i = 0 := by simpa using hi
    rfl)
  have bx := Boxed.new (W.alloc (.cells #[v] 34)) 26 (.slice (some ⟨W.heap.size, 0, none⟩) 1 1)
  rw [s1] at bx
  refine ⟨hb.trans (b2.mono hz), bx, .inr ⟨W.heap.size, 1, fun _ => v, rfl, Nat.le_refl _, by decide, hz, by rw [World.size_alloc, s1]; omega, r1.alloc _, fun j _ => ?_, fun i j hij hj => absurd hj (by omega)⟩, by omega⟩
  exact (hv.wider (Nat.le_refl _) (by rw [World.size_alloc, s1]; omega)).kept fun b e => b2.block b (hv.block b e).2.1
end Go.Proofs.YtiaajegdaipdmaaDoor

/- An order that is new; no row of it yet. Plain facts on worlds: no function is walked here. -/
namespace Go.Proofs.YtiaajegdaipdmaaDoor
open Go.RowKit Go.Deep

/-- An order in new memory. -/
def OrdNew (N : Nat) (R : Nat → List Int) (w : World) (e : Ending) (w' : World) : Prop :=
  ∃ v, e = .returned (.agg #[v]) ∧ OwnR 3 34 w' v N R w.heap.size w'.heap.size ∧ Below w.heap.size w w'
/-- No row yet. -/
theorem Out.empty (w0 : World) (R : Nat → List Int) : Out w0 (w0.heap.size + 1) (.slice (some ⟨w0.heap.size, 0, none⟩) 0 0) 0 R ((w0.alloc (.cells #[] 34)).alloc (.cells #[.slice (some ⟨w0.heap.size, 0, none⟩) 0 0] 26)) := by
  have s1 : (w0.alloc (.cells #[] 34)).heap.size = w0.heap.size + 1 := World.size_alloc _ _
  have b1 := (Below.refl w0.heap.size w0).alloc (Nat.le_refl _) (.cells #[] 34)
  have b2 := b1.alloc (by rw [s1]; omega) (.cells #[.slice (some ⟨w0.heap.size, 0, none⟩) 0 0] 26)
  have r1 := World.rowIs_alloc w0 #[] 34 (fun _ => undef) (fun _ h => absurd h (Nat.not_lt_zero _))
  have bx := Boxed.new (w0.alloc (.cells #[] 34)) 26 (.slice (some ⟨w0.heap.size, 0, none⟩) 0 0)
  rw [s1] at bx
  exact ⟨b2, bx, .inr ⟨w0.heap.size, 0, _, rfl, Nat.le_refl _, Nat.zero_le _, Nat.le_refl _, by rw [World.size_alloc, s1]; omega, r1.alloc _, fun j hj => absurd hj (Nat.not_lt_zero _), fun i j _ hj => absurd hj (Nat.not_lt_zero _)⟩, Nat.le_succ _⟩
end Go.Proofs.YtiaajegdaipdmaaDoor

/- The program's order of a grid (grid.order), in memory of its own. -/
namespace Go.Proofs.YtiaajegdaipdmaaDoor
open Go.RowKit Go.Deep Go.Shelf

theorem ints_ne : (3 : TypeId) ≠ 34 := by decide

/-- Rows in memory of their own, as an order. -/
def RowsPost (n : Nat) (R : Nat → List Int) (w : World) (e : Ending) (w' : World) : Prop :=
  ∃ v, e = .returned (.agg #[v]) ∧ OwnR 3 34 w' v n R w.heap.size w'.heap.size ∧ Below w.heap.size w w'

/-- A list is stored into row i of rows that are being filled. -/
theorem OwnR.fill {W W2 : World} {g n i lo : Nat} {R : Nat → List Int} {v' : Value} {xs : List Int} (h : OwnR 3 34 W (.slice (some ⟨g, 0, none⟩) n n) n R lo W.heap.size)
    (hb : Below W.heap.size W W2) (hn : OwnI 3 W2 v' xs W.heap.size W2.heap.size) :
    OwnR 3 34 (W2.setCell ⟨g, i, none⟩ v') (.slice (some ⟨g, 0, none⟩) n n) n (fun q => if q = i then xs else R q) lo (W2.setCell ⟨g, i, none⟩ v').heap.size := by
  obtain hnil | ⟨g1, C1, f, e, h1, h2, h3, h4, h5, h6, h7⟩ := h
  · cases hnil.1
  cases e
  rw [size_setCell]
  exact OwnR.stored ints_ne h1 h2 h3 h5 h6 h7 hb hn
theorem OwnR.cellOf {W : World} {g n i lo hi : Nat} {R : Nat → List Int} (h : OwnR 3 34 W (.slice (some ⟨g, 0, none⟩) n n) n R lo hi) (hlt : i < n) : (∃ u, W.cell? ⟨g, i, none⟩ = some u) ∧ W.frozen? ⟨g, i, none⟩ = false ∧ g < W.heap.size := by
  obtain hnil | ⟨g1, C1, f, e, h1, h2, h3, h4, h5, h6, h7⟩ := h
  · cases hnil.1
  cases e
  exact ⟨⟨_, h5.cell hlt⟩, h5.frozen i, h5.lt⟩
/-- What row j holds when i rows have been filled. -/
def upto (R : Nat → List Int) (i j : Nat) : List Int := if j < i then R j else []
theorem upto_step (R : Nat → List Int) (i : Nat) : (fun q => if q = i then R i else upto R i q) = upto R (i + 1) := by
  funext q
  unfold upto
  by_cases e : q = i
  · subst e; rw [if_pos rfl, if_pos (by omega)]
  · rw [if_neg e]
    by_cases h : q < i
    · rw [if_pos h, if_pos (by omega)]
    · rw [if_neg h, if_neg (by omega)]
theorem OwnR.made (W : World) (n lo : Nat) (hn : n ≤ maxLen) (hlo : lo ≤ W.heap.size) (R : Nat → List Int) :
    OwnR 3 34 (W.alloc (.cells (madeCells #[.slice none 0 0] n) 34)) (.slice (some ⟨W.heap.size, 0, none⟩) n n) n (upto R 0) lo (W.alloc (.cells (madeCells #[.slice none 0 0] n) 34)).heap.size :=
  .inr ⟨W.heap.size, n, _, rfl, Nat.le_refl _, hn, hlo, by simp, World.rowIs_made W (.slice none 0 0) n 34, fun j _ => by unfold upto; rw [if_neg (Nat.not_lt_zero _)]; exact OwnI.nil _ _ _ _, fun _ _ _ _ => .inl rfl⟩

set_option maxRecDepth 100000 in
set_option maxHeartbeats 4000000 in
theorem order_any (b n : Nat) (g : Nat → Nat) (w : World) (hg : GridAt w b g) (hT : Tab w) (hn : GridN g n) :
    Calls Tryd.prog 32 #[.pointer (some ⟨b, 0, none⟩)] w (RowsPost n (fun i => intsOf (elems (g i))) w) := by
  have hn2 := hn.le
  have hmk := run_make_row' (P := Tryd.prog) 22 34 (.slice none 0 0) 24 Tryd.underlying22 infoInts rfl .i64 .i64 n (by omega) (by omega)
  have hL0 : Look b g w w := ⟨hg, hT, Below.refl _ _, hg.lt⟩
  have hL1 := hL0.step ((Below.refl _ w).alloc (Nat.le_refl _) (.cells #[.slice none 0 0] 26))
  have hbx := Boxed.new w 26 (.slice none 0 0)
  have hcall := size_any b n g _ hL1.grid hn.le hn.some hn.none
  have HL1 := Lib.hid hL1
  have HBX := Lib.hid hbx
  clear hL0 hL1 hg hT hn hbx
  go_enter Tryd.func32, Tryd.ntmps32
  go_wp2_with (go_at_call 55; refine hcall.mono ?_; clear hcall; rintro e w1 ⟨rfl, hb1⟩; have HL2 := Lib.hid (HL1.out.step hb1); have HBX1 : Hid (Boxed w1 w.heap.size 26 (.slice none 0 0)) := Lib.hid ((hb1.block _ HBX.out.lt).trans HBX.out); clear hb1)
  clear hmk
  have HLa := Lib.hid (HL2.out.step ((Below.refl _ w1).alloc (Nat.le_refl _) (.cells (madeCells #[.slice none 0 0] n) 34)))
  have HBa := Lib.hid (HBX1.out.alloc (.cells (madeCells #[.slice none 0 0] n) 34))
  have HOa := Lib.hid (OwnR.made w1 n (w.heap.size + 1) (by unfold maxLen; omega) HBX1.out.lt (fun i => intsOf (elems (g i))))
  have hwl : w.heap.size < w1.heap.size := HBX1.out.lt
  go_loopw [10] (fun iv wr => ∃ i : Nat, i ≤ n ∧ iv = .int .i64 i ∧ OwnR 3 34 wr (.slice (some ⟨w1.heap.size, 0, none⟩) n n) n (upto (fun i => intsOf (elems (g i))) i) (w.heap.size + 1) wr.heap.size ∧ Boxed wr w.heap.size 26 (.slice none 0 0) ∧ Look b g w wr) (fun iv _ => n - (intOf iv).toNat)
  case atStart => exact ⟨0, Nat.zero_le _, rfl, HOa.out, HBa.out, HLa.out⟩
  case round =>
    obtain ⟨i, hi, rfl, ho, hbx, hL⟩ := hrel
    have HO := Lib.hid ho
    have HB := Lib.hid hbx
    have HL := Lib.hid hL
    clear HLa HBa HOa
    by_cases hlt : i < n
    · have hi0 : (0 : Int) ≤ (i : Int) := by omega
      have hi1 : (i : Int) < 200 := by omega
      obtain ⟨c0, c1, c2, c3⟩ := hL.grid.row i (by omega)
      have HCALL := Lib.hid (list_any (g i) wr (hL.grid.2 i) hL.tab)
      clear ho hbx hL
      go_wp2_with fail
      refine HCALL.out.mono ?_
      clear HCALL
      rintro e w2 ⟨v', rfl, hv', hb2⟩
      obtain ⟨⟨u, hu⟩, hfz, hgl⟩ := HO.out.cellOf hlt
      have hu2 : w2.cell? ⟨w1.heap.size, i, none⟩ = some u := (hb2.cell (p := ⟨w1.heap.size, i, none⟩) hgl).trans hu
      have hf2 : w2.frozen? ⟨w1.heap.size, i, none⟩ = false := (hb2.frozen (p := ⟨w1.heap.size, i, none⟩) hgl).trans hfz
      have HV := Lib.hid hv'
      have HB2 := Lib.hid hb2
      obtain ⟨a', C', rfl⟩ := hv'.form
      clear hv' hb2 hu hfz c0 c1 c2 c3
      go_wp2
      go_roundw
      case rel =>
        have hls := HL.out.step HB2.out
        refine ⟨i + 1, by omega, by go_num, ?_, ?_, hls.set (p := w1.heap.size) HL2.out.below.size _ _⟩
        · rw [← upto_step]
          exact HO.out.fill HB2.out HV.out
        · exact (Below.heap_setCell _ _ _ w.heap.size (show w.heap.size ≠ w1.heap.size by omega)).trans ((HB2.out.block _ HB.out.lt).trans HB.out)
      case measure => simp [intOf]; omega
    · obtain rfl : i = n := by omega
      have hres := hbx.cell
      have hfr := hbx.frozen
      have hc9 := World.cell?_setCell_same' wr ⟨w.heap.size, 0, none⟩ (.slice (some ⟨w1.heap.size, 0, none⟩) i i) (by rw [hres]; rfl)
      clear ho hbx hL
      go_wp2
      refine bodyPost_ret (v := .agg #[.slice (some ⟨w1.heap.size, 0, none⟩) i i]) (by simp [results, Tryd.results32, go_sem, hc9]) rfl ?_
      refine ⟨_, rfl, ?_, HL.out.below.setCell (p := ⟨w.heap.size, 0, none⟩) (Nat.le_refl _) _⟩
      rw [size_setCell]
      exact ((HO.out.kept fun b' hb' _ => Below.heap_setCell _ _ _ b' (show b' ≠ w.heap.size by omega)).wider (by omega) (Nat.le_refl _)).congr fun j hj => by unfold upto; rw [if_pos hj]
end Go.Proofs.YtiaajegdaipdmaaDoor

/- The program's order of a domain that is not built yet (built): its rows, one after the other. -/
namespace Go.Proofs.YtiaajegdaipdmaaDoor
open Go.RowKit Go.Deep Go.Shelf

/-- All rows, when b elements of row a have been looked at. -/
def bP (B : Nat → Nat → Bool) (N a b q : Nat) : List Int := if q < a then bRow B q N else if q = a then bRow B a b else []
theorem bP_start (B : Nat → Nat → Bool) (N : Nat) : bP B N 0 0 = fun _ => [] := by
  funext q
  unfold bP
  rw [if_neg (Nat.not_lt_zero _)]
  split
  · rfl
  · rfl
theorem bP_yes {B : Nat → Nat → Bool} {N a b : Nat} (h : B a b = true) : bP B N a (b + 1) = fun q => if q = a then bP B N a b a ++ [(b : Int)] else bP B N a b q := by
  funext q
  unfold bP
  by_cases e : q = a
  · subst e
    rw [if_neg (Nat.lt_irrefl _), if_pos rfl, if_pos rfl, if_neg (Nat.lt_irrefl _), if_pos rfl, bRow_yes h]
  · rw [if_neg e, if_neg e, if_neg e]
theorem bP_no {B : Nat → Nat → Bool} {N a b : Nat} (h : B a b = false) : bP B N a (b + 1) = bP B N a b := by
  funext q
  unfold bP
  rw [bRow_no h]
theorem bP_next (B : Nat → Nat → Bool) (N a : Nat) : bP B N a N = bP B N (a + 1) 0 := by
  funext q
  unfold bP
  by_cases e : q = a
  · subst e
    rw [if_neg (Nat.lt_irrefl _), if_pos rfl, if_pos (Nat.lt_succ_self _)]
  · by_cases e2 : q < a
    · rw [if_pos e2, if_pos (by omega)]
    · rw [if_neg e2, if_neg e, if_neg (by omega)]
      split
      · rfl
      · rfl
theorem bP_at (B : Nat → Nat → Bool) (N a b : Nat) : bP B N a b a = bRow B a b := by unfold bP; rw [if_neg (Nat.lt_irrefl _), if_pos rfl]
theorem bP_done {B : Nat → Nat → Bool} {N q : Nat} (h : q < N) : bP B N N 0 q = bRow B q N := by unfold bP; rw [if_pos h]

/-- While the order is built; K is what of the domain's own memory is needed. -/
structure BlG (w : World) (K : World → Prop) (L N : Nat) (R : Nat → List Int) (W : World) : Prop where
  kept : K W
  res : Boxed W w.heap.size 26 (.slice none 0 0)
  own : OwnR 3 34 W (.slice (some ⟨L, 0, none⟩) N N) N R (w.heap.size + 1) W.heap.size
  below : Below w.heap.size w W
/-- K holds on when no memory turns that was there ahead of the call. -/
def Stays (w : World) (K : World → Prop) : Prop := ∀ W W' : World, Below w.heap.size W W' → K W → K W'
theorem BlG.step {w : World} {K : World → Prop} {L N : Nat} {R : Nat → List Int} {W W' : World} (hK : Stays w K) (h : BlG w K L N R W) (hb : Below W.heap.size W W') : BlG w K L N R W' :=
  ⟨hK W W' (hb.mono h.below.size) h.kept, (hb.block _ h.res.lt).trans h.res, (h.own.below hb (Nat.le_refl _)).wider (Nat.le_refl _) hb.size, h.below.trans (hb.mono h.below.size)⟩

theorem BlG.appended {w : World} {K : World → Prop} {L N : Nat} {R : Nat → List Int} {W W1 W2 : World} {f : Nat → Value} {j g' cap' : Nat} {y : Int} (hK : Stays w K) (h : BlG w K L N R W) (hN : N ≤ maxLen) (hL : w.heap.size + 1 ≤ L) (hr : W.rowIs L 34 N f)
    (hI : ∀ q, q < N → OwnI 3 W (f q) (R q) (w.heap.size + 1) W.heap.size) (hD : ∀ p q, p < q → q < N → (f p).ownBlock = none ∨ (f p).ownBlock ≠ (f q).ownBlock) (hj : j < N)
    (hy : (Lit.int .i64 y).wf = true) (hb1 : Below W.heap.size W W1)
    (hown : W2.ownsRow (w.heap.size + 1) 3 1 (.slice (some ⟨g', 0, none⟩) ((R j).length + 1) cap') ((R j).length + 1) (cellsI (R j) ++ [.int .i64 y])) (hgrow : W1.grownBy W2 (f j).ownBlock) (hat : (f j).ownBlock = some g' ∨ g' = W.heap.size + 1) (hlt : g' < W2.heap.size) :
    BlG w K L N (fun q => if q = j then R j ++ [y] else R q) (W2.setCell ⟨L, j, none⟩ (.slice (some ⟨g', 0, none⟩) ((R j).length + 1) cap')) := by
  have hz : w.heap.size < W.heap.size := h.res.lt
  have ho := OwnR.appended (t := 3) (u := 34) ints_ne (Nat.le_refl _) hN hL hr hI hD hj hy hb1.size (fun b hb => hb1.block b hb) hown hgrow (by rcases hat with h | h; exact .inl h; exact .inr (by omega)) hlt
  have hk : Below (w.heap.size + 1) W W2 := (hb1.mono (by omega)).grown hgrow (by have := hb1.size; omega) (fun b e => ((hI j hj).block b e).1)
  have hk2 := hk.setCell (p := ⟨L, j, none⟩) hL (.slice (some ⟨g', 0, none⟩) ((R j).length + 1) cap')
  exact ⟨hK _ _ (hk2.mono (by omega)) h.kept, (hk2.block _ (by omega)).trans h.res, by rw [size_setCell]; exact ho, h.below.trans (hk2.mono (by omega))⟩
/-- Rows in memory of their own, and a Boolean. -/
def RowsG (N : Nat) (R : Nat → List Int) (t : Bool) (w : World) (e : Ending) (w' : World) : Prop :=
  ∃ v, e = .returned (.tuple #[.agg #[v], .bool t]) ∧ OwnR 3 34 w' v N R w.heap.size w'.heap.size ∧ Below w.heap.size w w'
theorem Stays.grid {w : World} {p : Nat} {g : Nat → Nat} (h : p < w.heap.size) : Stays w (fun W => GridAt W p g) := fun _ _ hb hg => hg.below hb h
theorem Stays.grids {w : World} {p p' : Nat} {g g' : Nat → Nat} (h : p < w.heap.size) (h' : p' < w.heap.size) : Stays w (fun W => GridAt W p g ∧ GridAt W p' g') := fun _ _ hb hg => ⟨hg.1.below hb h, hg.2.below hb h'⟩
end Go.Proofs.YtiaajegdaipdmaaDoor

/- A row that a relation makes, as a number. Plain facts: no function is walked here. -/
namespace Go.Proofs.YtiaajegdaipdmaaDoor
open Go.RowKit Go.Deep

/-- Row a of the rows that a relation makes, when b elements have been looked at. -/
def bNum (B : Nat → Nat → Bool) (a : Nat) : Nat → Nat
  | 0 => 0
  | b + 1 => if B a b then put (bNum B a b) b else bNum B a b
theorem bNum_bit (B : Nat → Nat → Bool) (a k : Nat) : ∀ n, (bNum B a n).testBit k = (decide (k < n) && B a k)
  | 0 => by simp [bNum]
  | n + 1 => by
    have ih := bNum_bit B a k n
    unfold bNum
    by_cases h : B a n = true
    · rw [if_pos h, testBit_put, ih]
      by_cases e : n = k
      · subst e; simp [h]
      · rw [decide_eq_false e, Bool.or_false]
        congr 1
        rw [decide_eq_decide]; omega
    · rw [if_neg h, ih]
      by_cases e : k = n
      · subst e; simp [h]
      · congr 1
        rw [decide_eq_decide]; omega
theorem bNum_lt (B : Nat → Nat → Bool) (a : Nat) : ∀ n, n ≤ 256 → bNum B a n < 2 ^ 256
  | 0, _ => Nat.two_pow_pos 256
  | n + 1, h => by
    have ih := bNum_lt B a n (by omega)
    unfold bNum
    split
    · exact put_lt ih (by omega)
    · exact ih
end Go.Proofs.YtiaajegdaipdmaaDoor

/- The rows of a domain that is not built yet, as numbers (rowsOf), and its order (built). -/
namespace Go.Proofs.YtiaajegdaipdmaaDoor
open Go.RowKit Go.Deep Go.Shelf

theorem bNum_elems (B : Nat → Nat → Bool) (a : Nat) {n : Nat} (h : n ≤ 256) : intsOf (elems (bNum B a n)) = bRow B a n := by
  unfold intsOf elems bRow
  congr 1
  have hf : (fun b => (bNum B a n).testBit b) = fun k => decide (k < n) && B a k := by funext k; exact bNum_bit B a k n
  rw [hf]
  obtain ⟨m, hm⟩ : ∃ m, 256 = n + m := ⟨256 - n, by omega⟩
  rw [hm, List.range_add, List.filter_append]
  have h1 : (List.filter (fun k => decide (k < n) && B a k) (List.range n)) = List.filter (fun k => B a k) (List.range n) := List.filter_congr fun k hk => by
    rw [List.mem_range] at hk
    rw [decide_eq_true hk, Bool.true_and]
  have h2 : List.filter (fun k => decide (k < n) && B a k) (List.map (fun x => n + x) (List.range m)) = [] := List.filter_eq_nil_iff.2 fun k hk => by
    obtain ⟨x, _, rfl⟩ := List.mem_map.1 hk
    rw [decide_eq_false (by omega)]
    simp
  rw [h1, h2, List.append_nil]
/-- All rows, when b elements of row a have been looked at. -/
def bG (B : Nat → Nat → Bool) (N a b q : Nat) : Nat := if q < a then bNum B q N else if q = a then bNum B a b else 0
theorem bG_start (B : Nat → Nat → Bool) (N : Nat) : bG B N 0 0 = fun _ => 0 := by
  funext q
  unfold bG
  rw [if_neg (Nat.not_lt_zero _)]
  split
  · rfl
  · rfl
theorem bG_yes {B : Nat → Nat → Bool} {N a b : Nat} (h : B a b = true) : bG B N a (b + 1) = fun j => if j = a then put (bG B N a b a) b else bG B N a b j := by
  funext q
  unfold bG
  by_cases e : q = a
  · subst e
    rw [if_neg (Nat.lt_irrefl _), if_pos rfl, if_pos rfl, if_neg (Nat.lt_irrefl _), if_pos rfl]
    show (if B q b = true then _ else _) = _
    rw [if_pos h]
  · rw [if_neg e, if_neg e, if_neg e]
theorem bG_no {B : Nat → Nat → Bool} {N a b : Nat} (h : B a b = false) : bG B N a (b + 1) = bG B N a b := by
  funext q
  unfold bG
  have e : bNum B a (b + 1) = bNum B a b := by
    show (if B a b = true then _ else _) = _
    rw [h]; rfl
  rw [e]
theorem bG_next (B : Nat → Nat → Bool) (N a : Nat) : bG B N a N = bG B N (a + 1) 0 := by
  funext q
  unfold bG
  by_cases e : q = a
  · subst e
    rw [if_neg (Nat.lt_irrefl _), if_pos rfl, if_pos (Nat.lt_succ_self _)]
  · by_cases e2 : q < a
    · rw [if_pos e2, if_pos (by omega)]
    · rw [if_neg e2, if_neg e, if_neg (by omega)]
      split
      · rfl
      · rfl
/-- The rows of the domain. -/
def madeG (B : Nat → Nat → Bool) (N : Nat) : Nat → Nat := bG B N N 0
theorem madeG_lt {B : Nat → Nat → Bool} {N q : Nat} (h : q < N) : madeG B N q = bNum B q N := by unfold madeG bG; rw [if_pos h]
theorem madeG_out {B : Nat → Nat → Bool} {N q : Nat} (h : N ≤ q) : madeG B N q = 0 := by
  unfold madeG bG
  rw [if_neg (by omega)]
  split
  · rfl
  · rfl
theorem madeG_bit (B : Nat → Nat → Bool) (N q k : Nat) : (madeG B N q).testBit k = (decide (q < N) && decide (k < N) && B q k) := by
  by_cases h : q < N
  · rw [madeG_lt h, bNum_bit, decide_eq_true h, Bool.true_and]
  · rw [madeG_out (by omega), Nat.zero_testBit, decide_eq_false h]; rfl
theorem madeG_gridN {B : Nat → Nat → Bool} {N : Nat} (hN : N ≤ 200) (hr : ∀ q, q < N → B q q = true) : GridN (madeG B N) N :=
  ⟨hN, fun i hi h => (by
    have e := madeG_bit B N i i
    rw [h, Nat.zero_testBit, decide_eq_true hi, hr i hi] at e
    cases e), fun _ => madeG_out (Nat.le_refl _)⟩

/-- What rowsOf answers: none, or rows in memory of their own. -/
def RowsNo (w : World) (e : Ending) (w' : World) : Prop := e = .returned (.tuple #[.pointer none, .bool false]) ∧ Below w.heap.size w w'
def RowsYes (G : Nat → Nat) (w : World) (e : Ending) (w' : World) : Prop :=
  (∃ p : Nat, e = .returned (.tuple #[.pointer (some ⟨p, 0, none⟩), .bool true]) ∧ w.heap.size ≤ p ∧ GridAt w' p G) ∧ Below w.heap.size w w'

/-- While the rows are laid; K is what of the domain's own memory is needed. -/
structure RwG (w : World) (K : World → Prop) (p : Nat) (G : Nat → Nat) (W : World) : Prop where
  kept : K W
  grid : GridAt W p G
  own : w.heap.size ≤ p
  below : Below w.heap.size w W
theorem RwG.step {w : World} {K : World → Prop} {p : Nat} {G : Nat → Nat} {W W' : World} (hK : Stays w K) (h : RwG w K p G W) (hb : Below W.heap.size W W') : RwG w K p G W' :=
  ⟨hK W W' (hb.mono h.below.size) h.kept, h.grid.below hb h.grid.lt, h.own, h.below.trans (hb.mono h.below.size)⟩
theorem RwG.put {w : World} {K : World → Prop} {p : Nat} {G : Nat → Nat} {W : World} (hK : Stays w K) (h : RwG w K p G W) {k i : Nat} (hk : k < 200) (hi : i < 200) (m : Nat) :
    RwG w K p (fun j => if j = k then put (G k) i else G j) ((W.drewN m).setCell ⟨p, k * 4 + i / 64, none⟩ (.int .u64 ((word (G k) (i / 64) ||| 2 ^ (i % 64) : Nat) : Int))) := by
  have hb := below_put (Below.refl w.heap.size W) m (q := p) h.own (k * 4 + i / 64) (.int .u64 ((word (G k) (i / 64) ||| 2 ^ (i % 64) : Nat) : Int))
  exact ⟨hK _ _ hb h.kept, h.grid.putAt hk (by omega) m, h.own, h.below.trans hb⟩

set_option maxRecDepth 100000 in
set_option maxHeartbeats 4000000 in
/-- An order of too many elements is not made. -/
theorem built_no (x : Value) (w : World) (h : ∀ W, Below w.heap.size w W → Calls Tryd.prog 31 #[x] W (RowsNo W)) :
    Calls Tryd.prog 17 #[x] w (RowsG 0 (fun _ => []) false w) := by
  have b0 := (Below.refl w.heap.size w).alloc (Nat.le_refl _) (.cells #[.slice none 0 0] 26)
  have hbx := Boxed.new w 26 (.slice none 0 0)
  have hc1 := h _ b0
  have HBX := Lib.hid hbx
  have HB0 := Lib.hid b0
  clear b0 hbx h
  go_enter Tryd.func17, Tryd.ntmps17
  go_wp2_with (go_at_call 31; refine hc1.mono ?_; clear hc1; rintro e w1 ⟨rfl, hb1⟩; have HBX1 : Hid (Boxed w1 w.heap.size 26 (.slice none 0 0)) := Lib.hid ((hb1.block _ HBX.out.lt).trans HBX.out); have HB1 := Lib.hid (HB0.out.trans (hb1.mono HB0.out.size)); have hres := HBX1.out.cell; have hfr := HBX1.out.frozen; clear hb1)
  have hc9 := World.cell?_setCell_same' w1 ⟨w.heap.size, 0, none⟩ (.slice none 0 0) (by rw [hres]; rfl)
  refine bodyPost_ret (v := .tuple #[.agg #[.slice none 0 0], .bool false]) (by simp [results, Tryd.results17, go_sem, hc9]) rfl ?_
  exact ⟨_, rfl, OwnR.nil _ _ _ _ _ _, HB1.out.setCell (p := ⟨w.heap.size, 0, none⟩) (Nat.le_refl _) _⟩

set_option maxRecDepth 100000 in
set_option maxHeartbeats 4000000 in
theorem built_yes (x : Value) (B : Nat → Nat → Bool) (N : Nat) (w : World) (hT : Tab w) (hN : N ≤ 200) (hr : ∀ q, q < N → B q q = true) (h : ∀ W, Below w.heap.size w W → Calls Tryd.prog 31 #[x] W (RowsYes (madeG B N) W)) :
    Calls Tryd.prog 17 #[x] w (RowsG N (fun q => bRow B q N) true w) := by
  have b0 := (Below.refl w.heap.size w).alloc (Nat.le_refl _) (.cells #[.slice none 0 0] 26)
  have hbx := Boxed.new w 26 (.slice none 0 0)
  have hc1 := h _ b0
  have HBX := Lib.hid hbx
  have HB0 := Lib.hid b0
  have HORD := Lib.hid (fun W p (hg : GridAt W p (madeG B N)) (hW : Below w.heap.size w W) => order_any p N (madeG B N) W hg (hT.below hW) (madeG_gridN hN hr))
  clear b0 hbx h hr hT
  go_enter Tryd.func17, Tryd.ntmps17
  go_wp2_with (first | (go_at_call 31; refine hc1.mono ?_; clear hc1; rintro e w1 ⟨⟨p, rfl, _, hg⟩, hb1⟩; have HG := Lib.hid hg; have HBX1 : Hid (Boxed w1 w.heap.size 26 (.slice none 0 0)) := Lib.hid ((hb1.block _ HBX.out.lt).trans HBX.out); have HB1 := Lib.hid (HB0.out.trans (hb1.mono HB0.out.size)); clear hb1 hg) | (go_at_call 32; refine (HORD.out _ p HG.out HB1.out).mono ?_; rintro e w2 ⟨u, rfl, hu, hb2⟩; obtain ⟨a2, C2, rfl⟩ := hu.form; have HU := Lib.hid hu; have HBX2 : Hid (Boxed w2 w.heap.size 26 (.slice none 0 0)) := Lib.hid ((hb2.block _ HBX1.out.lt).trans HBX1.out); have HB2 := Lib.hid (HB1.out.trans (hb2.mono HB1.out.size)); have hres := HBX2.out.cell; have hfr := HBX2.out.frozen; clear hu hb2))
  have hc9 := World.cell?_setCell_same' w2 ⟨w.heap.size, 0, none⟩ (.slice a2 N C2) (by rw [hres]; rfl)
  have hw1 : w.heap.size < w1.heap.size := HBX1.out.lt
  refine bodyPost_ret (v := .tuple #[.agg #[.slice a2 N C2], .bool true]) (by simp [results, Tryd.results17, go_sem, hc9]) rfl ?_
  refine ⟨_, rfl, ?_, HB2.out.setCell (p := ⟨w.heap.size, 0, none⟩) (Nat.le_refl _) _⟩
  rw [size_setCell]
  exact ((HU.out.kept fun b hb _ => Below.heap_setCell _ _ _ b (show b ≠ w.heap.size by omega)).wider (by omega) (Nat.le_refl _)).congr fun q hq => by rw [madeG_lt hq]; exact bNum_elems B q (by omega)
end Go.Proofs.YtiaajegdaipdmaaDoor

/- The model's PowerOrder. -/
namespace Go.Proofs.YtiaajegdaipdmaaDoor
open Go.RowKit Go.Deep Go.Shelf

/-- Is the set of an index below that of another one? -/
def ordB (rows : Rows2) (k a b : Nat) : Bool := undL rows k ((setsL rows k).getD a 0).toNat ((setsL rows k).getD b 0).toNat
noncomputable def ordL (rows : Rows2) (z : ByteArray) : Rows2 := if fitB rows z = true then madeL (ordB rows (kindN z)) (setsL rows (kindN z)).length else []
theorem ordL_no {rows : Rows2} {z : ByteArray} (h : fitB rows z = false) : ordL rows z = [] := by unfold ordL; rw [if_neg (by rw [h]; simp)]
theorem ordL_yes {rows : Rows2} {z : ByteArray} (h : fitB rows z = true) : ordL rows z = madeL (ordB rows (kindN z)) (setsL rows (kindN z)).length := by unfold ordL; rw [if_pos h]
theorem ord_bulk (rows : Rows2) (z : ByteArray) : bulk (ordL rows z) ≤ 1048576 := by
  unfold ordL
  split
  · rename_i h
    exact made_small (by have := setsL_len (fit_iff h).2.2.1 (kindN z); omega)
  · exact Nat.zero_le _
theorem ordp_no {t : Bool} {xs : Rows2} {w W : World} {b : Nat} (hx : xs = []) (ht : t = false) (hb : Below w.heap.size w W) (he : w.heap.size ≤ b) (u : Value) : OrderP xs t w (.returned (.tuple #[.agg #[.slice none 0 0], .bool false])) (W.setCell ⟨b, 0, none⟩ u) := by
  subst hx ht
  exact ⟨_, rfl, OwnR.nil _ _ _ _ _ _, hb.setCell (p := ⟨b, 0, none⟩) he _⟩
theorem ordp_yes {B : Nat → Nat → Bool} {N : Nat} {t : Bool} {xs : Rows2} {w W : World} {b : Nat} {u : Value} (hx : xs = madeL B N) (ht : t = true) (ho : OwnR 3 34 W u N (fun q => bRow B q N) (b + 1) W.heap.size) (hb : Below w.heap.size w W) (he : w.heap.size ≤ b) :
    OrderP xs t w (.returned (.tuple #[.agg #[u], .bool true])) (W.setCell ⟨b, 0, none⟩ u) := by
  subst hx ht
  refine ⟨_, rfl, ?_, hb.setCell (p := ⟨b, 0, none⟩) he _⟩
  rw [madeL_len, size_setCell]
  refine ((ho.kept fun b' hb' _ => Below.heap_setCell _ _ _ b' (show b' ≠ b by omega)).wider (by omega) (Nat.le_refl _)).congr fun q hq => ?_
  rw [rowsF_lt (by rw [madeL_len]; exact hq), madeL_at]
theorem infoBoolP : (Tryd.prog.info? 4).map (fun i => (i.zero, i.size, i.bytes)) = some (some (.bool false), 1, 1) := by kernel_rfl

set_option maxRecDepth 100000 in
set_option maxHeartbeats 4000000 in
theorem specPowOrder_any (v : Value) (rows : Rows2) (z : ByteArray) (w : World) (hv : RowsAt w v rows) (hn : bulk rows ≤ 1048576) :
    Calls Tryd.prog 5 #[.agg #[v], .string z] w (OrderP (ordL rows z) (fitB rows z) w) := by
  have hH0 := Held.start w 26 hv
  have hs1 : (w.alloc (.cells #[v] 26)).heap.size = w.heap.size + 1 := World.size_alloc _ _
  have hbR := Boxed.new (w.alloc (.cells #[v] 26)) 26 (.slice none 0 0)
  rw [hs1] at hbR
  have hH := hH0.below ((Below.refl _ (w.alloc (.cells #[v] 26))).alloc (Nat.le_refl _) (.cells #[.slice none 0 0] 26))
  have hcall := specPowSets_any v rows z _ hH.2.1 hn
  obtain ⟨A, C, rfl, hC, hm, _⟩ := hv
  have H := Lib.hid hH
  have BR := Lib.hid hbR
  have hcell := hH.1
  have hcellB := hbR.cell
  have hfrB := hbR.frozen
  clear hH hH0 hs1 hbR
  cases hf : fitB rows z with
  | false =>
    rw [hf] at hcall
    have HI := Lib.hid (ordL_no hf)
    have HCALL := Lib.hid hcall
    clear hf hcall
    go_enter Tryd.func5, Tryd.ntmps5
    go_wp2_with (go_at_call 12; refine HCALL.out.mono ?_; clear HCALL; rintro e w2 ⟨u, rfl, ho, hb2⟩; obtain ⟨a2, C2, rfl⟩ := ho.form; have H2 := Lib.hid (H.out.below hb2); have hbx : Boxed w2 (w.heap.size + 1) 26 (.slice none 0 0) := (hb2.block _ BR.out.lt).trans BR.out; have hres := hbx.cell; have hfr := hbx.frozen; clear hb2 ho hcell hcellB hfrB hbx)
    have hc9 := World.cell?_setCell_same' w2 ⟨w.heap.size + 1, 0, none⟩ (.slice none 0 0) (by rw [hres]; rfl)
    refine bodyPost_ret (v := .tuple #[.agg #[.slice none 0 0], .bool false]) (by simp [results, Tryd.results5, go_sem, hc9]) rfl ?_
    exact ordp_no HI.out rfl H2.out.2.2.1 (Nat.le_succ _) _
  | true =>
    rw [powSets_yes hf, hf] at hcall
    obtain ⟨_, hok, h7, hk⟩ := fit_iff hf
    have HCALL := Lib.hid hcall
    have hsl := setsL_len h7 (kindN z)
    have HI := Lib.hid (ordL_yes hf)
    have HU := Lib.hid (fun (s s' : Nat) W (h : Held w (.slice A rows.length C) rows W) (hs : s < 2 ^ 60) (hs' : s' < 2 ^ 60) => l5Under_any (.slice A rows.length C) rows z s s' W h.2.1 hok h7 hk hs hs')
    have HAT := Lib.hid (fun i (hi : i < (setsL rows (kindN z)).length) => (show ∃ s : Nat, (setsL rows (kindN z))[i] = (s : Int) ∧ s < 2 ^ 60 ∧ ((setsL rows (kindN z)).getD i 0).toNat = s by
      obtain ⟨x, e, h1, h2, _⟩ := setsTo_mem (List.getElem_mem hi)
      refine ⟨x, e, pow7_lt h7 h2, ?_⟩
      rw [Go.Lib.getD_lt _ _ hi, e]
      rfl))
    have HB := Lib.hid (fun a b => (show ordB rows (kindN z) a b = undL rows (kindN z) ((setsL rows (kindN z)).getD a 0).toNat ((setsL rows (kindN z)).getD b 0).toNat from rfl))
    obtain ⟨i0, hi0, hz0, hz1, hz2⟩ := info_parts infoInt
    obtain ⟨j0, hj0, hy0, hy1, hy2⟩ := info_parts infoInts
    generalize hkk : kindN z = k at HCALL HI HU hsl HAT HB
    obtain ⟨xs, hxs⟩ : ∃ xs, xs = setsL rows k := ⟨_, rfl⟩
    rw [← hxs] at HCALL HI hsl HAT HB
    obtain ⟨B, hB0⟩ : ∃ B, B = ordB rows k := ⟨_, rfl⟩
    rw [← hB0] at HI HB
    clear hB0
    have hmk := run_make_row' (P := Tryd.prog) 37 4 (.bool false) 1 Tryd.underlying37 infoBoolP rfl .i64 .i64 xs.length (by omega) (by omega)
    clear hcall hf hk hok hkk hxs hn
    go_enter Tryd.func5, Tryd.ntmps5
    go_upto_region 2 with (go_at_call 12; refine HCALL.out.mono ?_; clear HCALL; rintro e w2 ⟨u, rfl, ho, hb2⟩; obtain ⟨a2, C2, rfl⟩ := ho.form; have HO := Lib.hid ho; have H2 := Lib.hid (H.out.below hb2); have HB2 := Lib.hid H2.out.2.2.1; have BR2 : Hid (Boxed w2 (w.heap.size + 1) 26 (.slice none 0 0)) := Lib.hid ((hb2.block _ BR.out.lt).trans BR.out); clear hb2 ho hcell hcellB hfrB)
    have hnz : ¬ ((200 : Int) < (xs.length : Int)) := by omega
    go_upto_region 5 with fail
    have hN0 := Out.empty w2 (fun a => bRow B a xs.length)
    generalize ((w2.alloc (.cells #[] 34)).alloc (.cells #[.slice (some ⟨w2.heap.size, 0, none⟩) 0 0] 26)) = wq at hN0 ⊢
    have HZZ := Lib.hid (show w2.heap.size ≤ w2.heap.size + 1 from Nat.le_succ _)
    generalize w2.heap.size + 1 = Z at hN0 HZZ ⊢
    have HST := Lib.hid hN0
    clear hN0
    go_wp2
    go_loopw [9] (fun av wx => ∃ (a : Nat) (u : Value), a ≤ xs.length ∧ av = .int .i64 a ∧ Out w2 Z u a (fun a => bRow B a xs.length) wx) (fun av _ => xs.length - (intOf av).toNat)
    case atStart => exact ⟨0, _, Nat.zero_le _, rfl, HST.out⟩
    case round =>
      obtain ⟨wo, hwo⟩ : ∃ wo : World, wo = wr := ⟨_, rfl⟩
      subst hwo
      obtain ⟨a, u, ha, rfl, ho⟩ := hrel
      have HK := Lib.hid ho
      obtain ⟨au, Cu, rfl⟩ := ho.own.form
      clear HST
      by_cases hlt : a < xs.length
      · have hltz : (a : Int) < (xs.length : Int) := by omega
        have HRW := Lib.hid (World.rowIs_made wo (.bool false) xs.length 4)
        have HBB := Lib.hid ((Below.refl wo.heap.size wo).alloc (Nat.le_refl _) (.cells (madeCells #[.bool false] xs.length) 4))
        clear ho
        go_upto_region 9 with fail
        generalize wo.alloc (.cells (madeCells #[.bool false] xs.length) 4) = wa at HRW HBB ⊢
        go_wp2
        go_loopw [11] (fun bv wx => ∃ b : Nat, b ≤ xs.length ∧ bv = .int .i64 b ∧ wx.rowIs wo.heap.size 4 xs.length (fun i => .bool (decide (i < b) && B a i)) ∧ Below wo.heap.size wo wx) (fun bv _ => xs.length - (intOf bv).toNat)
        case atStart => exact ⟨0, Nat.zero_le _, rfl, HRW.out.congr (fun i _ => by rw [decide_eq_false (Nat.not_lt_zero i), Bool.false_and]), HBB.out⟩
        case round =>
          obtain ⟨b, hb, rfl, hr, hB⟩ := hrel
          have HR := Lib.hid hr
          have HBX := Lib.hid hB
          clear HRW HBB hB
          by_cases hbl : b < xs.length
          · have hbz : (b : Int) < (xs.length : Int) := by omega
            obtain ⟨sa, hsa, hsa2, hsa3⟩ := HAT.out a hlt
            obtain ⟨sb, hsb, hsb2, hsb3⟩ := HAT.out b hbl
            have HBW := Lib.hid (HK.out.below.trans (HBX.out.mono HK.out.below.size))
            have HBE := Lib.hid (show B a b = undL rows k sa sb by rw [HB.out, hsa3, hsb3])
            have hints := HO.out.at.below HBW.out
            obtain ⟨_, _, e0, _, _, _, hy⟩ := hints
            cases e0
            obtain ⟨b1, o1, rfl, hc1⟩ := hy a hlt
            obtain ⟨b2, o2, e1, hc2⟩ := hy b hbl
            cases e1
            rw [hsa] at hc1
            rw [hsb] at hc2
            have hcd := (H2.out.below HBW.out).1
            have hdw : Held w (.slice A rows.length C) rows wr.drew := (H2.out.below HBW.out).drew
            have HUC := Lib.hid (HU.out sa sb wr.drew hdw hsa2 hsb2)
            rw [← HBE.out] at HUC
            have hbd := below_drew wr
            have HRQ := Lib.hid (show wr.drew.rowIs wo.heap.size 4 xs.length (fun i => .bool (decide (i < b) && B a i)) from HR.out)
            have HBQ := Lib.hid (HBX.out.trans ((below_drew wr _).mono HBX.out.size))
            generalize hbt : B a b = t at HUC
            have HT := Lib.hid hbt
            have HC3 := Lib.hid (fun W' (hb : Below wr.drew.heap.size wr.drew W') => (show W'.cell? ⟨w.heap.size, 0, none⟩ = some (.slice A rows.length C) ∧ W'.cell? ⟨b1, o1 + a, none⟩ = some (.int .i64 (sa : Int)) ∧ W'.cell? ⟨b1, o1 + b, none⟩ = some (.int .i64 (sb : Int)) from
              ⟨(hb.cell (p := ⟨w.heap.size, 0, none⟩) (cell_lt hcd)).trans hcd, (hb.cell (p := ⟨b1, o1 + a, none⟩) (cell_lt hc1)).trans hc1, (hb.cell (p := ⟨b1, o1 + b, none⟩) (cell_lt hc2)).trans hc2⟩))
            have HLO := Lib.hid (show b1 < wo.heap.size ∧ w.heap.size < wo.heap.size from by
              have h1 := HO.out.block b1 rfl
              have h2 := HK.out.below.size
              have h3 := H2.out.2.2.2
              omega)
            clear hbt hy hdw hsa hsb hsa2 hsb2 hsa3 hsb3 hr hbd hc1 hc2 hcd
            go_upto_region 12 with fail
            refine wp_region_held_drew (S := fun W' : World => W'.cell? ⟨w.heap.size, 0, none⟩ = some (.slice A rows.length C) ∧ W'.cell? ⟨b1, o1 + a, none⟩ = some (.int .i64 (sa : Int)) ∧ W'.cell? ⟨b1, o1 + b, none⟩ = some (.int .i64 (sb : Int))) (by kernel_rfl) (HC3.out _ (Below.refl _ _)) (fun hHeld => ?_)
            generalize wr.drew = wq at HBQ HUC HRQ HC3 hHeld ⊢
            refine wpAnyH_take (i := 0) (v := .slice (some ⟨wo.heap.size, 0, none⟩) xs.length xs.length) rfl (by kernel_rfl) (by kernel_rfl) (by kernel_rfl) (fun _ _ _ h => h) (Or.inl ⟨by rfl, ?_⟩) (by assumption) ?_
            · (intro W hSw; obtain ⟨hS0, hS1, hS2⟩ := hSw; go_simp)
            try dsimp only [Act.put]
            refine wpAnyH_take (i := 1) (v := .int .i64 (b : Int)) rfl (by kernel_rfl) (by kernel_rfl) (by kernel_rfl) (fun _ _ _ h => h) (Or.inl ⟨by rfl, ?_⟩) (by assumption) ?_
            · (intro W hSw; obtain ⟨hS0, hS1, hS2⟩ := hSw; go_simp)
            try dsimp only [Act.put]
            refine wpAnyH_take (i := 2) (v := .agg #[.slice A rows.length C]) rfl (by kernel_rfl) (by kernel_rfl) (by kernel_rfl) (fun _ _ _ h => h) (Or.inl ⟨by rfl, ?_⟩) (by assumption) ?_
            · (intro W hSw; obtain ⟨hS0, hS1, hS2⟩ := hSw; go_simp)
            try dsimp only [Act.put]
            refine wpAnyH_take (i := 3) (v := .string z) rfl (by kernel_rfl) (by kernel_rfl) (by kernel_rfl) (fun _ _ _ h => h) (Or.inl ⟨by rfl, ?_⟩) (by assumption) ?_
            · (intro W hSw; obtain ⟨hS0, hS1, hS2⟩ := hSw; go_simp)
            try dsimp only [Act.put]
            refine wpAnyH_take (i := 4) (v := .slice (some ⟨b1, o1, none⟩) xs.length C2) rfl (by kernel_rfl) (by kernel_rfl) (by kernel_rfl) (fun _ _ _ h => h) (Or.inl ⟨by rfl, ?_⟩) (by assumption) ?_
            · (intro W hSw; obtain ⟨hS0, hS1, hS2⟩ := hSw; go_simp)
            try dsimp only [Act.put]
            refine wpAnyH_take (i := 5) (v := .int .i64 (a : Int)) rfl (by kernel_rfl) (by kernel_rfl) (by kernel_rfl) (fun _ _ _ h => h) (Or.inl ⟨by rfl, ?_⟩) (by assumption) ?_
            · (intro W hSw; obtain ⟨hS0, hS1, hS2⟩ := hSw; go_simp)
            try dsimp only [Act.put]
            refine wpAnyH_take (i := 6) (v := .pointer (some ⟨b1, o1 + a, none⟩)) rfl (by kernel_rfl) (by kernel_rfl) (by kernel_rfl) (fun _ _ _ h => h) (Or.inl ⟨by rfl, ?_⟩) (by assumption) ?_
            · (intro W hSw; obtain ⟨hS0, hS1, hS2⟩ := hSw; go_simp)
            try dsimp only [Act.put]
            refine wpAnyH_take (i := 7) (v := .int .i64 (sa : Int)) rfl (by kernel_rfl) (by kernel_rfl) (by kernel_rfl) (fun _ _ _ h => h) (Or.inl ⟨by rfl, ?_⟩) (by assumption) ?_
            · (intro W hSw; obtain ⟨hS0, hS1, hS2⟩ := hSw; go_simp)
            try dsimp only [Act.put]
            refine wpAnyH_take (i := 8) (v := .slice (some ⟨b1, o1, none⟩) xs.length C2) rfl (by kernel_rfl) (by kernel_rfl) (by kernel_rfl) (fun _ _ _ h => h) (Or.inl ⟨by rfl, ?_⟩) (by assumption) ?_
            · (intro W hSw; obtain ⟨hS0, hS1, hS2⟩ := hSw; go_simp)
            try dsimp only [Act.put]
            refine wpAnyH_take (i := 9) (v := .int .i64 (b : Int)) rfl (by kernel_rfl) (by kernel_rfl) (by kernel_rfl) (fun _ _ _ h => h) (Or.inl ⟨by rfl, ?_⟩) (by assumption) ?_
            · (intro W hSw; obtain ⟨hS0, hS1, hS2⟩ := hSw; go_simp)
            try dsimp only [Act.put]
            refine wpAnyH_take (i := 10) (v := .pointer (some ⟨b1, o1 + b, none⟩)) rfl (by kernel_rfl) (by kernel_rfl) (by kernel_rfl) (fun _ _ _ h => h) (Or.inl ⟨by rfl, ?_⟩) (by assumption) ?_
            · (intro W hSw; obtain ⟨hS0, hS1, hS2⟩ := hSw; go_simp)
            try dsimp only [Act.put]
            refine wpAnyH_take (i := 11) (v := .int .i64 (sb : Int)) rfl (by kernel_rfl) (by kernel_rfl) (by kernel_rfl) (fun _ _ _ h => h) (Or.inl ⟨by rfl, ?_⟩) (by assumption) ?_
            · (intro W hSw; obtain ⟨hS0, hS1, hS2⟩ := hSw; go_simp)
            try dsimp only [Act.put]
            refine wpAnyH_ready (rs := [12]) (by kernel_rfl) (by simp) ?_
            refine AllReadyH.cons rfl (fun K hK => ?_) ?_
            · go_simp
              refine HUC.out.mono ?_
              rintro e w5 ⟨rfl, hb5⟩
              have HB5 := Lib.hid (HBQ.out.trans (hb5.mono HBQ.out.size))
              have HR5 := Lib.hid (HRQ.out.of_block (hb5.block _ HRQ.out.lt))
              have hc5 := HR5.out.cell hbl
              have hf5 := HR5.out.frozen b
              rw [decide_eq_false (Nat.lt_irrefl b), Bool.false_and] at hc5
              have HC5 := Lib.hid (HC3.out w5 hb5)
              clear hb5
              go_wp2_with fail
              refine hK.out _ _ (HC5.out) (fun hHeld => ?_)
              clear hK K
              try dsimp only [Act.put]
              refine wpAnyH_ready (rs := [13]) (by kernel_rfl) (by simp) ?_
              refine AllReadyH.cons rfl (fun K hK => ?_) ?_
              · go_simp
                refine hK.out _ _ (HC5.out) (fun hHeld => ?_)
                clear hK K
                try dsimp only [Act.put]
                refine wpAnyH_ready (rs := [14]) (by kernel_rfl) (by simp) ?_
                refine AllReadyH.cons rfl (fun K hK => ?_) ?_
                · go_simp
                  have HB6 := Lib.hid (HB5.out.setCell (p := ⟨wo.heap.size, b, none⟩) (Nat.le_refl _) (.bool t))
                  have hk6 : ∀ X o, X < wo.heap.size → (w5.setCell ⟨wo.heap.size, b, none⟩ (.bool t)).cell? ⟨X, o, none⟩ = w5.cell? ⟨X, o, none⟩ := fun X o hX => World.cell?_of_block (heap_setCell_other w5 ⟨wo.heap.size, b, none⟩ X _ (by show X ≠ wo.heap.size; omega))
                  refine hK.out _ _ (⟨(hk6 _ _ HLO.out.2).trans HC5.out.1, (hk6 _ _ HLO.out.1).trans HC5.out.2.1, (hk6 _ _ HLO.out.1).trans HC5.out.2.2⟩) (fun hHeld => ?_)
                  clear hK K
                  try dsimp only [Act.put]
                  refine wpAnyH_done (by kernel_rfl) ?_ _
                  go_wp2_with fail
                  go_roundw
                  case rel =>
                    refine ⟨b + 1, by omega, by go_num, (HR5.out.set b (.bool t)).congr (fun i hi => ?_), HB6.out⟩
                    by_cases e : i = b
                    · subst e; rw [decide_eq_true (Nat.lt_succ_self i), HT.out]; simp
                    · have e3 : decide (i < b + 1) = decide (i < b) := by rw [Bool.eq_iff_iff, decide_eq_true_iff, decide_eq_true_iff]; omega
                      simp [e, e3]
                  case measure => simp [intOf]; omega
                exact AllReadyH.nil
              exact AllReadyH.nil
            exact AllReadyH.nil
          · obtain rfl : b = xs.length := by omega
            have hbz : ¬ ((xs.length : Int) < (xs.length : Int)) := by omega
            have HOX := Lib.hid (HK.out.step HBX.out)
            have hout := HOX.out.out.cell
            have hZ2 := HOX.out.out.lt
            have hb0 := HOX.out.below.size
            have HRO := Lib.hid (l2Row_any wo.heap.size xs.length xs.length (B a) wr.drew (by omega) (fun i hi => by have := HR.out.cell hi; rw [decide_eq_true hi, Bool.true_and] at this; exact this))
            obtain ⟨f, hf0, hf1, hf2⟩ := HOX.out.own.owns
            have HF0 := Lib.hid hf0
            have HF1 := Lib.hid hf1
            have HF2 := Lib.hid hf2
            clear hf0 hf1 hf2 hr
            go_upto_region 13 with fail
            go_region_law (first | (go_simp; go_at_call 14; refine HRO.out.mono ?_; clear HRO; rintro e w3 ⟨v', rfl, hv', hb2⟩; obtain ⟨a3, C3, rfl⟩ := hv'.form; have HV3 := Lib.hid hv'; have HB3 := Lib.hid ((below_drew wr _).trans hb2); have HK2 := Lib.hid (HOX.out.step HB3.out); have HW0 := Lib.hid (owns_below HF0.out HB3.out); have hout2 := HK2.out.out.cell; have hout3 := cell_alloc_any hout2; have hz22 : wr.heap.size ≤ w3.heap.size := hb2.size; clear hv' hb2) | (refine step_append_lies _ (by rfl) _ _ 22 (by rfl) w2.heap.size 34 j0 (.slice none 0 0) 1 24 Tryd.underlying22 hj0 hy0 hy1 hy2 rfl (by decide) (.slice au a Cu) a ((List.range a).map f) (by rfl) (HW0.out.alloc _) ⟨w3.heap.size, 0, none⟩ 1 1 [.slice a3 (keptN (B a) xs.length).length C3] (by rfl) rfl (World.news_of_block (heap_alloc_new w3 _)) (by simp [Value.oneCell']) (by omega) (by unfold maxLen; omega) (by omega) (by simp; omega) (w3.heap.size + 1) (by simp) ?_; intro g' cap' w4 hown hgrow hat hlt'; have hfar := HK2.out.far HW0.out hgrow; have hc3 := hfar.cell; have hf3 := hfar.frozen; clear hfar))
            all_goals
              go_wp2
              go_roundw
              case rel =>
                refine ⟨a + 1, _, by omega, by go_num, (HOX.out.pushed HF0.out HF1.out HF2.out HB3.out HV3.out hown ⟨hgrow.os, hgrow.tape, hgrow.output, hgrow.size, hgrow.block⟩).congr fun j hj => ?_⟩
                by_cases e : j = a
                · subst e; rw [if_pos rfl]; rfl
                · rw [if_neg e]
              case measure => simp [intOf]; omega
      · obtain rfl : a = xs.length := by omega
        have hltz : ¬ ((xs.length : Int) < (xs.length : Int)) := by omega
        have hbx : Boxed wo (w.heap.size + 1) 26 (.slice none 0 0) := (ho.below.block _ BR2.out.lt).trans BR2.out
        have hres := hbx.cell
        have hfr := hbx.frozen
        have hout := ho.out.cell
        have hc9 := World.cell?_setCell_same' wo ⟨w.heap.size + 1, 0, none⟩ (.slice au xs.length Cu) (by rw [hres]; rfl)
        have HLT := Lib.hid BR2.out.lt
        clear ho hbx
        go_wp2
        refine bodyPost_ret (v := .tuple #[.agg #[.slice au xs.length Cu], .bool true]) (by simp [results, Tryd.results5, go_sem, hc9]) rfl ?_
        exact ordp_yes HI.out rfl (HK.out.own.wider (by have := HLT.out; omega) (Nat.le_refl _)) (HB2.out.trans (HK.out.below.mono HB2.out.size)) (Nat.le_succ _)
end Go.Proofs.YtiaajegdaipdmaaDoor

/- The order of a powerdomain in the program: what is below what. -/
namespace Go.Proofs.YtiaajegdaipdmaaDoor
open Go.RowKit Go.Deep Go.Shelf

theorem run_pd_size (m : Nat) (x0 x1 x2 x3 : Value) (w : World) : (Go.method (m + 1) 45 (.agg #[x0, x1, x2, x3]) "loop.example/scottdomains/impl.size").run Tryd.prog w = .ok (99, .agg #[x0, x1, x2, x3]) w := by kernel_rfl
theorem run_pd_below (m : Nat) (x0 x1 x2 x3 : Value) (w : World) : (Go.method (m + 1) 45 (.agg #[x0, x1, x2, x3]) "loop.example/scottdomains/impl.below").run Tryd.prog w = .ok (98, .agg #[x0, x1, x2, x3]) w := by kernel_rfl
theorem setsSize_any (a : Option Addr) (n C : Nat) (w : World) : Calls Tryd.prog 96 #[.slice a n C] w (fun e w' => e = .returned (.int .i64 (n : Int)) ∧ w' = w) := by
  go_enter Tryd.func96, Tryd.ntmps96
  go_wp2
  go_ret
  exact ⟨rfl, rfl⟩
theorem pdSize_any (n : Nat) (a : Option Addr) (m C : Nat) (fc fo : Value) (w : World) : Calls Tryd.prog 99 #[.agg (pdCells n (.slice a m C) fc fo)] w (SaysI (m : Int) w) := by
  obtain ⟨_, c1, _, _⟩ := fresh4 w n (.slice a m C) fc fo
  have HB := Lib.hid ((Below.refl w.heap.size w).alloc (Nat.le_refl _) (.cells (pdCells n (.slice a m C) fc fo) 45))
  go_enter Tryd.func99, Tryd.ntmps99
  go_wp2_with (go_at_call 96; refine (setsSize_any _ _ _ _).mono ?_; rintro e w' ⟨rfl, rfl⟩)
  go_ret
  exact ⟨rfl, HB.out⟩
theorem sets_is {rows : Rows2} {k i : Nat} (hi : i < (setsL rows k).length) : ∃ s : Nat, (setsL rows k)[i] = (s : Int) ∧ 1 ≤ s ∧ s < 2 ^ rows.length := by
  obtain ⟨x, e, h1, h2, _⟩ := setsTo_mem (List.getElem_mem hi)
  exact ⟨x, e, h1, h2⟩
theorem ordB_refl (rows : Rows2) (k q : Nat) : ordB rows k q q = true := by
  have hd : ∀ x : Nat, diff x x = 0 := fun x => by unfold diff; rw [Nat.and_self, Nat.xor_self]
  unfold ordB undL underK convexU lowerU upperU
  rw [hd, hd]
  split <;> first | rfl | (split <;> rfl)

set_option maxRecDepth 100000 in
set_option maxHeartbeats 4000000 in
theorem lowerPBelow_any (rows : Rows2) (pa : Option Addr) (pC kb sb lb ub : Nat) (pA pB : Option Addr) (pCC pD a b : Nat) (w : World) (hok : Ok rows) (h7 : rows.length ≤ 7) (hi : IntsAt w (.slice pa (setsL rows 0).length pC) (setsL rows 0))
    (hp : PM 43 sb lb ub rows.length (gridF (backRows rows)) (gridF rows) pA pB pCC pD w) (ha : a < (setsL rows 0).length) (hb : b < (setsL rows 0).length) :
    Calls Tryd.prog 98 #[pwV rows.length (.slice pa (setsL rows 0).length pC) 45 46 kb sb, .int .i64 (a : Int), .int .i64 (b : Int)] w (SaysN (ordB rows 0 a b) w) := by
  have hb0 := (Below.refl w.heap.size w).alloc (Nat.le_refl _) (.cells (pdCells rows.length (.slice pa (setsL rows 0).length pC) (.func (.func 45) #[] #[.pointer (some ⟨kb, 0, none⟩), .pointer (some ⟨sb, 0, none⟩)]) (.func (.func 46) #[] #[.pointer (some ⟨kb, 0, none⟩), .pointer (some ⟨sb, 0, none⟩)])) 45)
  obtain ⟨c0, c1, c2, c3⟩ := fresh4 w rows.length (.slice pa (setsL rows 0).length pC) (.func (.func 45) #[] #[.pointer (some ⟨kb, 0, none⟩), .pointer (some ⟨sb, 0, none⟩)]) (.func (.func 46) #[] #[.pointer (some ⟨kb, 0, none⟩), .pointer (some ⟨sb, 0, none⟩)])
  obtain ⟨sa, hsa, _, hsa2⟩ := sets_is ha
  obtain ⟨sx, hsx, _, hsx2⟩ := sets_is hb
  have hA60 := pow7_lt h7 hsa2
  have hB60 := pow7_lt h7 hsx2
  have HO := Lib.hid (show ordB rows 0 a b = undL rows 0 sa sx by unfold ordB; rw [Go.Lib.getD_lt _ _ ha, Go.Lib.getD_lt _ _ hb, hsa, hsx]; rfl)
  have HCL := Lib.hid (fun W (hb : Below w.heap.size w W) => (show Calls Tryd.prog 46 #[.int .i64 (sa : Int), .int .i64 (sx : Int), .pointer (some ⟨kb, 0, none⟩), .pointer (some ⟨sb, 0, none⟩)] W (SaysN (undL rows 0 sa sx) W) from lowerOrdered_any kb sb lb ub rows.length sa sx (gridF (backRows rows)) (gridF rows) pA pB pCC pD W (hp.step hb) (by omega) (fun k _ => pow7_lt h7 (hok.backSmall k)) (fun k _ => pow7_lt h7 (hok.small k)) hA60 hB60))
  have hga : (setsL rows 0).getD a 0 = (sa : Int) := by rw [Go.Lib.getD_lt _ _ ha]; exact hsa
  have hgb : (setsL rows 0).getD b 0 = (sx : Int) := by rw [Go.Lib.getD_lt _ _ hb]; exact hsx
  clear hsa hsx
  obtain ⟨xs, hxs⟩ : ∃ xs, xs = setsL rows 0 := ⟨_, rfl⟩
  have hsl := setsL_len h7 0
  simp only [← hxs] at hi ha hb hga hgb c1 c0 c2 c3 hb0 hsl ⊢
  clear hxs hsa2 hsx2 hA60 hB60 hok hp
  have hiA := hi.below hb0
  obtain ⟨_, _, e0, _, _, _, hy⟩ := hiA
  cases e0
  obtain ⟨b1, o1, rfl, hc1⟩ := hy a ha
  obtain ⟨b2, o2, e1, hc2⟩ := hy b hb
  cases e1
  rw [Go.Lib.getD_lt _ _ ha] at hga
  rw [Go.Lib.getD_lt _ _ hb] at hgb
  rw [hga] at hc1
  rw [hgb] at hc2
  clear hy hi hga hgb
  rw [HO.out]
  generalize undL rows 0 sa sx = t at HCL ⊢
  obtain ⟨w1, hw1⟩ : ∃ w1, w1 = w.alloc (.cells (pdCells rows.length (.slice (some ⟨b1, o1, none⟩) xs.length pC) (.func (.func 45) #[] #[.pointer (some ⟨kb, 0, none⟩), .pointer (some ⟨sb, 0, none⟩)]) (.func (.func 46) #[] #[.pointer (some ⟨kb, 0, none⟩), .pointer (some ⟨sb, 0, none⟩)])) 45) := ⟨_, rfl⟩
  rw [← hw1] at hb0 c0 c1 c2 c3 hc1 hc2
  have HB0 := Lib.hid hb0
  clear hb0 HO
  go_enter Tryd.func98, Tryd.ntmps98
  go_upto_region 1 with fail
  rw [← hw1]
  clear hw1
  have hq1 := fun d os => cell_regrown c1 d os
  have hq2 := fun d os => cell_regrown c3 d os
  have hq3 := fun d os => cell_regrown hc1 d os
  have hq4 := fun d os => cell_regrown hc2 d os
  have hxS := fun d os => Calls.regrown_of (w := w1) (d := d) (os := os) (HCL.out _ (HB0.out.trans ((below_regrown w1 d os).mono HB0.out.size)))
  refine wp_region_quiet_below (by kernel_rfl) (by kernel_rfl) ?_
  repeat (go_big_quiet_step ((go_at_call 46; exact hxS _ _)))
  refine wpQuiet_nil ?_
  intro w5 hw'
  have HB5 : Hid (Below w.heap.size w w5) := Lib.hid (by
    obtain ⟨⟨dq, osq⟩, hw''⟩ := hw'
    rw [hw'']
    exact HB0.out.trans ((below_regrown w1 dq osq).mono HB0.out.size))
  clear hxS hq1 hq2 hq3 hq4 hw' c0 c1 c2 c3 hc1 hc2
  go_wp2
  go_ret
  exact ⟨rfl, HB5.out⟩

set_option maxRecDepth 100000 in
set_option maxHeartbeats 4000000 in
theorem upperPBelow_any (rows : Rows2) (pa : Option Addr) (pC kb sb lb ub : Nat) (pA pB : Option Addr) (pCC pD a b : Nat) (w : World) (hok : Ok rows) (h7 : rows.length ≤ 7) (hi : IntsAt w (.slice pa (setsL rows 1).length pC) (setsL rows 1))
    (hp : PM 48 sb lb ub rows.length (gridF (backRows rows)) (gridF rows) pA pB pCC pD w) (ha : a < (setsL rows 1).length) (hb : b < (setsL rows 1).length) :
    Calls Tryd.prog 98 #[pwV rows.length (.slice pa (setsL rows 1).length pC) 49 50 kb sb, .int .i64 (a : Int), .int .i64 (b : Int)] w (SaysN (ordB rows 1 a b) w) := by
  have hb0 := (Below.refl w.heap.size w).alloc (Nat.le_refl _) (.cells (pdCells rows.length (.slice pa (setsL rows 1).length pC) (.func (.func 49) #[] #[.pointer (some ⟨kb, 0, none⟩), .pointer (some ⟨sb, 0, none⟩)]) (.func (.func 50) #[] #[.pointer (some ⟨kb, 0, none⟩), .pointer (some ⟨sb, 0, none⟩)])) 45)
  obtain ⟨c0, c1, c2, c3⟩ := fresh4 w rows.length (.slice pa (setsL rows 1).length pC) (.func (.func 49) #[] #[.pointer (some ⟨kb, 0, none⟩), .pointer (some ⟨sb, 0, none⟩)]) (.func (.func 50) #[] #[.pointer (some ⟨kb, 0, none⟩), .pointer (some ⟨sb, 0, none⟩)])
  obtain ⟨sa, hsa, _, hsa2⟩ := sets_is ha
  obtain ⟨sx, hsx, _, hsx2⟩ := sets_is hb
  have hA60 := pow7_lt h7 hsa2
  have hB60 := pow7_lt h7 hsx2
  have HO := Lib.hid (show ordB rows 1 a b = undL rows 1 sa sx by unfold ordB; rw [Go.Lib.getD_lt _ _ ha, Go.Lib.getD_lt _ _ hb, hsa, hsx]; rfl)
  have HCL := Lib.hid (fun W (hb : Below w.heap.size w W) => (show Calls Tryd.prog 50 #[.int .i64 (sa : Int), .int .i64 (sx : Int), .pointer (some ⟨kb, 0, none⟩), .pointer (some ⟨sb, 0, none⟩)] W (SaysN (undL rows 1 sa sx) W) from upperOrdered_any kb sb lb ub rows.length sa sx (gridF (backRows rows)) (gridF rows) pA pB pCC pD W (hp.step hb) (by omega) (fun k _ => pow7_lt h7 (hok.backSmall k)) (fun k _ => pow7_lt h7 (hok.small k)) hA60 hB60))
  have hga : (setsL rows 1).getD a 0 = (sa : Int) := by rw [Go.Lib.getD_lt _ _ ha]; exact hsa
  have hgb : (setsL rows 1).getD b 0 = (sx : Int) := by rw [Go.Lib.getD_lt _ _ hb]; exact hsx
  clear hsa hsx
  obtain ⟨xs, hxs⟩ : ∃ xs, xs = setsL rows 1 := ⟨_, rfl⟩
  have hsl := setsL_len h7 1
  simp only [← hxs] at hi ha hb hga hgb c1 c0 c2 c3 hb0 hsl ⊢
  clear hxs hsa2 hsx2 hA60 hB60 hok hp
  have hiA := hi.below hb0
  obtain ⟨_, _, e0, _, _, _, hy⟩ := hiA
  cases e0
  obtain ⟨b1, o1, rfl, hc1⟩ := hy a ha
  obtain ⟨b2, o2, e1, hc2⟩ := hy b hb
  cases e1
  rw [Go.Lib.getD_lt _ _ ha] at hga
  rw [Go.Lib.getD_lt _ _ hb] at hgb
  rw [hga] at hc1
  rw [hgb] at hc2
  clear hy hi hga hgb
  rw [HO.out]
  generalize undL rows 1 sa sx = t at HCL ⊢
  obtain ⟨w1, hw1⟩ : ∃ w1, w1 = w.alloc (.cells (pdCells rows.length (.slice (some ⟨b1, o1, none⟩) xs.length pC) (.func (.func 49) #[] #[.pointer (some ⟨kb, 0, none⟩), .pointer (some ⟨sb, 0, none⟩)]) (.func (.func 50) #[] #[.pointer (some ⟨kb, 0, none⟩), .pointer (some ⟨sb, 0, none⟩)])) 45) := ⟨_, rfl⟩
  rw [← hw1] at hb0 c0 c1 c2 c3 hc1 hc2
  have HB0 := Lib.hid hb0
  clear hb0 HO
  go_enter Tryd.func98, Tryd.ntmps98
  go_upto_region 1 with fail
  rw [← hw1]
  clear hw1
  have hq1 := fun d os => cell_regrown c1 d os
  have hq2 := fun d os => cell_regrown c3 d os
  have hq3 := fun d os => cell_regrown hc1 d os
  have hq4 := fun d os => cell_regrown hc2 d os
  have hxS := fun d os => Calls.regrown_of (w := w1) (d := d) (os := os) (HCL.out _ (HB0.out.trans ((below_regrown w1 d os).mono HB0.out.size)))
  refine wp_region_quiet_below (by kernel_rfl) (by kernel_rfl) ?_
  repeat (go_big_quiet_step ((go_at_call 50; exact hxS _ _)))
  refine wpQuiet_nil ?_
  intro w5 hw'
  have HB5 : Hid (Below w.heap.size w w5) := Lib.hid (by
    obtain ⟨⟨dq, osq⟩, hw''⟩ := hw'
    rw [hw'']
    exact HB0.out.trans ((below_regrown w1 dq osq).mono HB0.out.size))
  clear hxS hq1 hq2 hq3 hq4 hw' c0 c1 c2 c3 hc1 hc2
  go_wp2
  go_ret
  exact ⟨rfl, HB5.out⟩

set_option maxRecDepth 100000 in
set_option maxHeartbeats 4000000 in
theorem convexPBelow_any (rows : Rows2) (pa : Option Addr) (pC kb sb lb ub : Nat) (pA pB : Option Addr) (pCC pD a b : Nat) (w : World) (hok : Ok rows) (h7 : rows.length ≤ 7) (hi : IntsAt w (.slice pa (setsL rows 2).length pC) (setsL rows 2))
    (hp : PM 51 sb lb ub rows.length (gridF (backRows rows)) (gridF rows) pA pB pCC pD w) (ha : a < (setsL rows 2).length) (hb : b < (setsL rows 2).length) :
    Calls Tryd.prog 98 #[pwV rows.length (.slice pa (setsL rows 2).length pC) 52 53 kb sb, .int .i64 (a : Int), .int .i64 (b : Int)] w (SaysN (ordB rows 2 a b) w) := by
  have hb0 := (Below.refl w.heap.size w).alloc (Nat.le_refl _) (.cells (pdCells rows.length (.slice pa (setsL rows 2).length pC) (.func (.func 52) #[] #[.pointer (some ⟨kb, 0, none⟩), .pointer (some ⟨sb, 0, none⟩)]) (.func (.func 53) #[] #[.pointer (some ⟨kb, 0, none⟩), .pointer (some ⟨sb, 0, none⟩)])) 45)
  obtain ⟨c0, c1, c2, c3⟩ := fresh4 w rows.length (.slice pa (setsL rows 2).length pC) (.func (.func 52) #[] #[.pointer (some ⟨kb, 0, none⟩), .pointer (some ⟨sb, 0, none⟩)]) (.func (.func 53) #[] #[.pointer (some ⟨kb, 0, none⟩), .pointer (some ⟨sb, 0, none⟩)])
  obtain ⟨sa, hsa, _, hsa2⟩ := sets_is ha
  obtain ⟨sx, hsx, _, hsx2⟩ := sets_is hb
  have hA60 := pow7_lt h7 hsa2
  have hB60 := pow7_lt h7 hsx2
  have HO := Lib.hid (show ordB rows 2 a b = undL rows 2 sa sx by unfold ordB; rw [Go.Lib.getD_lt _ _ ha, Go.Lib.getD_lt _ _ hb, hsa, hsx]; rfl)
  have HCL := Lib.hid (fun W (hb : Below w.heap.size w W) => (show Calls Tryd.prog 53 #[.int .i64 (sa : Int), .int .i64 (sx : Int), .pointer (some ⟨kb, 0, none⟩), .pointer (some ⟨sb, 0, none⟩)] W (SaysN (undL rows 2 sa sx) W) from convexOrdered_any kb sb lb ub rows.length sa sx (gridF (backRows rows)) (gridF rows) pA pB pCC pD W (hp.step hb) (by omega) (fun k _ => pow7_lt h7 (hok.backSmall k)) (fun k _ => pow7_lt h7 (hok.small k)) hA60 hB60))
  have hga : (setsL rows 2).getD a 0 = (sa : Int) := by rw [Go.Lib.getD_lt _ _ ha]; exact hsa
  have hgb : (setsL rows 2).getD b 0 = (sx : Int) := by rw [Go.Lib.getD_lt _ _ hb]; exact hsx
  clear hsa hsx
  obtain ⟨xs, hxs⟩ : ∃ xs, xs = setsL rows 2 := ⟨_, rfl⟩
  have hsl := setsL_len h7 2
  simp only [← hxs] at hi ha hb hga hgb c1 c0 c2 c3 hb0 hsl ⊢
  clear hxs hsa2 hsx2 hA60 hB60 hok hp
  have hiA := hi.below hb0
  obtain ⟨_, _, e0, _, _, _, hy⟩ := hiA
  cases e0
  obtain ⟨b1, o1, rfl, hc1⟩ := hy a ha
  obtain ⟨b2, o2, e1, hc2⟩ := hy b hb
  cases e1
  rw [Go.Lib.getD_lt _ _ ha] at hga
  rw [Go.Lib.getD_lt _ _ hb] at hgb
  rw [hga] at hc1
  rw [hgb] at hc2
  clear hy hi hga hgb
  rw [HO.out]
  generalize undL rows 2 sa sx = t at HCL ⊢
  obtain ⟨w1, hw1⟩ : ∃ w1, w1 = w.alloc (.cells (pdCells rows.length (.slice (some ⟨b1, o1, none⟩) xs.length pC) (.func (.func 52) #[] #[.pointer (some ⟨kb, 0, none⟩), .pointer (some ⟨sb, 0, none⟩)]) (.func (.func 53) #[] #[.pointer (some ⟨kb, 0, none⟩), .pointer (some ⟨sb, 0, none⟩)])) 45) := ⟨_, rfl⟩
  rw [← hw1] at hb0 c0 c1 c2 c3 hc1 hc2
  have HB0 := Lib.hid hb0
  clear hb0 HO
  go_enter Tryd.func98, Tryd.ntmps98
  go_upto_region 1 with fail
  rw [← hw1]
  clear hw1
  have hq1 := fun d os => cell_regrown c1 d os
  have hq2 := fun d os => cell_regrown c3 d os
  have hq3 := fun d os => cell_regrown hc1 d os
  have hq4 := fun d os => cell_regrown hc2 d os
  have hxS := fun d os => Calls.regrown_of (w := w1) (d := d) (os := os) (HCL.out _ (HB0.out.trans ((below_regrown w1 d os).mono HB0.out.size)))
  refine wp_region_quiet_below (by kernel_rfl) (by kernel_rfl) ?_
  repeat (go_big_quiet_step ((go_at_call 53; exact hxS _ _)))
  refine wpQuiet_nil ?_
  intro w5 hw'
  have HB5 : Hid (Below w.heap.size w w5) := Lib.hid (by
    obtain ⟨⟨dq, osq⟩, hw''⟩ := hw'
    rw [hw'']
    exact HB0.out.trans ((below_regrown w1 dq osq).mono HB0.out.size))
  clear hxS hq1 hq2 hq3 hq4 hw' c0 c1 c2 c3 hc1 hc2
  go_wp2
  go_ret
  exact ⟨rfl, HB5.out⟩
end Go.Proofs.YtiaajegdaipdmaaDoor

/- The walks of rowsOf and built at powl. -/
namespace Go.Proofs.YtiaajegdaipdmaaDoor
open Go.RowKit Go.Deep Go.Shelf

set_option maxRecDepth 100000 in
set_option maxHeartbeats 4000000 in
theorem powlRows_yes (rows : Rows2) (pa : Option Addr) (pC kb sb lb ub : Nat) (pA pB : Option Addr) (pCC pD : Nat) (N : Nat) (w : World) (hok : Ok rows) (h7 : rows.length ≤ 7) (hi : IntsAt w (.slice pa N pC) (setsL rows 0)) (hp : PM 43 sb lb ub rows.length (gridF (backRows rows)) (gridF rows) pA pB pCC pD w) (hN : N = (setsL rows 0).length) (hN2 : N ≤ 200) :
    Calls Tryd.prog 31 #[.iface 45 (pwV rows.length (.slice pa N pC) 45 46 kb sb)] w (RowsYes (madeG (ordB rows 0) N) w) := by
  have hK : Stays w (fun W => Below w.heap.size w W) := fun _ _ hb hk => hk.trans hb
  have hcall0 := fun W (hk : (fun W => Below w.heap.size w W) W) => (show Calls Tryd.prog 99 #[(pwV rows.length (.slice pa N pC) 45 46 kb sb)] W (SaysI (((setsL rows 0).length : Nat) : Int) W) from by subst hN; exact pdSize_any _ _ _ _ _ _ W)
  have hk0 : (fun W => Below w.heap.size w W) w := (Below.refl _ _)
  have hcall := hcall0 _ hk0
  rw [← hN] at hcall
  have HBC := Lib.hid (fun (a b : Nat) (ha : a < N) (hb : b < N) W (hk : (fun W => Below w.heap.size w W) W) => (show Calls Tryd.prog 98 #[(pwV rows.length (.slice pa N pC) 45 46 kb sb), .int .i64 (a : Int), .int .i64 (b : Int)] W (SaysN (ordB rows 0 a b) W) from by subst hN; exact lowerPBelow_any rows pa pC kb sb lb ub pA pB pCC pD a b W hok h7 (hi.below hk) (hp.step hk) ha hb))
  have hmS := run_pd_size
  have hmB := run_pd_below
  have hN3 : ¬ ((200 : Int) < (N : Int)) := by omega
  have hz := (zero_of_info zeroGrid).1
  have HK0 := Lib.hid hk0
  have HKK := Lib.hid hK
  clear hok h7 hi hp hN hcall0 hk0 hK
  go_enter Tryd.func31, Tryd.ntmps31
  go_wp2_with (go_at_call 99; refine hcall.mono ?_; clear hcall; rintro e w1 ⟨rfl, hb1⟩; have HK1 := Lib.hid (HKK.out _ _ hb1 HK0.out); have HB1 := Lib.hid hb1; clear hb1)
  have bA := (Below.refl w1.heap.size w1).alloc (Nat.le_refl _) (.cells (gridCells fun _ => 0) 75)
  have HST := Lib.hid (show RwG w (fun W => Below w.heap.size w W) w1.heap.size (bG (ordB rows 0) N 0 0) (w1.alloc (.cells (gridCells fun _ => 0) 75)) from
    ⟨HKK.out _ _ (bA.mono HB1.out.size) HK1.out, by rw [bG_start]; exact store_new w1, HB1.out.size, HB1.out.trans (bA.mono HB1.out.size)⟩)
  clear bA hz
  go_loopw [6, 13] (fun _ av wr => ∃ a : Nat, a ≤ N ∧ av = .int .i64 a ∧ RwG w (fun W => Below w.heap.size w W) w1.heap.size (bG (ordB rows 0) N a 0) wr) (fun _ av _ => N - (intOf av).toNat)
  case atStart => exact ⟨0, Nat.zero_le _, rfl, HST.out⟩
  case round =>
    obtain ⟨a, ha, rfl, ht⟩ := hrel
    have HT := Lib.hid ht
    clear HST ht
    by_cases hal : a < N
    · go_wp2
      go_loopw [7, 17] (fun _ bv wr => ∃ b : Nat, b ≤ N ∧ bv = .int .i64 b ∧ RwG w (fun W => Below w.heap.size w W) w1.heap.size (bG (ordB rows 0) N a b) wr) (fun _ bv _ => N - (intOf bv).toNat)
      case atStart => exact ⟨0, Nat.zero_le _, rfl, HT.out⟩
      case round =>
        obtain ⟨b, hb, rfl, ht⟩ := hrel
        have HK := Lib.hid ht
        clear ht HT
        by_cases hbl : b < N
        · have hcall := HBC.out a b hal hbl wr HK.out.kept
          cases hbit : (ordB rows 0) a b with
          | false =>
            rw [hbit] at hcall
            have HE := Lib.hid (bG_no (N := N) hbit)
            clear hbit
            go_wp2_with (go_at_call 98; refine hcall.mono ?_; clear hcall; rintro e w2 ⟨rfl, hb2⟩; have H2 := Lib.hid (HK.out.step HKK.out hb2); clear hb2)
            go_roundw
            case rel => exact ⟨b + 1, by omega, by go_num, by rw [HE.out]; exact H2.out⟩
            case measure => simp [intOf]; omega
          | true =>
            rw [hbit] at hcall
            have HE := Lib.hid (bG_yes (N := N) hbit)
            have ha200 : a < 200 := by omega
            have hb200 : b < 200 := by omega
            have ha0 : (0 : Int) ≤ (a : Int) := by omega
            have ha1 : (a : Int) < 200 := by omega
            clear hbit
            go_wp2_with (first | (go_at_call 98; refine hcall.mono ?_; clear hcall; rintro e w2 ⟨rfl, hb2⟩; have H2 := Lib.hid (HK.out.step HKK.out hb2); have hadd := addTo_any w1.heap.size a b (b : Int) _ w2 H2.out.grid ha200 hb200 rfl; clear hb2) | (go_at_call 54; refine hadd.mono ?_; clear hadd; rintro e w3 ⟨rfl, m, rfl⟩))
            go_roundw
            case rel => exact ⟨b + 1, by omega, by go_num, by rw [HE.out]; exact H2.out.put HKK.out ha200 hb200 m⟩
            case measure => simp [intOf]; omega
        · obtain rfl : b = N := by omega
          go_wp2
          go_roundw
          case rel => exact ⟨a + 1, by omega, by go_num, by rw [← bG_next]; exact HK.out⟩
          case measure => simp [intOf]; omega
    · obtain rfl : a = N := by omega
      go_wp2
      go_ret2
      exact ⟨⟨w1.heap.size, rfl, HT.out.own, HT.out.grid⟩, HT.out.below⟩
theorem powlBuilt_yes (rows : Rows2) (pa : Option Addr) (pC kb sb lb ub : Nat) (pA pB : Option Addr) (pCC pD : Nat) (N : Nat) (w : World) (hok : Ok rows) (h7 : rows.length ≤ 7) (hi : IntsAt w (.slice pa N pC) (setsL rows 0)) (hp : PM 43 sb lb ub rows.length (gridF (backRows rows)) (gridF rows) pA pB pCC pD w) (hN : N = (setsL rows 0).length) (hN2 : N ≤ 200) (hT : Tab w) (hrf : ∀ q, q < N → (ordB rows 0) q q = true) :
    Calls Tryd.prog 17 #[.iface 45 (pwV rows.length (.slice pa N pC) 45 46 kb sb)] w (RowsG N (fun q => bRow (ordB rows 0) q N) true w) :=
  built_yes _ (ordB rows 0) N w hT hN2 hrf fun W hB => powlRows_yes rows pa pC kb sb lb ub pA pB pCC pD N W hok h7 (hi.below hB) (hp.step hB) hN hN2
end Go.Proofs.YtiaajegdaipdmaaDoor

/- The walks of rowsOf and built at powu. -/
namespace Go.Proofs.YtiaajegdaipdmaaDoor
open Go.RowKit Go.Deep Go.Shelf

set_option maxRecDepth 100000 in
set_option maxHeartbeats 4000000 in
theorem powuRows_yes (rows : Rows2) (pa : Option Addr) (pC kb sb lb ub : Nat) (pA pB : Option Addr) (pCC pD : Nat) (N : Nat) (w : World) (hok : Ok rows) (h7 : rows.length ≤ 7) (hi : IntsAt w (.slice pa N pC) (setsL rows 1)) (hp : PM 48 sb lb ub rows.length (gridF (backRows rows)) (gridF rows) pA pB pCC pD w) (hN : N = (setsL rows 1).length) (hN2 : N ≤ 200) :
    Calls Tryd.prog 31 #[.iface 45 (pwV rows.length (.slice pa N pC) 49 50 kb sb)] w (RowsYes (madeG (ordB rows 1) N) w) := by
  have hK : Stays w (fun W => Below w.heap.size w W) := fun _ _ hb hk => hk.trans hb
  have hcall0 := fun W (hk : (fun W => Below w.heap.size w W) W) => (show Calls Tryd.prog 99 #[(pwV rows.length (.slice pa N pC) 49 50 kb sb)] W (SaysI (((setsL rows 1).length : Nat) : Int) W) from by subst hN; exact pdSize_any _ _ _ _ _ _ W)
  have hk0 : (fun W => Below w.heap.size w W) w := (Below.refl _ _)
  have hcall := hcall0 _ hk0
  rw [← hN] at hcall
  have HBC := Lib.hid (fun (a b : Nat) (ha : a < N) (hb : b < N) W (hk : (fun W => Below w.heap.size w W) W) => (show Calls Tryd.prog 98 #[(pwV rows.length (.slice pa N pC) 49 50 kb sb), .int .i64 (a : Int), .int .i64 (b : Int)] W (SaysN (ordB rows 1 a b) W) from by subst hN; exact upperPBelow_any rows pa pC kb sb lb ub pA pB pCC pD a b W hok h7 (hi.below hk) (hp.step hk) ha hb))
  have hmS := run_pd_size
  have hmB := run_pd_below
  have hN3 : ¬ ((200 : Int) < (N : Int)) := by omega
  have hz := (zero_of_info zeroGrid).1
  have HK0 := Lib.hid hk0
  have HKK := Lib.hid hK
  clear hok h7 hi hp hN hcall0 hk0 hK
  go_enter Tryd.func31, Tryd.ntmps31
  go_wp2_with (go_at_call 99; refine hcall.mono ?_; clear hcall; rintro e w1 ⟨rfl, hb1⟩; have HK1 := Lib.hid (HKK.out _ _ hb1 HK0.out); have HB1 := Lib.hid hb1; clear hb1)
  have bA := (Below.refl w1.heap.size w1).alloc (Nat.le_refl _) (.cells (gridCells fun _ => 0) 75)
  have HST := Lib.hid (show RwG w (fun W => Below w.heap.size w W) w1.heap.size (bG (ordB rows 1) N 0 0) (w1.alloc (.cells (gridCells fun _ => 0) 75)) from
    ⟨HKK.out _ _ (bA.mono HB1.out.size) HK1.out, by rw [bG_start]; exact store_new w1, HB1.out.size, HB1.out.trans (bA.mono HB1.out.size)⟩)
  clear bA hz
  go_loopw [6, 13] (fun _ av wr => ∃ a : Nat, a ≤ N ∧ av = .int .i64 a ∧ RwG w (fun W => Below w.heap.size w W) w1.heap.size (bG (ordB rows 1) N a 0) wr) (fun _ av _ => N - (intOf av).toNat)
  case atStart => exact ⟨0, Nat.zero_le _, rfl, HST.out⟩
  case round =>
    obtain ⟨a, ha, rfl, ht⟩ := hrel
    have HT := Lib.hid ht
    clear HST ht
    by_cases hal : a < N
    · go_wp2
      go_loopw [7, 17] (fun _ bv wr => ∃ b : Nat, b ≤ N ∧ bv = .int .i64 b ∧ RwG w (fun W => Below w.heap.size w W) w1.heap.size (bG (ordB rows 1) N a b) wr) (fun _ bv _ => N - (intOf bv).toNat)
      case atStart => exact ⟨0, Nat.zero_le _, rfl, HT.out⟩
      case round =>
        obtain ⟨b, hb, rfl, ht⟩ := hrel
        have HK := Lib.hid ht
        clear ht HT
        by_cases hbl : b < N
        · have hcall := HBC.out a b hal hbl wr HK.out.kept
          cases hbit : (ordB rows 1) a b with
          | false =>
            rw [hbit] at hcall
            have HE := Lib.hid (bG_no (N := N) hbit)
            clear hbit
            go_wp2_with (go_at_call 98; refine hcall.mono ?_; clear hcall; rintro e w2 ⟨rfl, hb2⟩; have H2 := Lib.hid (HK.out.step HKK.out hb2); clear hb2)
            go_roundw
            case rel => exact ⟨b + 1, by omega, by go_num, by rw [HE.out]; exact H2.out⟩
            case measure => simp [intOf]; omega
          | true =>
            rw [hbit] at hcall
            have HE := Lib.hid (bG_yes (N := N) hbit)
            have ha200 : a < 200 := by omega
            have hb200 : b < 200 := by omega
            have ha0 : (0 : Int) ≤ (a : Int) := by omega
            have ha1 : (a : Int) < 200 := by omega
            clear hbit
            go_wp2_with (first | (go_at_call 98; refine hcall.mono ?_; clear hcall; rintro e w2 ⟨rfl, hb2⟩; have H2 := Lib.hid (HK.out.step HKK.out hb2); have hadd := addTo_any w1.heap.size a b (b : Int) _ w2 H2.out.grid ha200 hb200 rfl; clear hb2) | (go_at_call 54; refine hadd.mono ?_; clear hadd; rintro e w3 ⟨rfl, m, rfl⟩))
            go_roundw
            case rel => exact ⟨b + 1, by omega, by go_num, by rw [HE.out]; exact H2.out.put HKK.out ha200 hb200 m⟩
            case measure => simp [intOf]; omega
        · obtain rfl : b = N := by omega
          go_wp2
          go_roundw
          case rel => exact ⟨a + 1, by omega, by go_num, by rw [← bG_next]; exact HK.out⟩
          case measure => simp [intOf]; omega
    · obtain rfl : a = N := by omega
      go_wp2
      go_ret2
      exact ⟨⟨w1.heap.size, rfl, HT.out.own, HT.out.grid⟩, HT.out.below⟩
theorem powuBuilt_yes (rows : Rows2) (pa : Option Addr) (pC kb sb lb ub : Nat) (pA pB : Option Addr) (pCC pD : Nat) (N : Nat) (w : World) (hok : Ok rows) (h7 : rows.length ≤ 7) (hi : IntsAt w (.slice pa N pC) (setsL rows 1)) (hp : PM 48 sb lb ub rows.length (gridF (backRows rows)) (gridF rows) pA pB pCC pD w) (hN : N = (setsL rows 1).length) (hN2 : N ≤ 200) (hT : Tab w) (hrf : ∀ q, q < N → (ordB rows 1) q q = true) :
    Calls Tryd.prog 17 #[.iface 45 (pwV rows.length (.slice pa N pC) 49 50 kb sb)] w (RowsG N (fun q => bRow (ordB rows 1) q N) true w) :=
  built_yes _ (ordB rows 1) N w hT hN2 hrf fun W hB => powuRows_yes rows pa pC kb sb lb ub pA pB pCC pD N W hok h7 (hi.below hB) (hp.step hB) hN hN2
end Go.Proofs.YtiaajegdaipdmaaDoor

/- The walks of rowsOf and built at powc. -/
namespace Go.Proofs.YtiaajegdaipdmaaDoor
open Go.RowKit Go.Deep Go.Shelf

set_option maxRecDepth 100000 in
set_option maxHeartbeats 4000000 in
theorem powcRows_yes (rows : Rows2) (pa : Option Addr) (pC kb sb lb ub : Nat) (pA pB : Option Addr) (pCC pD : Nat) (N : Nat) (w : World) (hok : Ok rows) (h7 : rows.length ≤ 7) (hi : IntsAt w (.slice pa N pC) (setsL rows 2)) (hp : PM 51 sb lb ub rows.length (gridF (backRows rows)) (gridF rows) pA pB pCC pD w) (hN : N = (setsL rows 2).length) (hN2 : N ≤ 200) :
    Calls Tryd.prog 31 #[.iface 45 (pwV rows.length (.slice pa N pC) 52 53 kb sb)] w (RowsYes (madeG (ordB rows 2) N) w) := by
  have hK : Stays w (fun W => Below w.heap.size w W) := fun _ _ hb hk => hk.trans hb
  have hcall0 := fun W (hk : (fun W => Below w.heap.size w W) W) => (show Calls Tryd.prog 99 #[(pwV rows.length (.slice pa N pC) 52 53 kb sb)] W (SaysI (((setsL rows 2).length : Nat) : Int) W) from by subst hN; exact pdSize_any _ _ _ _ _ _ W)
  have hk0 : (fun W => Below w.heap.size w W) w := (Below.refl _ _)
  have hcall := hcall0 _ hk0
  rw [← hN] at hcall
  have HBC := Lib.hid (fun (a b : Nat) (ha : a < N) (hb : b < N) W (hk : (fun W => Below w.heap.size w W) W) => (show Calls Tryd.prog 98 #[(pwV rows.length (.slice pa N pC) 52 53 kb sb), .int .i64 (a : Int), .int .i64 (b : Int)] W (SaysN (ordB rows 2 a b) W) from by subst hN; exact convexPBelow_any rows pa pC kb sb lb ub pA pB pCC pD a b W hok h7 (hi.below hk) (hp.step hk) ha hb))
  have hmS := run_pd_size
  have hmB := run_pd_below
  have hN3 : ¬ ((200 : Int) < (N : Int)) := by omega
  have hz := (zero_of_info zeroGrid).1
  have HK0 := Lib.hid hk0
  have HKK := Lib.hid hK
  clear hok h7 hi hp hN hcall0 hk0 hK
  go_enter Tryd.func31, Tryd.ntmps31
  go_wp2_with (go_at_call 99; refine hcall.mono ?_; clear hcall; rintro e w1 ⟨rfl, hb1⟩; have HK1 := Lib.hid (HKK.out _ _ hb1 HK0.out); have HB1 := Lib.hid hb1; clear hb1)
  have bA := (Below.refl w1.heap.size w1).alloc (Nat.le_refl _) (.cells (gridCells fun _ => 0) 75)
  have HST := Lib.hid (show RwG w (fun W => Below w.heap.size w W) w1.heap.size (bG (ordB rows 2) N 0 0) (w1.alloc (.cells (gridCells fun _ => 0) 75)) from
    ⟨HKK.out _ _ (bA.mono HB1.out.size) HK1.out, by rw [bG_start]; exact store_new w1, HB1.out.size, HB1.out.trans (bA.mono HB1.out.size)⟩)
  clear bA hz
  go_loopw [6, 13] (fun _ av wr => ∃ a : Nat, a ≤ N ∧ av = .int .i64 a ∧ RwG w (fun W => Below w.heap.size w W) w1.heap.size (bG (ordB rows 2) N a 0) wr) (fun _ av _ => N - (intOf av).toNat)
  case atStart => exact ⟨0, Nat.zero_le _, rfl, HST.out⟩
  case round =>
    obtain ⟨a, ha, rfl, ht⟩ := hrel
    have HT := Lib.hid ht
    clear HST ht
    by_cases hal : a < N
    · go_wp2
      go_loopw [7, 17] (fun _ bv wr => ∃ b : Nat, b ≤ N ∧ bv = .int .i64 b ∧ RwG w (fun W => Below w.heap.size w W) w1.heap.size (bG (ordB rows 2) N a b) wr) (fun _ bv _ => N - (intOf bv).toNat)
      case atStart => exact ⟨0, Nat.zero_le _, rfl, HT.out⟩
      case round =>
        obtain ⟨b, hb, rfl, ht⟩ := hrel
        have HK := Lib.hid ht
        clear ht HT
        by_cases hbl : b < N
        · have hcall := HBC.out a b hal hbl wr HK.out.kept
          cases hbit : (ordB rows 2) a b with
          | false =>
            rw [hbit] at hcall
            have HE := Lib.hid (bG_no (N := N) hbit)
            clear hbit
            go_wp2_with (go_at_call 98; refine hcall.mono ?_; clear hcall; rintro e w2 ⟨rfl, hb2⟩; have H2 := Lib.hid (HK.out.step HKK.out hb2); clear hb2)
            go_roundw
            case rel => exact ⟨b + 1, by omega, by go_num, by rw [HE.out]; exact H2.out⟩
            case measure => simp [intOf]; omega
          | true =>
            rw [hbit] at hcall
            have HE := Lib.hid (bG_yes (N := N) hbit)
            have ha200 : a < 200 := by omega
            have hb200 : b < 200 := by omega
            have ha0 : (0 : Int) ≤ (a : Int) := by omega
            have ha1 : (a : Int) < 200 := by omega
            clear hbit
            go_wp2_with (first | (go_at_call 98; refine hcall.mono ?_; clear hcall; rintro e w2 ⟨rfl, hb2⟩; have H2 := Lib.hid (HK.out.step HKK.out hb2); have hadd := addTo_any w1.heap.size a b (b : Int) _ w2 H2.out.grid ha200 hb200 rfl; clear hb2) | (go_at_call 54; refine hadd.mono ?_; clear hadd; rintro e w3 ⟨rfl, m, rfl⟩))
            go_roundw
            case rel => exact ⟨b + 1, by omega, by go_num, by rw [HE.out]; exact H2.out.put HKK.out ha200 hb200 m⟩
            case measure => simp [intOf]; omega
        · obtain rfl : b = N := by omega
          go_wp2
          go_roundw
          case rel => exact ⟨a + 1, by omega, by go_num, by rw [← bG_next]; exact HK.out⟩
          case measure => simp [intOf]; omega
    · obtain rfl : a = N := by omega
      go_wp2
      go_ret2
      exact ⟨⟨w1.heap.size, rfl, HT.out.own, HT.out.grid⟩, HT.out.below⟩
theorem powcBuilt_yes (rows : Rows2) (pa : Option Addr) (pC kb sb lb ub : Nat) (pA pB : Option Addr) (pCC pD : Nat) (N : Nat) (w : World) (hok : Ok rows) (h7 : rows.length ≤ 7) (hi : IntsAt w (.slice pa N pC) (setsL rows 2)) (hp : PM 51 sb lb ub rows.length (gridF (backRows rows)) (gridF rows) pA pB pCC pD w) (hN : N = (setsL rows 2).length) (hN2 : N ≤ 200) (hT : Tab w) (hrf : ∀ q, q < N → (ordB rows 2) q q = true) :
    Calls Tryd.prog 17 #[.iface 45 (pwV rows.length (.slice pa N pC) 52 53 kb sb)] w (RowsG N (fun q => bRow (ordB rows 2) q N) true w) :=
  built_yes _ (ordB rows 2) N w hT hN2 hrf fun W hB => powcRows_yes rows pa pC kb sb lb ub pA pB pCC pD N W hok h7 (hi.below hB) (hp.step hB) hN hN2
end Go.Proofs.YtiaajegdaipdmaaDoor

/- The program's PowerOrder. -/
namespace Go.Proofs.YtiaajegdaipdmaaDoor
open Go.RowKit Go.Deep Go.Shelf

set_option maxRecDepth 100000 in
set_option maxHeartbeats 4000000 in
theorem noOrd (v : Value) (rows : Rows2) (z : ByteArray) (w : World) (hv : RowsAt w v rows) (hT : Tab w) (hn : bulk rows ≤ 1048576) (hf : fitB rows z = false) :
    Calls Tryd.prog 7 #[.agg #[v], .string z] w (OrderP (ordL rows z) (fitB rows z) w) := by
  have hH0 := Held.start w 26 hv
  have hs1 : (w.alloc (.cells #[v] 26)).heap.size = w.heap.size + 1 := World.size_alloc _ _
  have hbR := Boxed.new (w.alloc (.cells #[v] 26)) 26 (.slice none 0 0)
  rw [hs1] at hbR
  have hH := hH0.below ((Below.refl _ (w.alloc (.cells #[v] 26))).alloc (Nat.le_refl _) (.cells #[.slice none 0 0] 26))
  have HOF := Lib.hid (powerOf_no v rows z _ hH.2.1 (hT.below hH.2.2.1) hn hf)
  have HE := Lib.hid hf
  have HI := Lib.hid (ordL_no hf)
  obtain ⟨A, C, rfl, _⟩ := hv
  have H := Lib.hid hH
  have BR := Lib.hid hbR
  have hcell := hH.1
  clear hH hT hn hf hH0 hs1 hbR
  go_enter Tryd.func7, Tryd.ntmps7
  go_wp2_with (go_at_call 16; refine HOF.out.mono ?_; clear HOF; rintro e w2 ⟨rfl, hb2⟩; have H2 := Lib.hid (H.out.below hb2); have hbx : Boxed w2 (w.heap.size + 1) 26 (.slice none 0 0) := (hb2.block _ BR.out.lt).trans BR.out; have hbA := hbx.alloc (.cells pdZero 45); have hres := hbA.cell; have hfr := hbA.frozen; clear hb2 hcell hbx hbA)
  have hc9 := World.cell?_setCell_same' (w2.alloc (.cells pdZero 45)) ⟨w.heap.size + 1, 0, none⟩ (.slice none 0 0) (by rw [hres]; rfl)
  refine bodyPost_ret (v := .tuple #[.agg #[.slice none 0 0], .bool false]) (by simp [results, Tryd.results7, go_sem, hc9]) rfl ?_
  exact ordp_no HI.out HE.out (H2.out.2.2.1.alloc H2.out.2.2.1.size _) (Nat.le_succ _) _

set_option maxRecDepth 100000 in
set_option maxHeartbeats 4000000 in
theorem lowerOrd (v : Value) (rows : Rows2) (z : ByteArray) (w : World) (hv : RowsAt w v rows) (hT : Tab w) (hn : bulk rows ≤ 1048576) (hf : fitB rows z = true) (hk : kindN z = 0) :
    Calls Tryd.prog 7 #[.agg #[v], .string z] w (OrderP (ordL rows z) (fitB rows z) w) := by
  have hH0 := Held.start w 26 hv
  have hs1 : (w.alloc (.cells #[v] 26)).heap.size = w.heap.size + 1 := World.size_alloc _ _
  have hbR := Boxed.new (w.alloc (.cells #[v] 26)) 26 (.slice none 0 0)
  rw [hs1] at hbR
  have hH := hH0.below ((Below.refl _ (w.alloc (.cells #[v] 26))).alloc (Nat.le_refl _) (.cells #[.slice none 0 0] 26))
  have HOF := Lib.hid (lowerOf_any v rows z _ hH.2.1 (hT.below hH.2.2.1) hn hf hk)
  obtain ⟨_, hok, h7, _⟩ := fit_iff hf
  obtain ⟨A, C, rfl, _⟩ := hv
  have H := Lib.hid hH
  have BR := Lib.hid hbR
  have hcell := hH.1
  have HOK := Lib.hid hok
  have HF := Lib.hid hf
  have HI := Lib.hid (show ordL rows z = madeL (ordB rows 0) (setsL rows 0).length by rw [ordL_yes hf, hk])
  have hsl := setsL_len h7 0
  have hup := Tryd.underlying45
  have hip := sizePD
  have HTT := Lib.hid hT
  clear hH hT hn hf hk hok hH0 hs1 hbR
  go_enter Tryd.func7, Tryd.ntmps7
  go_upto_region 2 with (first | (go_at_call 16; refine HOF.out.mono ?_; clear HOF; rintro e w2 ⟨u, kb, sb, rfl, hpw, hb2⟩; have H2 := Lib.hid (H.out.below hb2); have BX2 := Lib.hid (show Boxed w2 (w.heap.size + 1) 26 (.slice none 0 0) from (hb2.block _ BR.out.lt).trans BR.out); have hnew := heap_alloc_new w2 (.cells pdZero 45); obtain ⟨lb, ub, A2, B2, C2, D2, hpm⟩ := hpw.pm; have HPM := Lib.hid hpm; obtain ⟨ua, uC, rfl⟩ := hpw.form; have HPW := Lib.hid hpw; clear hb2 hpw hpm) | (refine wpList_store_row rfl 45 (.tmp 6) (.tmp 12) rfl w2.heap.size (pwCells rows.length (.slice ua (setsL rows 0).length uC) 45 46 kb sb) rfl rfl 45 pdZero hnew hip rfl (pw_one rfl rfl rfl) ?_))
  obtain ⟨hblk, hb3⟩ := pw_new w2 (pwCells rows.length (.slice ua (setsL rows 0).length uC) 45 46 kb sb)
  have HB3 := Lib.hid hb3
  have H3 := Lib.hid (H2.out.below hb3)
  clear hnew hb3
  generalize ((w2.alloc (.cells pdZero 45)).setRow w2.heap.size (pwCells rows.length (.slice ua (setsL rows 0).length uC) 45 46 kb sb)) = w3 at hblk HB3 H3 ⊢
  have HW := Lib.hid (show ∃ w', w' = w2 from ⟨_, rfl⟩)
  obtain ⟨q, hq⟩ : ∃ q, q = w2.heap.size := ⟨_, rfl⟩
  rw [← hq] at hblk ⊢
  clear hq HW
  have HBX := Lib.hid (show Boxed w3 (w.heap.size + 1) 26 (.slice none 0 0) from (HB3.out.block _ BX2.out.lt).trans BX2.out)
  have HIA := Lib.hid (show IntsAt w3 (.slice ua (setsL rows 0).length uC) (setsL rows 0) from HPW.out.own.at.below HB3.out)
  have hP3 := HPM.out w3 HB3.out
  have hcl := powlBuilt_yes rows ua uC kb sb lb ub A2 B2 C2 D2 (setsL rows 0).length w3 HOK.out h7 HIA.out hP3 rfl (by omega) (HTT.out.below H3.out.2.2.1) (fun q _ => ordB_refl rows 0 q)
  have HCL := Lib.hid hcl
  have HLT := Lib.hid (show w.heap.size + 1 < w3.heap.size from HBX.out.lt)
  clear hP3 hcl
  obtain ⟨c0, c1, c2, c3⟩ := pw_cells hblk
  clear hblk
  go_wp2_with (go_at_call 17; refine HCL.out.mono ?_; clear HCL; rintro e w4 ⟨u4, rfl, ho4, hb4⟩; have hbx : Boxed w4 (w.heap.size + 1) 26 (.slice none 0 0) := (hb4.block _ HBX.out.lt).trans HBX.out; have hres := hbx.cell; have hfr := hbx.frozen; have HO4 := Lib.hid ho4; have H4 := Lib.hid (H3.out.below hb4); obtain ⟨a4, C4, rfl⟩ := ho4.form; clear hb4 ho4 hbx hcell c0 c1 c2 c3)
  have hc9 := World.cell?_setCell_same' w4 ⟨w.heap.size + 1, 0, none⟩ (.slice a4 (setsL rows 0).length C4) (by rw [hres]; rfl)
  refine bodyPost_ret (v := .tuple #[.agg #[.slice a4 (setsL rows 0).length C4], .bool true]) (by simp [results, Tryd.results7, go_sem, hc9]) rfl ?_
  exact ordp_yes HI.out HF.out (HO4.out.wider (by have := HLT.out; omega) (Nat.le_refl _)) H4.out.2.2.1 (Nat.le_succ _)

set_option maxRecDepth 100000 in
set_option maxHeartbeats 4000000 in
theorem upperOrd (v : Value) (rows : Rows2) (z : ByteArray) (w : World) (hv : RowsAt w v rows) (hT : Tab w) (hn : bulk rows ≤ 1048576) (hf : fitB rows z = true) (hk : kindN z = 1) :
    Calls Tryd.prog 7 #[.agg #[v], .string z] w (OrderP (ordL rows z) (fitB rows z) w) := by
  have hH0 := Held.start w 26 hv
  have hs1 : (w.alloc (.cells #[v] 26)).heap.size = w.heap.size + 1 := World.size_alloc _ _
  have hbR := Boxed.new (w.alloc (.cells #[v] 26)) 26 (.slice none 0 0)
  rw [hs1] at hbR
  have hH := hH0.below ((Below.refl _ (w.alloc (.cells #[v] 26))).alloc (Nat.le_refl _) (.cells #[.slice none 0 0] 26))
  have HOF := Lib.hid (upperOf_any v rows z _ hH.2.1 (hT.below hH.2.2.1) hn hf hk)
  obtain ⟨_, hok, h7, _⟩ := fit_iff hf
  obtain ⟨A, C, rfl, _⟩ := hv
  have H := Lib.hid hH
  have BR := Lib.hid hbR
  have hcell := hH.1
  have HOK := Lib.hid hok
  have HF := Lib.hid hf
  have HI := Lib.hid (show ordL rows z = madeL (ordB rows 1) (setsL rows 1).length by rw [ordL_yes hf, hk])
  have hsl := setsL_len h7 1
  have hup := Tryd.underlying45
  have hip := sizePD
  have HTT := Lib.hid hT
  clear hH hT hn hf hk hok hH0 hs1 hbR
  go_enter Tryd.func7, Tryd.ntmps7
  go_upto_region 2 with (first | (go_at_call 16; refine HOF.out.mono ?_; clear HOF; rintro e w2 ⟨u, kb, sb, rfl, hpw, hb2⟩; have H2 := Lib.hid (H.out.below hb2); have BX2 := Lib.hid (show Boxed w2 (w.heap.size + 1) 26 (.slice none 0 0) from (hb2.block _ BR.out.lt).trans BR.out); have hnew := heap_alloc_new w2 (.cells pdZero 45); obtain ⟨lb, ub, A2, B2, C2, D2, hpm⟩ := hpw.pm; have HPM := Lib.hid hpm; obtain ⟨ua, uC, rfl⟩ := hpw.form; have HPW := Lib.hid hpw; clear hb2 hpw hpm) | (refine wpList_store_row rfl 45 (.tmp 6) (.tmp 12) rfl w2.heap.size (pwCells rows.length (.slice ua (setsL rows 1).length uC) 49 50 kb sb) rfl rfl 45 pdZero hnew hip rfl (pw_one rfl rfl rfl) ?_))
  obtain ⟨hblk, hb3⟩ := pw_new w2 (pwCells rows.length (.slice ua (setsL rows 1).length uC) 49 50 kb sb)
  have HB3 := Lib.hid hb3
  have H3 := Lib.hid (H2.out.below hb3)
  clear hnew hb3
  generalize ((w2.alloc (.cells pdZero 45)).setRow w2.heap.size (pwCells rows.length (.slice ua (setsL rows 1).length uC) 49 50 kb sb)) = w3 at hblk HB3 H3 ⊢
  have HW := Lib.hid (show ∃ w', w' = w2 from ⟨_, rfl⟩)
  obtain ⟨q, hq⟩ : ∃ q, q = w2.heap.size := ⟨_, rfl⟩
  rw [← hq] at hblk ⊢
  clear hq HW
  have HBX := Lib.hid (show Boxed w3 (w.heap.size + 1) 26 (.slice none 0 0) from (HB3.out.block _ BX2.out.lt).trans BX2.out)
  have HIA := Lib.hid (show IntsAt w3 (.slice ua (setsL rows 1).length uC) (setsL rows 1) from HPW.out.own.at.below HB3.out)
  have hP3 := HPM.out w3 HB3.out
  have hcl := powuBuilt_yes rows ua uC kb sb lb ub A2 B2 C2 D2 (setsL rows 1).length w3 HOK.out h7 HIA.out hP3 rfl (by omega) (HTT.out.below H3.out.2.2.1) (fun q _ => ordB_refl rows 1 q)
  have HCL := Lib.hid hcl
  have HLT := Lib.hid (show w.heap.size + 1 < w3.heap.size from HBX.out.lt)
  clear hP3 hcl
  obtain ⟨c0, c1, c2, c3⟩ := pw_cells hblk
  clear hblk
  go_wp2_with (go_at_call 17; refine HCL.out.mono ?_; clear HCL; rintro e w4 ⟨u4, rfl, ho4, hb4⟩; have hbx : Boxed w4 (w.heap.size + 1) 26 (.slice none 0 0) := (hb4.block _ HBX.out.lt).trans HBX.out; have hres := hbx.cell; have hfr := hbx.frozen; have HO4 := Lib.hid ho4; have H4 := Lib.hid (H3.out.below hb4); obtain ⟨a4, C4, rfl⟩ := ho4.form; clear hb4 ho4 hbx hcell c0 c1 c2 c3)
  have hc9 := World.cell?_setCell_same' w4 ⟨w.heap.size + 1, 0, none⟩ (.slice a4 (setsL rows 1).length C4) (by rw [hres]; rfl)
  refine bodyPost_ret (v := .tuple #[.agg #[.slice a4 (setsL rows 1).length C4], .bool true]) (by simp [results, Tryd.results7, go_sem, hc9]) rfl ?_
  exact ordp_yes HI.out HF.out (HO4.out.wider (by have := HLT.out; omega) (Nat.le_refl _)) H4.out.2.2.1 (Nat.le_succ _)

set_option maxRecDepth 100000 in
set_option maxHeartbeats 4000000 in
theorem convexOrd (v : Value) (rows : Rows2) (z : ByteArray) (w : World) (hv : RowsAt w v rows) (hT : Tab w) (hn : bulk rows ≤ 1048576) (hf : fitB rows z = true) (hk : kindN z = 2) :
    Calls Tryd.prog 7 #[.agg #[v], .string z] w (OrderP (ordL rows z) (fitB rows z) w) := by
  have hH0 := Held.start w 26 hv
  have hs1 : (w.alloc (.cells #[v] 26)).heap.size = w.heap.size + 1 := World.size_alloc _ _
  have hbR := Boxed.new (w.alloc (.cells #[v] 26)) 26 (.slice none 0 0)
  rw [hs1] at hbR
  have hH := hH0.below ((Below.refl _ (w.alloc (.cells #[v] 26))).alloc (Nat.le_refl _) (.cells #[.slice none 0 0] 26))
  have HOF := Lib.hid (convexOf_any v rows z _ hH.2.1 (hT.below hH.2.2.1) hn hf hk)
  obtain ⟨_, hok, h7, _⟩ := fit_iff hf
  obtain ⟨A, C, rfl, _⟩ := hv
  have H := Lib.hid hH
  have BR := Lib.hid hbR
  have hcell := hH.1
  have HOK := Lib.hid hok
  have HF := Lib.hid hf
  have HI := Lib.hid (show ordL rows z = madeL (ordB rows 2) (setsL rows 2).length by rw [ordL_yes hf, hk])
  have hsl := setsL_len h7 2
  have hup := Tryd.underlying45
  have hip := sizePD
  have HTT := Lib.hid hT
  clear hH hT hn hf hk hok hH0 hs1 hbR
  go_enter Tryd.func7, Tryd.ntmps7
  go_upto_region 2 with (first | (go_at_call 16; refine HOF.out.mono ?_; clear HOF; rintro e w2 ⟨u, kb, sb, rfl, hpw, hb2⟩; have H2 := Lib.hid (H.out.below hb2); have BX2 := Lib.hid (show Boxed w2 (w.heap.size + 1) 26 (.slice none 0 0) from (hb2.block _ BR.out.lt).trans BR.out); have hnew := heap_alloc_new w2 (.cells pdZero 45); obtain ⟨lb, ub, A2, B2, C2, D2, hpm⟩ := hpw.pm; have HPM := Lib.hid hpm; obtain ⟨ua, uC, rfl⟩ := hpw.form; have HPW := Lib.hid hpw; clear hb2 hpw hpm) | (refine wpList_store_row rfl 45 (.tmp 6) (.tmp 12) rfl w2.heap.size (pwCells rows.length (.slice ua (setsL rows 2).length uC) 52 53 kb sb) rfl rfl 45 pdZero hnew hip rfl (pw_one rfl rfl rfl) ?_))
  obtain ⟨hblk, hb3⟩ := pw_new w2 (pwCells rows.length (.slice ua (setsL rows 2).length uC) 52 53 kb sb)
  have HB3 := Lib.hid hb3
  have H3 := Lib.hid (H2.out.below hb3)
  clear hnew hb3
  generalize ((w2.alloc (.cells pdZero 45)).setRow w2.heap.size (pwCells rows.length (.slice ua (setsL rows 2).length uC) 52 53 kb sb)) = w3 at hblk HB3 H3 ⊢
  have HW := Lib.hid (show ∃ w', w' = w2 from ⟨_, rfl⟩)
  obtain ⟨q, hq⟩ : ∃ q, q = w2.heap.size := ⟨_, rfl⟩
  rw [← hq] at hblk ⊢
  clear hq HW
  have HBX := Lib.hid (show Boxed w3 (w.heap.size + 1) 26 (.slice none 0 0) from (HB3.out.block _ BX2.out.lt).trans BX2.out)
  have HIA := Lib.hid (show IntsAt w3 (.slice ua (setsL rows 2).length uC) (setsL rows 2) from HPW.out.own.at.below HB3.out)
  have hP3 := HPM.out w3 HB3.out
  have hcl := powcBuilt_yes rows ua uC kb sb lb ub A2 B2 C2 D2 (setsL rows 2).length w3 HOK.out h7 HIA.out hP3 rfl (by omega) (HTT.out.below H3.out.2.2.1) (fun q _ => ordB_refl rows 2 q)
  have HCL := Lib.hid hcl
  have HLT := Lib.hid (show w.heap.size + 1 < w3.heap.size from HBX.out.lt)
  clear hP3 hcl
  obtain ⟨c0, c1, c2, c3⟩ := pw_cells hblk
  clear hblk
  go_wp2_with (go_at_call 17; refine HCL.out.mono ?_; clear HCL; rintro e w4 ⟨u4, rfl, ho4, hb4⟩; have hbx : Boxed w4 (w.heap.size + 1) 26 (.slice none 0 0) := (hb4.block _ HBX.out.lt).trans HBX.out; have hres := hbx.cell; have hfr := hbx.frozen; have HO4 := Lib.hid ho4; have H4 := Lib.hid (H3.out.below hb4); obtain ⟨a4, C4, rfl⟩ := ho4.form; clear hb4 ho4 hbx hcell c0 c1 c2 c3)
  have hc9 := World.cell?_setCell_same' w4 ⟨w.heap.size + 1, 0, none⟩ (.slice a4 (setsL rows 2).length C4) (by rw [hres]; rfl)
  refine bodyPost_ret (v := .tuple #[.agg #[.slice a4 (setsL rows 2).length C4], .bool true]) (by simp [results, Tryd.results7, go_sem, hc9]) rfl ?_
  exact ordp_yes HI.out HF.out (HO4.out.wider (by have := HLT.out; omega) (Nat.le_refl _)) H4.out.2.2.1 (Nat.le_succ _)

theorem implOrder_any (v : Value) (rows : Rows2) (z : ByteArray) (w : World) (hv : RowsAt w v rows) (hT : Tab w) (hn : bulk rows ≤ 1048576) :
    Calls Tryd.prog 7 #[.agg #[v], .string z] w (OrderP (ordL rows z) (fitB rows z) w) := by
  cases hf : fitB rows z with
  | false => rw [← hf]; exact noOrd v rows z w hv hT hn hf
  | true =>
    rw [← hf]
    rcases kind_cases (fit_iff hf).2.2.2 with e | e | e
    · exact lowerOrd v rows z w hv hT hn hf e
    · exact upperOrd v rows z w hv hT hn hf e
    · exact convexOrd v rows z w hv hT hn hf e
end Go.Proofs.YtiaajegdaipdmaaDoor
