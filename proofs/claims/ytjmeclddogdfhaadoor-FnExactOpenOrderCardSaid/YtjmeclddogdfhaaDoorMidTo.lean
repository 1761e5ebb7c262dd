/- An order that is built row by row in a variable of its own: 'out.Up = append(out.Up, row)'. Plain facts on worlds: no function is walked here. -/
import Derived.Test.YtjmeclddogdfhaaDoorOwnB
import Derived.Test.YtjmeclddogdfhaaDoorBackS
import Derived.RangeFuncBox
import Derived.Test.YtjmeclddogdfhaaDoorStepS
import Derived.Test.YtjmeclddogdfhaaDoorMade
import Derived.Test.YtjmeclddogdfhaaDoorSets64
import Derived.Test.YtjmeclddogdfhaaDoorGridK
import Derived.Test.YtjmeclddogdfhaaDoorMem
import Derived.Test.YtjmeclddogdfhaaDoorBottom
import Derived.Test.YtjmeclddogdfhaaDoorGridOf
import Derived.Deep.MidRow
import Derived.Laws.ShiftsVar
import Derived.Laws.ShiftsVarLaws
import Derived.Test.YtjmeclddogdfhaaDoorLe
import Derived.Test.YtjmeclddogdfhaaDoorValid
import Derived.Test.YtjmeclddogdfhaaDoorLw
import Derived.Deep.RegionLaw
import Derived.Deep.AppendLies
import Derived.Test.YtjmeclddogdfhaaDoorOrderG
import Derived.Test.YtjmeclddogdfhaaDoorOkG
import Derived.Test.YtjmeclddogdfhaaDoorImplDom
import Derived.Test.YtjmeclddogdfhaaDoorSz
import Derived.Test.YtjmeclddogdfhaaDoorEnv
import Derived.Test.YtjmeclddogdfhaaDoorTo
import Derived.Deep.RegionHeld3
namespace Go.Proofs.YtjmeclddogdfhaaDoor
open Go.RowKit Go.Deep

/-- Rows are as they were if no block turns but one of another type. -/
theorem OwnR.kept_but {t u : TypeId} {W W' : World} {v : Value} {n : Nat} {R : Nat → List Int} {lo hi z : Nat} {tz : TypeId} {x : Value} (h : OwnR t u W v n R lo hi) (hz : Boxed W z tz x) (h1 : tz ≠ t) (h2 : tz ≠ u) (hb : ∀ b, b ≠ z → W'.heap[b]? = W.heap[b]?) : OwnR t u W' v n R lo hi := by
  obtain h | ⟨g, C, f, rfl, k1, k2, k3, k4, k5, k6, k7⟩ := h
  · exact .inl h
  · have hg : g ≠ z := fun e => by
      obtain ⟨c, k5, _⟩ := k5
      unfold Boxed at hz
      rw [e, hz] at k5
      injection k5 with k5
      injection k5 with _ k5
      exact h2 k5
    refine .inr ⟨g, C, f, rfl, k1, k2, k3, k4, k5.of_block (hb g hg), fun j hj => (k6 j hj).kept fun b e => hb b fun e2 => ?_, k7⟩
    obtain ⟨_, _, c, k8⟩ := (k6 j hj).block b e
    unfold Boxed at hz
    rw [e2, hz] at k8
    injection k8 with k8
    injection k8 with _ k8
    exact h1 k8

theorem ord_ne_int : (25 : TypeId) ≠ 3 := by decide
theorem ord_ne_ints : (25 : TypeId) ≠ 22 := by decide
theorem int_ne_ints : (3 : TypeId) ≠ 22 := by decide

/-- While an order is built in the box Z: n rows R are there. -/
structure Out (w0 : World) (Z : Nat) (u : Value) (n : Nat) (R : Nat → List Int) (W : World) : Prop where
  below : Below w0.heap.size w0 W
  out : Boxed W Z 25 u
  own : OwnR 3 22 W u n R w0.heap.size W.heap.size
  place : w0.heap.size ≤ Z
theorem Out.step {w0 : World} {Z : Nat} {u : Value} {n : Nat} {R : Nat → List Int} {W W' : World} (h : Out w0 Z u n R W) (hb : Below W.heap.size W W') : Out w0 Z u n R W' :=
  ⟨h.below.trans (hb.mono h.below.size), (hb.block _ h.out.lt).trans h.out, (h.own.below hb (Nat.le_refl _)).wider (Nat.le_refl _) hb.size, h.place⟩
theorem Out.congr {w0 : World} {Z : Nat} {u : Value} {n : Nat} {R R' : Nat → List Int} {W : World} (h : Out w0 Z u n R W) (he : ∀ j, j < n → R j = R' j) : Out w0 Z u n R' W :=
  ⟨h.below, h.out, h.own.congr he, h.place⟩

theorem Out.pushed {w0 : World} {Z : Nat} {u : Value} {n : Nat} {R : Nat → List Int} {wr w2 w3 : World} {f : Nat → Value} {v' u2 : Value} {xs : List Int} {o : Obj} (h : Out w0 Z u n R wr)
    (h0 : wr.ownsRow w0.heap.size 22 1 u n ((List.range n).map f)) (h1 : ∀ j, j < n → OwnI 3 wr (f j) (R j) w0.heap.size wr.heap.size) (h2 : ∀ i j, i < j → j < n → (f i).ownBlock = none ∨ (f i).ownBlock ≠ (f j).ownBlock)
    (hb : Below wr.heap.size wr w2) (hn : OwnI 3 w2 v' xs wr.heap.size w2.heap.size) (hown : w3.ownsRow w0.heap.size 22 1 u2 (n + 1) ((List.range n).map f ++ [v'])) (hgrow : (w2.alloc o).grownBy w3 u.ownBlock) :
    Out w0 Z u2 (n + 1) (fun q => if q = n then xs else R q) (w3.setCell ⟨Z, 0, none⟩ u2) := by
  have hs := h.step hb
  have hw := h.below.size
  have hz := hb.size
  obtain ⟨k1, k2, k3, k4, k5⟩ := Boxed.appended (tmp := o) hs.out ord_ne_ints (owns_below h0 hb) hs.below.size h.place hown hgrow
  have h1' : ∀ j, j < n → OwnI 3 w2 (f j) (R j) w0.heap.size wr.heap.size := fun j hj => (h1 j hj).kept fun b hb' => hb.block b ((h1 j hj).block b hb').2.1
  have hp := OwnR.pushed (W := w2) (mid := wr.heap.size) (lo := w0.heap.size) int_ne_ints (owns_below h0 hb) h1' h2 hw hz hn ((Below.refl _ w2).alloc (Nat.le_refl _) o) hown hgrow
  refine ⟨hs.below.trans k5, k2, ?_, h.place⟩
  rw [size_setCell]
  exact hp.kept_but k1 ord_ne_int ord_ne_ints fun b hb' => Below.heap_setCell _ _ _ b hb'
/-- The variable's cell, behind the append. -/
theorem Out.far {w0 : World} {Z : Nat} {u : Value} {n : Nat} {R : Nat → List Int} {w2 w3 : World} {xs : List Value} {o : Obj} (h : Out w0 Z u n R w2) (h0 : w2.ownsRow w0.heap.size 22 1 u n xs) (hgrow : (w2.alloc o).grownBy w3 u.ownBlock) : Boxed w3 Z 25 u :=
  (h.out.alloc o).kept hgrow (Boxed.not_row h.out ord_ne_ints h0)
/-- An order of one row, right behind. -/
theorem Out.one {w0 W : World} {v : Value} {xs : List Int} (hb : Below w0.heap.size w0 W) (hv : OwnI 3 W v xs w0.heap.size W.heap.size) :
    Out w0 (W.heap.size + 1) (.slice (some ⟨W.heap.size, 0, none⟩) 1 1) 1 (fun _ => xs) ((W.alloc (.cells #[v] 22)).alloc (.cells #[.slice (some ⟨W.heap.size, 0, none⟩) 1 1] 25)) := by
  have s1 : (W.alloc (.cells #[v] 22)).heap.size = W.heap.size + 1 := World.size_alloc _ _
  have hz := hb.size
  have b1 := (Below.refl W.heap.size W).alloc (Nat.le_refl _) (.cells #[v] 22)
  have b2 := b1.alloc (by rw [s1]; omega) (.cells #[.slice (some ⟨W.heap.size, 0, none⟩) 1 1] 25)
  have r1 := World.rowIs_alloc W #[v] 22 (fun _ => v) (fun i hi => by
    obtain rfl : i = 0 := by simpa using hi
    rfl)
  have bx := Boxed.new (W.alloc (.cells #[v] 22)) 25 (.slice (some ⟨W.heap.size, 0, none⟩) 1 1)
  rw [s1] at bx
  refine ⟨hb.trans (b2.mono hz), bx, .inr ⟨W.heap.size, 1, fun _ => v, rfl, Nat.le_refl _, by decide, hz, by rw [World.size_alloc, s1]; omega, r1.alloc _, fun j _ => ?_, fun i j hij hj => absurd hj (by omega)⟩, by omega⟩
  exact (hv.wider (Nat.le_refl _) (by rw [World.size_alloc, s1]; omega)).kept fun b e => b2.block b (hv.block b e).2.1
end Go.Proofs.YtjmeclddogdfhaaDoor

/- An order that is new; no row of it yet. Plain facts on worlds: no function is walked here. -/
namespace Go.Proofs.YtjmeclddogdfhaaDoor
open Go.RowKit Go.Deep

/-- An order in new memory. -/
def OrdNew (N : Nat) (R : Nat → List Int) (w : World) (e : Ending) (w' : World) : Prop :=
  ∃ v, e = .returned (.agg #[v]) ∧ OwnR 3 22 w' v N R w.heap.size w'.heap.size ∧ Below w.heap.size w w'
/-- No row yet. -/
theorem Out.empty (w0 : World) (R : Nat → List Int) : Out w0 (w0.heap.size + 1) (.slice (some ⟨w0.heap.size, 0, none⟩) 0 0) 0 R ((w0.alloc (.cells #[] 22)).alloc (.cells #[.slice (some ⟨w0.heap.size, 0, none⟩) 0 0] 25)) := by
  have s1 : (w0.alloc (.cells #[] 22)).heap.size = w0.heap.size + 1 := World.size_alloc _ _
  have b1 := (Below.refl w0.heap.size w0).alloc (Nat.le_refl _) (.cells #[] 22)
  have b2 := b1.alloc (by rw [s1]; omega) (.cells #[.slice (some ⟨w0.heap.size, 0, none⟩) 0 0] 25)
  have r1 := World.rowIs_alloc w0 #[] 22 (fun _ => undef) (fun _ h => absurd h (Nat.not_lt_zero _))
  have bx := Boxed.new (w0.alloc (.cells #[] 22)) 25 (.slice (some ⟨w0.heap.size, 0, none⟩) 0 0)
  rw [s1] at bx
  exact ⟨b2, bx, .inr ⟨w0.heap.size, 0, _, rfl, Nat.le_refl _, Nat.zero_le _, Nat.le_refl _, by rw [World.size_alloc, s1]; omega, r1.alloc _, fun j hj => absurd hj (Nat.not_lt_zero _), fun i j _ hj => absurd hj (Nat.not_lt_zero _)⟩, Nat.le_succ _⟩
end Go.Proofs.YtjmeclddogdfhaaDoor

/- The model's l2Row: the indexes that are kept. -/
namespace Go.Proofs.YtjmeclddogdfhaaDoor
open Go.RowKit Go.Deep

/-- The indexes below k that are kept. -/
def keptN (K : Nat → Bool) (k : Nat) : List Int := ((List.range k).filter K).map fun i : Nat => (i : Int)
theorem keptN_succ (K : Nat → Bool) (k : Nat) : keptN K (k + 1) = if K k = true then keptN K k ++ [(k : Int)] else keptN K k := by
  unfold keptN
  rw [List.range_succ, List.filter_append, List.map_append, List.filter_cons]
  cases K k with
  | true => rfl
  | false => simp
theorem keptN_le (K : Nat → Bool) (k : Nat) : (keptN K k).length ≤ k := by
  unfold keptN
  rw [List.length_map]
  have := List.length_filter_le K (List.range k)
  simpa using this
theorem keptN_range {K : Nat → Bool} {k : Nat} : ∀ x ∈ keptN K k, 0 ≤ x ∧ x < (k : Int) := by
  intro x hx
  unfold keptN at hx
  obtain ⟨i, hi, rfl⟩ := List.mem_map.1 hx
  have := List.mem_range.1 (List.mem_filter.1 hi).1
  omega

set_option maxRecDepth 100000 in
set_option maxHeartbeats 2000000 in
theorem l2Row_any (g n C : Nat) (K : Nat → Bool) (w : World) (hn : n ≤ 1048576) (hk : ∀ i, i < n → w.cell? ⟨g, i, none⟩ = some (.bool (K i))) :
    Calls Tryd.prog 14 #[.slice (some ⟨g, 0, none⟩) n C] w (OwnQ (keptN K n) w) := by
  have HC := Lib.hid (fun W (h : Below w.heap.size w W) i (hi : i < n) => (h.cell (p := ⟨g, i, none⟩) (cell_lt (hk i hi))).trans (hk i hi))
  have HO := Lib.hid (World.ownsRow_made (e := 3) (size := 1) w #[] 0 (base := w.heap.size) (Nat.le_refl _) (Nat.zero_le _) (by simp))
  have HB0 := Lib.hid ((Below.refl w.heap.size w).alloc (Nat.le_refl _) (.cells #[] 3))
  obtain ⟨i0, hi0, hz0, hz1, hz2⟩ := info_parts infoInt
  clear hk
  go_enter Tryd.func14, Tryd.ntmps14
  go_wp2
  go_loopw [3, 4] (fun ov iv wr => ∃ i : Nat, i ≤ n ∧ iv = .int .i64 i ∧ wr.ownsRow w.heap.size 3 1 ov (keptN K i).length (cellsI (keptN K i)) ∧ Below w.heap.size w wr) (fun _ iv _ => n - (intOf iv).toNat)
  case atStart => exact ⟨0, Nat.zero_le _, rfl, HO.out, HB0.out⟩
  case round =>
    obtain ⟨i, hi, rfl, hown, hB⟩ := hrel
    have HOWN := Lib.hid hown
    have HB := Lib.hid hB
    have hcl := keptN_le K i
    clear hown hB HO HB0
    by_cases hlt : i < n
    · have hltz : (i : Int) < (n : Int) := by omega
      have hc := HC.out _ HB.out i hlt
      have hbz := HB.out.size
      cases hq : K i with
      | true =>
        rw [hq] at hc
        have HE := Lib.hid (show keptN K (i + 1) = keptN K i ++ [(i : Int)] by rw [keptN_succ, if_pos hq])
        clear hq
        go_wp2_with (at_builtin; refine wpList_append_own _ rfl _ _ 22 rfl w.heap.size 3 i0 (.int .i64 0) 1 8 Tryd.underlying22 hi0 hz0 hz1 hz2 rfl (by decide) _ _ _ rfl (HOWN.out.alloc _) ⟨wr.heap.size, 0, none⟩ 1 1 [.int .i64 (i : Int)] rfl rfl (cell_one_new _ _ _) (by simp [Value.oneCell']) (by unfold maxLen; omega) (by omega) (by simp; omega) ?_; intro v' w1 hown' hgrow _)
        go_roundw
        case rel =>
          refine ⟨i + 1, by omega, by go_num, ?_, (HB.out.alloc HB.out.size _).grown hgrow (by rw [World.size_alloc]; omega) (fun b e => (HOWN.out.lt b e).1)⟩
          rw [HE.out, List.length_append, show cellsI (keptN K i ++ [(i : Int)]) = cellsI (keptN K i) ++ [.int .i64 (i : Int)] by simp]
          exact hown'
        case measure => simp [intOf]; omega
      | false =>
        rw [hq] at hc
        have HE := Lib.hid (show keptN K (i + 1) = keptN K i by rw [keptN_succ, if_neg (by rw [hq]; simp)])
        clear hq
        go_wp2
        go_roundw
        case rel => exact ⟨i + 1, by omega, by go_num, by rw [HE.out]; exact HOWN.out, HB.out⟩
        case measure => simp [intOf]; omega
    · obtain rfl : i = n := by omega
      go_wp2
      go_ret
      refine ⟨_, rfl, OwnI.of_owns HOWN.out (fun y hy => ?_) (fun b hb => (HOWN.out.lt b hb).2), HB.out⟩
      have := keptN_range y hy
      exact wf_int (by omega) (by omega)
end Go.Proofs.YtjmeclddogdfhaaDoor

/- OpenOrder: the relation that sets make, and its rows. Plain facts: no function is walked here. -/
namespace Go.Proofs.YtjmeclddogdfhaaDoor
open Go.RowKit Go.Deep

/-- Is b in each of the sets in which a is? -/
def toldB (xs : List Int) (a b : Nat) : Bool := xs.all fun s => !s.toNat.testBit a || s.toNat.testBit b
theorem told_refl (xs : List Int) (a : Nat) : toldB xs a a = true := by
  unfold toldB
  rw [List.all_eq_true]
  intro s _
  cases s.toNat.testBit a <;> rfl
/-- So for the first k sets. -/
def toldN (xs : List Int) (a b k : Nat) : Bool := (xs.take k).all fun s => !s.toNat.testBit a || s.toNat.testBit b
theorem toldN_zero (xs : List Int) (a b : Nat) : toldN xs a b 0 = true := rfl
theorem toldN_succ {xs : List Int} {k : Nat} (a b : Nat) (hk : k < xs.length) : toldN xs a b (k + 1) = (toldN xs a b k && (!xs[k].toNat.testBit a || xs[k].toNat.testBit b)) := by
  unfold toldN
  rw [List.take_succ_eq_append_getElem hk, List.all_append, List.all_cons, List.all_nil, Bool.and_true]
theorem toldN_done (xs : List Int) (a b : Nat) : toldN xs a b xs.length = toldB xs a b := by
  unfold toldN toldB
  rw [List.take_length]
/-- Is it valid? -/
noncomputable def toldOk (z : Int) (xs : List Int) : Bool := decide (1 ≤ z ∧ z ≤ 9) && (ascB (2 ^ z.toNat) xs && validB (madeL (toldB xs) z.toNat))
/-- The order. -/
noncomputable def toldL (z : Int) (xs : List Int) : Rows2 := if toldOk z xs = true then madeL (toldB xs) z.toNat else []
theorem told_bulk (z : Int) (xs : List Int) : bulk (toldL z xs) ≤ 1048576 := by
  unfold toldL
  split
  · rename_i h
    unfold toldOk at h
    rw [Bool.and_eq_true] at h
    have := of_decide_eq_true h.1
    exact made_small (by omega)
  · exact Nat.zero_le _

/-- What the first k sets leave in the row of a. -/
def commonF (xs : List Int) (n a : Nat) : Nat → Nat
  | 0 => 2 ^ n - 1
  | k + 1 => if (xs.getD k 0).toNat.testBit a = true then commonF xs n a k &&& (xs.getD k 0).toNat else commonF xs n a k
theorem commonF_lt (xs : List Int) (n a : Nat) : ∀ k, commonF xs n a k < 2 ^ n
  | 0 => Nat.sub_lt (Nat.two_pow_pos n) Nat.one_pos
  | k + 1 => by
    have := commonF_lt xs n a k
    unfold commonF
    split
    · exact Nat.lt_of_le_of_lt Nat.and_le_left this
    · exact this
theorem common_bit (xs : List Int) (n a b : Nat) : ∀ k, k ≤ xs.length → (commonF xs n a k).testBit b = (decide (b < n) && (xs.take k).all fun s => !s.toNat.testBit a || s.toNat.testBit b)
  | 0, _ => by
    rw [List.take_zero, List.all_nil, Bool.and_true]
    show (2 ^ n - 1).testBit b = _
    rw [Nat.testBit_two_pow_sub_one]
  | k + 1, hk => by
    have ih := common_bit xs n a b k (by omega)
    have hg : xs.getD k 0 = xs[k] := by rw [List.getD_eq_getElem?_getD, List.getElem?_eq_getElem (by omega)]; rfl
    rw [List.take_succ_eq_append_getElem (by omega), List.all_append, List.all_cons, List.all_nil, Bool.and_true]
    unfold commonF
    rw [hg]
    cases h : xs[k].toNat.testBit a with
    | true => rw [if_pos rfl, Nat.testBit_and, ih]; simp [Bool.and_assoc]
    | false => rw [if_neg (by simp), ih]; simp
theorem common_row {xs : List Int} {n a : Nat} (ha : a < n) : commonF xs n a xs.length = gridF (madeL (toldB xs) n) a := by
  apply Nat.eq_of_testBit_eq
  intro b
  rw [common_bit xs n a b _ (Nat.le_refl _), made_bit _ ha, List.take_length]
  rfl
/-- The rows when a of them are there. -/
def rowsTo (g : Nat → Nat) (a i : Nat) : Nat := if i < a then g i else 0
theorem rowsTo_lt {g : Nat → Nat} (h : ∀ i, g i < 2 ^ 256) (a i : Nat) : rowsTo g a i < 2 ^ 256 := by
  unfold rowsTo
  split
  · exact h i
  · exact Nat.two_pow_pos 256
theorem rowsTo_zero (g : Nat → Nat) : rowsTo g 0 = fun _ => 0 := by
  funext i
  unfold rowsTo
  rw [if_neg (Nat.not_lt_zero i)]
theorem made_rowsTo (B : Nat → Nat → Bool) (n : Nat) : rowsTo (gridF (madeL B n)) n = gridF (madeL B n) := by
  funext i
  unfold rowsTo
  split
  · rfl
  · exact (gridF_out _ (by rw [madeL_len]; omega)).symm
theorem made_lt (B : Nat → Nat → Bool) {n : Nat} (hn : n ≤ 200) (i : Nat) : gridF (madeL B n) i < 2 ^ 256 := by
  by_cases hi : i < n
  · apply Nat.lt_pow_two_of_testBit
    intro j hj
    rw [made_bit B hi, decide_eq_false (by omega), Bool.false_and]
  · rw [gridF_out _ (by rw [madeL_len]; omega)]
    exact Nat.two_pow_pos 256
theorem word_one {x : Nat} (h : x < 2 ^ 64) (j : Nat) : word x j = if j = 0 then x else 0 := by
  unfold word
  split
  · rename_i h0; subst h0
    rw [Nat.mul_zero, Nat.shiftRight_zero]
    exact Nat.mod_eq_of_lt h
  · rename_i h0
    rw [Nat.shiftRight_eq_div_pow, Nat.div_eq_of_lt (Nat.lt_of_lt_of_le h (Nat.pow_le_pow_right (by decide) (by omega))), Nat.zero_mod]
/-- Told by sets, it is a valid order if no two elements are in the same ones. -/
theorem told_lists {xs : List Int} {n : Nat} (h1 : 1 ≤ n) (h2 : n ≤ 200) : listsB (madeL (toldB xs) n) = true := by
  rw [listsB_all fun i hi => (ascB_iff _ _).2 (made_asc (toldB xs) n i hi), Bool.and_eq_true, decide_eq_true_iff, decide_eq_true_iff, madeL_len]
  omega
end Go.Proofs.YtjmeclddogdfhaaDoor

/- The program's rows told by sets (toldBy). -/
namespace Go.Proofs.YtjmeclddogdfhaaDoor
open Go.RowKit Go.Deep

/-- A row of one word, cell by cell. -/
theorem cells_row4 (g : Nat → Nat) (cs : Array Value) (hcs : cs = gridCells g) (i x : Nat) (hi : i < 200) (hx : x < 2 ^ 64) :
    ((((cs.setIfInBounds (i * 4) (.int .u64 ((x : Nat) : Int))).setIfInBounds (i * 4 + 1) (.int .u64 0)).setIfInBounds (i * 4 + 1 + 1) (.int .u64 0)).setIfInBounds (i * 4 + 1 + 1 + 1) (.int .u64 0)) = gridCells (fun q => if q = i then x else g q) := by
  have hs : cs.size = 800 := by rw [hcs]; exact gridCells_size g
  have hat : ∀ i' j', i' < 200 → j' < 4 → cs[4 * i' + j']? = some (.int .u64 ((word (g i') j' : Nat) : Int)) := fun i' j' h h' => by rw [hcs]; exact gridCells_at g i' j' h h'
  clear hcs
  apply gridCells_ext
  · simp only [Array.size_setIfInBounds, hs]
  · intro i' j' hi' hj'
    have hg := hat i' j' hi' hj'
    simp only [Array.getElem?_setIfInBounds, Array.size_setIfInBounds, hs, hg]
    by_cases e : i' = i
    · subst e
      rw [if_pos rfl, word_one hx]
      have : j' = 0 ∨ j' = 1 ∨ j' = 2 ∨ j' = 3 := by omega
      rcases this with rfl | rfl | rfl | rfl
      · rw [if_neg (by omega), if_neg (by omega), if_neg (by omega), if_pos (by omega), if_pos (by omega), if_pos rfl]
      · rw [if_neg (by omega), if_neg (by omega), if_pos (by omega), if_pos (by omega), if_neg (by omega)]; rfl
      · rw [if_neg (by omega), if_pos (by omega), if_pos (by omega), if_neg (by omega)]; rfl
      · rw [if_pos (by omega), if_pos (by omega), if_neg (by omega)]; rfl
    · rw [if_neg e, if_neg (by omega), if_neg (by omega), if_neg (by omega), if_neg (by omega)]
/-- A row of one word is stored whole. -/
theorem GridAt.setRow4 {W : World} {b : Nat} {g : Nat → Nat} (h : GridAt W b g) (i x : Nat) (hi : i < 200) (hx : x < 2 ^ 64) :
    GridAt (W.setCells b (i * 4) [.int .u64 ((x : Nat) : Int), .int .u64 0, .int .u64 0, .int .u64 0]) b (fun q => if q = i then x else g q) := by
  obtain ⟨cs, hcs⟩ : ∃ cs, cs = gridCells g := ⟨_, rfl⟩
  have hh := h.1
  rw [← hcs] at hh
  have key := cells_row4 g cs hcs i x hi hx
  have hlt : ∀ q, (if q = i then x else g q) < 2 ^ 256 := fun q => by
    split
    · exact Nat.lt_of_lt_of_le hx (Nat.pow_le_pow_right (by decide) (by decide))
    · exact h.2 q
  refine ⟨?_, hlt⟩
  rw [← key]
  clear key hlt hcs h
  have h1 := heap_setCell_same W b (i * 4) _ _ (.int .u64 ((x : Nat) : Int)) hh
  have h2 := heap_setCell_same _ b (i * 4 + 1) _ _ (.int .u64 0) h1
  have h3 := heap_setCell_same _ b (i * 4 + 1 + 1) _ _ (.int .u64 0) h2
  exact heap_setCell_same _ b (i * 4 + 1 + 1 + 1) _ _ (.int .u64 0) h3
theorem GridAt.there4 {W : World} {b : Nat} {g : Nat → Nat} (h : GridAt W b g) (i : Nat) (hi : i < 200) : W.there b (i * 4) 4 := fun j hj =>
  ⟨by rw [cell_of_row W b _ _ _ _ h.1, Array.getElem?_eq_getElem (by rw [gridCells_size]; omega)]; rfl, h.frozen _⟩
theorem grid_new (w : World) : GridAt ((w.alloc (.cells (gridCells fun _ => 0) 43)).alloc (.cells (gridCells fun _ => 0) 43)) w.heap.size (fun _ => 0) ∧ GridAt ((w.alloc (.cells (gridCells fun _ => 0) 43)).alloc (.cells (gridCells fun _ => 0) 43)) (w.heap.size + 1) (fun _ => 0) := by
  have z : ∀ i : Nat, (fun _ : Nat => (0 : Nat)) i < 2 ^ 256 := fun _ => Nat.two_pow_pos 256
  have s1 : (w.alloc (.cells (gridCells fun _ => 0) 43)).heap.size = w.heap.size + 1 := World.size_alloc _ _
  have h0 : GridAt (w.alloc (.cells (gridCells fun _ => 0) 43)) w.heap.size (fun _ => 0) := ⟨heap_alloc_new _ _, z⟩
  exact ⟨h0.below ((Below.refl _ _).alloc (Nat.le_refl _) _) h0.lt, by rw [← s1]; exact ⟨heap_alloc_new _ _, z⟩⟩

set_option maxRecDepth 100000 in
set_option maxHeartbeats 4000000 in
theorem toldBy_any (v : Value) (xs : List Int) (n : Nat) (w : World) (hv : IntsAt w v xs) (hn : n ≤ 9) (hx : ∀ s ∈ xs, 0 ≤ s ∧ s < ((2 ^ n : Nat) : Int)) (hlen : xs.length ≤ 1048576) :
    Calls Tryd.prog 17 #[.int .i64 (n : Int), v] w (fun e w' => e = .returned (.agg (gridCells (gridF (madeL (toldB xs) n)))) ∧ Below w.heap.size w w') := by
  have hz := (zero_of_info zeroGrid).1
  obtain ⟨hg0, hg1⟩ := grid_new w
  have b2 : Below w.heap.size w ((w.alloc (.cells (gridCells fun _ => 0) 43)).alloc (.cells (gridCells fun _ => 0) 43)) := ((Below.refl _ w).alloc (Nat.le_refl _) _).alloc (by simp) _
  obtain ⟨A, C, rfl, hC, hm, _, hy⟩ := hv
  unfold maxLen at hm
  have HY := Lib.hid hy
  have HX := Lib.hid hx
  have HG0 := Lib.hid hg0
  have HG1 := Lib.hid hg1
  have HB := Lib.hid b2
  clear hy hx hg0 hg1 b2
  go_enter Tryd.func17, Tryd.ntmps17
  go_wp2
  go_loopw [11] (fun av wr => ∃ a : Nat, a ≤ n ∧ av = .int .i64 a ∧ GridAt wr w.heap.size (fun _ => 0) ∧ GridAt wr (w.heap.size + 1) (rowsTo (gridF (madeL (toldB xs) n)) a) ∧ Below w.heap.size w wr) (fun av _ => n - (intOf av).toNat)
  case atStart => exact ⟨0, Nat.zero_le _, rfl, HG0.out, by rw [rowsTo_zero]; exact HG1.out, HB.out⟩
  case round =>
    obtain ⟨a, ha, rfl, h0, h1, hb⟩ := hrel
    have H0 := Lib.hid h0
    have H1 := Lib.hid h1
    have HBB := Lib.hid hb
    clear h0 h1 hb HG0 HG1 HB
    by_cases hal : a < n
    · have halz : (a : Int) < (n : Int) := by omega
      have hm64 : n % 64 = n := Nat.mod_eq_of_lt (by omega)
      obtain ⟨M, hM⟩ : ∃ M : Nat, M = 2 ^ n := ⟨_, rfl⟩
      have hMb : 1 ≤ M ∧ M ≤ 512 := by
        have h1 := Nat.pow_le_pow_right (show 0 < 2 by decide) hn
        have h2 := Nat.two_pow_pos n
        rw [hM]
        exact ⟨h2, h1⟩
      have hp1 : wrap64 ((2 : Int) ^ n) = (M : Int) := by
        rw [show ((2 : Int) ^ n) = (M : Int) by rw [hM]; simp]
        exact IntWalk.wrap64_in _ (by omega)
      obtain ⟨c0, hc0⟩ : ∃ c0 : Nat, c0 = M - 1 := ⟨_, rfl⟩
      have hp2 : wrap64 ((M : Int) - 1) = (c0 : Int) := by
        rw [show ((M : Int) - 1) = (c0 : Int) by omega]
        exact IntWalk.wrap64_in _ (by omega)
      have HC0 := Lib.hid (show c0 = commonF xs n a 0 by rw [hc0, hM]; rfl)
      clear hMb hM hc0
      go_wp2
      go_loopw [7, 19] (fun cv kv wx => ∃ k : Nat, k ≤ xs.length ∧ kv = .int .i64 k ∧ cv = .int .i64 ((commonF xs n a k : Nat) : Int) ∧ wx = wr) (fun _ kv _ => xs.length - (intOf kv).toNat)
      case atStart => exact ⟨0, Nat.zero_le _, rfl, by rw [hp2, HC0.out], rfl⟩
      case round =>
        obtain ⟨k, hk, rfl, rfl, rfl⟩ := hrel
        by_cases hkl : k < xs.length
        · have hkz : (k : Int) < (xs.length : Int) := by omega
          obtain ⟨b, o, rfl, hc⟩ := HY.out k hkl
          replace hc := (HBB.out.cell (p := ⟨b, o + k, none⟩) (cell_lt hc)).trans hc
          obtain ⟨s, hs⟩ : ∃ s : Nat, xs[k] = (s : Int) := ⟨xs[k].toNat, by have := HX.out _ (List.getElem_mem hkl); omega⟩
          have hsl : s < 2 ^ 9 := by
            have h1 := (HX.out _ (List.getElem_mem hkl)).2
            have h2 := Nat.pow_le_pow_right (show 0 < 2 by decide) hn
            rw [hs] at h1
            omega
          rw [hs] at hc
          have ht := bit_test (s := s) a (small_lt hsl (by decide))
          have hm : a % 64 = a := Nat.mod_eq_of_lt (by omega)
          have HD := Lib.hid (show xs.getD k 0 = (s : Int) by rw [List.getD_eq_getElem?_getD, List.getElem?_eq_getElem hkl]; exact hs)
          cases hq : s.testBit a with
          | true =>
            rw [hq] at ht
            have hand := bits_and (a := commonF xs n a k) (b := s) (small_lt (commonF_lt xs n a k) (by omega)) (small_lt hsl (by decide))
            have HE := Lib.hid (show commonF xs n a (k + 1) = commonF xs n a k &&& s by rw [commonF, HD.out, Int.toNat_natCast, if_pos hq])
            clear hq hs
            go_wp2
            go_roundw
            case rel => exact ⟨k + 1, by omega, by go_num, by rw [HE.out], by first | trivial | rfl⟩
            case measure => simp [intOf]; omega
          | false =>
            rw [hq] at ht
            have HE := Lib.hid (show commonF xs n a (k + 1) = commonF xs n a k by rw [commonF, HD.out, Int.toNat_natCast, if_neg (by rw [hq]; simp)])
            clear hq hs
            go_wp2
            go_roundw
            case rel => exact ⟨k + 1, by omega, by go_num, by rw [HE.out], by first | trivial | rfl⟩
            case measure => simp [intOf]; omega
        · obtain rfl : k = xs.length := by omega
          have hkz : ¬ ((xs.length : Int) < (xs.length : Int)) := by omega
          have hcl := commonF_lt xs n a xs.length
          have HROW := Lib.hid (common_row (xs := xs) hal)
          generalize commonF xs n a xs.length = c at HROW hcl ⊢
          have hc64 : c < 2 ^ 64 := Nat.lt_of_lt_of_le hcl (Nat.pow_le_pow_right (by decide) (by omega))
          have hcv : IntKind.u64.wrap (c : Int) = (c : Int) := by
            rw [IntKind.wrap_u64]
            omega
          have hh1 := H1.out
          have H4 := Lib.hid (hh1.there4 a (by omega))
          have HS := Lib.hid (hh1.setRow4 a c (by omega) hc64)
          have HO := Lib.hid (show GridAt (wr.setCells (w.heap.size + 1) (a * 4) [.int .u64 ((c : Nat) : Int), .int .u64 0, .int .u64 0, .int .u64 0]) w.heap.size (fun _ => 0) from
            (((H0.out.setOther (a := ⟨w.heap.size + 1, _, none⟩) (by show w.heap.size ≠ w.heap.size + 1; omega) _).setOther (a := ⟨w.heap.size + 1, _, none⟩) (by show w.heap.size ≠ w.heap.size + 1; omega) _).setOther (a := ⟨w.heap.size + 1, _, none⟩) (by show w.heap.size ≠ w.heap.size + 1; omega) _).setOther (a := ⟨w.heap.size + 1, _, none⟩) (by show w.heap.size ≠ w.heap.size + 1; omega) _)
          have HBS := Lib.hid (below_cells (Nat.le_succ w.heap.size) [.int .u64 ((c : Nat) : Int), .int .u64 0, .int .u64 0, .int .u64 0] (a * 4) wr HBB.out)
          clear hh1 hcl hc64 hp1 hp2
          go_wp2_with (refine wpList_store_mid rfl 41 (.tmp 36) (.tmp 35) rfl (w.heap.size + 1) (a * 4) #[.int .u64 ((c : Nat) : Int), .int .u64 0, .int .u64 0, .int .u64 0] rfl rfl H4.out sizeRow (by simp [Value.oneCell']) ?_)
          go_roundw
          case rel =>
            refine ⟨a + 1, by omega, by go_num, HO.out, ?_, HBS.out⟩
            have e : rowsTo (gridF (madeL (toldB xs) n)) (a + 1) = fun q => if q = a then c else rowsTo (gridF (madeL (toldB xs) n)) a q := by
              funext q
              unfold rowsTo
              by_cases e : q = a
              · subst e; rw [if_pos rfl, if_pos (Nat.lt_succ_self q), HROW.out]
              · rw [if_neg e]
                by_cases e2 : q < a
                · rw [if_pos e2, if_pos (by omega)]
                · rw [if_neg e2, if_neg (by omega)]
            rw [e]
            exact HS.out
          case measure => simp [intOf]; omega
    · obtain rfl : a = n := by omega
      have halz : ¬ ((a : Int) < (a : Int)) := by omega
      have hh1 := H1.out
      rw [made_rowsTo] at hh1
      have hug := Tryd.underlying43
      have HST := Lib.hid (H0.out.setRow (made_lt (toldB xs) (n := a) (by omega)))
      have hl2 := loadVarGrid HST.out
      have hg1 := hh1.1
      clear hh1
      go_wp2_with (first | (refine wpList_load_row rfl 43 (.tmp 5) rfl (w.heap.size + 1) rfl 43 (gridCells (gridF (madeL (toldB xs) a))) (0, 0) _ hg1 hug rfl (by rw [gridCells_size]; exact sizeGrid) ?_) | (refine wpList_store_row rfl 43 (.tmp 4) (.tmp 38) rfl w.heap.size (gridCells (gridF (madeL (toldB xs) a))) rfl rfl 43 (gridCells fun _ => 0) H0.out.1 (by rw [gridCells_size]; exact sizeGrid) (by rw [gridCells_size, gridCells_size]) (gridCells_one _) ?_))
      refine bodyPost_ret (v := .agg (gridCells (gridF (madeL (toldB xs) a)))) (by simp [results, Tryd.results17, asAddr, hl2]) rfl ?_
      exact ⟨rfl, below_setRow' HBB.out (Nat.le_refl _) _⟩
end Go.Proofs.YtjmeclddogdfhaaDoor

/- The model's l4Ascends. -/
namespace Go.Proofs.YtjmeclddogdfhaaDoor
open Go.RowKit Go.Deep

set_option maxHeartbeats 2000000 in
theorem l4Ascends_any (v : Value) (xs : List Int) (N : Nat) (most : Int) (w : World) (hv : IntsAt w v xs) (hlen : xs.length ≤ 1048576) (hM : most = (N : Int) - 1) :
    Calls Tryd.prog 13 #[v, .int .i64 most] w (SaysN (ascB N xs) w) := by
  obtain ⟨A1, C1, rfl, hC1, hm1, _, hy⟩ := hv
  unfold maxLen at hm1
  have HY := Lib.hid hy
  have HM := Lib.hid hM
  clear hy hM
  go_enter Tryd.func13, Tryd.ntmps13
  go_wp2
  go_loopw [5] (fun kv wr => ∃ k m : Nat, k ≤ xs.length ∧ kv = .int .i64 k ∧ AscPre N xs k ∧ wr = w.drewN m) (fun kv _ => xs.length - (intOf kv).toNat)
  case atStart => exact ⟨0, 0, Nat.zero_le _, rfl, AscPre.zero _ _, rfl⟩
  case round =>
    obtain ⟨k, m, hk, rfl, hpre, hw⟩ := hrel
    have HP' := Lib.hid hpre
    have HW' := Lib.hid hw
    clear hpre hw
    by_cases hkl : k < xs.length
    · obtain ⟨b1, o1, rfl, hc1⟩ := HY.out k hkl
      replace hc1 : wr.cell? ⟨b1, o1 + k, none⟩ = some (.int .i64 xs[k]) := by rw [HW'.out]; exact hc1
      by_cases hin : 0 ≤ xs[k] ∧ xs[k] ≤ most
      · have HIN := Lib.hid (show 0 ≤ xs[k] ∧ xs[k] ≤ (N : Int) - 1 by have := HM.out; omega)
        have hcall : ∀ j, Calls Tryd.prog 12 #[.int .i64 xs[k], .int .i64 0, .int .i64 most] (wr.drewN j) fun e w'' => e = .returned (.bool true) ∧ ∃ j', w'' = wr.drewN j' := fun j =>
          Calls.quiet_of_same (l6In_yes _ _ _ _ hin.1 hin.2)
        clear hin
        by_cases hk0 : 0 < k
        · obtain ⟨b1', o1', e1, hc2⟩ := HY.out (k - 1) (by omega)
          cases e1
          replace hc2 : wr.cell? ⟨b1, o1 + (k - 1), none⟩ = some (.int .i64 (xs[k - 1]'(by omega))) := by rw [HW'.out]; exact hc2
          have hs2 := i64_sub1 k (by omega)
          have hs3 : ((k : Int) - 1).toNat = k - 1 := by omega
          have hk0' : decide ((0 : Int) < (k : Int)) = true := decide_eq_true (by omega)
          have hs4 : (0 : Int) ≤ (k : Int) - 1 := by omega
          by_cases hle : xs[k] ≤ xs[k - 1]'(by omega)
          · have hle' : decide (xs[k] ≤ xs[k - 1]'(by omega)) = true := decide_eq_true hle
            have HE := Lib.hid (ascB_no_step (n := N) hkl hk0 hle)
            clear hle
            go_wp2
            go_quiet ((go_at_call 12; exact hcall _))
            go_wp2
            go_ret
            exact ⟨by rw [HE.out]; rfl, by rw [HW'.out]; exact (below_drewN' _ _ _).trans (below_drewN' _ _ _)⟩
          · have hle' : decide (xs[k] ≤ xs[k - 1]'(by omega)) = false := decide_eq_false hle
            have HL := Lib.hid hle
            clear hle
            go_wp2
            go_quiet ((go_at_call 12; exact hcall _))
            go_wp2
            go_roundw
            case rel => exact ⟨k + 1, _, by omega, by go_num, HP'.out.succ hkl HIN.out.1 HIN.out.2 (fun _ => by have := HL.out; omega), by rw [HW'.out, World.drewN_drewN]⟩
            case measure => simp [intOf]; omega
        · have hk0' : decide (0 < k) = false := decide_eq_false (by omega)
          have HK := Lib.hid hk0
          clear hk0
          go_wp2
          go_quiet ((go_at_call 12; exact hcall _))
          go_wp2
          go_roundw
          case rel => exact ⟨k + 1, _, by omega, by go_num, HP'.out.succ hkl HIN.out.1 HIN.out.2 (fun h => absurd h HK.out), by rw [HW'.out, World.drewN_drewN]⟩
          case measure => simp [intOf]; omega
      · have hcall : ∀ j, Calls Tryd.prog 12 #[.int .i64 xs[k], .int .i64 0, .int .i64 most] (wr.drewN j) fun e w'' => e = .returned (.bool false) ∧ ∃ j', w'' = wr.drewN j' := fun j =>
          Calls.quiet_of_same (l6In_no _ _ _ _ hin)
        have HE := Lib.hid (ascB_no_range (n := N) hkl (fun h => hin ⟨h.1, by have := HM.out; omega⟩))
        clear hin
        go_wp2
        go_quiet ((go_at_call 12; exact hcall _))
        go_wp2
        go_ret
        exact ⟨by rw [HE.out]; rfl, by rw [HW'.out]; exact (below_drewN' _ _ _).trans (below_drewN' _ _ _)⟩
    · obtain rfl : k = xs.length := by omega
      have HE := Lib.hid HP'.out.done
      go_wp2
      go_ret
      exact ⟨by rw [HE.out]; rfl, by rw [HW'.out]; exact below_drewN' _ _ _⟩
end Go.Proofs.YtjmeclddogdfhaaDoor

/- The model's OpenOrder. -/
namespace Go.Proofs.YtjmeclddogdfhaaDoor
open Go.RowKit Go.Deep Go.Shelf

theorem bit_test0 {s : Nat} (k : Nat) (hs : s < 2 ^ 62) : (bits .and .i64 ((s : Int) / 2 ^ k) 1 == 0) = !s.testBit k := by
  have h1 : ((s : Int) / 2 ^ k) = ((s / 2 ^ k : Nat) : Int) := by simp
  have h2 : s / 2 ^ k < 2 ^ 62 := Nat.lt_of_le_of_lt (Nat.div_le_self _ _) hs
  have h3 : (1 : Int) = ((1 : Nat) : Int) := rfl
  have h4 : s.testBit k = (s / 2 ^ k % 2 == 1) := by
    rw [Nat.testBit_eq_decide_div_mod_eq]
    rfl
  rw [h4, h1, h3, bits_and h2 (by decide), nat_mask1, Bool.eq_iff_iff]
  simp only [beq_iff_eq, Bool.not_eq_true', beq_eq_false_iff_ne]
  omega
theorem infoBoolT : (Tryd.prog.info? 4).map (fun i => (i.zero, i.size, i.bytes)) = some (some (.bool false), 1, 1) := by kernel_rfl
theorem told_no {t : Bool} {xs : Rows2} {w W : World} {b : Nat} (hx : xs = []) (ht : t = false) (hb : Below w.heap.size w W) (he : b = w.heap.size) (u : Value) : OrderP xs t w (.returned (.tuple #[.agg #[.slice none 0 0], .bool false])) (W.setCell ⟨b, 0, none⟩ u) := by
  subst hx ht he
  exact ⟨_, rfl, OwnR.nil _ _ _ _ _ _, hb.setCell (p := ⟨w.heap.size, 0, none⟩) (Nat.le_refl _) _⟩
theorem told_no' {t : Bool} {xs : Rows2} {w W : World} (hx : xs = []) (ht : t = false) (hb : Below w.heap.size w W) : OrderP xs t w (.returned (.tuple #[.agg #[.slice none 0 0], .bool false])) W := by
  subst hx ht
  exact ⟨_, rfl, OwnR.nil _ _ _ _ _ _, hb⟩
theorem told_yes {B : Nat → Nat → Bool} {N : Nat} {t : Bool} {xs : Rows2} {w W : World} {b : Nat} {u : Value} (hx : xs = madeL B N) (ht : t = true) (ho : OwnR 3 22 W u N (fun q => bRow B q N) (w.heap.size + 1) W.heap.size) (hb : Below w.heap.size w W) (he : b = w.heap.size) :
    OrderP xs t w (.returned (.tuple #[.agg #[u], .bool true])) (W.setCell ⟨b, 0, none⟩ u) := by
  subst hx ht he
  refine ⟨_, rfl, ?_, hb.setCell (p := ⟨w.heap.size, 0, none⟩) (Nat.le_refl _) _⟩
  rw [madeL_len, size_setCell]
  refine ((ho.kept fun b hb _ => Below.heap_setCell _ _ _ b (show b ≠ w.heap.size by omega)).wider (Nat.le_succ _) (Nat.le_refl _)).congr fun q hq => ?_
  rw [rowsF_lt (by rw [madeL_len]; exact hq), madeL_at]
theorem made_rows {B : Nat → Nat → Bool} {N : Nat} {W : World} {u : Value} {lo hi : Nat} (ho : OwnR 3 22 W u N (fun q => bRow B q N) lo hi) : RowsAt W u (madeL B N) := by
  refine OwnR.at (t := 3) (u := 22) (lo := lo) (hi := hi) ?_
  rw [madeL_len]
  exact ho.congr fun q hq => by rw [rowsF_lt (by rw [madeL_len]; exact hq), madeL_at]

theorem told_ok_no {z : Int} {xs : List Int} (h : ¬ (1 ≤ z ∧ z ≤ 9)) : toldOk z xs = false := by
  unfold toldOk
  rw [decide_eq_false h, Bool.false_and]
theorem told_ok_asc {n : Nat} {xs : List Int} (h : ascB (2 ^ n) xs = false) : toldOk (n : Int) xs = false := by
  unfold toldOk
  rw [Int.toNat_natCast, h, Bool.false_and, Bool.and_false]
theorem told_ok {n : Nat} {xs : List Int} (h : 1 ≤ n ∧ n ≤ 9) (ha : ascB (2 ^ n) xs = true) : toldOk (n : Int) xs = validB (madeL (toldB xs) n) := by
  unfold toldOk
  rw [Int.toNat_natCast, ha, decide_eq_true (by omega), Bool.true_and, Bool.true_and]
theorem toldL_no {z : Int} {xs : List Int} (h : toldOk z xs = false) : toldL z xs = [] := by
  unfold toldL
  rw [if_neg (by rw [h]; simp)]
theorem toldL_yes {n : Nat} {xs : List Int} (h : toldOk (n : Int) xs = true) : toldL (n : Int) xs = madeL (toldB xs) n := by
  unfold toldL
  rw [if_pos h, Int.toNat_natCast]

set_option maxRecDepth 100000 in
set_option maxHeartbeats 4000000 in
theorem specOpenOrder_any (v : Value) (xs : List Int) (z : Int) (w : World) (hv : IntsAt w v xs) (hlen : xs.length ≤ 1048576) :
    Calls Tryd.prog 4 #[.int .i64 z, v] w (OrderP (toldL z xs) (toldOk z xs) w) := by
  have b2 := (Below.refl w.heap.size w).alloc (Nat.le_refl _) (.cells #[.slice none 0 0] 25)
  have hbR := Boxed.new w 25 (.slice none 0 0)
  have s2 : (w.alloc (.cells #[.slice none 0 0] 25)).heap.size = w.heap.size + 1 := World.size_alloc _ _
  have hv0 := hv.below b2
  by_cases hz : 1 ≤ z ∧ z ≤ 9
  · obtain ⟨n, rfl⟩ : ∃ n : Nat, z = (n : Int) := ⟨z.toNat, by omega⟩
    have hn : 1 ≤ n ∧ n ≤ 9 := by omega
    have hin := fun W => l6In_yes (n : Int) 1 9 W hz.1 hz.2
    have hpow : ((2 ^ n : Nat) : Int) = 2 ^ n := by simp
    have hm64 : n % 64 = n := Nat.mod_eq_of_lt (by omega)
    obtain ⟨M, hM⟩ : ∃ M : Nat, M = 2 ^ n := ⟨_, rfl⟩
    have hMb : 1 ≤ M ∧ M ≤ 512 := by
      have h1 := Nat.pow_le_pow_right (show 0 < 2 by decide) hn.2
      have h2 := Nat.two_pow_pos n
      rw [hM]
      exact ⟨h2, h1⟩
    have hp1 : wrap64 ((2 : Int) ^ n) = (M : Int) := by
      rw [show ((2 : Int) ^ n) = (M : Int) by rw [hM]; simp]
      exact IntWalk.wrap64_in _ (by omega)
    obtain ⟨c0, hc0⟩ : ∃ c0 : Nat, c0 = M - 1 := ⟨_, rfl⟩
    have hp2 : wrap64 ((M : Int) - 1) = (c0 : Int) := by
      rw [show ((M : Int) - 1) = (c0 : Int) by omega]
      exact IntWalk.wrap64_in _ (by omega)
    have hcall := l4Ascends_any v xs (2 ^ n) (c0 : Int) _ hv0 hlen (by rw [← hM]; omega)
    have HMB := Lib.hid (show M ≤ 2 ^ 9 by omega)
    have HM := Lib.hid hM
    clear hMb hM hc0 hpow
    cases hasc : ascB (2 ^ n) xs with
    | false =>
      have hE := told_ok_asc hasc
      have HE := Lib.hid hE
      have HL := Lib.hid (toldL_no hE)
      rw [hasc] at hcall
      have HCALL := Lib.hid hcall
      have HB := Lib.hid b2
      have HR := Lib.hid hbR
      obtain ⟨A, C, rfl, _⟩ := hv
      clear hE hcall b2 hbR hv0 hasc
      go_enter Tryd.func4, Tryd.ntmps4
      go_upto_region 2 with (first | (go_at_call 12; refine (hin _).mono ?_; clear hin; rintro e w1 ⟨rfl, rfl⟩) | (go_at_call 13; refine HCALL.out.mono ?_; clear HCALL; rintro e w2 ⟨rfl, hb2⟩; have HB2 := Lib.hid (HB.out.trans (hb2.mono HB.out.size)); have hbx : Boxed w2 w.heap.size 25 (.slice none 0 0) := (hb2.block _ HR.out.lt).trans HR.out; have hres := hbx.cell; have hfr := hbx.frozen; clear hb2 hbx))
      have hc9 := World.cell?_setCell_same' w2 ⟨w.heap.size, 0, none⟩ (.slice none 0 0) (by rw [hres]; rfl)
      go_wp2
      refine bodyPost_ret (v := .tuple #[.agg #[.slice none 0 0], .bool false]) (by simp [results, Tryd.results4, go_sem, hc9]) rfl ?_
      exact told_no HL.out HE.out HB2.out rfl _
    | true =>
      have hv2 := (ascB_iff _ _).1 hasc
      have HX := Lib.hid hv2.2
      have HOK := Lib.hid (told_ok hn hasc)
      rw [hasc] at hcall
      have HCALL := Lib.hid hcall
      have HB := Lib.hid b2
      have BR := Lib.hid hbR
      have S2 := Lib.hid s2
      have HV := Lib.hid hv0
      obtain ⟨i0, hi0, hz0, hz1, hz2⟩ := info_parts infoInt
      obtain ⟨j0, hj0, hy0, hy1, hy2⟩ := info_parts infoInts
      have hmk := run_make_row' (P := Tryd.prog) 36 4 (.bool false) 1 Tryd.underlying36 infoBoolT rfl .i64 .i64 n (by omega) (by omega)
      obtain ⟨A, C, rfl, hCC, hmm, _⟩ := hv
      unfold maxLen at hmm
      clear hcall b2 hbR hv0 hasc hv2 s2
      go_enter Tryd.func4, Tryd.ntmps4
      go_upto_region 4 with (first | (go_at_call 12; refine (hin _).mono ?_; clear hin; rintro e w1 ⟨rfl, rfl⟩) | (go_at_call 13; refine HCALL.out.mono ?_; clear HCALL; rintro e w2 ⟨rfl, hb2⟩; have HB2 := Lib.hid (HB.out.trans (hb2.mono HB.out.size)); have HV2 := Lib.hid (HV.out.below hb2); have BR2 : Hid (Boxed w2 w.heap.size 25 (.slice none 0 0)) := Lib.hid ((hb2.block _ BR.out.lt).trans BR.out); clear hb2))
      have hN0 := Out.empty w2 (fun a => bRow (toldB xs) a n)
      generalize ((w2.alloc (.cells #[] 22)).alloc (.cells #[.slice (some ⟨w2.heap.size, 0, none⟩) 0 0] 25)) = wq at hN0 ⊢
      have HZZ := Lib.hid (show w2.heap.size ≤ w2.heap.size + 1 from Nat.le_succ _)
      generalize w2.heap.size + 1 = Z at hN0 HZZ ⊢
      have HST := Lib.hid hN0
      clear hN0
      go_wp2
      go_loopw [7] (fun av wx => ∃ (a : Nat) (u : Value), a ≤ n ∧ av = .int .i64 a ∧ Out w2 Z u a (fun a => bRow (toldB xs) a n) wx) (fun av _ => n - (intOf av).toNat)
      case atStart => exact ⟨0, _, Nat.zero_le _, rfl, HST.out⟩
      case round =>
        obtain ⟨wo, hwo⟩ : ∃ wo : World, wo = wr := ⟨_, rfl⟩
        subst hwo
        obtain ⟨a, u, ha, rfl, ho⟩ := hrel
        have HK := Lib.hid ho
        obtain ⟨au, Cu, rfl⟩ := ho.own.form
        clear HST
        by_cases hlt : a < n
        · have hltz : (a : Int) < (n : Int) := by omega
          have HRW := Lib.hid (World.rowIs_made wo (.bool false) n 4)
          have HBB := Lib.hid ((Below.refl wo.heap.size wo).alloc (Nat.le_refl _) (.cells (madeCells #[.bool false] n) 4))
          clear ho
          go_upto_region 8 with fail
          generalize wo.alloc (.cells (madeCells #[.bool false] n) 4) = wa at HRW HBB ⊢
          go_wp2
          go_loopw [9] (fun bv wx => ∃ b : Nat, b ≤ n ∧ bv = .int .i64 b ∧ wx.rowIs wo.heap.size 4 n (fun i => .bool (decide (i < b) && toldB xs a i)) ∧ Below wo.heap.size wo wx) (fun bv _ => n - (intOf bv).toNat)
          case atStart => exact ⟨0, Nat.zero_le _, rfl, HRW.out.congr (fun i _ => by rw [decide_eq_false (Nat.not_lt_zero i), Bool.false_and]), HBB.out⟩
          case round =>
            obtain ⟨b, hb, rfl, hr, hB⟩ := hrel
            have HR := Lib.hid hr
            have HB := Lib.hid hB
            clear HRW HBB hB
            by_cases hbl : b < n
            · have hbz : (b : Int) < (n : Int) := by omega
              have hc := hr.cell hbl
              have hfz := hr.frozen b
              rw [decide_eq_false (Nat.lt_irrefl b), Bool.false_and] at hc
              have HR1 := Lib.hid ((hr.set b (.bool true)).congr (g := fun i => .bool (if i = b then toldN xs a b 0 else (decide (i < b) && toldB xs a i))) (fun i hi => by
                by_cases e : i = b
                · subst e; rw [if_pos rfl, toldN_zero]; simp
                · rw [if_neg e]; simp [e]))
              have HB1 := Lib.hid (HB.out.setCell (p := ⟨wo.heap.size, b, none⟩) (Nat.le_refl _) (.bool true))
              clear hr
              go_wp2
              generalize (wr.setCell ⟨wo.heap.size, b, none⟩ (.bool true)) = ws at HR1 HB1 ⊢
              go_loopw [10] (fun iv wx => ∃ i : Nat, i ≤ xs.length ∧ iv = .int .i64 i ∧ wx.rowIs wo.heap.size 4 n (fun q => .bool (if q = b then toldN xs a b i else (decide (q < b) && toldB xs a q))) ∧ Below wo.heap.size wo wx) (fun iv _ => xs.length - (intOf iv).toNat)
              case atStart => exact ⟨0, Nat.zero_le _, rfl, HR1.out, HB1.out⟩
              case round =>
                obtain ⟨i, hi, rfl, hr, hB⟩ := hrel
                have HRI := Lib.hid hr
                have HBI := Lib.hid hB
                clear HR1 HB1 hB HR HB hc hfz
                by_cases hil : i < xs.length
                · have hiz : (i : Int) < (xs.length : Int) := by omega
                  obtain ⟨_, _, e0, _, _, _, hy⟩ := HV2.out.below (HK.out.below.trans (HBI.out.mono HK.out.below.size))
                  cases e0
                  obtain ⟨b0, o0, rfl, hxc⟩ := hy i hil
                  obtain ⟨s, hs⟩ : ∃ s : Nat, xs[i] = (s : Int) := ⟨xs[i].toNat, by have := HX.out _ (List.getElem_mem hil); omega⟩
                  have hsl : s < 2 ^ 9 := by
                    have h1 := (HX.out _ (List.getElem_mem hil)).2
                    have h2 := HMB.out
                    have h3 := HM.out
                    rw [hs, ← h3] at h1
                    omega
                  rw [hs] at hxc
                  have hta := bit_test (s := s) a (small_lt hsl (by decide))
                  have htb := bit_test0 (s := s) b (small_lt hsl (by decide))
                  have hma : a % 64 = a := Nat.mod_eq_of_lt (by omega)
                  have hmb : b % 64 = b := Nat.mod_eq_of_lt (by omega)
                  have HS := Lib.hid (toldN_succ a b hil)
                  rw [hs, Int.toNat_natCast] at HS
                  clear hy hs
                  cases hqa : s.testBit a with
                  | false =>
                    rw [hqa] at hta HS
                    clear hqa hr htb
                    have HE := Lib.hid (show toldN xs a b (i + 1) = toldN xs a b i by rw [HS.out]; simp)
                    clear HS
                    go_wp2
                    go_roundw
                    case rel => exact ⟨i + 1, by omega, by go_num, by rw [HE.out]; exact HRI.out, HBI.out⟩
                    case measure => simp [intOf]; omega
                  | true =>
                    cases hqb : s.testBit b with
                    | true =>
                      rw [hqa] at hta HS
                      rw [hqb] at htb HS
                      clear hqa hqb hr
                      have HE := Lib.hid (show toldN xs a b (i + 1) = toldN xs a b i by rw [HS.out]; simp)
                      clear HS
                      go_wp2
                      go_roundw
                      case rel => exact ⟨i + 1, by omega, by go_num, by rw [HE.out]; exact HRI.out, HBI.out⟩
                      case measure => simp [intOf]; omega
                    | false =>
                      rw [hqa] at hta HS
                      rw [hqb] at htb HS
                      have hc := hr.cell hbl
                      have hfz := hr.frozen b
                      rw [if_pos rfl] at hc
                      clear hqa hqb hr
                      have HE := Lib.hid (show toldN xs a b (i + 1) = false by rw [HS.out]; simp)
                      clear HS
                      go_wp2
                      go_roundw
                      case rel =>
                        refine ⟨i + 1, by omega, by go_num, (HRI.out.set b (.bool false)).congr (fun q hq => ?_), HBI.out.setCell (p := ⟨wo.heap.size, b, none⟩) (Nat.le_refl _) _⟩
                        by_cases e : q = b
                        · subst e; rw [if_pos rfl, HE.out]; simp
                        · simp [e]
                      case measure => simp [intOf]; omega
                · obtain rfl : i = xs.length := by omega
                  have hiz : ¬ ((xs.length : Int) < (xs.length : Int)) := by omega
                  clear hr
                  go_wp2
                  go_roundw
                  case rel =>
                    refine ⟨b + 1, by omega, by go_num, HRI.out.congr (fun q hq => ?_), HBI.out⟩
                    rw [toldN_done]
                    by_cases e : q = b
                    · subst e; rw [if_pos rfl, decide_eq_true (Nat.lt_succ_self q), Bool.true_and]
                    · rw [if_neg e]
                      have e3 : decide (q < b + 1) = decide (q < b) := by rw [Bool.eq_iff_iff, decide_eq_true_iff, decide_eq_true_iff]; omega
                      rw [e3]
                  case measure => simp [intOf]; omega
            · obtain rfl : b = n := by omega
              have hbz : ¬ ((b : Int) < (b : Int)) := by omega
              have HOX := Lib.hid (HK.out.step HB.out)
              have hout := HOX.out.out.cell
              have hZ2 := HOX.out.out.lt
              have hb0 := HOX.out.below.size
              have HRO := Lib.hid (l2Row_any wo.heap.size b b (toldB xs a) wr.drew (by omega) (fun i hi => by have := HR.out.cell hi; rw [decide_eq_true hi, Bool.true_and] at this; exact this))
              obtain ⟨f, hf0, hf1, hf2⟩ := HOX.out.own.owns
              have HF0 := Lib.hid hf0
              have HF1 := Lib.hid hf1
              have HF2 := Lib.hid hf2
              clear hf0 hf1 hf2 hr
              go_upto_region 17 with fail
              go_region_law (first | (go_simp; go_at_call 14; refine HRO.out.mono ?_; clear HRO; rintro e w3 ⟨v', rfl, hv', hb2⟩; obtain ⟨a2, C2, rfl⟩ := hv'.form; have HV3 := Lib.hid hv'; have HB3 := Lib.hid ((below_drew wr _).trans hb2); have HK2 := Lib.hid (HOX.out.step HB3.out); have HW0 := Lib.hid (owns_below HF0.out HB3.out); have hout2 := HK2.out.out.cell; have hout3 := cell_alloc_any hout2; have hz22 : wr.heap.size ≤ w3.heap.size := hb2.size; clear hv' hb2) | (refine step_append_lies _ (by rfl) _ _ 23 (by rfl) w2.heap.size 22 j0 (.slice none 0 0) 1 24 Tryd.underlying23 hj0 hy0 hy1 hy2 rfl (by decide) (.slice au a Cu) a ((List.range a).map f) (by rfl) (HW0.out.alloc _) ⟨w3.heap.size, 0, none⟩ 1 1 [.slice a2 (keptN (toldB xs a) b).length C2] (by rfl) rfl (World.news_of_block (heap_alloc_new w3 _)) (by simp [Value.oneCell']) (by omega) (by unfold maxLen; omega) (by omega) (by simp; omega) (w3.heap.size + 1) (by simp) ?_; intro g' cap' w4 hown hgrow hat hlt'; have hfar := HK2.out.far HW0.out hgrow; have hc3 := hfar.cell; have hf3 := hfar.frozen; clear hfar))
              all_goals
                go_wp2
                go_roundw
                case rel =>
                  refine ⟨a + 1, _, by omega, by go_num, (HOX.out.pushed HF0.out HF1.out HF2.out HB3.out HV3.out hown ⟨hgrow.os, hgrow.tape, hgrow.output, hgrow.size, hgrow.block⟩).congr fun j hj => ?_⟩
                  by_cases e : j = a
                  · subst e; rw [if_pos rfl]; rfl
                  · rw [if_neg e]
                case measure => simp [intOf]; omega
        · obtain rfl : a = n := by omega
          have hltz : ¬ ((a : Int) < (a : Int)) := by omega
          have hbx : Boxed wo w.heap.size 25 (.slice none 0 0) := (ho.below.block _ BR2.out.lt).trans BR2.out
          have hres := hbx.cell
          have hfr := hbx.frozen
          have hout := ho.out.cell
          have HBX := Lib.hid hbx
          have hcall := specValid_any (.slice au a Cu) (madeL (toldB xs) a) wo (made_rows ho.own) (made_small (by omega))
          have HWB := Lib.hid (HB2.out.trans (ho.below.mono HB2.out.size))
          clear ho hbx
          cases hval : validB (madeL (toldB xs) a) with
          | false =>
            have hE := HOK.out
            rw [hval] at hE hcall
            have HE := Lib.hid hE
            have HL := Lib.hid (toldL_no hE)
            have HCALL := Lib.hid hcall
            clear hE hcall hval
            go_wp2_with (go_at_call 15; refine HCALL.out.mono ?_; clear HCALL; rintro e w3 ⟨rfl, hb3⟩; have hbx : Boxed w3 w.heap.size 25 (.slice none 0 0) := (hb3.block _ HBX.out.lt).trans HBX.out; have hres := hbx.cell; have hfr := hbx.frozen; have hc9 := World.cell?_setCell_same' w3 ⟨w.heap.size, 0, none⟩ (.slice none 0 0) (by rw [hres]; rfl); have HB3 := Lib.hid (HWB.out.trans (hb3.mono HWB.out.size)); clear hb3 hbx)
            refine bodyPost_ret (v := .tuple #[.agg #[.slice none 0 0], .bool false]) (by simp [results, Tryd.results4, go_sem, hc9]) rfl ?_
            exact told_no HL.out HE.out HB3.out rfl _
          | true =>
            have hE := HOK.out
            rw [hval] at hE hcall
            have HE := Lib.hid hE
            have HL := Lib.hid (toldL_yes hE)
            have HCALL := Lib.hid hcall
            clear hE hcall hval
            go_wp2_with (go_at_call 15; refine HCALL.out.mono ?_; clear HCALL; rintro e w3 ⟨rfl, hb3⟩; have hbx : Boxed w3 w.heap.size 25 (.slice none 0 0) := (hb3.block _ HBX.out.lt).trans HBX.out; have hres := hbx.cell; have hfr := hbx.frozen; have hc9 := World.cell?_setCell_same' w3 ⟨w.heap.size, 0, none⟩ (.slice au a Cu) (by rw [hres]; rfl); have HB3 := Lib.hid (HWB.out.trans (hb3.mono HWB.out.size)); have HK3 := Lib.hid (HK.out.step hb3); have hout := HK3.out.out.cell; clear hb3 hbx)
            refine bodyPost_ret (v := .tuple #[.agg #[.slice au a Cu], .bool true]) (by simp [results, Tryd.results4, go_sem, hc9]) rfl ?_
            exact told_yes HL.out HE.out (HK3.out.own.wider (by have := BR2.out.lt; omega) (Nat.le_refl _)) HB3.out rfl
  · have hE := told_ok_no (xs := xs) hz
    have HE := Lib.hid hE
    have HL := Lib.hid (toldL_no hE)
    have HB0 := Lib.hid b2
    have hres := hbR.cell
    have hfr := hbR.frozen
    have hin := l6In_no z 1 9 (w.alloc (.cells #[.slice none 0 0] 25)) hz
    obtain ⟨A, C, rfl, _⟩ := hv
    clear hE hbR b2 hz hv0
    go_enter Tryd.func4, Tryd.ntmps4
    go_wp2_with (go_at_call 12; refine hin.mono ?_; clear hin; rintro e w1 ⟨rfl, rfl⟩)
    refine bodyPost_ret (v := .tuple #[.agg #[.slice none 0 0], .bool false]) (by simp [results, Tryd.results4, go_sem]) rfl ?_
    exact told_no' HL.out HE.out HB0.out
end Go.Proofs.YtjmeclddogdfhaaDoor

/- The program's OpenOrder. -/
namespace Go.Proofs.YtjmeclddogdfhaaDoor
open Go.RowKit Go.Deep Go.Shelf

theorem elems_row (B : Nat → Nat → Bool) {N q : Nat} (hq : q < N) (hN : N ≤ 200) : intsOf (elems (gridF (madeL B N) q)) = bRow B q N := by
  unfold intsOf bRow elems
  congr 1
  have h256 : 256 = N + (256 - N) := by omega
  rw [h256, List.range_add, List.filter_append]
  have e1 : (List.range N).filter (fun b => (gridF (madeL B N) q).testBit b) = (List.range N).filter fun k => B q k := by
    apply List.filter_congr
    intro k hk
    rw [made_bit B hq, decide_eq_true (List.mem_range.1 hk), Bool.true_and]
  have e2 : ((List.range (256 - N)).map (N + ·)).filter (fun b => (gridF (madeL B N) q).testBit b) = [] := by
    rw [List.filter_eq_nil_iff]
    intro k hk
    obtain ⟨i, _, rfl⟩ := List.mem_map.1 hk
    rw [made_bit B hq, decide_eq_false (by omega), Bool.false_and]
    simp
  rw [e1, e2, List.append_nil]

set_option maxRecDepth 100000 in
set_option maxHeartbeats 4000000 in
theorem implOpenOrder_any (v : Value) (xs : List Int) (z : Int) (w : World) (hv : IntsAt w v xs) (hT : Tab w) (hlen : xs.length ≤ 1048576) :
    Calls Tryd.prog 6 #[.int .i64 z, v] w (OrderP (toldL z xs) (toldOk z xs) w) := by
  have b2 := (Below.refl w.heap.size w).alloc (Nat.le_refl _) (.cells #[.slice none 0 0] 25)
  have hbR := Boxed.new w 25 (.slice none 0 0)
  have hv0 := hv.below b2
  have hT0 := hT.below b2
  have hgz := (zero_of_info zeroGrid).1
  by_cases hz : 1 ≤ z ∧ z ≤ 9
  · obtain ⟨n, rfl⟩ : ∃ n : Nat, z = (n : Int) := ⟨z.toNat, by omega⟩
    have hn : 1 ≤ n ∧ n ≤ 9 := by omega
    have hn1 : ¬ ((n : Int) < 1) := by omega
    have hn2 : ¬ ((9 : Int) < (n : Int)) := by omega
    have hm64 : n % 64 = n := Nat.mod_eq_of_lt (by omega)
    obtain ⟨M, hM⟩ : ∃ M : Nat, M = 2 ^ n := ⟨_, rfl⟩
    have hMb : 1 ≤ M ∧ M ≤ 512 := by
      have h1 := Nat.pow_le_pow_right (show 0 < 2 by decide) hn.2
      have h2 := Nat.two_pow_pos n
      rw [hM]
      exact ⟨h2, h1⟩
    have hp1 : wrap64 ((2 : Int) ^ n) = (M : Int) := by
      rw [show ((2 : Int) ^ n) = (M : Int) by rw [hM]; simp]
      exact IntWalk.wrap64_in _ (by omega)
    have hcall := ascends_any v xs M _ hv0 (by omega)
    have HM := Lib.hid hM
    rw [hM] at hcall
    clear hMb
    cases hasc : ascB (2 ^ n) xs with
    | false =>
      have hE := told_ok_asc hasc
      have HE := Lib.hid hE
      have HL := Lib.hid (toldL_no hE)
      rw [hasc] at hcall
      rw [← hM] at hcall
      have HCALL := Lib.hid hcall
      have HB := Lib.hid b2
      have hres := hbR.cell
      have hfr := hbR.frozen
      obtain ⟨A, C, rfl, _⟩ := hv
      clear hE hcall b2 hbR hv0 hasc hM hT0 hT
      go_enter Tryd.func6, Tryd.ntmps6
      go_wp2_with (go_at_call 16; refine HCALL.out.mono ?_; clear HCALL; rintro e w2 ⟨rfl, hw2⟩; obtain rfl := hw2)
      refine bodyPost_ret (v := .tuple #[.agg #[.slice none 0 0], .bool false]) (by simp [results, Tryd.results6, go_sem]) rfl ?_
      exact told_no' HL.out HE.out HB.out
    | true =>
      have hv2 := (ascB_iff _ _).1 hasc
      have htold := toldBy_any v xs n _ hv0 hn.2 hv2.2 hlen
      have HOK := Lib.hid (told_ok hn hasc)
      rw [hasc] at hcall
      rw [← hM] at hcall
      have HCALL := Lib.hid hcall
      have HTOLD := Lib.hid htold
      have HB := Lib.hid b2
      have BR := Lib.hid hbR
      have HT0 := Lib.hid hT0
      have HLT := Lib.hid (made_lt (toldB xs) (n := n) (by omega))
      have hown : ∀ k, k < n → (gridF (madeL (toldB xs) n) k).testBit k = true := fun k hk => by rw [made_bit _ hk, decide_eq_true hk, told_refl]; rfl
      have hbits : ∀ k j, k < n → (gridF (madeL (toldB xs) n) k).testBit j = true → j < n := fun k j hk h => by
        rw [made_bit _ hk, Bool.and_eq_true] at h
        exact of_decide_eq_true h.1
      have hasc2 : ∀ i (hi : i < (madeL (toldB xs) n).length), ascB (madeL (toldB xs) n).length (madeL (toldB xs) n)[i] = true := fun i hi => (ascB_iff _ _).2 (made_asc _ _ i hi)
      have hlist := told_lists (xs := xs) hn.1 (show n ≤ 200 by omega)
      have HIS := Lib.hid (fun q W (hg : GridAt W q (gridF (madeL (toldB xs) n))) (hTW : Tab W) => isOrder_any q n (gridF (madeL (toldB xs) n)) W hg hTW (by omega) (fun _ => gridF_out _ (by rw [madeL_len]; exact Nat.le_refl _)) hown hbits)
      have HGOOD := Lib.hid (fun h => valid_of_cover hlist hasc2 (by rw [madeL_len]; exact hown) (by rw [madeL_len]; exact hbits) h)
      have HBAD := Lib.hid (show (∃ j, j < n ∧ BadBit (gridF (madeL (toldB xs) n)) j) → validB (madeL (toldB xs) n) = false from fun ⟨j, hj, h⟩ => valid_of_bad hasc2 (by rw [madeL_len]; exact hbits) (by rw [madeL_len]; exact hj) h)
      have HORD := Lib.hid (fun q W (hg : GridAt W q (gridF (madeL (toldB xs) n))) (hTW : Tab W) => order_any q n (gridF (madeL (toldB xs) n)) W hg hTW ⟨by omega, fun i hi e => by have h := hown i hi; rw [e] at h; simp at h, fun _ => gridF_out _ (by rw [madeL_len]; exact Nat.le_refl _)⟩)
      obtain ⟨A, C, rfl, _⟩ := hv
      clear hcall htold b2 hbR hv0 hasc hv2 hM hT0 hT hown hbits hasc2 hlist
      obtain ⟨G, hG⟩ : ∃ G, G = gridF (madeL (toldB xs) n) := ⟨_, rfl⟩
      rw [← hG] at HTOLD HIS HGOOD HBAD HORD HLT
      have HG := Lib.hid hG
      clear hG
      go_enter Tryd.func6, Tryd.ntmps6
      go_upto_region 4 with (first | (go_at_call 16; refine HCALL.out.mono ?_; clear HCALL; rintro e w2 ⟨rfl, hw2⟩; obtain rfl := hw2) | (go_at_call 17; refine HTOLD.out.mono ?_; clear HTOLD; rintro e w2 ⟨rfl, hb2⟩; have B2 := Lib.hid (HB.out.trans (hb2.mono HB.out.size)); have BR2 : Hid (Boxed w2 w.heap.size 25 (.slice none 0 0)) := Lib.hid ((hb2.block _ BR.out.lt).trans BR.out); have T2 := Lib.hid (HT0.out.below hb2); clear hb2) | (refine wpList_store_row rfl 43 (.tmp 6) (.tmp 23) rfl w2.heap.size (gridCells G) rfl rfl 43 (gridCells fun _ => 0) (store_new w2).1 (by rw [gridCells_size]; exact sizeGrid) (by rw [gridCells_size, gridCells_size]) (gridCells_one _) ?_))
      have hbn := newGrid_below G w2
      have HGA := Lib.hid (newGrid_at HLT.out w2)
      have B3 := Lib.hid (B2.out.trans (hbn.mono B2.out.size))
      have BR3 : Hid (Boxed (newGrid G w2) w.heap.size 25 (.slice none 0 0)) := Lib.hid ((hbn.block _ BR2.out.lt).trans BR2.out)
      have T3 := Lib.hid (T2.out.below hbn)
      clear hbn
      change Code.wp _ _ _ _ (newGrid G w2)
      generalize newGrid G w2 = w3 at HGA B3 BR3 T3 ⊢
      have HLT2 := Lib.hid BR2.out.lt
      generalize w2.heap.size = q at HGA HLT2 ⊢
      have hio := HIS.out q w3 HGA.out T3.out
      have HIO := Lib.hid hio
      clear hio
      go_upto_region 5 with (go_at_call 18; refine HIO.out.mono ?_; clear HIO; rintro e w4 ⟨⟨t, ht1, ht2, rfl⟩, hb4⟩; have B4 := Lib.hid (B3.out.trans (hb4.mono B3.out.size)); have BR4 : Hid (Boxed w4 w.heap.size 25 (.slice none 0 0)) := Lib.hid ((hb4.block _ BR3.out.lt).trans BR3.out); have T4 := Lib.hid (T3.out.below hb4); have HGA4 := Lib.hid (HGA.out.below hb4 HGA.out.lt); have HT1 := Lib.hid ht1; have HT2 := Lib.hid ht2; clear hb4 ht1 ht2; cases t)
      · have hE := HOK.out
        rw [HBAD.out (HT2.out trivial)] at hE
        have HE := Lib.hid hE
        have HL := Lib.hid (toldL_no hE)
        have hres := BR4.out.cell
        have hfr := BR4.out.frozen
        have hc9 := World.cell?_setCell_same' w4 ⟨w.heap.size, 0, none⟩ (.slice none 0 0) (by rw [hres]; rfl)
        clear hE
        go_wp2
        refine bodyPost_ret (v := .tuple #[.agg #[.slice none 0 0], .bool false]) (by simp [results, Tryd.results6, go_sem, hc9]) rfl ?_
        exact told_no HL.out HE.out B4.out rfl _
      · have hE := HOK.out
        have hgood := HGOOD.out
        rw [madeL_len] at hgood
        rw [hgood (fun i hi => by exact HT1.out trivial i hi)] at hE
        have HE := Lib.hid hE
        have HL := Lib.hid (toldL_yes hE)
        have hcall := HORD.out q w4 HGA4.out T4.out
        clear hE hgood
        refine hcall.mono ?_
        clear hcall
        rintro e w5 ⟨u, rfl, ho, hb5⟩
        obtain ⟨au, Cu, rfl⟩ := ho.form
        have hbx : Boxed w5 w.heap.size 25 (.slice none 0 0) := (hb5.block _ BR4.out.lt).trans BR4.out
        have hres := hbx.cell
        have hfr := hbx.frozen
        have hc9 := World.cell?_setCell_same' w5 ⟨w.heap.size, 0, none⟩ (.slice au n Cu) (by rw [hres]; rfl)
        have HO := Lib.hid ho
        have B5 := Lib.hid (B4.out.trans (hb5.mono B4.out.size))
        have HLT4 := Lib.hid BR4.out.lt
        clear ho hb5 hbx
        go_wp2
        refine bodyPost_ret (v := .tuple #[.agg #[.slice au n Cu], .bool true]) (by simp [results, Tryd.results6, go_sem, hc9]) rfl ?_
        exact told_yes HL.out HE.out ((HO.out.wider HLT4.out (Nat.le_refl _)).congr fun i hi => by rw [HG.out]; exact elems_row (toldB xs) hi (by omega)) B5.out rfl
  · have hE := told_ok_no (xs := xs) hz
    have HE := Lib.hid hE
    have HL := Lib.hid (toldL_no hE)
    have HB0 := Lib.hid b2
    have hres := hbR.cell
    have hfr := hbR.frozen
    obtain ⟨A, C, rfl, _⟩ := hv
    clear hE hbR b2 hv0 hT0 hT
    by_cases hz1 : z < 1
    · clear hz
      go_enter Tryd.func6, Tryd.ntmps6
      go_wp2
      refine bodyPost_ret (v := .tuple #[.agg #[.slice none 0 0], .bool false]) (by simp [results, Tryd.results6, go_sem]) rfl ?_
      exact told_no' HL.out HE.out HB0.out
    · have hz2 : (9 : Int) < z := by omega
      clear hz
      go_enter Tryd.func6, Tryd.ntmps6
      go_wp2
      refine bodyPost_ret (v := .tuple #[.agg #[.slice none 0 0], .bool false]) (by simp [results, Tryd.results6, go_sem]) rfl ?_
      exact told_no' HL.out HE.out HB0.out
end Go.Proofs.YtjmeclddogdfhaaDoor

/- The law of OpenOrder: model and program answer alike, the arguments are left alone, and the answer owns its memory. -/
namespace Go.Proofs.YtjmeclddogdfhaaDoor
open Go.RowKit Go.Deep

set_option maxRecDepth 100000 in
set_option maxHeartbeats 16000000 in
theorem law_told (v1 : Value) (x1 : List Int) (z0 : Int) (w : World) (h1 : IntsAt w v1 x1) (hT : Tab w) :
    Calls Tryd.prog 3 #[.int .i64 z0, v1] w (SaysN true w) := by
  have e0 := St.start w
  have H1 := Lib.hid h1
  have HTT := Lib.hid hT
  obtain ⟨A1, C1, rfl, _⟩ := h1
  have E0 := Lib.hid e0
  clear e0 hT
  have hdr : ∀ W : World, W.drew.heap = W.heap := fun _ => rfl
  by_cases hf1 : (1048576 : Int) < (x1.length : Int)
  · go_enter Tryd.func3, Tryd.ntmps3
    go_wp2
    go_ret
    exact ⟨rfl, E0.out.below⟩
  have HL1 := Lib.hid (show x1.length ≤ 1048576 by omega)
  have HM1 := Lib.hid (maxLen_ge HL1.out)
  go_enter Tryd.func3, Tryd.ntmps3
  have hspec : ∀ W u1, IntsAt W u1 x1 → Calls Tryd.prog 4 #[.int .i64 z0, u1] W (OrderP (toldL z0 x1) (toldOk z0 x1) W) := fun W u1 k1 => specOpenOrder_any u1 x1 z0 W k1 HL1.out
  have himpl : ∀ W u1, IntsAt W u1 x1 → Tab W → Calls Tryd.prog 6 #[.int .i64 z0, u1] W (OrderP (toldL z0 x1) (toldOk z0 x1) W) := fun W u1 k1 kT => implOpenOrder_any u1 x1 z0 W k1 kT HL1.out
  have hxl := told_bulk z0 x1
  generalize toldL z0 x1 = xs at hspec himpl hxl
  generalize toldOk z0 x1 = t at hspec himpl
  have HX := Lib.hid hxl
  have HXL := Lib.hid (show lens xs xs.length ≤ 1048576 by have := lens_all xs; have := HX.out; omega)
  have HS := Lib.hid hspec
  have HI := Lib.hid himpl
  have hne : (t != t) = false := bne_self_eq_false t
  clear hspec himpl hxl
  go_wp2_with fail
  refine (toIntS_any _ x1 _ (H1.out.below E0.out.below) HL1.out).mono ?_
  rintro e w1 ⟨rfl, ho, hz, hb⟩
  have hE := E0.out.copyI HM1.out ho hz hb; simp only [List.nil_append] at hE; have E1 := Lib.hid hE; clear hE
  clear ho hz hb
  go_wp2_with fail
  refine (HS.out _ _ (E1.out.ints 0 rfl)).mono ?_
  rintro e w2 ⟨u, rfl, hu, hb⟩
  obtain ⟨aU, CU, rfl⟩ := hu.form; have hE := (E1.out.take 0).pushR hb hu; simp only [List.nil_append, List.take_zero] at hE; have E2 := Lib.hid hE; clear hE; clear hb hu
  have hE := E2.out.box 25 (Value.slice aU xs.length CU); simp only [List.cons_append, List.nil_append] at hE; have E3 := Lib.hid hE; clear hE
  go_wp2_with fail
  refine (toIntS_any _ x1 _ (H1.out.below E3.out.below) HL1.out).mono ?_
  rintro e w4 ⟨rfl, ho, hz, hb⟩
  have hE := E3.out.copyI HM1.out ho hz hb
  simp only [World.size_alloc] at hE
  simp only [List.cons_append, List.nil_append] at hE
  have E4 := Lib.hid hE
  clear hE ho hz hb E3
  go_wp2_with fail
  refine (HI.out _ _ (E4.out.ints 2 rfl) (HTT.out.below E4.out.below)).mono ?_
  rintro e w5 ⟨u, rfl, hu, hb⟩
  obtain ⟨aG, CG, rfl⟩ := hu.form
  have hE := E4.out.pushR hb hu; simp only [List.cons_append, List.nil_append] at hE; have E5 := Lib.hid hE; clear hE
  clear hb hu E4
  have hE := E5.out.box 25 (Value.slice aG xs.length CG); simp only [List.cons_append, List.nil_append] at hE; have E6 := Lib.hid hE; clear hE
  clear E5
  have heq := eqOrder_any _ _ xs xs _ (E6.out.rows 3 rfl) (E6.out.rows 0 rfl)
  rw [decide_eq_true (rfl : xs = xs)] at heq
  have hc1 := E6.out.cell 4 rfl
  have hc2 := E6.out.cell 1 rfl
  go_wp2_with fail
  refine heq.mono ?_
  clear heq
  rintro e w7 ⟨rfl, hb⟩
  have E7 := Lib.hid (E6.out.step hb)
  clear hb E6
  clear hc1 hc2
  go_wp2_with fail
  refine (toIntS_any _ x1 _ (H1.out.below E7.out.below) HL1.out).mono ?_
  rintro e w8 ⟨rfl, ho, hz, hb⟩
  have hE := E7.out.copyI HM1.out ho hz hb; simp only [List.cons_append, List.nil_append] at hE; have E8 := Lib.hid hE; clear hE
  have heq := eqIntS_any _ _ x1 x1 w8 (E8.out.ints 2 rfl) (E8.out.ints 5 rfl)
  rw [decide_eq_true (rfl : x1 = x1)] at heq
  clear ho hz hb E7
  go_wp2_with fail
  refine heq.mono ?_
  clear heq
  rintro e w9 ⟨rfl, nw9, rfl⟩
  have hE := (E8.out.take 5).drewN nw9
  simp only [List.take_succ_cons, List.take_zero] at hE
  generalize World.drewN _ nw9 = Ww9 at hE ⊢
  have E9 := Lib.hid hE
  clear hE E8
  have hmk := markIntS_any _ x1 (1) _ _ _ (E9.out.ownI 2 rfl) (by omega) (by have := HL1.out; omega)
  go_wp2_with fail
  refine hmk.mono ?_
  clear hmk
  rintro e w10 ⟨rfl, ho, hg⟩
  have hE := E9.out.turnI 2 rfl hg ho; simp only [List.set_cons_succ, List.set_cons_zero] at hE; have E10 := Lib.hid hE; clear hE
  clear ho hg E9
  have hpos : ¬ (1 + (x1.length : Int) < 0) := by omega
  have heq := eqOrder_any _ _ xs xs _ (E10.out.rows 3 rfl) (E10.out.rows 0 rfl)
  rw [decide_eq_true (rfl : xs = xs)] at heq
  have hc3 := E10.out.cell 4 rfl
  have hc4 := E10.out.cell 1 rfl
  go_wp2_with fail
  refine heq.mono ?_
  clear heq
  rintro e w11 ⟨rfl, hb⟩
  have E11 := Lib.hid (E10.out.step hb)
  clear hb E10
  clear hc3 hc4
  have hc5 := E11.out.cell 4 rfl
  have hmk := markOrder_any _ xs 1 _ _ _ (E11.out.ownR 3 rfl) (E11.out.boundsR 3 rfl).1 (E11.out.boundsR 3 rfl).2 (by omega) (by have := HXL.out; omega)
  go_wp2_with fail
  refine hmk.mono ?_
  clear hmk
  rintro e w12 ⟨rfl, ho, ht⟩
  have hE := E11.out.turnR 3 rfl ht ho; simp only [List.set_cons_succ, List.set_cons_zero] at hE; have E12 := Lib.hid hE; clear hE
  clear ho ht hc5 E11
  have hpos2 : ¬ (1 + ((lens xs xs.length : Nat) : Int) < 0) := by omega
  have hq : ((1 + ((lens xs xs.length : Nat) : Int)) != (1 + ((lens xs xs.length : Nat) : Int))) = false := bne_self_eq_false _
  have hc6 := E12.out.cell 4 rfl
  have hhd := heldOrder_any _ xs 1 _ _ _ (E12.out.ownR 3 rfl) (E12.out.boundsR 3 rfl).2 (by omega) (by have := HXL.out; omega)
  go_wp2_with fail
  refine hhd.mono ?_
  clear hhd
  rintro e w13 ⟨rfl, hb⟩
  have E13 := Lib.hid (E12.out.step hb)
  clear hb E12 hc6
  have HQ := Lib.hid hq
  have HPP := Lib.hid hpos2
  have HNE := Lib.hid hne
  clear hq hpos hpos2 hne
  go_wp2_with fail
  refine (toIntS_any _ x1 _ (H1.out.below E13.out.below) HL1.out).mono ?_
  rintro e w14 ⟨rfl, ho, hz, hb⟩
  have hE := E13.out.copyI HM1.out ho hz hb; simp only [List.cons_append, List.nil_append] at hE; have E14 := Lib.hid hE; clear hE
  clear ho hz hb
  go_wp2_with fail
  refine (HI.out _ _ (E14.out.ints 5 rfl) (HTT.out.below E14.out.below)).mono ?_
  rintro e w15 ⟨u, rfl, hu, hb⟩
  obtain ⟨aV, CV, rfl⟩ := hu.form; have hE := (E14.out.take 5).pushR hb hu; simp only [List.cons_append, List.nil_append, List.take_succ_cons, List.take_zero] at hE; have E15 := Lib.hid hE; clear hE; clear hb hu
  have hE := E15.out.box 25 (Value.slice aV xs.length CV); simp only [List.cons_append, List.nil_append] at hE; have E16 := Lib.hid hE; clear hE
  have hq := HQ.out
  have hpos2 := HPP.out
  have hne := HNE.out
  have heq := eqOrder_any _ _ xs xs _ (E16.out.rows 5 rfl) (E16.out.rows 0 rfl)
  rw [decide_eq_true (rfl : xs = xs)] at heq
  have hc7 := E16.out.cell 6 rfl
  have hc8 := E16.out.cell 1 rfl
  go_wp2_with fail
  refine heq.mono ?_
  clear heq
  rintro e w17 ⟨rfl, hb⟩
  have E17 := Lib.hid (E16.out.step hb)
  clear hb E16
  clear hc7 hc8
  have hc9 := E17.out.cell 4 rfl
  have hhd := heldOrder_any _ xs 1 _ _ _ (E17.out.ownR 3 rfl) (E17.out.boundsR 3 rfl).2 (by omega) (by have := HXL.out; omega)
  go_wp2_with fail
  refine hhd.mono ?_
  clear hhd
  rintro e w18 ⟨rfl, hb⟩
  have E18 := Lib.hid (E17.out.step hb)
  clear hb E17 hc9
  go_wp2
  go_ret
  exact ⟨rfl, E18.out.below⟩
end Go.Proofs.YtjmeclddogdfhaaDoor
