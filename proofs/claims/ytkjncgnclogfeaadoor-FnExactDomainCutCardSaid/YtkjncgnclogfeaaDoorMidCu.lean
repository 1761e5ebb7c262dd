/- The laws' own measures of an argument's size (szIntS, szIntSS, szOrder): what is left, or less than 0. -/
import Derived.Test.YtkjncgnclogfeaaDoorProg
import Derived.Test.YtkjncgnclogfeaaDoorMem
import Derived.LoopTactic
import Derived.RegionTactic
import Derived.Outline
import Derived.Test.YtkjncgnclogfeaaDoorMark
import Derived.Test.YtkjncgnclogfeaaDoorValid
import Derived.Test.YtkjncgnclogfeaaDoorFirst
import Derived.RangeFuncBox
import Derived.Test.YtkjncgnclogfeaaDoorStrictS
import Derived.Test.YtkjncgnclogfeaaDoorJoinS
import Derived.Test.YtkjncgnclogfeaaDoorOwnB
import Derived.Test.YtkjncgnclogfeaaDoorTo
import Derived.Maps.AppendAt
import Derived.Test.YtkjncgnclogfeaaDoorBackS
import Derived.Test.YtkjncgnclogfeaaDoorBuiltG
import Derived.Test.YtkjncgnclogfeaaDoorLiftI
import Derived.Deep.RegionLaw
import Derived.Deep.AppendLies
import Derived.Test.YtkjncgnclogfeaaDoorSumI
import Derived.Test.YtkjncgnclogfeaaDoorElemP
import Derived.Test.YtkjncgnclogfeaaDoorBack
import Derived.Test.YtkjncgnclogfeaaDoorImplDom
import Derived.Test.YtkjncgnclogfeaaDoorBRow
import Derived.Test.YtkjncgnclogfeaaDoorList
import Derived.Deep.RegionHeld3
namespace Go.Proofs.YtkjncgnclogfeaaDoor
open Go.RowKit Go.Deep

set_option maxHeartbeats 400000 in
theorem szIntS_any (a : Option Addr) (n C : Nat) (left : Int) (w : World) (hn : n ≤ maxLen) (h0 : 0 ≤ left) (h1 : left ≤ 1048576) :
    Calls Tryd.prog 73 #[.slice a n C, .int .i64 left] w fun e w' => e = .returned (.int .i64 (if left < n then -1 else left - n)) ∧ w = w' := by
  unfold maxLen at hn
  by_cases h : left < n
  · rw [if_pos h]
    go_enter Tryd.func73, Tryd.ntmps73
    go_wp2
    go_ret
    exact ⟨rfl, rfl⟩
  · rw [if_neg h]
    go_enter Tryd.func73, Tryd.ntmps73
    go_wp2
    go_ret
    exact ⟨rfl, rfl⟩

/-- What is left of 'left' when the rows are taken off, or -1 where they are too many. -/
def SzPost (rows : Rows2) (left : Int) (P : World → Prop) (e : Ending) (w' : World) : Prop :=
  (∃ r : Int, (r = -1 ∨ (0 ≤ r ∧ r ≤ left ∧ bulk rows ≤ left)) ∧ e = .returned (.int .i64 r)) ∧ P w'
theorem SzPost.no {rows : Rows2} {left : Int} {P : World → Prop} {w' : World} (h : P w') : SzPost rows left P (.returned (.int .i64 (-1))) w' := ⟨⟨-1, .inl rfl, rfl⟩, h⟩
theorem SzPost.yes {rows : Rows2} {left r : Int} {P : World → Prop} {w' : World} (h0 : 0 ≤ r) (h1 : r ≤ left) (h2 : bulk rows ≤ left) (h : P w') : SzPost rows left P (.returned (.int .i64 r)) w' := ⟨⟨r, .inr ⟨h0, h1, h2⟩, rfl⟩, h⟩

set_option maxHeartbeats 1000000 in
theorem szIntSS_any (v : Value) (rows : Rows2) (left : Int) (w : World) (hv : RowsAt w v rows) (h0 : 0 ≤ left) (h1 : left ≤ 1048576) :
    Calls Tryd.prog 45 #[v, .int .i64 left] w (SzPost rows left fun w' => w = w') := by
  obtain ⟨a, C, rfl, hC, hm, hrow⟩ := hv
  unfold maxLen at hm
  go_enter Tryd.func45, Tryd.ntmps45
  by_cases h : left < rows.length
  · go_wp2
    go_ret
    exact SzPost.no rfl
  · go_wp2
    go_loop [1, 5] (fun l i => ∃ k : Nat, k ≤ rows.length ∧ i = .int .i64 k ∧ (rows.length : Int) + (lens rows k : Nat) ≤ left ∧ l = .int .i64 (left - rows.length - (lens rows k : Nat))) (fun _ i => rows.length - (intOf i).toNat)
    case atStart => exact ⟨0, Nat.zero_le _, rfl, by simp [lens_zero]; omega, by simp [lens_zero]⟩
    case round =>
      obtain ⟨k, hk, rfl, hl, rfl⟩ := hrel
      by_cases hlt : k < rows.length
      · obtain ⟨b, o, u, rfl, hc, hu⟩ := hrow k hlt
        obtain ⟨a', C', rfl, h2, h3, _, _⟩ := hu
        unfold maxLen at h3
        have hs := lens_succ hlt
        by_cases hlast : left - rows.length - (lens rows k : Nat) < rows[k].length
        · go_wp2_with (go_at_call 73; refine (szIntS_any _ _ _ _ _ (by unfold maxLen; omega) (by omega) (by omega)).mono ?_; rw [if_pos hlast]; rintro e w' ⟨rfl, rfl⟩)
          go_ret
          exact SzPost.no rfl
        · go_wp2_with (go_at_call 73; refine (szIntS_any _ _ _ _ _ (by unfold maxLen; omega) (by omega) (by omega)).mono ?_; rw [if_neg hlast]; rintro e w' ⟨rfl, rfl⟩)
          go_round
          case rel => exact ⟨k + 1, by omega, by go_num, by omega, by rw [hs]; go_num⟩
          case measure => simp [intOf]; omega
      · obtain rfl : k = rows.length := by omega
        have ha := lens_all rows
        go_wp2
        go_ret
        exact SzPost.yes (by omega) (by omega) (by omega) rfl

set_option maxHeartbeats 1000000 in
theorem szOrder_any (v : Value) (rows : Rows2) (left : Int) (w : World) (hv : RowsAt w v rows) (h0 : 0 ≤ left) (h1 : left ≤ 1048576) :
    Calls Tryd.prog 13 #[.agg #[v], .int .i64 left] w (SzPost rows left (Below w.heap.size w)) := by
  go_enter Tryd.func13, Tryd.ntmps13
  have hv' := hv.below ((Below.refl _ w).alloc (Nat.le_refl _) (.cells #[v] 24))
  obtain ⟨a, C, rfl, _⟩ := hv
  go_wp2_with (go_at_call 45; refine (szIntSS_any _ _ _ _ hv' h0 h1).mono ?_; rintro e w' ⟨⟨r, hr, rfl⟩, rfl⟩)
  all_goals
    go_ret
    rcases hr with rfl | ⟨h2, h3, h4⟩
    · first | omega | exact SzPost.no ((Below.refl _ w).alloc (Nat.le_refl _) _)
    · first | omega | exact SzPost.yes h2 h3 h4 ((Below.refl _ w).alloc (Nat.le_refl _) _)
theorem below_drew (w : World) (B : Nat) : Below B w w.drew := ⟨rfl, rfl, rfl, Nat.le_refl _, fun _ _ => rfl⟩
theorem maxLen_ge {n : Nat} (h : n ≤ 1048576) : n ≤ maxLen := by unfold maxLen; omega
end Go.Proofs.YtkjncgnclogfeaaDoor

/- What a law holds while it looks at an answer that is an order: the argument, the model's answer, the copy that the program had, the program's answer, all in memory of their own. Plain facts on worlds. -/
namespace Go.Proofs.YtkjncgnclogfeaaDoor
open Go.RowKit Go.Deep

/-- The rows res as an order in memory of its own, and the Boolean t. -/
def OrderP (res : Rows2) (t : Bool) (w : World) (e : Ending) (w' : World) : Prop :=
  ∃ v, e = .returned (.tuple #[.agg #[v], .bool t]) ∧ OwnR 3 39 w' v res.length (rowsF res) w.heap.size w'.heap.size ∧ Below w.heap.size w w'


/-- The places of the answers. -/
structure Places where
  lo1 : Nat
  hi1 : Nat
  lo2 : Nat
  hi2 : Nat
  lo3 : Nat
  hi3 : Nat

structure Lw (w : World) (v : Value) (rows res : Rows2) (p : Places) (v1 v2 v3 : Value) (R2 R3 : Nat → List Int) (W : World) : Prop where
  base : RowsAt w v rows
  tab0 : Tab w
  arg : W.cell? ⟨w.heap.size, 0, none⟩ = some v
  below : Below w.heap.size w W
  b4 : Boxed W p.hi1 26 v1
  o4 : OwnR 3 39 W v1 res.length (rowsF res) p.lo1 p.hi1
  b6 : Boxed W p.hi2 26 v2
  o6 : OwnR 3 39 W v2 rows.length R2 p.lo2 p.hi2
  b7 : Boxed W p.hi3 26 v3
  o7 : OwnR 3 39 W v3 res.length R3 p.lo3 p.hi3
  ord : w.heap.size < p.lo1 ∧ p.lo1 ≤ p.hi1 ∧ p.hi1 < p.lo2 ∧ p.lo2 ≤ p.hi2 ∧ p.hi2 < p.lo3 ∧ p.lo3 ≤ p.hi3 ∧ p.hi3 < W.heap.size

section
variable {w : World} {v v1 v2 v3 : Value} {rows res : Rows2} {p : Places} {R2 R3 : Nat → List Int} {W W' : World}
theorem Lw.rowsAt (h : Lw w v rows res p v1 v2 v3 R2 R3 W) : RowsAt W v rows := h.base.below h.below
theorem Lw.tab (h : Lw w v rows res p v1 v2 v3 R2 R3 W) : Tab W := h.tab0.below h.below
theorem Lw.step (h : Lw w v rows res p v1 v2 v3 R2 R3 W) (hb : Below W.heap.size W W') : Lw w v rows res p v1 v2 v3 R2 R3 W' := by
  have ho := h.ord
  have hz := hb.size
  exact ⟨h.base, h.tab0, (hb.cell (p := ⟨w.heap.size, 0, none⟩) (cell_lt h.arg)).trans h.arg, h.below.trans (hb.mono h.below.size), (hb.block _ h.b4.lt).trans h.b4, h.o4.below hb (by omega), (hb.block _ h.b6.lt).trans h.b6, h.o6.below hb (by omega), (hb.block _ h.b7.lt).trans h.b7, h.o7.below hb (by omega), by omega⟩
/-- The copy has been marked. -/
theorem Lw.mark2 {R2' : Nat → List Int} (h : Lw w v rows res p v1 v2 v3 R2 R3 W) (ht : Turned p.lo2 p.hi2 W W') (ho : OwnR 3 39 W' v2 rows.length R2' p.lo2 p.hi2) : Lw w v rows res p v1 v2 v3 R2' R3 W' := by
  have hd := h.ord
  have hz := ht.below.size
  have hbl : ∀ b, b < p.lo2 → W'.heap[b]? = W.heap[b]? := fun b hb => ht.below.block b hb
  have hab : ∀ b, p.hi2 ≤ b → b < W.heap.size → W'.heap[b]? = W.heap[b]? := ht.above
  exact ⟨h.base, h.tab0, (World.cell?_of_block (hbl w.heap.size (by omega))).trans h.arg, h.below.trans (ht.below.mono (by omega)), (hbl _ (by omega)).trans h.b4, h.o4.kept fun b _ hb => hbl b (by omega), (hab _ (by omega) (by omega)).trans h.b6, ho, (hab _ (by omega) (by omega)).trans h.b7, h.o7.kept fun b hb hb' => hab b (by omega) (by omega), by omega⟩
/-- The program's answer has been marked. -/
theorem Lw.mark3 {R3' : Nat → List Int} (h : Lw w v rows res p v1 v2 v3 R2 R3 W) (ht : Turned p.lo3 p.hi3 W W') (ho : OwnR 3 39 W' v3 res.length R3' p.lo3 p.hi3) : Lw w v rows res p v1 v2 v3 R2 R3' W' := by
  have hd := h.ord
  have hz := ht.below.size
  have hbl : ∀ b, b < p.lo3 → W'.heap[b]? = W.heap[b]? := fun b hb => ht.below.block b hb
  have hab : ∀ b, p.hi3 ≤ b → b < W.heap.size → W'.heap[b]? = W.heap[b]? := ht.above
  exact ⟨h.base, h.tab0, (World.cell?_of_block (hbl w.heap.size (by omega))).trans h.arg, h.below.trans (ht.below.mono (by omega)), (hbl _ (by omega)).trans h.b4, h.o4.kept fun b _ hb => hbl b (by omega), (hbl _ (by omega)).trans h.b6, h.o6.kept fun b _ hb => hbl b (by omega), (hab _ (by omega) (by omega)).trans h.b7, ho, by omega⟩
end
end Go.Proofs.YtkjncgnclogfeaaDoor

/- The model's steps (l3Step), and its FunStep. -/
namespace Go.Proofs.YtkjncgnclogfeaaDoor
open Go.RowKit Go.Deep

theorem owns_weaker {W : World} {lo lo' n : Nat} {t : TypeId} {v : Value} {xs : List Value} (h : W.ownsRow lo t 1 v n xs) (hl : lo' ≤ lo) : W.ownsRow lo' t 1 v n xs := by
  obtain ⟨h1, h2 | ⟨g, c, cur, rfl, h3, h4⟩⟩ := h
  · exact ⟨h1, .inl h2⟩
  · exact ⟨h1, .inr ⟨g, c, cur, rfl, by omega, h4⟩⟩
/-- The numbers xs, in memory of their own. -/
def OwnQ (xs : List Int) (w : World) (e : Ending) (w' : World) : Prop :=
  ∃ v, e = .returned v ∧ OwnI 3 w' v xs w.heap.size w'.heap.size ∧ Below w.heap.size w w'

/-- What the step of a to b has for element i. -/
def stepAt (rows rows' : Rows2) (a : Nat) (b : Int) (i : Nat) : Int := if upB rows a (i : Int) = true then b else leastI rows'
def stepN (rows rows' : Rows2) (a : Nat) (b : Int) (k : Nat) : List Int := (List.range k).map (stepAt rows rows' a b)
theorem stepN_length (rows rows' : Rows2) (a : Nat) (b : Int) (k : Nat) : (stepN rows rows' a b k).length = k := by unfold stepN; simp
theorem stepN_succ (rows rows' : Rows2) (a : Nat) (b : Int) (k : Nat) : stepN rows rows' a b (k + 1) = stepN rows rows' a b k ++ [stepAt rows rows' a b k] := by
  unfold stepN
  rw [List.range_succ, List.map_append]
  rfl

/-- Behind an append to a list of the call's own. -/
theorem Two.grow {w : World} {v v' : Value} {rows rows' : Rows2} {W w1 : World} (h : Two w v v' rows rows' W) (hv : RowsAt w v rows) (hv' : RowsAt w v' rows') {u : Value} {n : Nat} {xs : List Value} (ho : W.ownsRow (w.heap.size + 2) 3 1 u n xs) (o : Obj) {row : Option Nat} (hg : (W.alloc o).grownBy w1 row) (hr : row = u.ownBlock := by rfl) : Two w v v' rows rows' w1 := by
  subst hr
  have hb1 : w.heap.size + 1 < W.heap.size := cell_lt h.c1
  have hb : Below (w.heap.size + 2) W w1 := ((Below.refl (w.heap.size + 2) W).alloc (by omega) o).grown hg (by rw [World.size_alloc]; omega) (fun b e => (ho.lt b e).1)
  have hw : Below w.heap.size w w1 := h.below.trans (hb.mono (by omega))
  exact ⟨(hb.cell (p := ⟨w.heap.size, 0, none⟩) (by show w.heap.size < w.heap.size + 2; omega)).trans h.c0, (hb.cell (p := ⟨w.heap.size + 1, 0, none⟩) (by show w.heap.size + 1 < w.heap.size + 2; omega)).trans h.c1, hv.below hw, hv'.below hw, hw⟩

/-- What FunStep answers. -/
noncomputable def stepOk (rows rows' : Rows2) (a b : Int) : Bool := domB rows && domB rows' && (decide (0 ≤ a ∧ a < rows.length) && decide (0 ≤ b ∧ b < rows'.length))
noncomputable def stepL (rows rows' : Rows2) (a b : Int) : List Int := if stepOk rows rows' a b = true then stepN rows rows' a.toNat b rows.length else []
/-- A list in memory of its own, and a Boolean. -/
def OwnB (xs : List Int) (t : Bool) (w : World) (e : Ending) (w' : World) : Prop :=
  ∃ v, e = .returned (.tuple #[v, .bool t]) ∧ OwnI 3 w' v xs w.heap.size w'.heap.size ∧ Below w.heap.size w w'
theorem stepOk_no1 {rows rows' : Rows2} {a b : Int} (h : domB rows = false) : stepOk rows rows' a b = false := by unfold stepOk; rw [h]; rfl
theorem stepOk_no2 {rows rows' : Rows2} {a b : Int} (h : domB rows' = false) : stepOk rows rows' a b = false := by unfold stepOk; rw [h]; simp
theorem stepOk_no3 {rows rows' : Rows2} {a b : Int} (h : ¬ (0 ≤ a ∧ a < rows.length)) : stepOk rows rows' a b = false := by unfold stepOk; rw [decide_eq_false h]; simp
theorem stepOk_no4 {rows rows' : Rows2} {a b : Int} (h : ¬ (0 ≤ b ∧ b < rows'.length)) : stepOk rows rows' a b = false := by unfold stepOk; rw [decide_eq_false h]; simp

/-- An empty list made by the call. -/
theorem ownB_none {rows rows' : Rows2} {a b : Int} {w W : World} (h : stepOk rows rows' a b = false) (hb : Below w.heap.size w W) : OwnB (stepL rows rows' a b) (stepOk rows rows' a b) w (.returned (.tuple #[.slice (some ⟨W.heap.size, 0, none⟩) 0 0, .bool false])) (W.alloc (.cells #[] 3)) := by
  unfold stepL
  rw [h]
  exact ⟨_, rfl, ⟨fun _ h => (by cases h), .inr ⟨W.heap.size, 0, fun _ => undef, rfl, Nat.le_refl _, Nat.zero_le _, hb.size, by rw [World.size_alloc]; omega, World.rowIs_alloc W #[] 3 (fun _ => undef) (fun _ h => absurd h (Nat.not_lt_zero _)), fun _ h => absurd h (Nat.not_lt_zero _)⟩⟩, hb.alloc hb.size _⟩

end Go.Proofs.YtkjncgnclogfeaaDoor

/- The model's l2Row: the indexes that are kept. -/
namespace Go.Proofs.YtkjncgnclogfeaaDoor
open Go.RowKit Go.Deep

/-- The indexes below k that are kept. -/
def keptN (K : Nat → Bool) (k : Nat) : List Int := ((List.range k).filter K).map fun i : Nat => (i : Int)
theorem keptN_succ (K : Nat → Bool) (k : Nat) : keptN K (k + 1) = if K k = true then keptN K k ++ [(k : Int)] else keptN K k := by
  unfold keptN
  rw [List.range_succ, List.filter_append, List.map_append, List.filter_cons]
  cases K k with
  | true => rfl
  | false => simp
theorem keptN_le (K : Nat → Bool) (k : Nat) : (keptN K k).length ≤ k := by
  unfold keptN
  rw [List.length_map]
  have := List.length_filter_le K (List.range k)
  simpa using this
theorem keptN_range {K : Nat → Bool} {k : Nat} : ∀ x ∈ keptN K k, 0 ≤ x ∧ x < (k : Int) := by
  intro x hx
  unfold keptN at hx
  obtain ⟨i, hi, rfl⟩ := List.mem_map.1 hx
  have := List.mem_range.1 (List.mem_filter.1 hi).1
  omega

set_option maxRecDepth 100000 in
set_option maxHeartbeats 2000000 in
theorem l2Row_any (g n C : Nat) (K : Nat → Bool) (w : World) (hn : n ≤ 1048576) (hk : ∀ i, i < n → w.cell? ⟨g, i, none⟩ = some (.bool (K i))) :
    Calls Tryd.prog 55 #[.slice (some ⟨g, 0, none⟩) n C] w (OwnQ (keptN K n) w) := by
  have HC := Lib.hid (fun W (h : Below w.heap.size w W) i (hi : i < n) => (h.cell (p := ⟨g, i, none⟩) (cell_lt (hk i hi))).trans (hk i hi))
  have HO := Lib.hid (World.ownsRow_made (e := 3) (size := 1) w #[] 0 (base := w.heap.size) (Nat.le_refl _) (Nat.zero_le _) (by simp))
  have HB0 := Lib.hid ((Below.refl w.heap.size w).alloc (Nat.le_refl _) (.cells #[] 3))
  obtain ⟨i0, hi0, hz0, hz1, hz2⟩ := info_parts infoInt
  clear hk
  go_enter Tryd.func55, Tryd.ntmps55
  go_wp2
  go_loopw [3, 4] (fun ov iv wr => ∃ i : Nat, i ≤ n ∧ iv = .int .i64 i ∧ wr.ownsRow w.heap.size 3 1 ov (keptN K i).length (cellsI (keptN K i)) ∧ Below w.heap.size w wr) (fun _ iv _ => n - (intOf iv).toNat)
  case atStart => exact ⟨0, Nat.zero_le _, rfl, HO.out, HB0.out⟩
  case round =>
    obtain ⟨i, hi, rfl, hown, hB⟩ := hrel
    have HOWN := Lib.hid hown
    have HB := Lib.hid hB
    have hcl := keptN_le K i
    clear hown hB HO HB0
    by_cases hlt : i < n
    · have hltz : (i : Int) < (n : Int) := by omega
      have hc := HC.out _ HB.out i hlt
      have hbz := HB.out.size
      cases hq : K i with
      | true =>
        rw [hq] at hc
        have HE := Lib.hid (show keptN K (i + 1) = keptN K i ++ [(i : Int)] by rw [keptN_succ, if_pos hq])
        clear hq
        go_wp2_with (at_builtin; refine wpList_append_own _ rfl _ _ 39 rfl w.heap.size 3 i0 (.int .i64 0) 1 8 Tryd.underlying39 hi0 hz0 hz1 hz2 rfl (by decide) _ _ _ rfl (HOWN.out.alloc _) ⟨wr.heap.size, 0, none⟩ 1 1 [.int .i64 (i : Int)] rfl rfl (cell_one_new _ _ _) (by simp [Value.oneCell']) (by unfold maxLen; omega) (by omega) (by simp; omega) ?_; intro v' w1 hown' hgrow _)
        go_roundw
        case rel =>
          refine ⟨i + 1, by omega, by go_num, ?_, (HB.out.alloc HB.out.size _).grown hgrow (by rw [World.size_alloc]; omega) (fun b e => (HOWN.out.lt b e).1)⟩
          rw [HE.out, List.length_append, show cellsI (keptN K i ++ [(i : Int)]) = cellsI (keptN K i) ++ [.int .i64 (i : Int)] by simp]
          exact hown'
        case measure => simp [intOf]; omega
      | false =>
        rw [hq] at hc
        have HE := Lib.hid (show keptN K (i + 1) = keptN K i by rw [keptN_succ, if_neg (by rw [hq]; simp)])
        clear hq
        go_wp2
        go_roundw
        case rel => exact ⟨i + 1, by omega, by go_num, by rw [HE.out]; exact HOWN.out, HB.out⟩
        case measure => simp [intOf]; omega
    · obtain rfl : i = n := by omega
      go_wp2
      go_ret
      refine ⟨_, rfl, OwnI.of_owns HOWN.out (fun y hy => ?_) (fun b hb => (HOWN.out.lt b hb).2), HB.out⟩
      have := keptN_range y hy
      exact wf_int (by omega) (by omega)
end Go.Proofs.YtkjncgnclogfeaaDoor

/- An order that is built row by row in a variable of its own: 'out.Up = append(out.Up, row)'. Plain facts on worlds: no function is walked here. -/
namespace Go.Proofs.YtkjncgnclogfeaaDoor
open Go.RowKit Go.Deep

/-- Rows are as they were if no block turns but one of another type. -/
theorem OwnR.kept_but {t u : TypeId} {W W' : World} {v : Value} {n : Nat} {R : Nat → List Int} {lo hi z : Nat} {tz : TypeId} {x : Value} (h : OwnR t u W v n R lo hi) (hz : Boxed W z tz x) (h1 : tz ≠ t) (h2 : tz ≠ u) (hb : ∀ b, b ≠ z → W'.heap[b]? = W.heap[b]?) : OwnR t u W' v n R lo hi := by
  obtain h | ⟨g, C, f, rfl, k1, k2, k3, k4, k5, k6, k7⟩ := h
  · exact .inl h
  · have hg : g ≠ z := fun e => by
      obtain ⟨c, k5, _⟩ := k5
      unfold Boxed at hz
      rw [e, hz] at k5
      injection k5 with k5
      injection k5 with _ k5
      exact h2 k5
    refine .inr ⟨g, C, f, rfl, k1, k2, k3, k4, k5.of_block (hb g hg), fun j hj => (k6 j hj).kept fun b e => hb b fun e2 => ?_, k7⟩
    obtain ⟨_, _, c, k8⟩ := (k6 j hj).block b e
    unfold Boxed at hz
    rw [e2, hz] at k8
    injection k8 with k8
    injection k8 with _ k8
    exact h1 k8

theorem ord_ne_int : (26 : TypeId) ≠ 3 := by decide
theorem ord_ne_ints : (26 : TypeId) ≠ 39 := by decide
theorem int_ne_ints : (3 : TypeId) ≠ 39 := by decide

/-- While an order is built in the box Z: n rows R are there. -/
structure Out (w0 : World) (Z : Nat) (u : Value) (n : Nat) (R : Nat → List Int) (W : World) : Prop where
  below : Below w0.heap.size w0 W
  out : Boxed W Z 26 u
  own : OwnR 3 39 W u n R w0.heap.size W.heap.size
  place : w0.heap.size ≤ Z
theorem Out.step {w0 : World} {Z : Nat} {u : Value} {n : Nat} {R : Nat → List Int} {W W' : World} (h : Out w0 Z u n R W) (hb : Below W.heap.size W W') : Out w0 Z u n R W' :=
  ⟨h.below.trans (hb.mono h.below.size), (hb.block _ h.out.lt).trans h.out, (h.own.below hb (Nat.le_refl _)).wider (Nat.le_refl _) hb.size, h.place⟩
theorem Out.congr {w0 : World} {Z : Nat} {u : Value} {n : Nat} {R R' : Nat → List Int} {W : World} (h : Out w0 Z u n R W) (he : ∀ j, j < n → R j = R' j) : Out w0 Z u n R' W :=
  ⟨h.below, h.out, h.own.congr he, h.place⟩

theorem Out.pushed {w0 : World} {Z : Nat} {u : Value} {n : Nat} {R : Nat → List Int} {wr w2 w3 : World} {f : Nat → Value} {v' u2 : Value} {xs : List Int} {o : Obj} (h : Out w0 Z u n R wr)
    (h0 : wr.ownsRow w0.heap.size 39 1 u n ((List.range n).map f)) (h1 : ∀ j, j < n → OwnI 3 wr (f j) (R j) w0.heap.size wr.heap.size) (h2 : ∀ i j, i < j → j < n → (f i).ownBlock = none ∨ (f i).ownBlock ≠ (f j).ownBlock)
    (hb : Below wr.heap.size wr w2) (hn : OwnI 3 w2 v' xs wr.heap.size w2.heap.size) (hown : w3.ownsRow w0.heap.size 39 1 u2 (n + 1) ((List.range n).map f ++ [v'])) (hgrow : (w2.alloc o).grownBy w3 u.ownBlock) :
    Out w0 Z u2 (n + 1) (fun q => if q = n then xs else R q) (w3.setCell ⟨Z, 0, none⟩ u2) := by
  have hs := h.step hb
  have hw := h.below.size
  have hz := hb.size
  obtain ⟨k1, k2, k3, k4, k5⟩ := Boxed.appended (tmp := o) hs.out ord_ne_ints (owns_below h0 hb) hs.below.size h.place hown hgrow
  have h1' : ∀ j, j < n → OwnI 3 w2 (f j) (R j) w0.heap.size wr.heap.size := fun j hj => (h1 j hj).kept fun b hb' => hb.block b ((h1 j hj).block b hb').2.1
  have hp := OwnR.pushed (W := w2) (mid := wr.heap.size) (lo := w0.heap.size) int_ne_ints (owns_below h0 hb) h1' h2 hw hz hn ((Below.refl _ w2).alloc (Nat.le_refl _) o) hown hgrow
  refine ⟨hs.below.trans k5, k2, ?_, h.place⟩
  rw [size_setCell]
  exact hp.kept_but k1 ord_ne_int ord_ne_ints fun b hb' => Below.heap_setCell _ _ _ b hb'
/-- The variable's cell, behind the append. -/
theorem Out.far {w0 : World} {Z : Nat} {u : Value} {n : Nat} {R : Nat → List Int} {w2 w3 : World} {xs : List Value} {o : Obj} (h : Out w0 Z u n R w2) (h0 : w2.ownsRow w0.heap.size 39 1 u n xs) (hgrow : (w2.alloc o).grownBy w3 u.ownBlock) : Boxed w3 Z 26 u :=
  (h.out.alloc o).kept hgrow (Boxed.not_row h.out ord_ne_ints h0)
/-- An order of one row, right behind. -/
theorem Out.one {w0 W : World} {v : Value} {xs : List Int} (hb : Below w0.heap.size w0 W) (hv : OwnI 3 W v xs w0.heap.size W.heap.size) :
    Out w0 (W.heap.size + 1) (.slice (some ⟨W.heap.size, 0, none⟩) 1 1) 1 (fun _ => xs) ((W.alloc (.cells #[v] 39)).alloc (.cells #[.slice (some ⟨W.heap.size, 0, none⟩) 1 1] 26)) := by
  have s1 : (W.alloc (.cells #[v] 39)).heap.size = W.heap.size + 1 := World.size_alloc _ _
  have hz := hb.size
  have b1 := (Below.refl W.heap.size W).alloc (Nat.le_refl _) (.cells #[v] 39)
  have b2 := b1.alloc (by rw [s1]; omega) (.cells #[.slice (some ⟨W.heap.size, 0, none⟩) 1 1] 26)
  have r1 := World.rowIs_alloc W #[v] 39 (fun _ => v) (fun i hi => by
    obtain rfl : i = 0 := by simpa using hi
    rfl)
  have bx := Boxed.new (W.alloc (.cells #[v] 39)) 26 (.slice (some ⟨W.heap.size, 0, none⟩) 1 1)
  rw [s1] at bx
  refine ⟨hb.trans (b2.mono hz), bx, .inr ⟨W.heap.size, 1, fun _ => v, rfl, Nat.le_refl _, by decide, hz, by rw [World.size_alloc, s1]; omega, r1.alloc _, fun j _ => ?_, fun i j hij hj => absurd hj (by omega)⟩, by omega⟩
  exact (hv.wider (Nat.le_refl _) (by rw [World.size_alloc, s1]; omega)).kept fun b e => b2.block b (hv.block b e).2.1
end Go.Proofs.YtkjncgnclogfeaaDoor

/- An order that is new; no row of it yet. Plain facts on worlds: no function is walked here. -/
namespace Go.Proofs.YtkjncgnclogfeaaDoor
open Go.RowKit Go.Deep

/-- An order in new memory. -/
def OrdNew (N : Nat) (R : Nat → List Int) (w : World) (e : Ending) (w' : World) : Prop :=
  ∃ v, e = .returned (.agg #[v]) ∧ OwnR 3 39 w' v N R w.heap.size w'.heap.size ∧ Below w.heap.size w w'
/-- No row yet. -/
theorem Out.empty (w0 : World) (R : Nat → List Int) : Out w0 (w0.heap.size + 1) (.slice (some ⟨w0.heap.size, 0, none⟩) 0 0) 0 R ((w0.alloc (.cells #[] 39)).alloc (.cells #[.slice (some ⟨w0.heap.size, 0, none⟩) 0 0] 26)) := by
  have s1 : (w0.alloc (.cells #[] 39)).heap.size = w0.heap.size + 1 := World.size_alloc _ _
  have b1 := (Below.refl w0.heap.size w0).alloc (Nat.le_refl _) (.cells #[] 39)
  have b2 := b1.alloc (by rw [s1]; omega) (.cells #[.slice (some ⟨w0.heap.size, 0, none⟩) 0 0] 26)
  have r1 := World.rowIs_alloc w0 #[] 39 (fun _ => undef) (fun _ h => absurd h (Nat.not_lt_zero _))
  have bx := Boxed.new (w0.alloc (.cells #[] 39)) 26 (.slice (some ⟨w0.heap.size, 0, none⟩) 0 0)
  rw [s1] at bx
  exact ⟨b2, bx, .inr ⟨w0.heap.size, 0, _, rfl, Nat.le_refl _, Nat.zero_le _, Nat.le_refl _, by rw [World.size_alloc, s1]; omega, r1.alloc _, fun j hj => absurd hj (Nat.not_lt_zero _), fun i j _ hj => absurd hj (Nat.not_lt_zero _)⟩, Nat.le_succ _⟩
end Go.Proofs.YtkjncgnclogfeaaDoor

/- The model's order of some elements (l2Within). -/
namespace Go.Proofs.YtkjncgnclogfeaaDoor
open Go.RowKit Go.Deep

theorem infoBool : (Tryd.prog.info? 4).map (fun i => (i.zero, i.size, i.bytes)) = some (some (.bool false), 1, 1) := by kernel_rfl

/-- Is the a-th of some elements below the b-th? -/
def cutB (rows : Rows2) (xs : List Int) (a b : Nat) : Bool := upB rows (xs.getD a 0).toNat (xs.getD b 0)

theorem IntsAt.get2 {W : World} {A : Option Addr} {C : Nat} {xs : List Int} (h : IntsAt W (.slice A xs.length C) xs) {i j : Nat} (hi : i < xs.length) (hj : j < xs.length) :
    ∃ b o, A = some ⟨b, o, none⟩ ∧ W.cell? ⟨b, o + i, none⟩ = some (.int .i64 xs[i]) ∧ W.cell? ⟨b, o + j, none⟩ = some (.int .i64 xs[j]) := by
  obtain ⟨b1, o1, e1, h1⟩ := h.get hi
  obtain ⟨b2, o2, e2, h2⟩ := h.get hj
  rw [e1] at e2
  cases e2
  exact ⟨b1, o1, e1, h1, h2⟩

set_option maxRecDepth 100000 in
set_option maxHeartbeats 4000000 in
theorem l2Within_any (v vk : Value) (rows : Rows2) (xs : List Int) (w : World) (hv : RowsAt w v rows) (hk : IntsAt w vk xs) (hok : Ok rows) (hx : ∀ x ∈ xs, 0 ≤ x ∧ x < rows.length) (hl : xs.length ≤ 200) :
    Calls Tryd.prog 61 #[.agg #[v], vk] w (OrdNew xs.length (fun a => bRow (cutB rows xs) a xs.length) w) := by
  have s1 : (w.alloc (.cells #[v] 26)).heap.size = w.heap.size + 1 := World.size_alloc _ _
  have b2 := ((Below.refl w.heap.size w).alloc (Nat.le_refl _) (.cells #[v] 26)).alloc (by rw [s1]; omega) (.cells #[.slice none 0 0] 26)
  have hbA := (Boxed.new w 26 v).alloc (.cells #[.slice none 0 0] 26)
  have hbR := Boxed.new (w.alloc (.cells #[v] 26)) 26 (.slice none 0 0)
  have s2 : ((w.alloc (.cells #[v] 26)).alloc (.cells #[.slice none 0 0] 26)).heap.size = w.heap.size + 2 := by rw [World.size_alloc, s1]
  rw [s1] at hbR
  have HV := Lib.hid (fun W (h : Below w.heap.size w W) => hv.below h)
  have HX := Lib.hid (fun W (h : Below w.heap.size w W) => hk.below h)
  have HXR := Lib.hid hx
  have hbk := hok.bulk
  obtain ⟨A, C, rfl, hC, hm, _⟩ := hv
  obtain ⟨Ax, Cx, rfl, hCx, hmx, _⟩ := hk
  unfold maxLen at hm hmx
  generalize hw0 : ((w.alloc (.cells #[.slice A rows.length C] 26)).alloc (.cells #[.slice none 0 0] 26)) = w0 at b2 hbA hbR s2
  obtain ⟨i0, hi0, hz0, hz1, hz2⟩ := info_parts infoInt
  obtain ⟨j0, hj0, hy0, hy1, hy2⟩ := info_parts infoInts
  have hN := Out.empty w0 (fun a => bRow (cutB rows xs) a xs.length)
  rw [s2] at hN
  have B2 := Lib.hid b2
  have BA := Lib.hid hbA
  have BR := Lib.hid hbR
  have HOK := Lib.hid hok
  have S2 := Lib.hid s2
  have hmk := run_make_row' (P := Tryd.prog) 66 4 (.bool false) 1 Tryd.underlying66 infoBool rfl .i64 .i64 xs.length (by omega) (by omega)
  clear b2 hbA hbR hok hx s1
  go_enter Tryd.func61, Tryd.ntmps61
  go_upto_region 2 with fail
  clear hw0 s2
  generalize ((w0.alloc (.cells #[] 39)).alloc (.cells #[.slice (some ⟨w.heap.size + 2, 0, none⟩) 0 0] 26)) = wq at hN ⊢
  generalize w.heap.size + 2 + 1 = Z at hN ⊢
  have HST := Lib.hid hN
  clear hN
  go_wp2
  go_loopw [6] (fun av wx => ∃ (a : Nat) (u : Value), a ≤ xs.length ∧ av = .int .i64 a ∧ Out w0 Z u a (fun a => bRow (cutB rows xs) a xs.length) wx) (fun av _ => xs.length - (intOf av).toNat)
  case atStart => exact ⟨0, _, Nat.zero_le _, rfl, HST.out⟩
  case round =>
    obtain ⟨wo, hwo⟩ : ∃ wo : World, wo = wr := ⟨_, rfl⟩
    subst hwo
    obtain ⟨a, u, ha, rfl, ho⟩ := hrel
    have HK := Lib.hid ho
    obtain ⟨au, Cu, rfl⟩ := ho.own.form
    clear HST
    by_cases hlt : a < xs.length
    · have hltz : (a : Int) < (xs.length : Int) := by omega
      have HRW := Lib.hid (World.rowIs_made wo (.bool false) xs.length 4)
      have HBB := Lib.hid ((Below.refl wo.heap.size wo).alloc (Nat.le_refl _) (.cells (madeCells #[.bool false] xs.length) 4))
      clear ho
      go_upto_region 6 with fail
      generalize wo.alloc (.cells (madeCells #[.bool false] xs.length) 4) = wa at HRW HBB ⊢
      go_wp2
      go_loopw [8] (fun bv wx => ∃ b : Nat, b ≤ xs.length ∧ bv = .int .i64 b ∧ wx.rowIs wo.heap.size 4 xs.length (fun i => if i < b then .bool (cutB rows xs a i) else .bool false) ∧ Below wo.heap.size wo wx) (fun bv _ => xs.length - (intOf bv).toNat)
      case atStart => exact ⟨0, Nat.zero_le _, rfl, HRW.out.congr (fun i _ => by rw [if_neg (Nat.not_lt_zero i)]), HBB.out⟩
      case round =>
        obtain ⟨b, hb, rfl, hr, hB⟩ := hrel
        have HR := Lib.hid hr
        have HB := Lib.hid hB
        clear HRW HBB hB
        by_cases hbl : b < xs.length
        · have hbz : (b : Int) < (xs.length : Int) := by omega
          have hc := hr.cell hbl
          have hfz := hr.frozen b
          have hLz := hr.lt
          rw [if_neg (Nat.lt_irrefl b)] at hc
          have HOX := Lib.hid (HK.out.step HB.out)
          have HBW := Lib.hid (B2.out.trans (HOX.out.below.mono (by rw [S2.out]; omega)))
          have hcell := (HOX.out.below.cell (p := ⟨w.heap.size, 0, none⟩) (cell_lt BA.out.cell)).trans BA.out.cell
          obtain ⟨b1, o1, rfl, hxa, hxb⟩ := (HX.out wr HBW.out).get2 hlt hbl
          have hra := HXR.out _ (List.getElem_mem hlt)
          have hrb := HXR.out _ (List.getElem_mem hbl)
          obtain ⟨ka, hka⟩ : ∃ ka : Nat, xs[a] = (ka : Int) := ⟨xs[a].toNat, by omega⟩
          have hkl : ka < rows.length := by omega
          have HA := Lib.hid (show cutB rows xs a b = upB rows ka xs[b] by unfold cutB; rw [getD_lt 0 hlt, getD_lt 0 hbl, hka, Int.toNat_natCast])
          rw [hka] at hxa
          have hcE := l1Le_any (.slice A rows.length C) rows (ka : Int) ka xs[b] wr.drew ((HV.out wr HBW.out).below (below_drew wr _)) hkl rfl (HOK.out.asc ka hkl).1 hbk
          generalize hq : upB rows ka xs[b] = q at hcE
          have HQ := Lib.hid hq
          clear hr hka hra hrb hq
          go_upto_region 9 with fail
          go_region_law (go_simp; go_at_call 60; refine hcE.mono ?_; clear hcE; rintro e w3 ⟨rfl, hb3⟩; have HB3 := Lib.hid ((below_drew wr _).trans hb3); have hc3 : w3.cell? ⟨wo.heap.size, b, none⟩ = some (.bool false) := (HB3.out.cell (p := ⟨wo.heap.size, b, none⟩) hLz).trans hc; have hf3 : w3.frozen? ⟨wo.heap.size, b, none⟩ = false := (HB3.out.frozen (p := ⟨wo.heap.size, b, none⟩) hLz).trans hfz; clear hb3)
          all_goals
            go_wp2
            go_roundw
            case rel =>
              refine ⟨b + 1, by omega, by go_num, ((HR.out.of_block (HB3.out.block _ hLz)).set b (.bool q)).congr (fun i hi => ?_), (HB.out.trans (HB3.out.mono HB.out.size)).setCell (p := ⟨wo.heap.size, b, none⟩) (Nat.le_refl _) _⟩
              by_cases e : i = b
              · subst e; rw [if_pos (Nat.lt_succ_self i), HA.out, HQ.out]; simp
              · by_cases e2 : i < b
                · simp [e, e2, show i < b + 1 by omega]
                · simp [e, e2, show ¬ i < b + 1 by omega]
            case measure => simp [intOf]; omega
        · obtain rfl : b = xs.length := by omega
          have hbz : ¬ ((xs.length : Int) < (xs.length : Int)) := by omega
          have HOX := Lib.hid (HK.out.step HB.out)
          have hout := HOX.out.out.cell
          have hZ2 := HOX.out.out.lt
          have hb0 := HOX.out.below.size
          have HRO := Lib.hid (l2Row_any wo.heap.size xs.length xs.length (cutB rows xs a) wr.drew (by omega) (fun i hi => by have := HR.out.cell hi; rw [if_pos hi] at this; exact this))
          obtain ⟨f, hf0, hf1, hf2⟩ := HOX.out.own.owns
          have HF0 := Lib.hid hf0
          have HF1 := Lib.hid hf1
          have HF2 := Lib.hid hf2
          clear hf0 hf1 hf2 hr
          go_upto_region 10 with fail
          go_region_law (first | (go_simp; go_at_call 55; refine HRO.out.mono ?_; clear HRO; rintro e w2 ⟨v', rfl, hv', hb2⟩; obtain ⟨a2, C2, rfl⟩ := hv'.form; have HV2 := Lib.hid hv'; have HB2 := Lib.hid ((below_drew wr _).trans hb2); have HK2 := Lib.hid (HOX.out.step HB2.out); have HW0 := Lib.hid (owns_below HF0.out HB2.out); have hout2 := HK2.out.out.cell; have hout3 := cell_alloc_any hout2; have hz22 : wr.heap.size ≤ w2.heap.size := hb2.size; clear hv' hb2) | (refine step_append_lies _ (by rfl) _ _ 22 (by rfl) w0.heap.size 39 j0 (.slice none 0 0) 1 24 Tryd.underlying22 hj0 hy0 hy1 hy2 rfl (by decide) (.slice au a Cu) a ((List.range a).map f) (by rfl) (HW0.out.alloc _) ⟨w2.heap.size, 0, none⟩ 1 1 [.slice a2 (keptN (cutB rows xs a) xs.length).length C2] (by rfl) rfl (World.news_of_block (heap_alloc_new w2 _)) (by simp [Value.oneCell']) (by omega) (by unfold maxLen; omega) (by omega) (by simp; omega) (w2.heap.size + 1) (by simp) ?_; intro g' cap' w3 hown hgrow hat hlt'; have hfar := HK2.out.far HW0.out hgrow; have hc3 := hfar.cell; have hf3 := hfar.frozen; clear hfar))
          all_goals
            go_wp2
            go_roundw
            case rel =>
              refine ⟨a + 1, _, by omega, by go_num, (HOX.out.pushed HF0.out HF1.out HF2.out HB2.out HV2.out hown ⟨hgrow.os, hgrow.tape, hgrow.output, hgrow.size, hgrow.block⟩).congr fun j hj => ?_⟩
              by_cases e : j = a
              · subst e; rw [if_pos rfl]; rfl
              · rw [if_neg e]
            case measure => simp [intOf]; omega
    · obtain rfl : a = xs.length := by omega
      have hres := (ho.below.block _ (by rw [S2.out]; omega)).trans BR.out
      have hrc := Boxed.cell hres
      have hrf := Boxed.frozen hres
      have hout := ho.out.cell
      have hc9 := World.cell?_setCell_same' wo ⟨w.heap.size + 1, 0, none⟩ (.slice au xs.length Cu) (by rw [hrc]; rfl)
      clear ho hres
      go_wp2
      refine bodyPost_ret (v := .agg #[.slice au xs.length Cu]) (by simp [results, Tryd.results61, go_sem, hc9]) rfl ?_
      refine ⟨_, rfl, ?_, (B2.out.trans (HK.out.below.mono (by rw [S2.out]; omega))).setCell (p := ⟨w.heap.size + 1, 0, none⟩) (Nat.le_succ _) _⟩
      rw [size_setCell]
      exact (HK.out.own.kept fun b hb _ => Below.heap_setCell _ _ _ b (show b ≠ w.heap.size + 1 by have := S2.out; omega)).wider (by rw [S2.out]; omega) (Nat.le_refl _)
end Go.Proofs.YtkjncgnclogfeaaDoor

/- The program's domain of some elements of a domain, unbuilt: how many elements it has, and what is below what. -/
namespace Go.Proofs.YtkjncgnclogfeaaDoor
open Go.RowKit Go.Deep Go.Shelf

theorem run_cut_size (m : Nat) (v v' : Value) (w : World) : (Go.method (m + 1) 87 (.agg #[v, v']) "loop.example/scottdomains/impl.size").run Tryd.prog w = .ok (147, .agg #[v, v']) w := by kernel_rfl
theorem run_cut_below (m : Nat) (v v' : Value) (w : World) : (Go.method (m + 1) 87 (.agg #[v, v']) "loop.example/scottdomains/impl.below").run Tryd.prog w = .ok (146, .agg #[v, v']) w := by kernel_rfl

theorem cutSize_any (p : Nat) (ve : Value) (xs : List Int) (w : World) (hv : IntsAt w ve xs) :
    Calls Tryd.prog 147 #[.agg #[gridV p, ve]] w (SaysI ((xs.length : Nat) : Int) w) := by
  have b0 := (Below.refl w.heap.size w).alloc (Nat.le_refl _) (.cells #[gridV p, ve] 87)
  obtain ⟨hc, hc'⟩ := fresh2 w (gridV p) ve 87
  obtain ⟨A, C, rfl, _⟩ := hv
  have HB := Lib.hid b0
  clear b0
  go_enter Tryd.func147, Tryd.ntmps147
  go_wp2
  go_ret
  exact ⟨rfl, HB.out⟩

/-- Is the a-th of some elements of a grid below the b-th? -/
def cutG (g : Nat → Nat) (xs : List Int) (a b : Nat) : Bool := (g (xs.getD a 0).toNat).testBit (xs.getD b 0).toNat

set_option maxRecDepth 100000 in
set_option maxHeartbeats 4000000 in
theorem cutBelow_any (p : Nat) (g : Nat → Nat) (ve : Value) (xs : List Int) (a b : Nat) (w : World) (hg : GridAt w p g) (hv : IntsAt w ve xs) (hx : ∀ x ∈ xs, 0 ≤ x ∧ x < 200) (ha : a < xs.length) (hb : b < xs.length) :
    Calls Tryd.prog 146 #[.agg #[gridV p, ve], .int .i64 (a : Int), .int .i64 (b : Int)] w (SaysN (cutG g xs a b) w) := by
  have b0 := (Below.refl w.heap.size w).alloc (Nat.le_refl _) (.cells #[gridV p, ve] 87)
  have hs : w.heap.size ≤ (w.alloc (.cells #[gridV p, ve] 87)).heap.size := b0.size
  obtain ⟨hc, hc'⟩ := fresh2 w (gridV p) ve 87
  have hv1 := hv.below b0
  obtain ⟨A, C, rfl, hC, hm, _⟩ := hv
  unfold maxLen at hm
  obtain ⟨b1, o1, rfl, hxa, hxb⟩ := hv1.get2 ha hb
  have hra := hx _ (List.getElem_mem ha)
  have hrb := hx _ (List.getElem_mem hb)
  obtain ⟨ka, hka⟩ : ∃ ka : Nat, xs[a] = (ka : Int) := ⟨xs[a].toNat, by omega⟩
  obtain ⟨kb, hkb⟩ : ∃ kb : Nat, xs[b] = (kb : Int) := ⟨xs[b].toNat, by omega⟩
  rw [hka] at hxa
  rw [hkb] at hxb
  have HE := Lib.hid (show cutG g xs a b = (g ka).testBit kb by unfold cutG; rw [getD_lt 0 ha, getD_lt 0 hb, hka, hkb, Int.toNat_natCast, Int.toNat_natCast])
  have hy := fun d os => Calls.regrown_of (d := d) (os := os) (gbelow_any p g (ka : Int) (kb : Int) ka kb _ ((hg.below b0 hg.lt).below (below_regrown _ d os) (hg.below b0 hg.lt).lt) rfl (by omega) rfl (by omega))
  have hk0 := fun d os => cell_regrown hc d os
  have hk1 := fun d os => cell_regrown hc' d os
  have hk2 := fun d os => cell_regrown hxa d os
  have hk3 := fun d os => cell_regrown hxb d os
  have hmB := run_below
  have hmN := fun b w => run_nilAhead 264 b w
  have haz : (a : Int) < (xs.length : Int) := by omega
  have hbz : (b : Int) < (xs.length : Int) := by omega
  generalize (g ka).testBit kb = t at hy HE
  have HB := Lib.hid b0
  have HS := Lib.hid hs
  clear b0 hs hg hv1 hx hka hkb hra hrb hc hc' hxa hxb
  go_enter Tryd.func146, Tryd.ntmps146
  go_upto_region 1 with fail
  refine wp_region_quiet_below (by kernel_rfl) (by kernel_rfl) ?_
  repeat (go_big_quiet_step (first | (go_at_call 116; exact hy _ _)))
  refine wpQuiet_nil ?_
  intro _ hw'
  obtain ⟨⟨dq, osq⟩, hw''⟩ := hw'
  subst hw''
  clear hy hk0 hk1 hk2 hk3
  go_wp2
  go_ret
  exact ⟨by rw [HE.out]; rfl, HB.out.trans ((below_regrown _ dq osq).mono HS.out)⟩
end Go.Proofs.YtkjncgnclogfeaaDoor

/- A row that a relation makes, as a number. Plain facts: no function is walked here. -/
namespace Go.Proofs.YtkjncgnclogfeaaDoor
open Go.RowKit Go.Deep

/-- Row a of the rows that a relation makes, when b elements have been looked at. -/
def bNum (B : Nat → Nat → Bool) (a : Nat) : Nat → Nat
  | 0 => 0
  | b + 1 => if B a b then put (bNum B a b) b else bNum B a b
theorem bNum_bit (B : Nat → Nat → Bool) (a k : Nat) : ∀ n, (bNum B a n).testBit k = (decide (k < n) && B a k)
  | 0 => by simp [bNum]
  | n + 1 => by
    have ih := bNum_bit B a k n
    unfold bNum
    by_cases h : B a n = true
    · rw [if_pos h, testBit_put, ih]
      by_cases e : n = k
      · subst e; simp [h]
      · rw [decide_eq_false e, Bool.or_false]
        congr 1
        rw [decide_eq_decide]; omega
    · rw [if_neg h, ih]
      by_cases e : k = n
      · subst e; simp [h]
      · congr 1
        rw [decide_eq_decide]; omega
theorem bNum_lt (B : Nat → Nat → Bool) (a : Nat) : ∀ n, n ≤ 256 → bNum B a n < 2 ^ 256
  | 0, _ => Nat.two_pow_pos 256
  | n + 1, h => by
    have ih := bNum_lt B a n (by omega)
    unfold bNum
    split
    · exact put_lt ih (by omega)
    · exact ih
end Go.Proofs.YtkjncgnclogfeaaDoor

/- The rows of a domain that is not built yet, as numbers (rowsOf), and its order (built). -/
namespace Go.Proofs.YtkjncgnclogfeaaDoor
open Go.RowKit Go.Deep Go.Shelf

theorem bNum_elems (B : Nat → Nat → Bool) (a : Nat) {n : Nat} (h : n ≤ 256) : intsOf (elems (bNum B a n)) = bRow B a n := by
  unfold intsOf elems bRow
  congr 1
  have hf : (fun b => (bNum B a n).testBit b) = fun k => decide (k < n) && B a k := by funext k; exact bNum_bit B a k n
  rw [hf]
  obtain ⟨m, hm⟩ : ∃ m, 256 = n + m := ⟨256 - n, by omega⟩
  rw [hm, List.range_add, List.filter_append]
  have h1 : (List.filter (fun k => decide (k < n) && B a k) (List.range n)) = List.filter (fun k => B a k) (List.range n) := List.filter_congr fun k hk => by
    rw [List.mem_range] at hk
    rw [decide_eq_true hk, Bool.true_and]
  have h2 : List.filter (fun k => decide (k < n) && B a k) (List.map (fun x => n + x) (List.range m)) = [] := List.filter_eq_nil_iff.2 fun k hk => by
    obtain ⟨x, _, rfl⟩ := List.mem_map.1 hk
    rw [decide_eq_false (by omega)]
    simp
  rw [h1, h2, List.append_nil]
/-- All rows, when b elements of row a have been looked at. -/
def bG (B : Nat → Nat → Bool) (N a b q : Nat) : Nat := if q < a then bNum B q N else if q = a then bNum B a b else 0
theorem bG_start (B : Nat → Nat → Bool) (N : Nat) : bG B N 0 0 = fun _ => 0 := by
  funext q
  unfold bG
  rw [if_neg (Nat.not_lt_zero _)]
  split
  · rfl
  · rfl
theorem bG_yes {B : Nat → Nat → Bool} {N a b : Nat} (h : B a b = true) : bG B N a (b + 1) = fun j => if j = a then put (bG B N a b a) b else bG B N a b j := by
  funext q
  unfold bG
  by_cases e : q = a
  · subst e
    rw [if_neg (Nat.lt_irrefl _), if_pos rfl, if_pos rfl, if_neg (Nat.lt_irrefl _), if_pos rfl]
    show (if B q b = true then _ else _) = _
    rw [if_pos h]
  · rw [if_neg e, if_neg e, if_neg e]
theorem bG_no {B : Nat → Nat → Bool} {N a b : Nat} (h : B a b = false) : bG B N a (b + 1) = bG B N a b := by
  funext q
  unfold bG
  have e : bNum B a (b + 1) = bNum B a b := by
    show (if B a b = true then _ else _) = _
    rw [h]; rfl
  rw [e]
theorem bG_next (B : Nat → Nat → Bool) (N a : Nat) : bG B N a N = bG B N (a + 1) 0 := by
  funext q
  unfold bG
  by_cases e : q = a
  · subst e
    rw [if_neg (Nat.lt_irrefl _), if_pos rfl, if_pos (Nat.lt_succ_self _)]
  · by_cases e2 : q < a
    · rw [if_pos e2, if_pos (by omega)]
    · rw [if_neg e2, if_neg e, if_neg (by omega)]
      split
      · rfl
      · rfl
/-- The rows of the domain. -/
def madeG (B : Nat → Nat → Bool) (N : Nat) : Nat → Nat := bG B N N 0
theorem madeG_lt {B : Nat → Nat → Bool} {N q : Nat} (h : q < N) : madeG B N q = bNum B q N := by unfold madeG bG; rw [if_pos h]
theorem madeG_out {B : Nat → Nat → Bool} {N q : Nat} (h : N ≤ q) : madeG B N q = 0 := by
  unfold madeG bG
  rw [if_neg (by omega)]
  split
  · rfl
  · rfl
theorem madeG_bit (B : Nat → Nat → Bool) (N q k : Nat) : (madeG B N q).testBit k = (decide (q < N) && decide (k < N) && B q k) := by
  by_cases h : q < N
  · rw [madeG_lt h, bNum_bit, decide_eq_true h, Bool.true_and]
  · rw [madeG_out (by omega), Nat.zero_testBit, decide_eq_false h]; rfl
theorem madeG_gridN {B : Nat → Nat → Bool} {N : Nat} (hN : N ≤ 200) (hr : ∀ q, q < N → B q q = true) : GridN (madeG B N) N :=
  ⟨hN, fun i hi h => (by
    have e := madeG_bit B N i i
    rw [h, Nat.zero_testBit, decide_eq_true hi, hr i hi] at e
    cases e), fun _ => madeG_out (Nat.le_refl _)⟩

/-- What rowsOf answers: none, or rows in memory of their own. -/
def RowsNo (w : World) (e : Ending) (w' : World) : Prop := e = .returned (.tuple #[.pointer none, .bool false]) ∧ Below w.heap.size w w'
def RowsYes (G : Nat → Nat) (w : World) (e : Ending) (w' : World) : Prop :=
  (∃ p : Nat, e = .returned (.tuple #[.pointer (some ⟨p, 0, none⟩), .bool true]) ∧ w.heap.size ≤ p ∧ GridAt w' p G) ∧ Below w.heap.size w w'

/-- While the rows are laid; K is what of the domain's own memory is needed. -/
structure RwG (w : World) (K : World → Prop) (p : Nat) (G : Nat → Nat) (W : World) : Prop where
  kept : K W
  grid : GridAt W p G
  own : w.heap.size ≤ p
  below : Below w.heap.size w W
theorem RwG.step {w : World} {K : World → Prop} {p : Nat} {G : Nat → Nat} {W W' : World} (hK : Stays w K) (h : RwG w K p G W) (hb : Below W.heap.size W W') : RwG w K p G W' :=
  ⟨hK W W' (hb.mono h.below.size) h.kept, h.grid.below hb h.grid.lt, h.own, h.below.trans (hb.mono h.below.size)⟩
theorem RwG.put {w : World} {K : World → Prop} {p : Nat} {G : Nat → Nat} {W : World} (hK : Stays w K) (h : RwG w K p G W) {k i : Nat} (hk : k < 200) (hi : i < 200) (m : Nat) :
    RwG w K p (fun j => if j = k then put (G k) i else G j) ((W.drewN m).setCell ⟨p, k * 4 + i / 64, none⟩ (.int .u64 ((word (G k) (i / 64) ||| 2 ^ (i % 64) : Nat) : Int))) := by
  have hb := below_put (Below.refl w.heap.size W) m (q := p) h.own (k * 4 + i / 64) (.int .u64 ((word (G k) (i / 64) ||| 2 ^ (i % 64) : Nat) : Int))
  exact ⟨hK _ _ hb h.kept, h.grid.putAt hk (by omega) m, h.own, h.below.trans hb⟩

set_option maxRecDepth 100000 in
set_option maxHeartbeats 4000000 in
/-- An order of too many elements is not made. -/
theorem built_no (x : Value) (w : World) (h : ∀ W, Below w.heap.size w W → Calls Tryd.prog 81 #[x] W (RowsNo W)) :
    Calls Tryd.prog 50 #[x] w (RowsG 0 (fun _ => []) false w) := by
  have b0 := (Below.refl w.heap.size w).alloc (Nat.le_refl _) (.cells #[.slice none 0 0] 26)
  have hbx := Boxed.new w 26 (.slice none 0 0)
  have hc1 := h _ b0
  have HBX := Lib.hid hbx
  have HB0 := Lib.hid b0
  clear b0 hbx h
  go_enter Tryd.func50, Tryd.ntmps50
  go_wp2_with (go_at_call 81; refine hc1.mono ?_; clear hc1; rintro e w1 ⟨rfl, hb1⟩; have HBX1 : Hid (Boxed w1 w.heap.size 26 (.slice none 0 0)) := Lib.hid ((hb1.block _ HBX.out.lt).trans HBX.out); have HB1 := Lib.hid (HB0.out.trans (hb1.mono HB0.out.size)); have hres := HBX1.out.cell; have hfr := HBX1.out.frozen; clear hb1)
  have hc9 := World.cell?_setCell_same' w1 ⟨w.heap.size, 0, none⟩ (.slice none 0 0) (by rw [hres]; rfl)
  refine bodyPost_ret (v := .tuple #[.agg #[.slice none 0 0], .bool false]) (by simp [results, Tryd.results50, go_sem, hc9]) rfl ?_
  exact ⟨_, rfl, OwnR.nil _ _ _ _ _ _, HB1.out.setCell (p := ⟨w.heap.size, 0, none⟩) (Nat.le_refl _) _⟩

set_option maxRecDepth 100000 in
set_option maxHeartbeats 4000000 in
theorem built_yes (x : Value) (B : Nat → Nat → Bool) (N : Nat) (w : World) (hT : Tab w) (hN : N ≤ 200) (hr : ∀ q, q < N → B q q = true) (h : ∀ W, Below w.heap.size w W → Calls Tryd.prog 81 #[x] W (RowsYes (madeG B N) W)) :
    Calls Tryd.prog 50 #[x] w (RowsG N (fun q => bRow B q N) true w) := by
  have b0 := (Below.refl w.heap.size w).alloc (Nat.le_refl _) (.cells #[.slice none 0 0] 26)
  have hbx := Boxed.new w 26 (.slice none 0 0)
  have hc1 := h _ b0
  have HBX := Lib.hid hbx
  have HB0 := Lib.hid b0
  have HORD := Lib.hid (fun W p (hg : GridAt W p (madeG B N)) (hW : Below w.heap.size w W) => order_any p N (madeG B N) W hg (hT.below hW) (madeG_gridN hN hr))
  clear b0 hbx h hr hT
  go_enter Tryd.func50, Tryd.ntmps50
  go_wp2_with (first | (go_at_call 81; refine hc1.mono ?_; clear hc1; rintro e w1 ⟨⟨p, rfl, _, hg⟩, hb1⟩; have HG := Lib.hid hg; have HBX1 : Hid (Boxed w1 w.heap.size 26 (.slice none 0 0)) := Lib.hid ((hb1.block _ HBX.out.lt).trans HBX.out); have HB1 := Lib.hid (HB0.out.trans (hb1.mono HB0.out.size)); clear hb1 hg) | (go_at_call 82; refine (HORD.out _ p HG.out HB1.out).mono ?_; rintro e w2 ⟨u, rfl, hu, hb2⟩; obtain ⟨a2, C2, rfl⟩ := hu.form; have HU := Lib.hid hu; have HBX2 : Hid (Boxed w2 w.heap.size 26 (.slice none 0 0)) := Lib.hid ((hb2.block _ HBX1.out.lt).trans HBX1.out); have HB2 := Lib.hid (HB1.out.trans (hb2.mono HB1.out.size)); have hres := HBX2.out.cell; have hfr := HBX2.out.frozen; clear hu hb2))
  have hc9 := World.cell?_setCell_same' w2 ⟨w.heap.size, 0, none⟩ (.slice a2 N C2) (by rw [hres]; rfl)
  have hw1 : w.heap.size < w1.heap.size := HBX1.out.lt
  refine bodyPost_ret (v := .tuple #[.agg #[.slice a2 N C2], .bool true]) (by simp [results, Tryd.results50, go_sem, hc9]) rfl ?_
  refine ⟨_, rfl, ?_, HB2.out.setCell (p := ⟨w.heap.size, 0, none⟩) (Nat.le_refl _) _⟩
  rw [size_setCell]
  exact ((HU.out.kept fun b hb _ => Below.heap_setCell _ _ _ b (show b ≠ w.heap.size by omega)).wider (by omega) (Nat.le_refl _)).congr fun q hq => by rw [madeG_lt hq]; exact bNum_elems B q (by omega)
end Go.Proofs.YtkjncgnclogfeaaDoor

/- The walks of rowsOf and built at cut. -/
namespace Go.Proofs.YtkjncgnclogfeaaDoor
open Go.RowKit Go.Deep Go.Shelf

set_option maxRecDepth 100000 in
set_option maxHeartbeats 4000000 in
theorem cutRows_yes (p : Nat) (g : Nat → Nat) (ve : Value) (xs : List Int) (N : Nat) (w : World) (hg : GridAt w p g) (hv : IntsAt w ve xs) (hx : ∀ x ∈ xs, 0 ≤ x ∧ x < 200) (hN : N = xs.length) (hN2 : N ≤ 200) :
    Calls Tryd.prog 81 #[.iface 87 (.agg #[.iface 54 (.pointer (some ⟨p, 0, none⟩)), ve])] w (RowsYes (madeG (cutG g xs) N) w) := by
  have hK : Stays w (fun W => Below w.heap.size w W) := fun _ _ hb hk => hk.trans hb
  have hcall0 := fun W (hk : (fun W => Below w.heap.size w W) W) => cutSize_any p ve xs W (hv.below hk)
  have hk0 : (fun W => Below w.heap.size w W) w := (Below.refl _ _)
  have hcall := hcall0 _ hk0
  rw [← hN] at hcall
  have HBC := Lib.hid (fun (a b : Nat) (ha : a < N) (hb : b < N) W (hk : (fun W => Below w.heap.size w W) W) => cutBelow_any p g ve xs a b W (hg.below hk hg.lt) (hv.below hk) hx (by rw [← hN]; exact ha) (by rw [← hN]; exact hb))
  have hmS := run_cut_size
  have hmB := run_cut_below
  have hN3 : ¬ ((200 : Int) < (N : Int)) := by omega
  have hz := (zero_of_info zeroGrid).1
  have HK0 := Lib.hid hk0
  have HKK := Lib.hid hK
  clear hg hv hx hN hcall0 hk0 hK
  go_enter Tryd.func81, Tryd.ntmps81
  go_wp2_with (go_at_call 147; refine hcall.mono ?_; clear hcall; rintro e w1 ⟨rfl, hb1⟩; have HK1 := Lib.hid (HKK.out _ _ hb1 HK0.out); have HB1 := Lib.hid hb1; clear hb1)
  have bA := (Below.refl w1.heap.size w1).alloc (Nat.le_refl _) (.cells (gridCells fun _ => 0) 83)
  have HST := Lib.hid (show RwG w (fun W => Below w.heap.size w W) w1.heap.size (bG (cutG g xs) N 0 0) (w1.alloc (.cells (gridCells fun _ => 0) 83)) from
    ⟨HKK.out _ _ (bA.mono HB1.out.size) HK1.out, by rw [bG_start]; exact store_new w1, HB1.out.size, HB1.out.trans (bA.mono HB1.out.size)⟩)
  clear bA hz
  go_loopw [6, 13] (fun _ av wr => ∃ a : Nat, a ≤ N ∧ av = .int .i64 a ∧ RwG w (fun W => Below w.heap.size w W) w1.heap.size (bG (cutG g xs) N a 0) wr) (fun _ av _ => N - (intOf av).toNat)
  case atStart => exact ⟨0, Nat.zero_le _, rfl, HST.out⟩
  case round =>
    obtain ⟨a, ha, rfl, ht⟩ := hrel
    have HT := Lib.hid ht
    clear HST ht
    by_cases hal : a < N
    · go_wp2
      go_loopw [7, 17] (fun _ bv wr => ∃ b : Nat, b ≤ N ∧ bv = .int .i64 b ∧ RwG w (fun W => Below w.heap.size w W) w1.heap.size (bG (cutG g xs) N a b) wr) (fun _ bv _ => N - (intOf bv).toNat)
      case atStart => exact ⟨0, Nat.zero_le _, rfl, HT.out⟩
      case round =>
        obtain ⟨b, hb, rfl, ht⟩ := hrel
        have HK := Lib.hid ht
        clear ht HT
        by_cases hbl : b < N
        · have hcall := HBC.out a b hal hbl wr HK.out.kept
          cases hbit : (cutG g xs) a b with
          | false =>
            rw [hbit] at hcall
            have HE := Lib.hid (bG_no (N := N) hbit)
            clear hbit
            go_wp2_with (go_at_call 146; refine hcall.mono ?_; clear hcall; rintro e w2 ⟨rfl, hb2⟩; have H2 := Lib.hid (HK.out.step HKK.out hb2); clear hb2)
            go_roundw
            case rel => exact ⟨b + 1, by omega, by go_num, by rw [HE.out]; exact H2.out⟩
            case measure => simp [intOf]; omega
          | true =>
            rw [hbit] at hcall
            have HE := Lib.hid (bG_yes (N := N) hbit)
            have ha200 : a < 200 := by omega
            have hb200 : b < 200 := by omega
            have ha0 : (0 : Int) ≤ (a : Int) := by omega
            have ha1 : (a : Int) < 200 := by omega
            clear hbit
            go_wp2_with (first | (go_at_call 146; refine hcall.mono ?_; clear hcall; rintro e w2 ⟨rfl, hb2⟩; have H2 := Lib.hid (HK.out.step HKK.out hb2); have hadd := addTo_any w1.heap.size a b (b : Int) _ w2 H2.out.grid ha200 hb200 rfl; clear hb2) | (go_at_call 88; refine hadd.mono ?_; clear hadd; rintro e w3 ⟨rfl, m, rfl⟩))
            go_roundw
            case rel => exact ⟨b + 1, by omega, by go_num, by rw [HE.out]; exact H2.out.put HKK.out ha200 hb200 m⟩
            case measure => simp [intOf]; omega
        · obtain rfl : b = N := by omega
          go_wp2
          go_roundw
          case rel => exact ⟨a + 1, by omega, by go_num, by rw [← bG_next]; exact HK.out⟩
          case measure => simp [intOf]; omega
    · obtain rfl : a = N := by omega
      go_wp2
      go_ret2
      exact ⟨⟨w1.heap.size, rfl, HT.out.own, HT.out.grid⟩, HT.out.below⟩
theorem cutBuilt_yes (p : Nat) (g : Nat → Nat) (ve : Value) (xs : List Int) (N : Nat) (w : World) (hg : GridAt w p g) (hv : IntsAt w ve xs) (hx : ∀ x ∈ xs, 0 ≤ x ∧ x < 200) (hN : N = xs.length) (hN2 : N ≤ 200) (hT : Tab w) (hrf : ∀ q, q < N → (cutG g xs) q q = true) :
    Calls Tryd.prog 50 #[.iface 87 (.agg #[.iface 54 (.pointer (some ⟨p, 0, none⟩)), ve])] w (RowsG N (fun q => bRow (cutG g xs) q N) true w) :=
  built_yes _ (cutG g xs) N w hT hN2 hrf fun W hB => cutRows_yes p g ve xs N W (hg.below hB hg.lt) (hv.below hB) hx hN hN2
end Go.Proofs.YtkjncgnclogfeaaDoor

/- Domains told by bits; orders made of a relation; meets in domains. Plain facts: no function is walked here. -/
namespace Go.Proofs.YtkjncgnclogfeaaDoor
open Go.RowKit Go.Deep

theorem bottomF_pos {g : Nat → Nat} {s : Nat} (hs : s < 2 ^ 256) : 0 ≤ bottomF g s ↔ ∃ k, s.testBit k = true ∧ g k = s := by
  unfold bottomF
  cases hf : (elems s).find? (fun k => g k == s) with
  | none =>
    rw [List.find?_eq_none] at hf
    constructor
    · intro h
      exact absurd h (by decide)
    · rintro ⟨k, hk, e⟩
      exact absurd (beq_iff_eq.2 e) (hf k ((mem_elems hs).2 hk))
  | some k =>
    have h1 := List.find?_some hf
    have h2 := List.mem_of_find?_eq_some hf
    exact ⟨fun _ => ⟨k, (mem_elems hs).1 h2, beq_iff_eq.1 h1⟩, fun _ => Int.natCast_nonneg k⟩

/-- A domain, told by bits. -/
def DomBits (rows : Rows2) : Prop := (∃ m, m < rows.length ∧ gridF rows m = allF rows.length) ∧ ∀ a b, a < rows.length → b < rows.length → gridF rows a &&& gridF rows b ≠ 0 → ∃ c, c < rows.length ∧ gridF rows c = gridF rows a &&& gridF rows b
theorem domI_iff {rows : Rows2} (h : Ok rows) : domI rows = true ↔ DomBits rows := by
  have hn := h.len
  have hbad : ∀ a b, a < rows.length → b < rows.length → (badB rows a b = false ↔ (gridF rows a &&& gridF rows b ≠ 0 → ∃ c, c < rows.length ∧ gridF rows c = gridF rows a &&& gridF rows b)) := by
    intro a b ha hb
    have hlt : gridF rows a &&& gridF rows b < 2 ^ 256 := Nat.and_lt_two_pow _ (h.lt b)
    have hpos := bottomF_pos (g := gridF rows) hlt
    rw [← badF_eq h ha hb]
    unfold badF
    rw [Bool.and_eq_false_iff, Bool.not_eq_false', decide_eq_true_iff, decide_eq_false_iff_not]
    constructor
    · rintro (e | e) h0
      · exact absurd e h0
      · obtain ⟨k, hk, e2⟩ := hpos.1 (by omega)
        rw [Nat.testBit_and, Bool.and_eq_true] at hk
        exact ⟨k, (h.bit_lt hk.1).2, e2⟩
    · intro hi
      by_cases e : gridF rows a &&& gridF rows b = 0
      · exact .inl e
      · obtain ⟨c, hc, e2⟩ := hi e
        right
        have := hpos.2 ⟨c, by rw [← e2]; exact h.own c hc, e2⟩
        omega
  have hl : 0 ≤ leastI rows ↔ ∃ m, m < rows.length ∧ gridF rows m = allF rows.length := by
    rw [least_eq h, bottomF_pos (allF_lt (by omega))]
    constructor
    · rintro ⟨k, hk, e⟩
      rw [testBit_allF, decide_eq_true_iff] at hk
      exact ⟨k, hk, e⟩
    · rintro ⟨m, hm, e⟩
      exact ⟨m, by rw [testBit_allF]; exact decide_eq_true hm, e⟩
  constructor
  · intro hd
    have h1 : 0 ≤ leastI rows := by
      rcases Int.lt_or_le (leastI rows) 0 with h1 | h1
      · rw [domI_least h1] at hd; cases hd
      · exact h1
    refine ⟨hl.1 h1, fun a b ha hb hne => ?_⟩
    have hb' : ∀ a b, a < rows.length → b < a → badB rows a b = false := fun a b ha hb => by
      cases hq : badB rows a b with
      | false => rfl
      | true => rw [domI_bad ha hb hq] at hd; cases hd
    rcases Nat.lt_trichotomy b a with hlt | rfl | hlt
    · exact (hbad a b ha hb).1 (hb' a b ha hlt) hne
    · exact ⟨b, hb, (Nat.and_self _).symm⟩
    · obtain ⟨c, hc, e⟩ := (hbad b a hb ha).1 (hb' b a hb hlt) (by rw [Nat.and_comm]; exact hne)
      exact ⟨c, hc, by rw [e, Nat.and_comm]⟩
  · rintro ⟨h1, h2⟩
    exact domI_yes (hl.2 h1) fun a ha b hb => (hbad a b ha (by omega)).2 (h2 a b ha (by omega))
theorem domB_iff {rows : Rows2} : domB rows = true ↔ Ok rows ∧ DomBits rows := by
  unfold domB
  rw [Bool.and_eq_true]
  constructor
  · rintro ⟨h1, h2⟩
    exact ⟨ok_of_valid h1, (domI_iff (ok_of_valid h1)).1 h2⟩
  · rintro ⟨h1, h2⟩
    exact ⟨valid_of_ok h1, (domI_iff h1).2 h2⟩

theorem bRow_mem {B : Nat → Nat → Bool} {a N : Nat} (j : Int) : j ∈ bRow B a N ↔ ∃ k : Nat, k < N ∧ B a k = true ∧ j = (k : Int) := by
  unfold bRow
  rw [List.mem_map]
  constructor
  · rintro ⟨k, hk, rfl⟩
    rw [List.mem_filter, List.mem_range] at hk
    exact ⟨k, hk.1, hk.2, rfl⟩
  · rintro ⟨k, h1, h2, rfl⟩
    exact ⟨k, List.mem_filter.2 ⟨List.mem_range.2 h1, h2⟩, rfl⟩
theorem bRow_asc (B : Nat → Nat → Bool) (a N : Nat) : Asc (bRow B a N) := by
  have hp : ((List.range N).filter fun i => B a i).Pairwise (· < ·) := List.Pairwise.filter _ List.pairwise_lt_range
  intro i j hij hj
  unfold bRow at hj ⊢
  rw [List.length_map] at hj
  rw [List.getElem_map, List.getElem_map]
  have := (List.pairwise_iff_getElem.1 hp) i j (by omega) hj hij
  omega
/-- The order of N elements that a relation makes. -/
def madeL (B : Nat → Nat → Bool) (N : Nat) : Rows2 := (List.range N).map fun q => bRow B q N
theorem madeL_len (B : Nat → Nat → Bool) (N : Nat) : (madeL B N).length = N := by simp [madeL]
theorem madeL_at {B : Nat → Nat → Bool} {N q : Nat} (hq : q < (madeL B N).length) : (madeL B N)[q] = bRow B q N := by simp [madeL]
theorem made_asc (B : Nat → Nat → Bool) (N : Nat) (i : Nat) (hi : i < (madeL B N).length) : Asc (madeL B N)[i] ∧ ∀ x ∈ (madeL B N)[i], 0 ≤ x ∧ x < (madeL B N).length := by
  rw [madeL_at, madeL_len]
  refine ⟨bRow_asc B i N, fun x hx => ?_⟩
  obtain ⟨k, hk, _, rfl⟩ := (bRow_mem x).1 hx
  omega
theorem made_bit (B : Nat → Nat → Bool) {N q : Nat} (hq : q < N) (j : Nat) : (gridF (madeL B N) q).testBit j = (decide (j < N) && B q j) := by
  have hq' : q < (madeL B N).length := by rw [madeL_len]; exact hq
  rw [grid_bit hq' ((ascB_iff _ _).2 (made_asc B N q hq')), madeL_at, Bool.eq_iff_iff, decide_eq_true_iff, bRow_mem, Bool.and_eq_true, decide_eq_true_iff]
  constructor
  · rintro ⟨k, h1, h2, e⟩
    obtain rfl : j = k := by omega
    exact ⟨h1, h2⟩
  · rintro ⟨h1, h2⟩
    exact ⟨j, h1, h2, rfl⟩
theorem made_ok {B : Nat → Nat → Bool} {N : Nat} (h1 : 1 ≤ N) (h2 : N ≤ 200) (hr : ∀ a, a < N → B a a = true) (ha : ∀ a b, a < N → b < N → B a b = true → b ≠ a → B b a = false)
    (ht : ∀ a b c, a < N → b < N → c < N → B a b = true → B b c = true → B a c = true) : Ok (madeL B N) := by
  refine ⟨by rw [madeL_len]; exact ⟨h1, h2⟩, made_asc B N, fun i hi => ?_, fun i j hi hj hne => ?_, fun i j hi hj m hm => ?_⟩
  · rw [madeL_len] at hi
    rw [made_bit B hi, hr i hi, decide_eq_true hi]
    rfl
  · rw [madeL_len] at hi
    rw [made_bit B hi, Bool.and_eq_true, decide_eq_true_iff] at hj
    rw [made_bit B hj.1, ha i j hi hj.1 hj.2 hne, Bool.and_false]
  · rw [madeL_len] at hi
    rw [made_bit B hi, Bool.and_eq_true, decide_eq_true_iff] at hj
    rw [made_bit B hj.1, Bool.and_eq_true, decide_eq_true_iff] at hm
    rw [made_bit B hi, ht i j m hi hj.1 hm.1 hj.2 hm.2, decide_eq_true hm.1]
    rfl
theorem made_dom {B : Nat → Nat → Bool} {N : Nat} (h1 : 1 ≤ N) (h2 : N ≤ 200) (hr : ∀ a, a < N → B a a = true) (ha : ∀ a b, a < N → b < N → B a b = true → b ≠ a → B b a = false)
    (ht : ∀ a b c, a < N → b < N → c < N → B a b = true → B b c = true → B a c = true) (hl : ∃ m, m < N ∧ ∀ k, k < N → B m k = true)
    (hj : ∀ a b, a < N → b < N → (∃ c, c < N ∧ B a c = true ∧ B b c = true) → ∃ c, c < N ∧ ∀ k, k < N → B c k = (B a k && B b k)) : domB (madeL B N) = true := by
  refine domB_iff.2 ⟨made_ok h1 h2 hr ha ht, ?_, ?_⟩
  · obtain ⟨m, hm, hk⟩ := hl
    refine ⟨m, by rw [madeL_len]; exact hm, ?_⟩
    rw [madeL_len]
    apply Nat.eq_of_testBit_eq
    intro k
    rw [made_bit B hm, testBit_allF]
    by_cases hlt : k < N
    · rw [hk k hlt, Bool.and_true]
    · rw [decide_eq_false hlt, Bool.false_and]
  · intro a b ha' hb' hne
    rw [madeL_len] at ha' hb' ⊢
    obtain ⟨c, hc⟩ := Nat.exists_testBit_of_ne_zero hne
    rw [Nat.testBit_and, made_bit B ha', made_bit B hb', Bool.and_eq_true, Bool.and_eq_true, Bool.and_eq_true, decide_eq_true_iff] at hc
    obtain ⟨d, hd, hk⟩ := hj a b ha' hb' ⟨c, hc.1.1, hc.1.2, hc.2.2⟩
    refine ⟨d, hd, ?_⟩
    apply Nat.eq_of_testBit_eq
    intro k
    rw [Nat.testBit_and, made_bit B hd, made_bit B ha', made_bit B hb']
    by_cases hlt : k < N
    · rw [hk k hlt, decide_eq_true hlt]
      simp
    · rw [decide_eq_false hlt]
      simp

theorem lens_cut {rows : Rows2} {m n : Nat} (hl : rows.length ≤ n) (h : ∀ r ∈ rows, r.length ≤ m) : bulk rows ≤ n + n * m := by
  unfold bulk
  have h1 := sum_le (m := m) (rows.map List.length) fun x hx => by
    obtain ⟨r, hr, rfl⟩ := List.mem_map.1 hx
    exact h r hr
  rw [List.length_map] at h1
  have h2 := Nat.mul_le_mul_right m hl
  omega
theorem made_small {B : Nat → Nat → Bool} {N : Nat} (h : N ≤ 200) : bulk (madeL B N) ≤ 1048576 := by
  have hb := lens_cut (rows := madeL B N) (n := 200) (m := 200) (by rw [madeL_len]; exact h) (fun r hr => by
    unfold madeL at hr
    obtain ⟨q, _, rfl⟩ := List.mem_map.1 hr
    exact Nat.le_trans (bRow_len _ _ _) h)
  omega
/-- The relation of a grid. -/
def bitB (g : Nat → Nat) (a b : Nat) : Bool := (g a).testBit b

/-- In a domain each two elements have a meet. -/
theorem meet_there {rows : Rows2} (h : domB rows = true) {a b : Nat} (ha : a < rows.length) (hb : b < rows.length) : ∃ c, c < rows.length ∧ joinI (backRows rows) a b = (c : Int) := by
  obtain ⟨ok, ⟨m, hm, hme⟩, hjn⟩ := domB_iff.1 h
  have hleast : ∀ x, x < rows.length → (gridF rows m).testBit x = true := fun x hx => by rw [hme, testBit_allF]; exact decide_eq_true hx
  have key : ∀ k, k ≤ rows.length → ∃ c, c < rows.length ∧ (gridF rows c).testBit a = true ∧ (gridF rows c).testBit b = true ∧ ∀ x, x < k → (gridF rows x).testBit a = true → (gridF rows x).testBit b = true → (gridF rows x).testBit c = true := by
    intro k
    induction k with
    | zero => exact fun _ => ⟨m, hm, hleast a ha, hleast b hb, fun x hx => absurd hx (Nat.not_lt_zero _)⟩
    | succ k ih =>
      intro hk
      obtain ⟨c, hc, hca, hcb, hx⟩ := ih (by omega)
      by_cases hka : (gridF rows k).testBit a = true ∧ (gridF rows k).testBit b = true
      · have hne : gridF rows c &&& gridF rows k ≠ 0 := fun e => by
          have := congrArg (fun n => n.testBit a) e
          simp only [Nat.testBit_and, hca, hka.1, Nat.zero_testBit] at this
          cases this
        obtain ⟨d, hd, e⟩ := hjn c k hc (by omega) hne
        have hbit : ∀ x, (gridF rows d).testBit x = ((gridF rows c).testBit x && (gridF rows k).testBit x) := fun x => by rw [e, Nat.testBit_and]
        have hown := ok.own d hd
        rw [hbit, Bool.and_eq_true] at hown
        refine ⟨d, hd, by rw [hbit, hca, hka.1]; rfl, by rw [hbit, hcb, hka.2]; rfl, fun x hxk h1 h2 => ?_⟩
        by_cases exk : x = k
        · subst exk; exact hown.2
        · exact ok.trans x c (by omega) (hx x (by omega) h1 h2) d hown.1
      · refine ⟨c, hc, hca, hcb, fun x hxk h1 h2 => ?_⟩
        by_cases exk : x = k
        · subst exk; exact absurd ⟨h1, h2⟩ hka
        · exact hx x (by omega) h1 h2
  obtain ⟨c, hc, hca, hcb, hx⟩ := key rows.length (Nat.le_refl _)
  have hlen := backRows_len rows
  have hb9 := ok.back
  have hbits : gridF (backRows rows) c = gridF (backRows rows) a &&& gridF (backRows rows) b := by
    apply Nat.eq_of_testBit_eq
    intro x
    rw [Nat.testBit_and, back_bit ok, back_bit ok, back_bit ok, Bool.eq_iff_iff, Bool.and_eq_true]
    constructor
    · intro h1
      have hxl := (ok.bit_lt h1).1
      exact ⟨ok.trans x c hxl h1 a hca, ok.trans x c hxl h1 b hcb⟩
    · rintro ⟨h1, h2⟩
      exact hx x (ok.bit_lt h1).1 h1 h2
  have hpos : 0 ≤ joinI (backRows rows) a b := by
    rw [join_eq hb9 (by rw [hlen]; exact ha) (by rw [hlen]; exact hb), bottomF_pos (Nat.and_lt_two_pow _ (hb9.lt b))]
    exact ⟨c, by rw [← hbits]; exact hb9.own c (by rw [hlen]; exact hc), hbits⟩
  have hbd : joinI (backRows rows) a b < rows.length := by
    rw [join_eq hb9 (by rw [hlen]; exact ha) (by rw [hlen]; exact hb)] at hpos ⊢
    unfold bottomF at hpos ⊢
    cases hf : (elems (gridF (backRows rows) a &&& gridF (backRows rows) b)).find? (fun k => gridF (backRows rows) k == gridF (backRows rows) a &&& gridF (backRows rows) b) with
    | none => rw [hf] at hpos; exact absurd hpos (by decide)
    | some k =>
      have h2 := List.mem_of_find?_eq_some hf
      rw [mem_elems (Nat.and_lt_two_pow _ (hb9.lt b)), Nat.testBit_and, Bool.and_eq_true] at h2
      have := (hb9.bit_lt h2.1).2
      rw [hlen] at this
      show (k : Int) < _
      omega
  exact ⟨(joinI (backRows rows) a b).toNat, by omega, by omega⟩
end Go.Proofs.YtkjncgnclogfeaaDoor

/- The elements below an element: what DomainCut answers. Plain facts: no function is walked here. -/
namespace Go.Proofs.YtkjncgnclogfeaaDoor
open Go.RowKit Go.Deep

noncomputable def cutOk (rows : Rows2) (top : Int) : Bool := domB rows && decide (0 ≤ top ∧ top < rows.length)
/-- All elements below an element. -/
def cutK (rows : Rows2) (top : Int) : List Int := keptN (fun i => upB rows i top) rows.length
noncomputable def cutL (rows : Rows2) (top : Int) : Rows2 := if cutOk rows top = true then madeL (cutB rows (cutK rows top)) (cutK rows top).length else []
theorem cutL_yes {rows : Rows2} {top : Int} (h : cutOk rows top = true) : (cutL rows top).length = (cutK rows top).length ∧ ∀ q, q < (cutK rows top).length → rowsF (cutL rows top) q = bRow (cutB rows (cutK rows top)) q (cutK rows top).length := by
  unfold cutL
  rw [if_pos h, madeL_len]
  refine ⟨rfl, fun q hq => ?_⟩
  rw [rowsF_lt (by rw [madeL_len]; exact hq), madeL_at]
theorem cutL_no {rows : Rows2} {top : Int} (h : cutOk rows top = false) : cutL rows top = [] := by unfold cutL; rw [if_neg (by rw [h]; simp)]
theorem bRow_congr {B B' : Nat → Nat → Bool} {a N : Nat} (h : ∀ k, k < N → B a k = B' a k) : bRow B a N = bRow B' a N := by
  unfold bRow
  rw [List.filter_congr fun k hk => h k (List.mem_range.1 hk)]
theorem cutK_elems {rows : Rows2} (h : Ok rows) {t : Nat} (ht : t < rows.length) : intsOf (elems (gridF (backRows rows) t)) = cutK rows (t : Int) := by
  have hb : t < (backRows rows).length := by rw [backRows_len]; exact ht
  have e := h.back.elems hb
  rw [backRows_at] at e
  unfold intsOf cutK keptN
  rw [← e]
  unfold backRow
  rw [List.filter_congr fun k hk => (h.up (List.mem_range.1 hk) t).symm]
theorem cutK_range (rows : Rows2) (top : Int) : ∀ x ∈ cutK rows top, 0 ≤ x ∧ x < rows.length := fun x hx => keptN_range x hx
theorem cutK_le (rows : Rows2) (top : Int) : (cutK rows top).length ≤ rows.length := keptN_le _ _

theorem cut_bulk (rows : Rows2) (top : Int) : bulk (cutL rows top) ≤ 1048576 := by
  cases h : cutOk rows top with
  | false => rw [cutL_no h]; simp [bulk]
  | true =>
    unfold cutL
    rw [if_pos h]
    unfold cutOk at h
    rw [Bool.and_eq_true] at h
    have := (domB_iff.1 h.1).1.len
    exact made_small (Nat.le_trans (cutK_le _ _) this.2)
end Go.Proofs.YtkjncgnclogfeaaDoor

/- The walks of rowsOf and built at sum. -/
namespace Go.Proofs.YtkjncgnclogfeaaDoor
open Go.RowKit Go.Deep Go.Shelf

set_option maxRecDepth 100000 in
set_option maxHeartbeats 4000000 in
theorem sumRows_no (p p' n n' : Nat) (g g' : Nat → Nat) (N : Nat) (w : World) (hg : GridAt w p g) (hg' : GridAt w p' g') (hn : GridN g n) (hn' : GridN g' n') (hN : N = 1 + n + n') (hN2 : 200 < N) :
    Calls Tryd.prog 81 #[.iface 65 (.agg #[.iface 54 (.pointer (some ⟨p, 0, none⟩)), .iface 54 (.pointer (some ⟨p', 0, none⟩))])] w (RowsNo w) := by
  have hcall := fun W (hk : (fun W => GridAt W p g ∧ GridAt W p' g') W) => sumSize_any p p' n n' g g' W hk.1 hk.2 hn hn'
  have hc1 := hcall _ ⟨hg, hg'⟩
  rw [← hN] at hc1
  have hmS := run_sum_size
  have hN3 : (200 : Int) < (N : Int) := by omega
  clear hg hg' hn hn' hN hcall
  go_enter Tryd.func81, Tryd.ntmps81
  go_wp2_with (go_at_call 142; refine hc1.mono ?_; clear hc1; rintro e w1 ⟨rfl, hb1⟩; have HB1 := Lib.hid hb1; clear hb1)
  go_ret2
  exact ⟨rfl, HB1.out⟩
theorem sumBuilt_no (p p' n n' : Nat) (g g' : Nat → Nat) (N : Nat) (w : World) (hg : GridAt w p g) (hg' : GridAt w p' g') (hn : GridN g n) (hn' : GridN g' n') (hN : N = 1 + n + n') (hN2 : 200 < N) :
    Calls Tryd.prog 50 #[.iface 65 (.agg #[.iface 54 (.pointer (some ⟨p, 0, none⟩)), .iface 54 (.pointer (some ⟨p', 0, none⟩))])] w (RowsG 0 (fun _ => []) false w) :=
  built_no _ w fun W hB => sumRows_no p p' n n' g g' N W (hg.below hB hg.lt) (hg'.below hB hg'.lt) hn hn' hN hN2

set_option maxRecDepth 100000 in
set_option maxHeartbeats 4000000 in
theorem sumRows_yes (p p' n n' : Nat) (g g' : Nat → Nat) (N : Nat) (w : World) (hg : GridAt w p g) (hg' : GridAt w p' g') (hn : GridN g n) (hn' : GridN g' n') (hN : N = 1 + n + n') (hN2 : N ≤ 200) :
    Calls Tryd.prog 81 #[.iface 65 (.agg #[.iface 54 (.pointer (some ⟨p, 0, none⟩)), .iface 54 (.pointer (some ⟨p', 0, none⟩))])] w (RowsYes (madeG (sumB g g' n) N) w) := by
  have hK : Stays w (fun W => GridAt W p g ∧ GridAt W p' g') := Stays.grids hg.lt hg'.lt
  have hcall0 := fun W (hk : (fun W => GridAt W p g ∧ GridAt W p' g') W) => sumSize_any p p' n n' g g' W hk.1 hk.2 hn hn'
  have hk0 : (fun W => GridAt W p g ∧ GridAt W p' g') w := ⟨hg, hg'⟩
  have hcall := hcall0 _ hk0
  rw [← hN] at hcall
  have HBC := Lib.hid (fun (a b : Nat) (ha : a < N) (hb : b < N) W (hk : (fun W => GridAt W p g ∧ GridAt W p' g') W) => sumBelow_any p p' n n' g g' a b W hk.1 hk.2 hn hn' (by rw [← hN]; exact ha) (by rw [← hN]; exact hb))
  have hmS := run_sum_size
  have hmB := run_sum_below
  have hN3 : ¬ ((200 : Int) < (N : Int)) := by omega
  have hz := (zero_of_info zeroGrid).1
  have HK0 := Lib.hid hk0
  have HKK := Lib.hid hK
  clear hg hg' hn hn' hN hcall0 hk0 hK
  go_enter Tryd.func81, Tryd.ntmps81
  go_wp2_with (go_at_call 142; refine hcall.mono ?_; clear hcall; rintro e w1 ⟨rfl, hb1⟩; have HK1 := Lib.hid (HKK.out _ _ hb1 HK0.out); have HB1 := Lib.hid hb1; clear hb1)
  have bA := (Below.refl w1.heap.size w1).alloc (Nat.le_refl _) (.cells (gridCells fun _ => 0) 83)
  have HST := Lib.hid (show RwG w (fun W => GridAt W p g ∧ GridAt W p' g') w1.heap.size (bG (sumB g g' n) N 0 0) (w1.alloc (.cells (gridCells fun _ => 0) 83)) from
    ⟨HKK.out _ _ (bA.mono HB1.out.size) HK1.out, by rw [bG_start]; exact store_new w1, HB1.out.size, HB1.out.trans (bA.mono HB1.out.size)⟩)
  clear bA hz
  go_loopw [6, 13] (fun _ av wr => ∃ a : Nat, a ≤ N ∧ av = .int .i64 a ∧ RwG w (fun W => GridAt W p g ∧ GridAt W p' g') w1.heap.size (bG (sumB g g' n) N a 0) wr) (fun _ av _ => N - (intOf av).toNat)
  case atStart => exact ⟨0, Nat.zero_le _, rfl, HST.out⟩
  case round =>
    obtain ⟨a, ha, rfl, ht⟩ := hrel
    have HT := Lib.hid ht
    clear HST ht
    by_cases hal : a < N
    · go_wp2
      go_loopw [7, 17] (fun _ bv wr => ∃ b : Nat, b ≤ N ∧ bv = .int .i64 b ∧ RwG w (fun W => GridAt W p g ∧ GridAt W p' g') w1.heap.size (bG (sumB g g' n) N a b) wr) (fun _ bv _ => N - (intOf bv).toNat)
      case atStart => exact ⟨0, Nat.zero_le _, rfl, HT.out⟩
      case round =>
        obtain ⟨b, hb, rfl, ht⟩ := hrel
        have HK := Lib.hid ht
        clear ht HT
        by_cases hbl : b < N
        · have hcall := HBC.out a b hal hbl wr HK.out.kept
          cases hbit : (sumB g g' n) a b with
          | false =>
            rw [hbit] at hcall
            have HE := Lib.hid (bG_no (N := N) hbit)
            clear hbit
            go_wp2_with (go_at_call 141; refine hcall.mono ?_; clear hcall; rintro e w2 ⟨rfl, hb2⟩; have H2 := Lib.hid (HK.out.step HKK.out hb2); clear hb2)
            go_roundw
            case rel => exact ⟨b + 1, by omega, by go_num, by rw [HE.out]; exact H2.out⟩
            case measure => simp [intOf]; omega
          | true =>
            rw [hbit] at hcall
            have HE := Lib.hid (bG_yes (N := N) hbit)
            have ha200 : a < 200 := by omega
            have hb200 : b < 200 := by omega
            have ha0 : (0 : Int) ≤ (a : Int) := by omega
            have ha1 : (a : Int) < 200 := by omega
            clear hbit
            go_wp2_with (first | (go_at_call 141; refine hcall.mono ?_; clear hcall; rintro e w2 ⟨rfl, hb2⟩; have H2 := Lib.hid (HK.out.step HKK.out hb2); have hadd := addTo_any w1.heap.size a b (b : Int) _ w2 H2.out.grid ha200 hb200 rfl; clear hb2) | (go_at_call 88; refine hadd.mono ?_; clear hadd; rintro e w3 ⟨rfl, m, rfl⟩))
            go_roundw
            case rel => exact ⟨b + 1, by omega, by go_num, by rw [HE.out]; exact H2.out.put HKK.out ha200 hb200 m⟩
            case measure => simp [intOf]; omega
        · obtain rfl : b = N := by omega
          go_wp2
          go_roundw
          case rel => exact ⟨a + 1, by omega, by go_num, by rw [← bG_next]; exact HK.out⟩
          case measure => simp [intOf]; omega
    · obtain rfl : a = N := by omega
      go_wp2
      go_ret2
      exact ⟨⟨w1.heap.size, rfl, HT.out.own, HT.out.grid⟩, HT.out.below⟩
theorem sumBuilt_yes (p p' n n' : Nat) (g g' : Nat → Nat) (N : Nat) (w : World) (hg : GridAt w p g) (hg' : GridAt w p' g') (hn : GridN g n) (hn' : GridN g' n') (hN : N = 1 + n + n') (hN2 : N ≤ 200) (hT : Tab w) (hrf : ∀ q, q < N → (sumB g g' n) q q = true) :
    Calls Tryd.prog 50 #[.iface 65 (.agg #[.iface 54 (.pointer (some ⟨p, 0, none⟩)), .iface 54 (.pointer (some ⟨p', 0, none⟩))])] w (RowsG N (fun q => bRow (sumB g g' n) q N) true w) :=
  built_yes _ (sumB g g' n) N w hT hN2 hrf fun W hB => sumRows_yes p p' n n' g g' N W (hg.below hB hg.lt) (hg'.below hB hg'.lt) hn hn' hN hN2
end Go.Proofs.YtkjncgnclogfeaaDoor

/- The program's DomainSum. -/
namespace Go.Proofs.YtkjncgnclogfeaaDoor
open Go.RowKit Go.Deep Go.Shelf

/-- What domainOf answers: a pointer, and whether there is one. -/
def DomP (rows : Rows2) (w : World) (e : Ending) (w' : World) : Prop :=
  (∃ q, e = .returned (.tuple #[.pointer q, .bool (domB rows)]) ∧ (domB rows = true → ∃ p, q = some ⟨p, 0, none⟩ ∧ GridAt w' p (gridF rows))) ∧ Below w.heap.size w w'
theorem domainOf_any (v : Value) (rows : Rows2) (w : World) (hv : RowsAt w v rows) (hT : Tab w) (hn : bulk rows ≤ 1048576) :
    Calls Tryd.prog 49 #[.agg #[v]] w (DomP rows w) := by
  cases h : domB rows with
  | false =>
    refine (domainOf_no v rows w hv hT hn h).mono fun e w' hp => ?_
    obtain ⟨rfl, hb⟩ := hp
    exact ⟨⟨_, by rw [h], fun h' => by rw [h] at h'; cases h'⟩, hb⟩
  | true =>
    refine (domainOf_yes v rows w hv hT hn h).mono fun e w' hp => ?_
    obtain ⟨⟨p, rfl, _, hg⟩, hb⟩ := hp
    exact ⟨⟨_, by rw [h], fun _ => ⟨p, rfl, hg⟩⟩, hb⟩

/-- Two orders in their variables, and the result's. -/
structure TwoR (w : World) (v v' : Value) (rows rows' : Rows2) (W : World) : Prop where
  r0 : RowsAt W v rows
  r1 : RowsAt W v' rows'
  c0 : W.cell? ⟨w.heap.size, 0, none⟩ = some v
  c1 : W.cell? ⟨w.heap.size + 1, 0, none⟩ = some v'
  res : Boxed W (w.heap.size + 2) 26 (.slice none 0 0)
  below : Below w.heap.size w W
theorem TwoR.step {w : World} {v v' : Value} {rows rows' : Rows2} {W W' : World} (h : TwoR w v v' rows rows' W) (hb : Below W.heap.size W W') : TwoR w v v' rows rows' W' :=
  ⟨h.r0.below hb, h.r1.below hb, (hb.cell (p := ⟨w.heap.size, 0, none⟩) (cell_lt h.c0)).trans h.c0, (hb.cell (p := ⟨w.heap.size + 1, 0, none⟩) (cell_lt h.c1)).trans h.c1, (hb.block _ h.res.lt).trans h.res, h.below.trans (hb.mono h.below.size)⟩
theorem TwoR.start (w : World) {v v' : Value} {rows rows' : Rows2} (hv : RowsAt w v rows) (hv' : RowsAt w v' rows') :
    TwoR w v v' rows rows' (((w.alloc (.cells #[v] 26)).alloc (.cells #[v'] 26)).alloc (.cells #[.slice none 0 0] 26)) := by
  have s1 : (w.alloc (.cells #[v] 26)).heap.size = w.heap.size + 1 := World.size_alloc _ _
  have s2 : ((w.alloc (.cells #[v] 26)).alloc (.cells #[v'] 26)).heap.size = w.heap.size + 2 := by rw [World.size_alloc, s1]
  have b1 := ((Below.refl w.heap.size w).alloc (Nat.le_refl _) (.cells #[v] 26)).alloc (by rw [s1]; omega) (.cells #[v'] 26)
  have b2 := b1.alloc (by rw [s2]; omega) (.cells #[.slice none 0 0] 26)
  have x0 := ((Boxed.new w 26 v).alloc (.cells #[v'] 26)).alloc (.cells #[.slice none 0 0] 26)
  have x1 := (Boxed.new (w.alloc (.cells #[v] 26)) 26 v').alloc (.cells #[.slice none 0 0] 26)
  have x2 := Boxed.new ((w.alloc (.cells #[v] 26)).alloc (.cells #[v'] 26)) 26 (.slice none 0 0)
  rw [s1] at x1
  rw [s2] at x2
  exact ⟨hv.below b2, hv'.below b2, x0.cell, x1.cell, x2, b2⟩

theorem sum_refl {rows rows' : Rows2} (hok : Ok rows) (hok' : Ok rows') : ∀ q, q < 1 + rows.length + rows'.length → sumB (gridF rows) (gridF rows') rows.length q q = true := fun q hq => by
  unfold sumB
  by_cases h0 : q = 0
  · rw [if_pos h0]
  · rw [if_neg h0, if_neg h0]
    by_cases h1 : q ≤ rows.length
    · rw [if_pos h1, if_pos h1]
      exact hok.own (q - 1) (by omega)
    · rw [if_neg h1, if_neg h1]
      exact hok'.own (q - 1 - rows.length) (by omega)
/-- What DomainSum answers. -/
noncomputable def sumOk (rows rows' : Rows2) : Bool := domB rows && domB rows' && decide (1 + rows.length + rows'.length ≤ 200)
noncomputable def sumRow (rows rows' : Rows2) (q : Nat) : List Int := bRow (sumB (gridF rows) (gridF rows') rows.length) q (1 + rows.length + rows'.length)
noncomputable def sumL (rows rows' : Rows2) : Rows2 := if sumOk rows rows' = true then (List.range (1 + rows.length + rows'.length)).map (sumRow rows rows') else []
theorem sumL_yes {rows rows' : Rows2} (h : sumOk rows rows' = true) : (sumL rows rows').length = 1 + rows.length + rows'.length ∧ ∀ q, q < 1 + rows.length + rows'.length → rowsF (sumL rows rows') q = sumRow rows rows' q := by
  unfold sumL
  rw [if_pos h]
  refine ⟨by simp, fun q hq => ?_⟩
  rw [rowsF_lt (by simpa using hq)]
  simp
theorem sumL_no {rows rows' : Rows2} (h : sumOk rows rows' = false) : sumL rows rows' = [] := by unfold sumL; rw [if_neg (by rw [h]; simp)]
/-- No order. -/
theorem orderP_no {xs : Rows2} {t : Bool} {w W : World} {b : Nat} (hx : xs = []) (ht : t = false) (hb : Below w.heap.size w W) (hl : w.heap.size ≤ b) (u : Value) : OrderP xs t w (.returned (.tuple #[.agg #[.slice none 0 0], .bool false])) (W.setCell ⟨b, 0, none⟩ u) := by
  subst hx ht
  exact ⟨_, rfl, OwnR.nil _ _ _ _ _ _, hb.setCell (p := ⟨b, 0, none⟩) hl _⟩

set_option maxRecDepth 100000 in
set_option maxHeartbeats 8000000 in
theorem implSum_any (v v' : Value) (rows rows' : Rows2) (w : World) (hv : RowsAt w v rows) (hv' : RowsAt w v' rows') (hT : Tab w) (hn : bulk rows ≤ 1048576) (hn' : bulk rows' ≤ 1048576) :
    Calls Tryd.prog 23 #[.agg #[v], .agg #[v']] w (OrderP (sumL rows rows') (sumOk rows rows') w) := by
  have h0 := TwoR.start w hv hv'
  have T0 := Lib.hid (hT.below h0.below)
  have hd1 := domainOf_any _ rows _ h0.r0 T0.out hn
  have hc0 := h0.c0
  obtain ⟨A, C, rfl, _⟩ := hv
  obtain ⟨A', C', rfl, _⟩ := hv'
  have H0 := Lib.hid h0
  have HTA := Lib.hid (fun W (h : Below w.heap.size w W) => hT.below h)
  clear h0 hT
  cases h1 : domB rows with
  | false =>
    have HE := Lib.hid (show sumOk rows rows' = false by unfold sumOk; rw [h1]; rfl)
    go_enter Tryd.func23, Tryd.ntmps23
    go_wp2_with (first | (go_at_call 49; refine hd1.mono ?_; clear hd1; rintro e w1 ⟨⟨q, rfl, _⟩, hb1⟩; rw [h1]; have H1 := Lib.hid (H0.out.step hb1); have hc1 := H1.out.c1; have hd2 := domainOf_any _ rows' _ H1.out.r1 (T0.out.below hb1) hn'; clear hb1 hc0) | (go_at_call 49; refine hd2.mono ?_; clear hd2; rintro e w2 ⟨⟨q', rfl, _⟩, hb2⟩; have H2 := Lib.hid (H1.out.step hb2); have hres := H2.out.res.cell; have hfr := H2.out.res.frozen; clear hb2 hc1))
    have hc9 := World.cell?_setCell_same' w2 ⟨w.heap.size + 2, 0, none⟩ (.slice none 0 0) (by rw [hres]; rfl)
    refine bodyPost_ret (v := .tuple #[.agg #[.slice none 0 0], .bool false]) (by simp [results, Tryd.results23, go_sem, hc9]) rfl ?_
    exact orderP_no (sumL_no HE.out) HE.out H2.out.below (by omega) _
  | true =>
    cases h2 : domB rows' with
    | false =>
      have HE := Lib.hid (show sumOk rows rows' = false by unfold sumOk; rw [h1, h2]; rfl)
      go_enter Tryd.func23, Tryd.ntmps23
      go_wp2_with (first | (go_at_call 49; refine hd1.mono ?_; clear hd1; rintro e w1 ⟨⟨q, rfl, _⟩, hb1⟩; rw [h1]; have H1 := Lib.hid (H0.out.step hb1); have hc1 := H1.out.c1; have hd2 := domainOf_any _ rows' _ H1.out.r1 (T0.out.below hb1) hn'; clear hb1 hc0) | (go_at_call 49; refine hd2.mono ?_; clear hd2; rintro e w2 ⟨⟨q', rfl, _⟩, hb2⟩; rw [h2]; have H2 := Lib.hid (H1.out.step hb2); have hres := H2.out.res.cell; have hfr := H2.out.res.frozen; clear hb2 hc1))
      have hc9 := World.cell?_setCell_same' w2 ⟨w.heap.size + 2, 0, none⟩ (.slice none 0 0) (by rw [hres]; rfl)
      refine bodyPost_ret (v := .tuple #[.agg #[.slice none 0 0], .bool false]) (by simp [results, Tryd.results23, go_sem, hc9]) rfl ?_
      exact orderP_no (sumL_no HE.out) HE.out H2.out.below (by omega) _
    | true =>
      have hok := ok_of_valid (show validB rows = true by have h := h1; unfold domB at h; rw [Bool.and_eq_true] at h; exact h.1)
      have hok' := ok_of_valid (show validB rows' = true by have h := h2; unfold domB at h; rw [Bool.and_eq_true] at h; exact h.1)
      have hbuilt : ∃ N R t, (∀ p p' W, GridAt W p (gridF rows) → GridAt W p' (gridF rows') → Tab W → Calls Tryd.prog 50 #[.iface 65 (.agg #[.iface 54 (.pointer (some ⟨p, 0, none⟩)), .iface 54 (.pointer (some ⟨p', 0, none⟩))])] W (RowsG N R t W)) ∧ sumOk rows rows' = t ∧ (sumL rows rows').length = N ∧ ∀ q, q < N → R q = rowsF (sumL rows rows') q := by
        by_cases hl : 1 + rows.length + rows'.length ≤ 200
        · have hE : sumOk rows rows' = true := by unfold sumOk; rw [h1, h2, decide_eq_true hl]; rfl
          obtain ⟨e1, e2⟩ := sumL_yes hE
          exact ⟨1 + rows.length + rows'.length, _, true, fun p p' W hg hg' hTW => sumBuilt_yes p p' rows.length rows'.length (gridF rows) (gridF rows') _ W hg hg' hok.gridN hok'.gridN rfl hl hTW (sum_refl hok hok'), hE, e1, fun q hq => (e2 q hq).symm⟩
        · have hE : sumOk rows rows' = false := by unfold sumOk; rw [decide_eq_false hl, Bool.and_false]
          exact ⟨0, _, false, fun p p' W hg hg' _ => sumBuilt_no p p' rows.length rows'.length (gridF rows) (gridF rows') _ W hg hg' hok.gridN hok'.gridN rfl (by omega), hE, by rw [sumL_no hE]; rfl, fun q hq => absurd hq (Nat.not_lt_zero _)⟩
      obtain ⟨N, R, t, hC, hE, e1, e2⟩ := hbuilt
      have HC := Lib.hid hC
      have HE := Lib.hid hE
      have HL := Lib.hid e1
      have HR := Lib.hid e2
      clear hok hok' hC hE e1 e2
      go_enter Tryd.func23, Tryd.ntmps23
      go_wp2_with (first | (go_at_call 49; refine hd1.mono ?_; clear hd1; rintro e w1 ⟨⟨q, rfl, hq⟩, hb1⟩; obtain ⟨p, rfl, hg⟩ := hq h1; rw [h1]; have G1 := Lib.hid hg; have H1 := Lib.hid (H0.out.step hb1); have hc1 := H1.out.c1; have hd2 := domainOf_any _ rows' _ H1.out.r1 (T0.out.below hb1) hn'; clear hb1 hc0 hg hq) | (go_at_call 49; refine hd2.mono ?_; clear hd2; rintro e w2 ⟨⟨q', rfl, hq'⟩, hb2⟩; obtain ⟨p', rfl, hg'⟩ := hq' h2; rw [h2]; have G2 := Lib.hid (G1.out.below hb2 G1.out.lt); have G2' := Lib.hid hg'; have H2 := Lib.hid (H1.out.step hb2); clear hb2 hc1 hg' hq') | (go_at_call 50; refine (HC.out p p' _ G2.out G2'.out (HTA.out _ H2.out.below)).mono ?_; rintro e w3 ⟨u, rfl, hu, hb3⟩; obtain ⟨a3, C3, rfl⟩ := hu.form; have HU := Lib.hid hu; have H3 := Lib.hid (H2.out.step hb3); have hres := H3.out.res.cell; have hfr := H3.out.res.frozen; clear hu hb3))
      have hc9 := World.cell?_setCell_same' w3 ⟨w.heap.size + 2, 0, none⟩ (.slice a3 N C3) (by rw [hres]; rfl)
      have hw2 : w.heap.size + 2 < w2.heap.size := H2.out.res.lt
      refine bodyPost_ret (v := .tuple #[.agg #[.slice a3 N C3], .bool t]) (by simp [results, Tryd.results23, go_sem, hc9]) rfl ?_
      refine ⟨_, by rw [HE.out], ?_, H3.out.below.setCell (p := ⟨w.heap.size + 2, 0, none⟩) (by show w.heap.size ≤ w.heap.size + 2; omega) _⟩
      rw [HL.out, size_setCell]
      exact ((HU.out.kept fun b hb _ => Below.heap_setCell _ _ _ b (show b ≠ w.heap.size + 2 by omega)).wider (by omega) (Nat.le_refl _)).congr fun q hq => HR.out q hq
end Go.Proofs.YtkjncgnclogfeaaDoor

/- The program's DomainCut. -/
namespace Go.Proofs.YtkjncgnclogfeaaDoor
open Go.RowKit Go.Deep Go.Shelf

/-- An order in its variable, and the result's. -/
structure OneR (w : World) (v : Value) (rows : Rows2) (W : World) : Prop where
  r0 : RowsAt W v rows
  c0 : W.cell? ⟨w.heap.size, 0, none⟩ = some v
  res : Boxed W (w.heap.size + 1) 26 (.slice none 0 0)
  below : Below w.heap.size w W
theorem OneR.step {w : World} {v : Value} {rows : Rows2} {W W' : World} (h : OneR w v rows W) (hb : Below W.heap.size W W') : OneR w v rows W' :=
  ⟨h.r0.below hb, (hb.cell (p := ⟨w.heap.size, 0, none⟩) (cell_lt h.c0)).trans h.c0, (hb.block _ h.res.lt).trans h.res, h.below.trans (hb.mono h.below.size)⟩
theorem OneR.start (w : World) {v : Value} {rows : Rows2} (hv : RowsAt w v rows) : OneR w v rows ((w.alloc (.cells #[v] 26)).alloc (.cells #[.slice none 0 0] 26)) := by
  have s1 : (w.alloc (.cells #[v] 26)).heap.size = w.heap.size + 1 := World.size_alloc _ _
  have b1 := ((Below.refl w.heap.size w).alloc (Nat.le_refl _) (.cells #[v] 26)).alloc (by rw [s1]; omega) (.cells #[.slice none 0 0] 26)
  have x0 := (Boxed.new w 26 v).alloc (.cells #[.slice none 0 0] 26)
  have x1 := Boxed.new (w.alloc (.cells #[v] 26)) 26 (.slice none 0 0)
  rw [s1] at x1
  exact ⟨hv.below b1, x0.cell, x1, b1⟩

set_option maxRecDepth 100000 in
set_option maxHeartbeats 8000000 in
theorem implCut_any (v : Value) (rows : Rows2) (top : Int) (w : World) (hv : RowsAt w v rows) (hT : Tab w) (hn : bulk rows ≤ 1048576) :
    Calls Tryd.prog 36 #[.agg #[v], .int .i64 top] w (OrderP (cutL rows top) (cutOk rows top) w) := by
  have h0 := OneR.start w hv
  have T0 := Lib.hid (hT.below h0.below)
  have hd1 := domainOf_any _ rows _ h0.r0 T0.out hn
  have hc0 := h0.c0
  obtain ⟨A, C, rfl, _⟩ := hv
  have H0 := Lib.hid h0
  have HTA := Lib.hid (fun W (h : Below w.heap.size w W) => hT.below h)
  clear h0 hT
  cases h1 : domB rows with
  | false =>
    have HE := Lib.hid (show cutOk rows top = false by unfold cutOk; rw [h1]; rfl)
    go_enter Tryd.func36, Tryd.ntmps36
    go_wp2_with (first | (go_at_call 49; refine hd1.mono ?_; clear hd1; rintro e w1 ⟨⟨q, rfl, _⟩, hb1⟩; rw [h1]; have H1 := Lib.hid (H0.out.step hb1); have hres := H1.out.res.cell; have hfr := H1.out.res.frozen; clear hb1 hc0))
    have hc9 := World.cell?_setCell_same' w1 ⟨w.heap.size + 1, 0, none⟩ (.slice none 0 0) (by rw [hres]; rfl)
    refine bodyPost_ret (v := .tuple #[.agg #[.slice none 0 0], .bool false]) (by simp [results, Tryd.results36, go_sem, hc9]) rfl ?_
    exact orderP_no (cutL_no HE.out) HE.out H1.out.below (by omega) _
  | true =>
    by_cases hel : 0 ≤ top ∧ top < rows.length
    · obtain ⟨t, rfl⟩ : ∃ t : Nat, top = (t : Int) := ⟨top.toNat, by omega⟩
      have htl : t < rows.length := by omega
      have hE : cutOk rows (t : Int) = true := by unfold cutOk; rw [h1, decide_eq_true hel]; rfl
      have hok := (domB_iff.1 h1).1
      have HE := Lib.hid hE
      have HL := Lib.hid (cutL_yes hE)
      have hn200 := hok.len.2
      have hel2 : decide (0 ≤ (t : Int) ∧ (t : Int) < rows.length) = true := decide_eq_true hel
      have HEL := Lib.hid (fun i (_ : i < rows.length) k (hk : k ∈ elems (gridF rows i)) => hok.lt200 ((mem_elems (hok.lt i)).1 hk))
      have HN := Lib.hid hok.gridN
      have HBN := Lib.hid (backN_rows hok)
      have HLT := Lib.hid hok.back.lt
      have HCK := Lib.hid (cutK_elems hok htl)
      have HBC := Lib.hid (fun a (ha : a < (cutK rows (t : Int)).length) => bRow_congr (B := cutG (gridF rows) (cutK rows (t : Int))) (B' := cutB rows (cutK rows (t : Int))) (a := a) (N := (cutK rows (t : Int)).length) (fun k hk => by
        have r1 := cutK_range rows t _ (List.getElem_mem ha)
        have r2 := cutK_range rows t _ (List.getElem_mem hk)
        unfold cutG cutB
        rw [getD_lt 0 ha, getD_lt 0 hk, ← hok.up (by omega), Int.toNat_of_nonneg r2.1]))
      have HRF := Lib.hid (show ∀ q, q < (cutK rows (t : Int)).length → cutG (gridF rows) (cutK rows (t : Int)) q q = true from fun q hq => by
        have r1 := cutK_range rows t _ (List.getElem_mem hq)
        unfold cutG
        rw [getD_lt 0 hq]
        exact hok.own _ (by omega))
      have hi0 : (0 : Int) ≤ (t : Int) := by omega
      have hi1 : (t : Int) < 200 := by omega
      have ht2 : t < 200 := by omega
      have hz := (zero_of_info zeroGrid).1
      clear hE hok
      go_enter Tryd.func36, Tryd.ntmps36
      go_wp2_with (first | (go_at_call 49; refine hd1.mono ?_; clear hd1; rintro e w1 ⟨⟨q, rfl, hq⟩, hb1⟩; obtain ⟨p, rfl, hg⟩ := hq h1; rw [h1]; have G1 := Lib.hid hg; have H1 := Lib.hid (H0.out.step hb1); have T1 := Lib.hid (T0.out.below hb1); have hc1 := H1.out.c0; clear hb1 hc0 hg hq) | (go_at_call 62; refine (isElement_any _ rows (t : Int) _ H1.out.r0).mono ?_; rintro e w2 ⟨rfl, hb2⟩; rw [hel2]; have H2 := Lib.hid (H1.out.step hb2); have T2 := Lib.hid (T1.out.below hb2); have G2 := Lib.hid (G1.out.below hb2 G1.out.lt); clear hb2 hc1))
      refine (back_any p rows.length (gridF rows) _ G2.out T2.out HN.out HEL.out).mono ?_
      rintro e w5 ⟨rfl, hb5⟩
      rw [HBN.out]
      obtain ⟨w6, hw6⟩ : ∃ w6, w6 = newGrid (gridF (backRows rows)) w5 := ⟨_, rfl⟩
      have hb6 : Below w5.heap.size w5 w6 := by rw [hw6]; exact newGrid_below _ w5
      have H6 := Lib.hid ((H2.out.step hb5).step hb6)
      have T6 := Lib.hid ((T2.out.below hb5).below hb6)
      have G6 := Lib.hid (((G2.out.below hb5 G2.out.lt).below hb6 (Nat.lt_of_lt_of_le G2.out.lt hb5.size)))
      have R6 := Lib.hid (show GridAt w6 w5.heap.size (gridF (backRows rows)) by rw [hw6]; exact newGrid_at HLT.out w5)
      clear hb5 hb6
      go_upto_region 5 with (refine wpList_store_row rfl 83 (.tmp 8) (.tmp 24) rfl w5.heap.size (gridCells (gridF (backRows rows))) rfl rfl 83 (gridCells fun _ => 0) (store_new w5).1 (by rw [gridCells_size]; exact sizeGrid) (by rw [gridCells_size, gridCells_size]) (gridCells_one _) ?_)
      rw [show ((w5.alloc (.cells (gridCells fun _ => 0) 83)).setRow w5.heap.size (gridCells (gridF (backRows rows)))) = w6 from hw6.symm]
      clear hw6
      generalize w5.heap.size = p5 at R6 ⊢
      obtain ⟨c0, c1, c2, c3⟩ := R6.out.row t ht2
      go_wp2_with (go_at_call 64; refine (list_any (gridF (backRows rows) t) _ (HLT.out t) T6.out).mono ?_; rintro e w7 ⟨ve, rfl, hv7, hb7⟩; rw [HCK.out] at hv7; obtain ⟨a7, C7, rfl⟩ := hv7.form; have V7 := Lib.hid hv7.at; have G7 := Lib.hid (G6.out.below hb7 G6.out.lt); have H7 := Lib.hid (H6.out.step hb7); clear hv7 hb7)
      refine (cutBuilt_yes p (gridF rows) (.slice a7 (cutK rows (t : Int)).length C7) (cutK rows (t : Int)) (cutK rows (t : Int)).length w7 G7.out V7.out (fun x hx => by have := cutK_range rows t x hx; omega) rfl (Nat.le_trans (cutK_le _ _) hn200) (HTA.out _ H7.out.below) HRF.out).mono ?_
      rintro e w8 ⟨u, rfl, hu, hb8⟩
      obtain ⟨a8, C8, rfl⟩ := hu.form
      have HU := Lib.hid hu
      have H8 := Lib.hid (H7.out.step hb8)
      have hres := H8.out.res.cell
      have hfr := H8.out.res.frozen
      clear hu hb8
      go_wp2
      have hc9 := World.cell?_setCell_same' w8 ⟨w.heap.size + 1, 0, none⟩ (.slice a8 (cutK rows (t : Int)).length C8) (by rw [hres]; rfl)
      have hw2 : w.heap.size + 1 < w7.heap.size := H7.out.res.lt
      refine bodyPost_ret (v := .tuple #[.agg #[.slice a8 (cutK rows (t : Int)).length C8], .bool true]) (by simp [results, Tryd.results36, go_sem, hc9]) rfl ?_
      refine ⟨_, by rw [HE.out], ?_, H8.out.below.setCell (p := ⟨w.heap.size + 1, 0, none⟩) (by show w.heap.size ≤ w.heap.size + 1; omega) _⟩
      rw [HL.out.1, size_setCell]
      exact ((HU.out.kept fun b hb _ => Below.heap_setCell _ _ _ b (show b ≠ w.heap.size + 1 by omega)).wider (by omega) (Nat.le_refl _)).congr fun q hq => (HBC.out q hq).trans (HL.out.2 q hq).symm
    · have HE := Lib.hid (show cutOk rows top = false by unfold cutOk; rw [decide_eq_false hel, Bool.and_false])
      have hel2 : decide (0 ≤ top ∧ top < rows.length) = false := decide_eq_false hel
      go_enter Tryd.func36, Tryd.ntmps36
      go_wp2_with (first | (go_at_call 49; refine hd1.mono ?_; clear hd1; rintro e w1 ⟨⟨q, rfl, _⟩, hb1⟩; rw [h1]; have H1 := Lib.hid (H0.out.step hb1); have hc1 := H1.out.c0; clear hb1 hc0) | (go_at_call 62; refine (isElement_any _ rows top _ H1.out.r0).mono ?_; rintro e w2 ⟨rfl, hb2⟩; rw [hel2]; have H2 := Lib.hid (H1.out.step hb2); have hres := H2.out.res.cell; have hfr := H2.out.res.frozen; clear hb2 hc1))
      have hc9 := World.cell?_setCell_same' w2 ⟨w.heap.size + 1, 0, none⟩ (.slice none 0 0) (by rw [hres]; rfl)
      refine bodyPost_ret (v := .tuple #[.agg #[.slice none 0 0], .bool false]) (by simp [results, Tryd.results36, go_sem, hc9]) rfl ?_
      exact orderP_no (cutL_no HE.out) HE.out H2.out.below (by omega) _
end Go.Proofs.YtkjncgnclogfeaaDoor

/- The model's DomainCut. -/
namespace Go.Proofs.YtkjncgnclogfeaaDoor
open Go.RowKit Go.Deep

set_option maxRecDepth 100000 in
set_option maxHeartbeats 8000000 in
theorem specCut_any (v : Value) (rows : Rows2) (top : Int) (w : World) (hv : RowsAt w v rows) (hn : bulk rows ≤ 1048576) :
    Calls Tryd.prog 35 #[.agg #[v], .int .i64 top] w (OrderP (cutL rows top) (cutOk rows top) w) := by
  have h0 := OneR.start w hv
  have HV := Lib.hid (fun W (h : Below w.heap.size w W) => hv.below h)
  have hd1 := specDom_any _ rows _ h0.r0 hn
  have hc0 := h0.c0
  have hlen : rows.length ≤ 1048576 := by unfold bulk at hn; omega
  have hs1 := i64_sub1 rows.length hlen
  obtain ⟨A, C, rfl, hC, hm, _⟩ := hv
  unfold maxLen at hm
  have H0 := Lib.hid h0
  clear h0
  cases h1 : domB rows with
  | false =>
    rw [h1] at hd1
    have HE := Lib.hid (show cutOk rows top = false by unfold cutOk; rw [h1]; rfl)
    clear h1
    go_enter Tryd.func35, Tryd.ntmps35
    go_wp2_with (go_at_call 46; refine hd1.mono ?_; clear hd1; rintro e w1 ⟨rfl, hb1⟩; have H1 := Lib.hid (H0.out.step hb1); have hres := H1.out.res.cell; have hfr := H1.out.res.frozen; clear hb1 hc0)
    have hc9 := World.cell?_setCell_same' w1 ⟨w.heap.size + 1, 0, none⟩ (.slice none 0 0) (by rw [hres]; rfl)
    refine bodyPost_ret (v := .tuple #[.agg #[.slice none 0 0], .bool false]) (by simp [results, Tryd.results35, go_sem, hc9]) rfl ?_
    exact orderP_no (cutL_no HE.out) HE.out H1.out.below (by omega) _
  | true =>
    rw [h1] at hd1
    by_cases hel : 0 ≤ top ∧ top < rows.length
    · obtain ⟨t, rfl⟩ : ∃ t : Nat, top = (t : Int) := ⟨top.toNat, by omega⟩
      have hE : cutOk rows (t : Int) = true := by unfold cutOk; rw [h1, decide_eq_true hel]; rfl
      have hok := (domB_iff.1 h1).1
      have HE := Lib.hid hE
      have HL := Lib.hid (cutL_yes hE)
      have HOK := Lib.hid hok
      have hn200 := hok.len.2
      obtain ⟨i0, hi0, hz0, hz1, hz2⟩ := info_parts infoInt
      obtain ⟨K, hK⟩ : ∃ K : Nat → Bool, K = fun i => upB rows i (t : Int) := ⟨_, rfl⟩
      have HK := Lib.hid (show cutK rows (t : Int) = keptN K rows.length by rw [hK]; rfl)
      have HKI := Lib.hid (fun i => show K i = upB rows i (t : Int) by rw [hK])
      have hinL := l6In_yes
      clear hE hok h1 hK
      go_enter Tryd.func35, Tryd.ntmps35
      go_wp2_with (first | (go_at_call 46; refine hd1.mono ?_; clear hd1; rintro e w1 ⟨rfl, hb1⟩; have H1 := Lib.hid (H0.out.step hb1); have hc1 := H1.out.c0; clear hb1 hc0) | (go_at_call 59; refine (l6In_yes _ _ _ _ (by omega) (by omega)).mono ?_; rintro e w2 ⟨rfl, hw2⟩; obtain rfl : w1 = w2 := by first | exact hw2 | exact hw2.symm))
      have hz9 : w.heap.size + 1 < w1.heap.size := H1.out.res.lt
      have HO := Lib.hid (World.ownsRow_made (e := 3) (size := 1) w1 #[] 0 (base := w.heap.size + 2) (by omega) (Nat.zero_le _) (by simp))
      have HB1 := Lib.hid ((Below.refl (w.heap.size + 2) w1).alloc (by omega) (.cells #[] 3))
      have HROWS := Lib.hid (fun W (hb : Below (w.heap.size + 2) w1 W) => HV.out W (H1.out.below.trans (hb.mono (by omega))))
      clear hc1 hinL
      go_loopw [6, 7] (fun ov iv wr => ∃ i : Nat, i ≤ rows.length ∧ iv = .int .i64 i ∧ wr.ownsRow (w.heap.size + 2) 3 1 ov (keptN K i).length (cellsI (keptN K i)) ∧ Below (w.heap.size + 2) w1 wr) (fun _ iv _ => rows.length - (intOf iv).toNat)
      case atStart => exact ⟨0, Nat.zero_le _, rfl, HO.out, HB1.out⟩
      case round =>
        obtain ⟨i, hi, rfl, hown, hB⟩ := hrel
        have HOWN := Lib.hid hown
        have HB := Lib.hid hB
        have hcl := keptN_le K i
        have hcell : wr.cell? ⟨w.heap.size, 0, none⟩ = some (.slice A rows.length C) := (hB.cell (p := ⟨w.heap.size, 0, none⟩) (by show w.heap.size < w.heap.size + 2; omega)).trans H1.out.c0
        have hbz := hB.size
        clear hown hB HO HB1
        by_cases hlt : i < rows.length
        · have hltz : (i : Int) < (rows.length : Int) := by omega
          have hcE := l1Le_any (.slice A rows.length C) rows (i : Int) i (t : Int) wr (HROWS.out wr HB.out) hlt rfl (HOK.out.asc i hlt).1 hn
          rw [← HKI.out i] at hcE
          cases hq : K i with
          | true =>
            rw [hq] at hcE
            have HS := Lib.hid (show keptN K (i + 1) = keptN K i ++ [(i : Int)] by rw [keptN_succ, if_pos hq])
            clear hq
            go_wp2_with (first | (go_at_call 60; refine hcE.mono ?_; clear hcE; rintro e w3 ⟨rfl, hb3⟩; have HB3 := Lib.hid (HB.out.trans (hb3.mono (by omega))); have HOW3 := Lib.hid (owns_below HOWN.out hb3); have hbz3 := HB3.out.size; clear hb3) | (at_builtin; refine wpList_append_own _ rfl _ _ 39 rfl (w.heap.size + 2) 3 i0 (.int .i64 0) 1 8 Tryd.underlying39 hi0 hz0 hz1 hz2 rfl (by decide) _ _ _ rfl (HOW3.out.alloc _) ⟨w3.heap.size, 0, none⟩ 1 1 [.int .i64 (i : Int)] rfl rfl (cell_one_new _ _ _) (by simp [Value.oneCell']) (by unfold maxLen; omega) (by omega) (by simp; omega) ?_; intro v' w4 hown' hgrow _))
            go_roundw
            case rel =>
              refine ⟨i + 1, by omega, by go_num, ?_, (HB3.out.alloc (by omega) _).grown hgrow (by rw [World.size_alloc]; omega) (fun b e => (HOW3.out.lt b e).1)⟩
              rw [HS.out, List.length_append, show cellsI (keptN K i ++ [(i : Int)]) = cellsI (keptN K i) ++ [.int .i64 (i : Int)] by simp]
              exact hown'
            case measure => simp [intOf]; omega
          | false =>
            rw [hq] at hcE
            have HS := Lib.hid (show keptN K (i + 1) = keptN K i by rw [keptN_succ, if_neg (by rw [hq]; simp)])
            clear hq
            go_wp2_with (go_at_call 60; refine hcE.mono ?_; clear hcE; rintro e w3 ⟨rfl, hb3⟩; have HB3 := Lib.hid (HB.out.trans (hb3.mono (by omega))); have HOW3 := Lib.hid (owns_below HOWN.out hb3); clear hb3)
            go_roundw
            case rel => exact ⟨i + 1, by omega, by go_num, by rw [HS.out]; exact HOW3.out, HB3.out⟩
            case measure => simp [intOf]; omega
        · obtain rfl : i = rows.length := by omega
          have hltz : ¬ ((rows.length : Int) < (rows.length : Int)) := by omega
          have hown : OwnI 3 wr u6 (keptN K rows.length) (w.heap.size + 2) wr.heap.size := OwnI.of_owns HOWN.out (fun y hy => by have := keptN_range y hy; exact wf_int (by omega) (by omega)) (fun b hb => (HOWN.out.lt b hb).2)
          have hwi := l2Within_any (.slice A rows.length C) u6 rows (keptN K rows.length) wr (HROWS.out wr HB.out) hown.at HOK.out (fun x hx => keptN_range x hx) (by omega)
          have BX : Hid (Boxed wr (w.heap.size + 1) 26 (.slice none 0 0)) := Lib.hid ((HB.out.block _ (by omega)).trans H1.out.res)
          clear hown
          go_wp2_with (go_at_call 61; refine hwi.mono ?_; clear hwi; rintro e w3 ⟨u, rfl, hu, hb3⟩; obtain ⟨a3, C3, rfl⟩ := hu.form; have HU := Lib.hid hu; have BX3 : Hid (Boxed w3 (w.heap.size + 1) 26 (.slice none 0 0)) := Lib.hid ((hb3.block _ BX.out.lt).trans BX.out); have HB3 := Lib.hid ((H1.out.below.trans (HB.out.mono (by omega))).trans (hb3.mono (by have := H1.out.below.size; omega))); have hres := BX3.out.cell; have hfr := BX3.out.frozen; clear hu hb3)
          have hc9 := World.cell?_setCell_same' w3 ⟨w.heap.size + 1, 0, none⟩ (.slice a3 (keptN K rows.length).length C3) (by rw [hres]; rfl)
          refine bodyPost_ret (v := .tuple #[.agg #[.slice a3 (keptN K rows.length).length C3], .bool true]) (by simp [results, Tryd.results35, go_sem, hc9]) rfl ?_
          refine ⟨_, by rw [HE.out], ?_, HB3.out.setCell (p := ⟨w.heap.size + 1, 0, none⟩) (by show w.heap.size ≤ w.heap.size + 1; omega) _⟩
          rw [HL.out.1, HK.out, size_setCell]
          exact ((HU.out.kept fun b hb _ => Below.heap_setCell _ _ _ b (show b ≠ w.heap.size + 1 by omega)).wider (by omega) (Nat.le_refl _)).congr fun q hq => by rw [HL.out.2 q (by rw [HK.out]; exact hq), HK.out]
    · have HE := Lib.hid (show cutOk rows top = false by unfold cutOk; rw [decide_eq_false hel, Bool.and_false])
      clear h1
      go_enter Tryd.func35, Tryd.ntmps35
      go_wp2_with (first | (go_at_call 46; refine hd1.mono ?_; clear hd1; rintro e w1 ⟨rfl, hb1⟩; have H1 := Lib.hid (H0.out.step hb1); have hc1 := H1.out.c0; have hres := H1.out.res.cell; have hfr := H1.out.res.frozen; clear hb1 hc0) | (go_at_call 59; refine (l6In_no _ _ _ _ (fun h => hel ⟨h.1, by omega⟩)).mono ?_; rintro e w2 ⟨rfl, hw2⟩; obtain rfl : w1 = w2 := by first | exact hw2 | exact hw2.symm))
      have hc9 := World.cell?_setCell_same' w1 ⟨w.heap.size + 1, 0, none⟩ (.slice none 0 0) (by rw [hres]; rfl)
      refine bodyPost_ret (v := .tuple #[.agg #[.slice none 0 0], .bool false]) (by simp [results, Tryd.results35, go_sem, hc9]) rfl ?_
      exact orderP_no (cutL_no HE.out) HE.out H1.out.below (by omega) _
end Go.Proofs.YtkjncgnclogfeaaDoor

/- What a law holds while it runs, as a list of things that lie one behind the other in memory: variables' boxes, copies, answers. Plain facts on worlds: no function is walked here. -/
namespace Go.Proofs.YtkjncgnclogfeaaDoor
open Go.RowKit Go.Deep

/-- A thing that lies between the blocks lo and hi, and hangs on these alone. -/
structure It where
  lo : Nat
  hi : Nat
  P : World → Prop
  loc : ∀ W W' : World, (∀ b, lo ≤ b → b < hi → W'.heap[b]? = W.heap[b]?) → P W → P W'

/-- A list of integers in memory of its own; rows likewise; a variable's box. -/
def ItI (v : Value) (xs : List Int) (lo hi : Nat) : It := ⟨lo, hi, fun W => OwnI 3 W v xs lo hi, fun _ _ h k => k.kept fun b e => h b (k.block b e).1 (k.block b e).2.1⟩
def ItR (v : Value) (n : Nat) (R : Nat → List Int) (lo hi : Nat) : It := ⟨lo, hi, fun W => OwnR 3 39 W v n R lo hi, fun _ _ h k => k.kept h⟩
def ItB (b : Nat) (t : TypeId) (v : Value) : It := ⟨b, b + 1, fun W => Boxed W b t v, fun _ _ h k => (h b (Nat.le_refl _) (Nat.lt_succ_self _)).trans k⟩

def Holds (W : World) : Nat → List It → Prop
  | n, [] => n ≤ W.heap.size
  | n, i :: is => n ≤ i.lo ∧ i.lo ≤ i.hi ∧ i.P W ∧ Holds W i.hi is

theorem Holds.le {W : World} : ∀ {is : List It} {n : Nat}, Holds W n is → n ≤ W.heap.size
  | [], _, h => h
  | _ :: _, _, h => Nat.le_trans h.1 (Nat.le_trans h.2.1 (Holds.le h.2.2.2))
theorem Holds.above {W W' : World} : ∀ {is : List It} {n : Nat}, Holds W n is → (∀ b, n ≤ b → b < W.heap.size → W'.heap[b]? = W.heap[b]?) → W.heap.size ≤ W'.heap.size → Holds W' n is
  | [], _, h, _, hz => Nat.le_trans h hz
  | i :: _, _, h, hb, hz => ⟨h.1, h.2.1, i.loc W W' (fun b hl hh => hb b (Nat.le_trans h.1 hl) (Nat.lt_of_lt_of_le hh h.2.2.2.le)) h.2.2.1, h.2.2.2.above (fun b hl hs => hb b (Nat.le_trans h.1 (Nat.le_trans h.2.1 hl)) hs) hz⟩
theorem Holds.step {W W' : World} {is : List It} {n : Nat} (h : Holds W n is) (hb : Below W.heap.size W W') : Holds W' n is := h.above (fun b _ hs => hb.block b hs) hb.size
theorem Holds.push {W W' : World} {it : It} (hb : Below W.heap.size W W') (h1 : W.heap.size ≤ it.lo) (h2 : it.lo ≤ it.hi) (h3 : it.hi ≤ W'.heap.size) (hP : it.P W') : ∀ {is : List It} {n : Nat}, Holds W n is → Holds W' n (is ++ [it])
  | [], _, h => ⟨Nat.le_trans h h1, h2, hP, h3⟩
  | i :: _, _, h => ⟨h.1, h.2.1, i.loc W W' (fun b _ hh => hb.block b (Nat.lt_of_lt_of_le hh h.2.2.2.le)) h.2.2.1, Holds.push hb h1 h2 h3 hP h.2.2.2⟩
theorem Holds.pop {W : World} {it : It} : ∀ {is : List It} {n : Nat}, Holds W n (is ++ [it]) → Holds W n is
  | [], _, h => Nat.le_trans h.1 (Nat.le_trans h.2.1 h.2.2.2)
  | _ :: _, _, h => ⟨h.1, h.2.1, h.2.2.1, Holds.pop h.2.2.2⟩
theorem Holds.take {W : World} : ∀ {is : List It} {n : Nat} (k : Nat), Holds W n is → Holds W n (is.take k)
  | [], _, k, h => by rw [List.take_nil]; exact h
  | _ :: _, _, 0, h => Nat.le_trans h.1 (Nat.le_trans h.2.1 h.2.2.2.le)
  | _ :: _, _, k + 1, h => ⟨h.1, h.2.1, h.2.2.1, Holds.take k h.2.2.2⟩
theorem Holds.get {W : World} {it : It} : ∀ {is : List It} {n : Nat} (k : Nat), is[k]? = some it → Holds W n is → n ≤ it.lo ∧ it.lo ≤ it.hi ∧ it.hi ≤ W.heap.size ∧ it.P W
  | [], _, k, e, _ => by simp at e
  | i :: is, n, 0, e, h => by
    obtain rfl : i = it := by simpa using e
    exact ⟨h.1, h.2.1, h.2.2.2.le, h.2.2.1⟩
  | i :: is, n, k + 1, e, h => by
    have e' : is[k]? = some it := by simpa using e
    obtain ⟨a, b, c, d⟩ := Holds.get k e' h.2.2.2
    exact ⟨Nat.le_trans h.1 (Nat.le_trans h.2.1 a), b, c, d⟩
theorem Holds.turn {W W' : World} {it it' : It} (hlo : it'.lo = it.lo) (hhi : it'.hi = it.hi) (ht : Turned it.lo it.hi W W') (hP : it'.P W') : ∀ {is : List It} {n : Nat} (k : Nat), is[k]? = some it → Holds W n is → Holds W' n (is.set k it')
  | [], _, k, e, _ => by simp at e
  | i :: is, n, 0, e, h => by
    obtain rfl : i = it := by simpa using e
    refine ⟨by rw [hlo]; exact h.1, by rw [hlo, hhi]; exact h.2.1, hP, ?_⟩
    rw [hhi]
    exact h.2.2.2.above (fun b hl hs => ht.above b hl hs) ht.below.size
  | i :: is, n, k + 1, e, h => by
    have e' : is[k]? = some it := by simpa using e
    have hg := Holds.get k e' h.2.2.2
    exact ⟨h.1, h.2.1, i.loc W W' (fun b _ hh => ht.below.block b (Nat.lt_of_lt_of_le hh hg.1)) h.2.2.1, Holds.turn hlo hhi ht hP k e' h.2.2.2⟩

/-- The world W, since w: all that lay there lies as it lay, and behind it lie these things. -/
structure St (w : World) (is : List It) (W : World) : Prop where
  below : Below w.heap.size w W
  holds : Holds W w.heap.size is

section
variable {w : World} {is : List It} {W W' : World}
theorem St.start (w : World) : St w [] w := ⟨Below.refl _ _, Nat.le_refl _⟩
theorem St.step (h : St w is W) (hb : Below W.heap.size W W') : St w is W' := ⟨h.below.trans (hb.mono h.below.size), h.holds.step hb⟩
theorem St.drew (h : St w is W) : St w is W.drew := h.step ⟨rfl, rfl, rfl, Nat.le_refl _, fun _ _ => rfl⟩
theorem St.drewN (h : St w is W) (n : Nat) : St w is (W.drewN n) := h.step ⟨rfl, rfl, rfl, Nat.le_refl _, fun _ _ => rfl⟩
theorem St.push {it : It} (h : St w is W) (hb : Below W.heap.size W W') (h1 : W.heap.size ≤ it.lo) (h2 : it.lo ≤ it.hi) (h3 : it.hi ≤ W'.heap.size) (hP : it.P W') : St w (is ++ [it]) W' :=
  ⟨h.below.trans (hb.mono h.below.size), h.holds.push hb h1 h2 h3 hP⟩
theorem St.pop {it : It} (h : St w (is ++ [it]) W) : St w is W := ⟨h.below, h.holds.pop⟩
theorem St.take (h : St w is W) (k : Nat) : St w (is.take k) W := ⟨h.below, h.holds.take k⟩
theorem St.box (h : St w is W) (t : TypeId) (v : Value) : St w (is ++ [ItB W.heap.size t v]) (W.alloc (.cells #[v] t)) :=
  h.push ((Below.refl _ _).alloc (Nat.le_refl _) _) (Nat.le_refl _) (Nat.le_succ _) (by rw [World.size_alloc]; exact Nat.le_refl _) (Boxed.new W t v)
theorem St.pushI {v : Value} {xs : List Int} (h : St w is W) (hb : Below W.heap.size W W') (ho : OwnI 3 W' v xs W.heap.size W'.heap.size) : St w (is ++ [ItI v xs W.heap.size W'.heap.size]) W' :=
  h.push hb (Nat.le_refl _) hb.size (Nat.le_refl _) ho
theorem St.pushR {v : Value} {n : Nat} {R : Nat → List Int} (h : St w is W) (hb : Below W.heap.size W W') (ho : OwnR 3 39 W' v n R W.heap.size W'.heap.size) : St w (is ++ [ItR v n R W.heap.size W'.heap.size]) W' :=
  h.push hb (Nat.le_refl _) hb.size (Nat.le_refl _) ho
/-- The copies that the laws make. -/
theorem St.copyR {g : Nat} {G : Nat → Nat} {rows : Rows2} (h : St w is W) (hn : bulk rows ≤ maxLen) (hg : W.heap.size ≤ g) (ho : OwnRows 3 39 W' g W'.heap.size G rows) (hb : Below W.heap.size W W') :
    St w (is ++ [ItR (whole g rows.length) rows.length (rowsF rows) W.heap.size W'.heap.size]) W' :=
  h.pushR hb ((ho.ownR hn).wider hg (Nat.le_refl _))
theorem OwnInts.ownI {t : TypeId} {g : Nat} {xs : List Int} {hi : Nat} (h : OwnInts t W g xs) (hn : xs.length ≤ maxLen) (hg : g < hi) : OwnI t W (whole g xs.length) xs g hi :=
  ⟨h.2, .inr ⟨g, _, _, rfl, Nat.le_refl _, hn, Nat.le_refl _, hg, h.1, fun _ hi => intCell_lt hi⟩⟩
theorem St.copyI {xs : List Int} (h : St w is W) (hn : xs.length ≤ maxLen) (ho : OwnInts 3 W' W.heap.size xs) (hz : W'.heap.size = W.heap.size + 1) (hb : Below W.heap.size W W') :
    St w (is ++ [ItI (whole W.heap.size xs.length) xs W.heap.size W'.heap.size]) W' :=
  h.pushI hb (ho.ownI hn (by omega))
theorem St.cell {b : Nat} {t : TypeId} {v : Value} (h : St w is W) (k : Nat) (e : is[k]? = some (ItB b t v)) : W.cell? ⟨b, 0, none⟩ = some v := Boxed.cell (h.holds.get k e).2.2.2
theorem St.lt {b : Nat} {t : TypeId} {v : Value} (h : St w is W) (k : Nat) (e : is[k]? = some (ItB b t v)) : b < W.heap.size := Boxed.lt (h.holds.get k e).2.2.2
theorem St.ownI {v : Value} {xs : List Int} {lo hi : Nat} (h : St w is W) (k : Nat) (e : is[k]? = some (ItI v xs lo hi)) : OwnI 3 W v xs lo hi := (h.holds.get k e).2.2.2
theorem St.ownR {v : Value} {n : Nat} {R : Nat → List Int} {lo hi : Nat} (h : St w is W) (k : Nat) (e : is[k]? = some (ItR v n R lo hi)) : OwnR 3 39 W v n R lo hi := (h.holds.get k e).2.2.2
theorem St.ints {v : Value} {xs : List Int} {lo hi : Nat} (h : St w is W) (k : Nat) (e : is[k]? = some (ItI v xs lo hi)) : IntsAt W v xs := (h.ownI k e).at
theorem St.rows {v : Value} {rows : Rows2} {lo hi : Nat} (h : St w is W) (k : Nat) (e : is[k]? = some (ItR v rows.length (rowsF rows) lo hi)) : RowsAt W v rows := (h.ownR k e).at
theorem St.boundsR {v : Value} {n : Nat} {R : Nat → List Int} {lo hi : Nat} (h : St w is W) (k : Nat) (e : is[k]? = some (ItR v n R lo hi)) : lo ≤ W.heap.size ∧ hi ≤ W.heap.size := ⟨Nat.le_trans (h.holds.get k e).2.1 (h.holds.get k e).2.2.1, (h.holds.get k e).2.2.1⟩
theorem St.turn {it it' : It} (h : St w is W) (k : Nat) (e : is[k]? = some it) (hlo : it'.lo = it.lo) (hhi : it'.hi = it.hi) (ht : Turned it.lo it.hi W W') (hP : it'.P W') : St w (is.set k it') W' :=
  ⟨h.below.trans (ht.below.mono (h.holds.get k e).1), h.holds.turn hlo hhi ht hP k e⟩
theorem St.turnR {v : Value} {n : Nat} {R R' : Nat → List Int} {lo hi : Nat} (h : St w is W) (k : Nat) (e : is[k]? = some (ItR v n R lo hi)) (ht : Turned lo hi W W') (ho : OwnR 3 39 W' v n R' lo hi) : St w (is.set k (ItR v n R' lo hi)) W' :=
  h.turn (it' := ItR v n R' lo hi) k e rfl rfl ht ho
theorem St.turnI {v : Value} {xs ys : List Int} {lo hi : Nat} (h : St w is W) (k : Nat) (e : is[k]? = some (ItI v xs lo hi)) (hg : W.grownBy W' v.ownBlock) (ho : OwnI 3 W' v ys lo hi) : St w (is.set k (ItI v ys lo hi)) W' :=
  have hk := h.holds.get k e
  h.turn (it' := ItI v ys lo hi) k e rfl rfl (Turned.of_grownBy hg (Nat.le_trans hk.2.1 hk.2.2.1) fun b e' => ⟨((h.ownI k e).block b e').1, ((h.ownI k e).block b e').2.1⟩) ho
end
theorem St.start1 (w : World) (t : TypeId) (v : Value) : St w [ItB w.heap.size t v] (w.alloc (.cells #[v] t)) := (St.start w).box t v
theorem St.start2 (w : World) (t t' : TypeId) (v v' : Value) : St w [ItB w.heap.size t v, ItB (w.heap.size + 1) t' v'] ((w.alloc (.cells #[v] t)).alloc (.cells #[v'] t')) := by
  have h := (St.start1 w t v).box t' v'
  rw [World.size_alloc] at h
  exact h
theorem St.start3 (w : World) (t t' t2 : TypeId) (v v' v2 : Value) : St w [ItB w.heap.size t v, ItB (w.heap.size + 1) t' v', ItB (w.heap.size + 2) t2 v2] (((w.alloc (.cells #[v] t)).alloc (.cells #[v'] t')).alloc (.cells #[v2] t2)) := by
  have h := (St.start2 w t t' v v').box t2 v2
  rw [World.size_alloc, World.size_alloc] at h
  exact h
end Go.Proofs.YtkjncgnclogfeaaDoor

/- The law of DomainCut: model and program answer alike, the argument is left alone, and the answer owns its memory. -/
namespace Go.Proofs.YtkjncgnclogfeaaDoor
open Go.RowKit Go.Deep

set_option maxRecDepth 100000 in
set_option maxHeartbeats 16000000 in
theorem law_cut (v0 : Value) (r0 : Rows2) (z1 : Int) (w : World) (h0 : RowsAt w v0 r0) (hT : Tab w) :
    Calls Tryd.prog 9 #[.agg #[v0], .int .i64 z1] w (SaysN true w) := by
  have e0 := St.start1 w 24 v0
  have H0 := Lib.hid h0
  have HTT := Lib.hid hT
  obtain ⟨A0, C0, rfl, _⟩ := h0
  have E0 := Lib.hid e0
  clear e0 hT
  have hdr : ∀ W : World, W.drew.heap = W.heap := fun _ => rfl
  go_enter Tryd.func9, Tryd.ntmps9
  have hc1 := E0.out.cell 0 rfl
  have hsz := szOrder_any _ r0 1048576 _ (H0.out.below E0.out.below) (by omega) (by omega)
  go_wp2_with fail
  refine hsz.mono ?_
  clear hsz
  rintro e w1 ⟨⟨q0, hr, rfl⟩, hb⟩
  have E1 := Lib.hid (E0.out.step hb)
  clear hb hc1 E0
  by_cases hneg0 : q0 < 0
  · go_wp2
    go_ret
    exact ⟨rfl, E1.out.below⟩
  have hq0 : 0 ≤ q0 ∧ q0 ≤ 1048576 ∧ bulk r0 ≤ 1048576 := by rcases hr with h | h <;> omega
  have HB0 := Lib.hid hq0.2.2
  have HM0 := Lib.hid (maxLen_ge HB0.out)
  have HL0 := Lib.hid (show lens r0 r0.length ≤ 1048576 by have := lens_all r0; have := HB0.out; omega)
  clear hr
  clear hq0
  have hspec : ∀ W u0, RowsAt W u0 r0 → Calls Tryd.prog 35 #[.agg #[u0], .int .i64 z1] W (OrderP (cutL r0 z1) (cutOk r0 z1) W) := fun W u0 k0 => specCut_any u0 r0 z1 W k0 HB0.out
  have himpl : ∀ W u0, RowsAt W u0 r0 → Tab W → Calls Tryd.prog 36 #[.agg #[u0], .int .i64 z1] W (OrderP (cutL r0 z1) (cutOk r0 z1) W) := fun W u0 k0 kT => implCut_any u0 r0 z1 W k0 kT HB0.out
  have hxl := cut_bulk r0 z1
  generalize cutL r0 z1 = xs at hspec himpl hxl
  generalize cutOk r0 z1 = t at hspec himpl
  have HX := Lib.hid hxl
  have HXL := Lib.hid (show lens xs xs.length ≤ 1048576 by have := lens_all xs; have := HX.out; omega)
  have HS := Lib.hid hspec
  have HI := Lib.hid himpl
  have hne : (t != t) = false := bne_self_eq_false t
  clear hspec himpl hxl
  have hc2 := E1.out.cell 0 rfl
  go_wp2_with fail
  refine (toOrder_any _ r0 _ (H0.out.below E1.out.below) HB0.out).mono ?_
  rintro e w2 ⟨gw2, Gw2, rfl, hg, ho, hb⟩
  have hE := E1.out.copyR HM0.out hg ho hb; simp only [List.cons_append, List.nil_append] at hE; have E2 := Lib.hid hE; clear hE
  clear hg ho hb
  clear hc2
  go_wp2_with fail
  refine (HS.out _ _ (E2.out.rows 1 rfl)).mono ?_
  rintro e w3 ⟨u, rfl, hu, hb⟩
  obtain ⟨aU, CU, rfl⟩ := hu.form; have hE := (E2.out.take 1).pushR hb hu; simp only [List.cons_append, List.nil_append, List.take_succ_cons, List.take_zero] at hE; have E3 := Lib.hid hE; clear hE; clear hb hu
  have hE := E3.out.box 26 (Value.slice aU xs.length CU); simp only [List.cons_append, List.nil_append] at hE; have E4 := Lib.hid hE; clear hE
  have hc3 := E4.out.cell 0 rfl
  go_wp2_with fail
  refine (toOrder_any _ r0 _ (H0.out.below E4.out.below) HB0.out).mono ?_
  rintro e w5 ⟨gw5, Gw5, rfl, hg, ho, hb⟩
  have hE := (E4.out.copyR HM0.out hg ho hb).box 26 (whole gw5 r0.length)
  simp only [List.cons_append, List.nil_append] at hE
  have E5 := Lib.hid hE
  clear hE hg ho hb hc3 E4
  have hc4 := E5.out.cell 4 rfl
  go_wp2_with fail
  refine (HI.out _ _ (E5.out.rows 3 rfl) (HTT.out.below E5.out.below)).mono ?_
  rintro e w6 ⟨u, rfl, hu, hb⟩
  obtain ⟨aG, CG, rfl⟩ := hu.form
  have hE := E5.out.pushR hb hu; simp only [List.cons_append, List.nil_append] at hE; have E6 := Lib.hid hE; clear hE
  clear hb hu E5 hc4
  have hE := E6.out.box 26 (Value.slice aG xs.length CG); simp only [List.cons_append, List.nil_append] at hE; have E7 := Lib.hid hE; clear hE
  clear E6
  have heq := eqOrder_any _ _ xs xs _ (E7.out.rows 5 rfl) (E7.out.rows 1 rfl)
  rw [decide_eq_true (rfl : xs = xs)] at heq
  have hc5 := E7.out.cell 6 rfl
  have hc6 := E7.out.cell 2 rfl
  go_wp2_with fail
  refine heq.mono ?_
  clear heq
  rintro e w8 ⟨rfl, hb⟩
  have E8 := Lib.hid (E7.out.step hb)
  clear hb E7
  clear hc5 hc6
  have hc7 := E8.out.cell 4 rfl
  have hc8 := E8.out.cell 0 rfl
  go_wp2_with fail
  go_region_held3 (fun W' : World => W'.cell? ⟨w5.heap.size, 0, none⟩ = some (whole gw5 r0.length) ∧ W'.cell? ⟨w.heap.size, 0, none⟩ = some (.slice A0 r0.length C0)) (first | exact ⟨E10.out.cell 4 rfl, E10.out.cell 0 rfl⟩ | exact ⟨E9.out.cell 4 rfl, E9.out.cell 0 rfl⟩ | exact ⟨E8.out.drew.cell 4 rfl, E8.out.drew.cell 0 rfl⟩) (first | (go_at_call 15; refine (toOrder_any _ r0 _ (H0.out.below E8.out.drew.below) HB0.out).mono ?_; rintro e w9 ⟨gw9, Gw9, rfl, hg, ho, hb⟩; have hE := E8.out.drew.copyR HM0.out hg ho hb; simp only [List.cons_append, List.nil_append] at hE; have E9 := Lib.hid hE; clear hE; have heq := eqOrder_any _ _ r0 r0 w9 (E9.out.rows 3 rfl) (E9.out.rows 7 rfl); rw [decide_eq_true (rfl : r0 = r0)] at heq; have HEQ := Lib.hid heq; clear heq hg ho hb) | (go_at_call 17; refine HEQ.out.mono ?_; clear HEQ; rintro e w10 ⟨rfl, hb⟩; have hE := (E9.out.take 7).step hb; simp only [List.take_succ_cons, List.take_zero] at hE; have E10 := Lib.hid hE; clear hE; clear hb))
  clear hc7 hc8
  have hc9 := E10.out.cell 4 rfl
  have hmk := markOrder_any _ r0 (1) _ _ _ (E10.out.ownR 3 rfl) (E10.out.boundsR 3 rfl).1 (E10.out.boundsR 3 rfl).2 (by omega) (by have := HL0.out; omega)
  go_wp2_with fail
  refine hmk.mono ?_
  clear hmk
  rintro e w11 ⟨rfl, ho, ht⟩
  have hE := E10.out.turnR 3 rfl ht ho; simp only [List.set_cons_succ, List.set_cons_zero] at hE; have E11 := Lib.hid hE; clear hE
  clear ho ht hc9 E10
  have hpos : ¬ (1 + ((lens r0 r0.length : Nat) : Int) < 0) := by omega
  have heq := eqOrder_any _ _ xs xs _ (E11.out.rows 5 rfl) (E11.out.rows 1 rfl)
  rw [decide_eq_true (rfl : xs = xs)] at heq
  have hc10 := E11.out.cell 6 rfl
  have hc11 := E11.out.cell 2 rfl
  go_wp2_with fail
  refine heq.mono ?_
  clear heq
  rintro e w12 ⟨rfl, hb⟩
  have E12 := Lib.hid (E11.out.step hb)
  clear hb E11
  clear hc10 hc11
  have hc12 := E12.out.cell 6 rfl
  have hmk := markOrder_any _ xs 1 _ _ _ (E12.out.ownR 5 rfl) (E12.out.boundsR 5 rfl).1 (E12.out.boundsR 5 rfl).2 (by omega) (by have := HXL.out; omega)
  go_wp2_with fail
  refine hmk.mono ?_
  clear hmk
  rintro e w13 ⟨rfl, ho, ht⟩
  have hE := E12.out.turnR 5 rfl ht ho; simp only [List.set_cons_succ, List.set_cons_zero] at hE; have E13 := Lib.hid hE; clear hE
  clear ho ht hc12 E12
  have hpos2 : ¬ (1 + ((lens xs xs.length : Nat) : Int) < 0) := by omega
  have hq : ((1 + ((lens xs xs.length : Nat) : Int)) != (1 + ((lens xs xs.length : Nat) : Int))) = false := bne_self_eq_false _
  have hc13 := E13.out.cell 6 rfl
  have hhd := heldOrder_any _ xs 1 _ _ _ (E13.out.ownR 5 rfl) (E13.out.boundsR 5 rfl).2 (by omega) (by have := HXL.out; omega)
  go_wp2_with fail
  refine hhd.mono ?_
  clear hhd
  rintro e w14 ⟨rfl, hb⟩
  have E14 := Lib.hid (E13.out.step hb)
  clear hb E13 hc13
  have HQ := Lib.hid hq
  have HPP := Lib.hid hpos2
  have HNE := Lib.hid hne
  clear hq hpos hpos2 hne
  have hc14 := E14.out.cell 0 rfl
  go_wp2_with fail
  refine (toOrder_any _ r0 _ (H0.out.below E14.out.below) HB0.out).mono ?_
  rintro e w15 ⟨gw15, Gw15, rfl, hg, ho, hb⟩
  have hE := E14.out.copyR HM0.out hg ho hb; simp only [List.cons_append, List.nil_append] at hE; have E15 := Lib.hid hE; clear hE
  clear hg ho hb
  clear hc14
  go_wp2_with fail
  refine (HI.out _ _ (E15.out.rows 7 rfl) (HTT.out.below E15.out.below)).mono ?_
  rintro e w16 ⟨u, rfl, hu, hb⟩
  obtain ⟨aV, CV, rfl⟩ := hu.form; have hE := (E15.out.take 7).pushR hb hu; simp only [List.cons_append, List.nil_append, List.take_succ_cons, List.take_zero] at hE; have E16 := Lib.hid hE; clear hE; clear hb hu
  have hE := E16.out.box 26 (Value.slice aV xs.length CV); simp only [List.cons_append, List.nil_append] at hE; have E17 := Lib.hid hE; clear hE
  have hq := HQ.out
  have hpos2 := HPP.out
  have hne := HNE.out
  have heq := eqOrder_any _ _ xs xs _ (E17.out.rows 7 rfl) (E17.out.rows 1 rfl)
  rw [decide_eq_true (rfl : xs = xs)] at heq
  have hc15 := E17.out.cell 8 rfl
  have hc16 := E17.out.cell 2 rfl
  go_wp2_with fail
  refine heq.mono ?_
  clear heq
  rintro e w18 ⟨rfl, hb⟩
  have E18 := Lib.hid (E17.out.step hb)
  clear hb E17
  clear hc15 hc16
  have hc17 := E18.out.cell 6 rfl
  have hhd := heldOrder_any _ xs 1 _ _ _ (E18.out.ownR 5 rfl) (E18.out.boundsR 5 rfl).2 (by omega) (by have := HXL.out; omega)
  go_wp2_with fail
  refine hhd.mono ?_
  clear hhd
  rintro e w19 ⟨rfl, hb⟩
  have E19 := Lib.hid (E18.out.step hb)
  clear hb E18 hc17
  go_wp2
  go_ret
  exact ⟨rfl, E19.out.below⟩
end Go.Proofs.YtkjncgnclogfeaaDoor
