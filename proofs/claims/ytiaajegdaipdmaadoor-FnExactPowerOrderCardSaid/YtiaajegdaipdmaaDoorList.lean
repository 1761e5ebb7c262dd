/- The program's list of the elements of a row (row.list), in memory of its own. -/
import Derived.Test.YtiaajegdaipdmaaDoorElems
import Derived.Test.YtiaajegdaipdmaaDoorOnes
import Derived.Test.YtiaajegdaipdmaaDoorOwnA
import Derived.Test.YtiaajegdaipdmaaDoorTo
import Derived.Test.YtiaajegdaipdmaaDoorMarks
import Derived.Maps.AppendAt
import Derived.Laws.MakeOwn
namespace Go.Proofs.YtiaajegdaipdmaaDoor
open Go.RowKit Go.Deep Go.Shelf
attribute [local go_sem] Oper.semAt_some

/-- Numbers as integers. -/
def intsOf (l : List Nat) : List Int := l.map fun k : Nat => (k : Int)
theorem intsOf_wf {l : List Nat} (h : ∀ k ∈ l, k ≤ 1048576) : ∀ x ∈ intsOf l, (Lit.int .i64 x).wf = true := by
  intro x hx
  obtain ⟨k, hk, rfl⟩ := List.mem_map.1 hx
  have := h k hk
  have e1 : IntKind.i64.min = -9223372036854775808 := rfl
  have e2 : IntKind.i64.max = 9223372036854775807 := rfl
  simp [Lit.wf, e1, e2]
  omega
theorem elems_lt256 {r k : Nat} (h : k ∈ elems r) : k < 256 := by
  unfold elems at h
  exact List.mem_range.1 (List.mem_filter.1 h).1

/-- The numbers xs, in memory of their own. -/
def ListPost (xs : List Int) (w : World) (e : Ending) (w' : World) : Prop :=
  ∃ v, e = .returned v ∧ OwnI 3 w' v xs w.heap.size w'.heap.size ∧ Below w.heap.size w w'
theorem box_ne : (34 : TypeId) ≠ 3 := by decide

set_option maxRecDepth 100000 in
set_option maxHeartbeats 4000000 in
theorem list_any (r : Nat) (w : World) (hr : r < 2 ^ 256) (hT : Tab w) :
    Calls Tryd.prog 56 #[rowV r] w (ListPost (intsOf (elems r)) w) := by
  have htab : 0 < w.heap.size := cell_lt (hT 0 (by omega))
  obtain ⟨i0, hi, hz0, hz1, hz2⟩ := info_parts infoInt
  have hb1 : Below w.heap.size w (w.alloc (.cells #[.int .u64 ((word r 0 : Nat) : Int), .int .u64 ((word r 1 : Nat) : Int), .int .u64 ((word r 2 : Nat) : Int), .int .u64 ((word r 3 : Nat) : Int)] 73)) := (Below.refl _ w).alloc (Nat.le_refl _) _
  have R1 := Lib.hid (RowIn.alloc w hr)
  have HB1 := Lib.hid hb1
  have HT := Lib.hid hT
  clear hb1 hT
  refine (callsIn_wide (n := 8)).1 ?_
  refine callsIn_of_wp_marks Tryd.func56 rfl trivial ?_ rfl
  simp only [Tryd.ntmps56, List.size_toArray, List.length_cons, List.length_nil, Nat.reduceAdd, Nat.reduceSub, Array.replicate_succ, Array.replicate_zero, List.push_toArray, List.append_toArray, List.nil_append, List.cons_append]
  gi_wp2
  refine ⟨trivial, (callsIn_wide.2 (count_any r _)).mono ?_⟩
  rintro e w1 ⟨⟨c, hc, rfl⟩, hb1⟩
  have B1 := Lib.hid (HB1.out.trans (hb1.mono HB1.out.size))
  have hz1' : w.heap.size < w1.heap.size := Nat.lt_of_lt_of_le (by simp) hb1.size
  have RR := Lib.hid (R1.out.below hb1 R1.out.lt)
  have hmk := run_make (P := Tryd.prog) w1 34 3 i0 (.int .i64 0) Tryd.underlying34 hi hz0 .i64 .i64 0 (c : Int) (by omega) (by omega) (by rw [hz2]; omega) (by omega)
  simp only [Int.toNat_zero, Int.toNat_natCast] at hmk
  clear hb1 R1 HB1
  obtain ⟨r0, r1, r2, r3⟩ := RR.out.cells
  gi_wp2
  refine ⟨trivial, (callsIn_wide.2 (elements_any r _)).mono ?_⟩
  rintro e w3 ⟨rfl, rfl⟩
  gi_wp2
  have s1 : (w1.alloc (.cells (madeCells #[.int .i64 0] c) 3)).heap.size = w1.heap.size + 1 := World.size_alloc _ _
  have s2 : ((w1.alloc (.cells (madeCells #[.int .i64 0] c) 3)).alloc (.cells #[.slice (some ⟨w1.heap.size, 0, none⟩) 0 c] 34)).heap.size = w1.heap.size + 2 := by rw [World.size_alloc, s1]
  have hB4 : Below w1.heap.size w1 (((w1.alloc (.cells (madeCells #[.int .i64 0] c) 3)).alloc (.cells #[.slice (some ⟨w1.heap.size, 0, none⟩) 0 c] 34)).alloc (.cells #[.int .u64 ((word r 0 : Nat) : Int), .int .u64 ((word r 1 : Nat) : Int), .int .u64 ((word r 2 : Nat) : Int), .int .u64 ((word r 3 : Nat) : Int)] 73)) := (((Below.refl _ w1).alloc (Nat.le_refl _) _).alloc (by simp) _).alloc (by simp; omega) _
  have p4 : Boxed (((w1.alloc (.cells (madeCells #[.int .i64 0] c) 3)).alloc (.cells #[.slice (some ⟨w1.heap.size, 0, none⟩) 0 c] 34)).alloc (.cells #[.int .u64 ((word r 0 : Nat) : Int), .int .u64 ((word r 1 : Nat) : Int), .int .u64 ((word r 2 : Nat) : Int), .int .u64 ((word r 3 : Nat) : Int)] 73)) (w1.heap.size + 1) 34 (.slice (some ⟨w1.heap.size, 0, none⟩) 0 c) := by
    have h := Boxed.new (w1.alloc (.cells (madeCells #[.int .i64 0] c) 3)) 34 (.slice (some ⟨w1.heap.size, 0, none⟩) 0 c)
    rw [s1] at h
    exact h.alloc _
  have o4 : (((w1.alloc (.cells (madeCells #[.int .i64 0] c) 3)).alloc (.cells #[.slice (some ⟨w1.heap.size, 0, none⟩) 0 c] 34)).alloc (.cells #[.int .u64 ((word r 0 : Nat) : Int), .int .u64 ((word r 1 : Nat) : Int), .int .u64 ((word r 2 : Nat) : Int), .int .u64 ((word r 3 : Nat) : Int)] 73)).ownsRow w.heap.size 3 1 (.slice (some ⟨w1.heap.size, 0, none⟩) 0 c) 0 [] :=
    ((World.ownsRow_made w1 (madeCells #[.int .i64 0] c) c (by omega) (by unfold maxLen; omega) (by rw [size_madeCells, Nat.mul_one])).alloc _).alloc _
  have r4 : RowIn (((w1.alloc (.cells (madeCells #[.int .i64 0] c) 3)).alloc (.cells #[.slice (some ⟨w1.heap.size, 0, none⟩) 0 c] 34)).alloc (.cells #[.int .u64 ((word r 0 : Nat) : Int), .int .u64 ((word r 1 : Nat) : Int), .int .u64 ((word r 2 : Nat) : Int), .int .u64 ((word r 3 : Nat) : Int)] 73)) (w1.heap.size + 2) r := by
    have h := RowIn.alloc ((w1.alloc (.cells (madeCells #[.int .i64 0] c) 3)).alloc (.cells #[.slice (some ⟨w1.heap.size, 0, none⟩) 0 c] 34)) hr
    rw [s2] at h
    exact h
  have hz4 : (((w1.alloc (.cells (madeCells #[.int .i64 0] c) 3)).alloc (.cells #[.slice (some ⟨w1.heap.size, 0, none⟩) 0 c] 34)).alloc (.cells #[.int .u64 ((word r 0 : Nat) : Int), .int .u64 ((word r 1 : Nat) : Int), .int .u64 ((word r 2 : Nat) : Int), .int .u64 ((word r 3 : Nat) : Int)] 73)).heap.size = w1.heap.size + 3 := by rw [World.size_alloc, s2]
  revert hB4 p4 o4 r4 hz4
  clear s1 s2
  generalize (((w1.alloc (.cells (madeCells #[.int .i64 0] c) 3)).alloc (.cells #[.slice (some ⟨w1.heap.size, 0, none⟩) 0 c] 34)).alloc (.cells #[.int .u64 ((word r 0 : Nat) : Int), .int .u64 ((word r 1 : Nat) : Int), .int .u64 ((word r 2 : Nat) : Int), .int .u64 ((word r 3 : Nat) : Int)] 73)) = w4
  intro hB4 p4 o4 r4 hz4
  have T4 : Tab w4 := (HT.out.below B1.out).below hB4
  have hBw : Below w.heap.size w w4 := B1.out.trans (hB4.mono (by omega))
  clear hmk r0 r1 r2 r3
  refine wpIn_rangeFunc_ownG rfl (by omega) (gf := 73) (lb := #[.pointer (some ⟨w1.heap.size + 2, 0, none⟩)]) rfl trivial (enters_of Tryd.func73 (by kernel_rfl) rfl)
    (elements1_stops _ w.heap.size (w1.heap.size + 2) r w4 (by omega) hr r4 (by omega) htab T4) belowK_t (belowK_b (by omega)) (Below.refl _ _) (fun _ => rfl)
    (fun pre W => (∃ v, Boxed W (w1.heap.size + 1) 34 v ∧ W.ownsRow w.heap.size 3 1 v (natsOf pre).length ((natsOf pre).map fun k : Nat => Value.int .i64 (k : Int)) ∧ True) ∧ Below w.heap.size w W)
    (fun _ _ _ => False)
    (OwnFrom.and (Own.from (holdsRow_own w.heap.size (w1.heap.size + 1) 34 3 1 (fun pre : List (Bt r) => (natsOf pre).length) (fun pre => (natsOf pre).map fun k : Nat => Value.int .i64 (k : Int)) (fun _ _ => True)) _) (ownFrom_below (Nat.le_refl _) (by omega)))
    (fun _ _ _ _ _ hs _ _ => hs)
    ⟨⟨_, p4, o4, trivial⟩, hBw⟩
    (fun x => { tmps := #[rowV r, .pointer (some ⟨w.heap.size, 0, none⟩), .slice none 0 0, .pointer (some ⟨w1.heap.size + 1, 0, none⟩), .int .i64 ((x.1 : Nat) : Int), rowV r, .int .i64 c, .slice (some ⟨w1.heap.size, 0, none⟩) 0 c, rowV r, .func (.func 73) #[] #[.pointer (some ⟨w1.heap.size + 2, 0, none⟩)], .int .i64 ((x.1 : Nat) : Int), undef, undef, undef, undef, undef], defers := [] }) ?assign ?body ?done ?stop
  case assign =>
    intro l x W K hK
    unfold encBt
    gi_wp2
    exact hK
  case body =>
    rintro l pre x W ⟨⟨v, hv, hrow, _⟩, hB⟩ hlt
    obtain ⟨k, hkm⟩ := x
    dsimp only
    have hc := hv.cell
    have hpl : (natsOf pre).length ≤ 256 := by
      have h1 : (eList r).length = (elems r).length := by simp [eList]
      have h2 : (elems r).length ≤ 256 := by
        unfold elems
        have := List.length_filter_le (fun b => r.testBit b) (List.range 256)
        simpa using this
      have h3 : (natsOf pre).length = pre.length := by simp [natsOf]
      omega
    have HROW := Lib.hid hrow
    have HV := Lib.hid hv
    have HBB := Lib.hid hB
    clear hrow hv hB
    gi_wp2_with (gi_at_builtin; refine wpListIn_append_own _ rfl _ _ 34 rfl w.heap.size 3 i0 (.int .i64 0) 1 8 Tryd.underlying34 hi hz0 hz1 hz2 rfl (by decide) _ _ _ rfl (HROW.out.alloc _) ⟨W.heap.size, 0, none⟩ 1 1 [.int .i64 (k : Int)] rfl rfl (cell_one_new _ _ _) (by simp [Value.oneCell']) (by unfold maxLen; omega) (by omega) (by have := HBB.out.size; simp; omega) ?_; intro v' w1' hown' hgrow _; obtain ⟨g', cap', rfl⟩ := ownsRow_succ hown'; obtain ⟨hv1, hv2, hr2, hk2, hb2⟩ := HV.out.appended box_ne HROW.out HBB.out.size (by omega) hown' hgrow; have hc1 := hv1.cell; have hf1 := hv1.frozen)
    exact ⟨hk2.from _, hb2, ⟨_, hv2, by rw [natsOf_snoc, List.length_append, List.map_append]; exact hr2, trivial⟩, HBB.out.trans hb2⟩
  case done =>
    rintro D ys W hD rfl ⟨⟨v, hv, hrow, _⟩, hB⟩ hK
    have hc := hv.cell
    rw [natsOf_all] at hrow
    have HROW := Lib.hid hrow
    have HBB := Lib.hid hB
    clear hrow hB hv
    gi_wp2
    refine ⟨by simp, .inl ⟨_, _, rfl, run_takeDeferred hK, ?_⟩⟩
    have ho := ownsRow_putObj HROW.out (.deferred none) hK rfl
    refine ⟨_, results_tmp rfl _ _ _, v, rfl, OwnI.of_owns ?_ (intsOf_wf fun k hk => by have := elems_lt256 hk; omega) (fun b hb => (ho.lt b hb).2), HBB.out.trans (belowK_b (w := w) (Nat.le_refl _) W D _ _ (by omega) hK rfl rfl)⟩
    have e1 : (intsOf (elems r)).length = (elems r).length := by simp [intsOf]
    have e2 : cellsI (intsOf (elems r)) = (elems r).map fun k : Nat => Value.int .i64 (k : Int) := by simp [intsOf, cellsI]
    rw [e1, e2]
    exact ho
  case stop =>
    rintro D c pre W _ _ h _
    exact h.elim
end Go.Proofs.YtiaajegdaipdmaaDoor
