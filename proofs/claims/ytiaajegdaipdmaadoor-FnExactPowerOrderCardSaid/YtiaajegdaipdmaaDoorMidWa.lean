/- Sets of few numbers as ints: bit operations on them, unions. Plain facts: no function is walked here. -/
import Derived.Test.YtiaajegdaipdmaaDoorBit
import Derived.Test.YtiaajegdaipdmaaDoorMem
import Derived.Laws.BitsLemmas
import Derived.Test.YtiaajegdaipdmaaDoorEq
import Derived.Test.YtiaajegdaipdmaaDoorGrid
import Derived.Test.YtiaajegdaipdmaaDoorMonoS
import Derived.Laws.ShiftsVar
import Derived.Laws.ShiftsVarLaws
import Derived.Test.YtiaajegdaipdmaaDoorBottom
import Derived.Test.YtiaajegdaipdmaaDoorIsEl
import Derived.Test.YtiaajegdaipdmaaDoorStepS
import Derived.Laws.MakeOwn
import Derived.Test.YtiaajegdaipdmaaDoorGridK
import Derived.Test.YtiaajegdaipdmaaDoorOwnB
import Derived.Deep.RegionHeld3
import Derived.Laws.Tables
import Derived.Lib.QuietBelow
import Derived.BigQuiet
import Derived.Test.YtiaajegdaipdmaaDoorBackS
import Derived.Test.YtiaajegdaipdmaaDoorImplDom
import Derived.Laws.EntriesVeiled
import Derived.Test.YtiaajegdaipdmaaDoorMark
import Derived.Test.YtiaajegdaipdmaaDoorValid
import Derived.Test.YtiaajegdaipdmaaDoorSz
import Derived.Test.YtiaajegdaipdmaaDoorFirst
import Derived.RangeFuncBox
import Derived.Test.YtiaajegdaipdmaaDoorOkG
import Derived.Deep.MidRow
import Derived.Deep.AppendLies
namespace Go.Proofs.YtiaajegdaipdmaaDoor
open Go.RowKit Go.Deep

theorem wraps_i62 (n : Int) (h₀ : 0 ≤ n) (h₁ : n < 2 ^ 62) : IntKind.i64.wrap n = n := by
  have : (2 : Int) ^ 62 = 4611686018427387904 := by decide
  rw [IntKind.wrap_i64]; omega
theorem bits_and {a b : Nat} (ha : a < 2 ^ 62) (hb : b < 2 ^ 62) : bits .and .i64 (a : Int) (b : Int) = ((a &&& b : Nat) : Int) := (bits_nat .i64 62 (by decide) wraps_i62 a b ha hb).1
theorem bits_or {a b : Nat} (ha : a < 2 ^ 62) (hb : b < 2 ^ 62) : bits .or .i64 (a : Int) (b : Int) = ((a ||| b : Nat) : Int) := (bits_nat .i64 62 (by decide) wraps_i62 a b ha hb).2
theorem bit_test {s : Nat} (k : Nat) (hs : s < 2 ^ 62) : (bits .and .i64 ((s : Int) / 2 ^ k) 1 == 1) = s.testBit k := by
  have h1 : ((s : Int) / 2 ^ k) = ((s / 2 ^ k : Nat) : Int) := by simp
  have h2 : s / 2 ^ k < 2 ^ 62 := Nat.lt_of_le_of_lt (Nat.div_le_self _ _) hs
  have h3 : (1 : Int) = ((1 : Nat) : Int) := rfl
  have h4 : s.testBit k = (s / 2 ^ k % 2 == 1) := by
    rw [Nat.testBit_eq_decide_div_mod_eq]
    rfl
  rw [h4, h1, h3, bits_and h2 (by decide), nat_mask1, Bool.eq_iff_iff]
  simp only [beq_iff_eq]
  omega
theorem bits_diff {a b : Nat} (ha : a < 2 ^ 62) (hb : b < 2 ^ 62) : bits .andNot .i64 (a : Int) (b : Int) = ((diff a b : Nat) : Int) := by
  have e : bits .andNot .i64 (a : Int) (b : Int) = IntKind.i64.wrap ((diff a b : Nat) : Int) := by
    have ha' : a % 2 ^ 64 = a := Nat.mod_eq_of_lt (Nat.lt_of_lt_of_le ha (by decide))
    have hb' : b % 2 ^ 64 = b := Nat.mod_eq_of_lt (Nat.lt_of_lt_of_le hb (by decide))
    have hn : (BitVec.ofNat 64 a &&& ~~~BitVec.ofNat 64 b).toNat = diff a b := by
      rw [BitVec.toNat_and, BitVec.toNat_not, BitVec.toNat_ofNat, BitVec.toNat_ofNat, ha', hb']
      apply Nat.eq_of_testBit_eq
      intro i
      rw [show 2 ^ 64 - 1 - b = 2 ^ 64 - (b + 1) by omega, Nat.testBit_and, Nat.testBit_two_pow_sub_succ (Nat.lt_of_lt_of_le hb (by decide)), testBit_diff]
      by_cases hi : i < 64
      · simp [hi]
      · have h1 : a.testBit i = false := Nat.testBit_lt_two_pow (Nat.lt_of_lt_of_le ha (Nat.pow_le_pow_right (by decide) (by omega)))
        simp [h1]
    simp only [bits, BitVec.ofInt_natCast]
    rw [← hn]
    rfl
  rw [e]
  exact wraps_i62 _ (Int.natCast_nonneg _) (by
    have : diff a b < 2 ^ 62 := Nat.xor_lt_two_pow ha (by rw [Nat.and_comm]; exact Nat.and_lt_two_pow _ ha)
    exact_mod_cast this)

/-- The union of the sets g k of all k below m that are in s. -/
def unionF (g : Nat → Nat) (s : Nat) : Nat → Nat
  | 0 => 0
  | m + 1 => if s.testBit m = true then unionF g s m ||| g m else unionF g s m
theorem unionF_bit (g : Nat → Nat) (s i : Nat) : ∀ m, (unionF g s m).testBit i = (List.range m).any fun k => s.testBit k && (g k).testBit i
  | 0 => by simp [unionF]
  | m + 1 => by
    unfold unionF
    rw [List.range_succ, List.any_append]
    cases h : s.testBit m with
    | true => rw [if_pos rfl, Nat.testBit_or, unionF_bit g s i m]; simp [h]
    | false => rw [if_neg (by simp), unionF_bit g s i m]; simp [h]
theorem unionF_lt {g : Nat → Nat} {s b : Nat} : ∀ {m}, (∀ k, k < m → g k < 2 ^ b) → unionF g s m < 2 ^ b
  | 0, _ => Nat.two_pow_pos b
  | m + 1, h => by
    unfold unionF
    have h1 := unionF_lt (g := g) (s := s) (b := b) (m := m) fun k hk => h k (by omega)
    split
    · exact Nat.or_lt_two_pow h1 (h m (Nat.lt_succ_self m))
    · exact h1
theorem small_lt {a b : Nat} (h : a < 2 ^ b) (hb : b ≤ 62) : a < 2 ^ 62 := Nat.lt_of_lt_of_le h (Nat.pow_le_pow_right (by decide) hb)
end Go.Proofs.YtiaajegdaipdmaaDoor

/- The program's unionOf, within. -/
namespace Go.Proofs.YtiaajegdaipdmaaDoor
open Go.RowKit Go.Deep

/-- The first n sets as numbers. -/
def setsI (g : Nat → Nat) (n : Nat) : List Int := (List.range n).map fun i => ((g i : Nat) : Int)
theorem setsI_len (g : Nat → Nat) (n : Nat) : (setsI g n).length = n := by simp [setsI]
theorem setsI_at {g : Nat → Nat} {n i : Nat} (h : i < (setsI g n).length) : (setsI g n)[i] = ((g i : Nat) : Int) := by simp [setsI]

set_option maxRecDepth 100000 in
set_option maxHeartbeats 2000000 in
theorem unionOf_any (vf : Value) (g : Nat → Nat) (n s : Nat) (w : World) (hf : IntsAt w vf (setsI g n)) (hn : n ≤ 60) (hg : ∀ k, k < n → g k < 2 ^ 60) (hs : s < 2 ^ 60) :
    Calls Tryd.prog 44 #[vf, .int .i64 (s : Int)] w (fun e w' => e = .returned (.int .i64 ((unionF g s n : Nat) : Int)) ∧ w' = w) := by
  obtain ⟨Af, Cf, rfl, hCf, hmf, _, hy⟩ := hf
  unfold maxLen at hmf
  rw [setsI_len] at *
  have HY := Lib.hid hy
  have HG := Lib.hid hg
  clear hy hg
  go_enter Tryd.func44, Tryd.ntmps44
  go_wp2
  go_loopw [5, 10] (fun uv kv wr => ∃ k : Nat, k ≤ n ∧ kv = .int .i64 k ∧ uv = .int .i64 ((unionF g s k : Nat) : Int) ∧ wr = w) (fun _ kv _ => n - (intOf kv).toNat)
  case atStart => exact ⟨0, Nat.zero_le _, rfl, rfl, rfl⟩
  case round =>
    obtain ⟨k, hk, rfl, rfl, rfl⟩ := hrel
    by_cases hlt : k < n
    · have hltz : (k : Int) < (n : Int) := by omega
      obtain ⟨b, o, rfl, hc⟩ := HY.out k (by rw [setsI_len]; exact hlt)
      rw [setsI_at] at hc
      have ht := bit_test (s := s) k (small_lt hs (by decide))
      have hm : k % 64 = k := Nat.mod_eq_of_lt (by omega)
      cases hq : s.testBit k with
      | true =>
        rw [hq] at ht
        have hor := bits_or (a := unionF g s k) (b := g k) (small_lt (unionF_lt fun j hj => HG.out j (by omega)) (by decide)) (small_lt (HG.out k hlt) (by decide))
        have HE := Lib.hid (show unionF g s (k + 1) = unionF g s k ||| g k by rw [unionF, if_pos hq])
        clear hq
        go_wp2
        go_roundw
        case rel => exact ⟨k + 1, by omega, by go_num, by rw [HE.out], by first | trivial | rfl⟩
        case measure => simp [intOf]; omega
      | false =>
        rw [hq] at ht
        have HE := Lib.hid (show unionF g s (k + 1) = unionF g s k by rw [unionF, if_neg (by rw [hq]; simp)])
        clear hq
        go_wp2
        go_roundw
        case rel => exact ⟨k + 1, by omega, by go_num, by rw [HE.out], by first | trivial | rfl⟩
        case measure => simp [intOf]; omega
    · obtain rfl : k = n := by omega
      have hltz : ¬ ((k : Int) < (k : Int)) := by omega
      go_wp2
      go_ret
      exact ⟨rfl, rfl⟩

theorem within_any (a b : Nat) (w : World) (ha : a < 2 ^ 60) (hb : b < 2 ^ 60) :
    Calls Tryd.prog 97 #[.int .i64 (a : Int), .int .i64 (b : Int)] w (fun e w' => e = .returned (.bool (decide (diff a b = 0))) ∧ w' = w) := by
  have hd := bits_diff (small_lt ha (by decide)) (small_lt hb (by decide))
  by_cases h : diff a b = 0
  · rw [decide_eq_true h]
    rw [h] at hd
    go_enter Tryd.func97, Tryd.ntmps97
    go_wp2
    go_ret
    exact ⟨rfl, rfl⟩
  · rw [decide_eq_false h]
    have h2 : (((diff a b : Nat) : Int) == 0) = false := by rw [beq_eq_false_iff_ne]; omega
    have h3 : (diff a b == 0) = false := by rw [beq_eq_false_iff_ne]; exact h
    go_enter Tryd.func97, Tryd.ntmps97
    go_wp2
    go_ret
    exact ⟨rfl, rfl⟩
end Go.Proofs.YtiaajegdaipdmaaDoor

/- The program's smallSets: the rows of few elements as numbers. -/
namespace Go.Proofs.YtiaajegdaipdmaaDoor
open Go.RowKit Go.Deep Go.Shelf

theorem word_small {a : Nat} (h : a < 2 ^ 60) : word a 0 = a := by
  unfold word
  rw [Nat.mul_zero, Nat.shiftRight_zero]
  exact Nat.mod_eq_of_lt (Nat.lt_of_lt_of_le h (by decide))

set_option maxRecDepth 100000 in
set_option maxHeartbeats 4000000 in
theorem smallSets_any (g : Nat → Nat) (n : Nat) (w : World) (hlt : ∀ i, g i < 2 ^ 256) (hn : GridN g n) (hg : ∀ k, k < n → g k < 2 ^ 60) :
    Calls Tryd.prog 41 #[.agg (gridCells g)] w (OwnQ (setsI g n) w) := by
  have hG : GridAt (w.alloc (.cells (gridCells g) 75)) w.heap.size g := ⟨heap_alloc_new _ _, hlt⟩
  have hB := (Below.refl w.heap.size w).alloc (Nat.le_refl _) (.cells (gridCells g) 75)
  have hcall := size_any w.heap.size n g _ hG hn.le hn.some hn.none
  have hn2 := hn.le
  have hmk := run_make_row' (P := Tryd.prog) 34 3 (.int .i64 0) 8 Tryd.underlying34 infoInt rfl .i64 .i64 n (by omega) (by omega)
  have HG := Lib.hid hG
  have HB := Lib.hid hB
  have HS := Lib.hid hg
  clear hG hB hlt hn hg
  go_enter Tryd.func41, Tryd.ntmps41
  go_wp2_with (go_at_call 55; refine hcall.mono ?_; clear hcall; rintro e w1 ⟨rfl, hb1⟩; have HG1 := Lib.hid (HG.out.below hb1 HG.out.lt); have HB1 := Lib.hid (HB.out.trans (hb1.mono HB.out.size)); clear hb1)
  clear hmk
  have hwl : w.heap.size < w1.heap.size := HG1.out.lt
  have HRW := Lib.hid (World.rowIs_made w1 (.int .i64 0) n 3)
  have hba := (Below.refl w1.heap.size w1).alloc (Nat.le_refl _) (.cells (madeCells #[.int .i64 0] n) 3)
  have HG2 := Lib.hid (HG1.out.below hba hwl)
  have HB2 := Lib.hid (HB1.out.trans (hba.mono HB1.out.size))
  clear hba
  go_loopw [4, 9] (fun _ kv wr => ∃ k : Nat, k ≤ n ∧ kv = .int .i64 k ∧ wr.rowIs w1.heap.size 3 n (fun i => if i < k then .int .i64 ((g i : Nat) : Int) else .int .i64 0) ∧ GridAt wr w.heap.size g ∧ Below w.heap.size w wr) (fun _ kv _ => n - (intOf kv).toNat)
  case atStart => exact ⟨0, Nat.zero_le _, rfl, HRW.out.congr (fun i _ => by rw [if_neg (Nat.not_lt_zero i)]), HG2.out, HB2.out⟩
  case round =>
    obtain ⟨k, hk, rfl, hr, hG, hB⟩ := hrel
    have HR := Lib.hid hr
    have HGR := Lib.hid hG
    have HBR := Lib.hid hB
    clear hB HRW HG2 HB2
    by_cases hlt : k < n
    · have hc := hr.cell hlt
      have hfz := hr.frozen k
      rw [if_neg (Nat.lt_irrefl k)] at hc
      have hkz : (k : Int) < (n : Int) := by omega
      obtain ⟨c0, _, _, _⟩ := hG.row k (by omega)
      have hsm := HS.out k hlt
      rw [word_small hsm] at c0
      have h60 : (2 : Nat) ^ 60 = 1152921504606846976 := by decide
      have hwr : IntKind.i64.wrap ((g k : Nat) : Int) = ((g k : Nat) : Int) := IntWalk.i64_in _ (by omega)
      have hk0 : (0 : Int) ≤ (k : Int) := by omega
      have hk2 : (k : Int) < 200 := by omega
      clear hr hG hsm
      go_wp2
      go_roundw
      case rel =>
        refine ⟨k + 1, by omega, by go_num, (HR.out.set k (.int .i64 ((g k : Nat) : Int))).congr (fun i hi => ?_), HGR.out.setOther (by show w.heap.size ≠ w1.heap.size; omega) _, HBR.out.setCell (p := ⟨w1.heap.size, k, none⟩) (by show w.heap.size ≤ w1.heap.size; omega) _⟩
        by_cases e : i = k
        · subst e; rw [if_pos (Nat.lt_succ_self i)]; simp
        · by_cases e2 : i < k
          · simp [e, e2, show i < k + 1 by omega]
          · simp [e, e2, show ¬ i < k + 1 by omega]
      case measure => simp [intOf]; omega
    · obtain rfl : k = n := by omega
      have hkz : ¬ ((k : Int) < (k : Int)) := by omega
      clear hr hG
      go_wp2
      go_ret
      have hl := setsI_len g k
      refine ⟨_, rfl, ⟨?_, .inr ⟨w1.heap.size, k, _, by rw [hl]; rfl, by rw [hl]; exact Nat.le_refl _, by unfold maxLen; omega, by omega, HR.out.lt, HR.out, fun i hi => ?_⟩⟩, HBR.out⟩
      · intro y hy
        unfold setsI at hy
        obtain ⟨i, hi, rfl⟩ := List.mem_map.1 hy
        rw [List.mem_range] at hi
        have h60 : (2 : Nat) ^ 60 = 1152921504606846976 := by decide
        have := HS.out i hi
        have e1 : IntKind.i64.min = -9223372036854775808 := rfl
        have e2 : IntKind.i64.max = 9223372036854775807 := rfl
        simp [Lit.wf, e1, e2]
        omega
      · rw [hl] at hi
        simp [setsI, hi]
end Go.Proofs.YtiaajegdaipdmaaDoor

/- The closures of the three kinds of powerdomains: a set's span. -/
namespace Go.Proofs.YtiaajegdaipdmaaDoor
open Go.RowKit Go.Deep Go.Shelf

/-- The lists of the lower and the upper sets, in their variables. -/
structure LU (lb ub n : Nat) (gl gu : Nat → Nat) (A B : Option Addr) (C D : Nat) (W : World) : Prop where
  cl : W.cell? ⟨lb, 0, none⟩ = some (.slice A n C)
  cu : W.cell? ⟨ub, 0, none⟩ = some (.slice B n D)
  il : IntsAt W (.slice A n C) (setsI gl n)
  iu : IntsAt W (.slice B n D) (setsI gu n)
theorem LU.step {lb ub n : Nat} {gl gu : Nat → Nat} {A B : Option Addr} {C D : Nat} {W W' : World} (h : LU lb ub n gl gu A B C D W) (hb : Below W.heap.size W W') : LU lb ub n gl gu A B C D W' :=
  ⟨(hb.cell (p := ⟨lb, 0, none⟩) (cell_lt h.cl)).trans h.cl, (hb.cell (p := ⟨ub, 0, none⟩) (cell_lt h.cu)).trans h.cu, h.il.below hb, h.iu.below hb⟩
theorem fresh2' (W : World) (a b : Value) (t : TypeId) : (W.alloc (.cells #[a, b] t)).cell? ⟨W.heap.size, 0, none⟩ = some a ∧ (W.alloc (.cells #[a, b] t)).cell? ⟨W.heap.size, 1, none⟩ = some b :=
  ⟨by rw [cell_of_row _ W.heap.size 0 _ _ _ (heap_alloc_new _ _)]; rfl, by rw [cell_of_row _ W.heap.size 1 _ _ _ (heap_alloc_new _ _)]; rfl⟩
/-- A store of a whole array into a variable, as one step of a region that draws. -/
theorem step_store_row {P : Program} {ops : Array Oper} {o : Oper} {a : Act} {w : World} {K : Act → World → Prop} {Q : Exit → Act → World → Prop} {E : Prop} (hgd : o.guard = none) (ty : TypeId) (x y : Operand) (ho : o.op = .store ty x y)
    (g : Nat) (cells : Array Value) (hx : a.eval x = .pointer (some ⟨g, 0, none⟩)) (hy : a.eval y = .agg cells)
    (t : TypeId) (old : Array Value) (hg : w.heap[g]? = some (.cells old t (0, 0))) (hi : (P.info? ty).map (·.size) = some cells.size)
    (hold : old.size = cells.size) (h1 : cells.all (·.oneCell') = true)
    (h : K (a.put o.dst undef) (w.setRow g cells)) : if Region.wanted o (yielded ops a.tmps) = true then Oper.wp P o a w K Q else E := by
  have hw : Region.wanted o (yielded ops a.tmps) = true := by simp [Region.wanted, hgd]
  rw [if_pos hw]
  exact wp_store_row ty x y ho g cells hx hy t old hg hi hold h1 h
theorem cell_apart (W : World) {b G o : Nat} (cs : Array Value) (hne : b ≠ G) : (W.setRow G cs).cell? ⟨b, o, none⟩ = W.cell? ⟨b, o, none⟩ := World.cell?_of_block (setRow_other W G b cs hne)
/-- A span. -/
abbrev spanV (lo up : Nat) : Value := .agg #[.int .i64 ((lo : Nat) : Int), .int .i64 ((up : Nat) : Int)]
def SaysSpan (lo up : Nat) (w : World) (e : Ending) (w' : World) : Prop := e = .returned (spanV lo up) ∧ Below w.heap.size w w'

set_option maxRecDepth 100000 in
set_option maxHeartbeats 4000000 in
theorem lowerSpan_any (lb ub n s : Nat) (gl gu : Nat → Nat) (A B : Option Addr) (C D : Nat) (w : World) (h : LU lb ub n gl gu A B C D w) (hn : n ≤ 60) (hgl : ∀ k, k < n → gl k < 2 ^ 60) (hgu : ∀ k, k < n → gu k < 2 ^ 60) (hs : s < 2 ^ 60) :
    Calls Tryd.prog 43 #[.int .i64 (s : Int), .pointer (some ⟨lb, 0, none⟩), .pointer (some ⟨ub, 0, none⟩)] w (SaysSpan (unionF gl s n) (unionF gu s n) w) := by
  have hb := (Below.refl w.heap.size w).alloc (Nat.le_refl _) (.cells #[.int .i64 0, .int .i64 0] 82)
  obtain ⟨r0, r1⟩ := fresh2' w (.int .i64 0) (.int .i64 0) 82
  have hf := frozen_of_row (w.alloc (.cells #[.int .i64 0, .int .i64 0] 82)) w.heap.size
  have H1 := Lib.hid (h.step hb)
  have HB := Lib.hid hb
  have hcL := fun W (hW : LU lb ub n gl gu A B C D W) => unionOf_any (.slice A n C) gl n s W hW.il hn hgl hs
  have hcU := fun W (hW : LU lb ub n gl gu A B C D W) => unionOf_any (.slice B n D) gu n s W hW.iu hn hgu hs
  have HCL := Lib.hid hcL
  have HCU := Lib.hid hcU
  have h0 := h
  clear hb h hgl hgu hcL hcU
  have hlb : lb ≠ w.heap.size := by have := cell_lt h0.cl; show lb ≠ w.heap.size; simp at this; omega
  have hub : ub ≠ w.heap.size := by have := cell_lt h0.cu; show ub ≠ w.heap.size; simp at this; omega
  clear h0
  go_enter Tryd.func43, Tryd.ntmps43
  go_upto_region 1 with fail
  obtain ⟨W1, hW1⟩ : ∃ W1, W1 = w.alloc (.cells #[.int .i64 0, .int .i64 0] 82) := ⟨_, rfl⟩
  have hbx : (w.alloc (.cells #[.int .i64 0, .int .i64 0] 82)).heap[w.heap.size]? = some (.cells #[.int .i64 0, .int .i64 0] 82 (0, 0)) := heap_alloc_new _ _
  rw [← hW1] at r0 r1 hf H1 HB hbx ⊢
  clear hW1
  have hl0 := H1.out.cl
  have hl1 := H1.out.cu
  have HBX := Lib.hid (show W1.drew.heap[w.heap.size]? = some (.cells #[.int .i64 0, .int .i64 0] 82 (0, 0)) from hbx)
  have H2 := Lib.hid (H1.out.step (below_drew W1 _))
  have HB2 := Lib.hid (HB.out.trans (below_drew W1 _))
  refine wp_region_held_drew (S := fun W' : World => W'.cell? ⟨lb, 0, none⟩ = some (.slice A n C) ∧ W'.cell? ⟨ub, 0, none⟩ = some (.slice B n D)) (by kernel_rfl) ⟨hl0, hl1⟩ (fun hHeld => ?_)
  clear r0 r1 hf hbx
  replace hl0 := H2.out.cl
  replace hl1 := H2.out.cu
  generalize W1.drew = W0 at HBX H2 HB2 hl0 hl1 hHeld ⊢
  refine wpAnyH_take (i := 0) (v := .slice A n C) rfl (by kernel_rfl) (by kernel_rfl) (by kernel_rfl) (fun _ _ _ h => h) (Or.inl ⟨by rfl, ?_⟩) (by assumption) ?_
  · (intro W hSw; obtain ⟨hS0, hS1⟩ := hSw; go_simp)
  try dsimp only [Act.put]
  refine wpAnyH_take (i := 1) (v := .int .i64 (s : Int)) rfl (by kernel_rfl) (by kernel_rfl) (by kernel_rfl) (fun _ _ _ h => h) (Or.inl ⟨by rfl, ?_⟩) (by assumption) ?_
  · (intro W hSw; obtain ⟨hS0, hS1⟩ := hSw; go_simp)
  try dsimp only [Act.put]
  refine wpAnyH_take (i := 3) (v := .slice B n D) rfl (by kernel_rfl) (by kernel_rfl) (by kernel_rfl) (fun _ _ _ h => h) (Or.inl ⟨by rfl, ?_⟩) (by assumption) ?_
  · (intro W hSw; obtain ⟨hS0, hS1⟩ := hSw; go_simp)
  try dsimp only [Act.put]
  refine wpAnyH_take (i := 4) (v := .int .i64 (s : Int)) rfl (by kernel_rfl) (by kernel_rfl) (by kernel_rfl) (fun _ _ _ h => h) (Or.inl ⟨by rfl, ?_⟩) (by assumption) ?_
  · (intro W hSw; obtain ⟨hS0, hS1⟩ := hSw; go_simp)
  try dsimp only [Act.put]
  refine wpAnyH_ready (rs := [2]) (by kernel_rfl) (by simp) ?_
  refine AllReadyH.cons rfl (fun K hK => ?_) ?_
  · go_simp
    refine (HCL.out _ H2.out).mono ?_
    rintro e w3 ⟨rfl, hw3⟩
    obtain rfl : W0 = w3 := by first | exact hw3 | exact hw3.symm
    go_wp2_with fail
    refine hK.out _ _ (⟨hl0, hl1⟩) (fun hHeld => ?_)
    clear hK K
    try dsimp only [Act.put]
    refine wpAnyH_ready (rs := [5]) (by kernel_rfl) (by simp) ?_
    refine AllReadyH.cons rfl (fun K hK => ?_) ?_
    · go_simp
      refine (HCU.out _ H2.out).mono ?_
      rintro e w3 ⟨rfl, hw3⟩
      obtain rfl : W0 = w3 := by first | exact hw3 | exact hw3.symm
      go_wp2_with fail
      refine hK.out _ _ (⟨hl0, hl1⟩) (fun hHeld => ?_)
      clear hK K
      try dsimp only [Act.put]
      refine wpAnyH_ready (rs := [6]) (by kernel_rfl) (by simp) ?_
      refine AllReadyH.cons rfl (fun K hK => ?_) ?_
      · go_simp
        refine hK.out _ _ (⟨hl0, hl1⟩) (fun hHeld => ?_)
        clear hK K
        try dsimp only [Act.put]
        refine wpAnyH_ready (rs := [7]) (by kernel_rfl) (by simp) ?_
        refine AllReadyH.cons rfl (fun K hK => ?_) ?_
        · refine step_store_row rfl 82 (.tmp 4) (.tmp 11) rfl w.heap.size #[.int .i64 ((unionF gl s n : Nat) : Int), .int .i64 ((unionF gu s n : Nat) : Int)] rfl rfl 82 #[.int .i64 0, .int .i64 0] HBX.out (by kernel_rfl) rfl (by simp [Value.oneCell']) ?_
          refine hK.out _ _ (⟨(cell_apart W0 _ hlb).trans hl0, (cell_apart W0 _ hub).trans hl1⟩) (fun hHeld => ?_)
          clear hK K
          try dsimp only [Act.put]
          refine wpAnyH_done (by kernel_rfl) ?_ _
          have hrow := setRow_heap W0 w.heap.size _ #[.int .i64 ((unionF gl s n : Nat) : Int), .int .i64 ((unionF gu s n : Nat) : Int)] _ _ HBX.out
          have z0 : (W0.setRow w.heap.size #[.int .i64 ((unionF gl s n : Nat) : Int), .int .i64 ((unionF gu s n : Nat) : Int)]).cell? ⟨w.heap.size, 0, none⟩ = some (.int .i64 ((unionF gl s n : Nat) : Int)) := by rw [cell_of_row _ w.heap.size 0 _ _ _ hrow]; rfl
          have z1 : (W0.setRow w.heap.size #[.int .i64 ((unionF gl s n : Nat) : Int), .int .i64 ((unionF gu s n : Nat) : Int)]).cell? ⟨w.heap.size, 1, none⟩ = some (.int .i64 ((unionF gu s n : Nat) : Int)) := by rw [cell_of_row _ w.heap.size 1 _ _ _ hrow]; rfl
          go_wp2_with fail
          refine bodyPost_ret (v := spanV (unionF gl s n) (unionF gu s n)) (by simp [results, Tryd.results43, go_sem, z0, z1]) rfl ?_
          exact ⟨rfl, below_setRow' HB2.out (Nat.le_refl _) _⟩
        exact AllReadyH.nil
      exact AllReadyH.nil
    exact AllReadyH.nil
  exact AllReadyH.nil

set_option maxRecDepth 100000 in
set_option maxHeartbeats 4000000 in
theorem upperSpan_any (lb ub n s : Nat) (gl gu : Nat → Nat) (A B : Option Addr) (C D : Nat) (w : World) (h : LU lb ub n gl gu A B C D w) (hn : n ≤ 60) (hgl : ∀ k, k < n → gl k < 2 ^ 60) (hgu : ∀ k, k < n → gu k < 2 ^ 60) (hs : s < 2 ^ 60) :
    Calls Tryd.prog 48 #[.int .i64 (s : Int), .pointer (some ⟨lb, 0, none⟩), .pointer (some ⟨ub, 0, none⟩)] w (SaysSpan (unionF gl s n) (unionF gu s n) w) := by
  have hb := (Below.refl w.heap.size w).alloc (Nat.le_refl _) (.cells #[.int .i64 0, .int .i64 0] 82)
  obtain ⟨r0, r1⟩ := fresh2' w (.int .i64 0) (.int .i64 0) 82
  have hf := frozen_of_row (w.alloc (.cells #[.int .i64 0, .int .i64 0] 82)) w.heap.size
  have H1 := Lib.hid (h.step hb)
  have HB := Lib.hid hb
  have hcL := fun W (hW : LU lb ub n gl gu A B C D W) => unionOf_any (.slice A n C) gl n s W hW.il hn hgl hs
  have hcU := fun W (hW : LU lb ub n gl gu A B C D W) => unionOf_any (.slice B n D) gu n s W hW.iu hn hgu hs
  have HCL := Lib.hid hcL
  have HCU := Lib.hid hcU
  have h0 := h
  clear hb h hgl hgu hcL hcU
  have hlb : lb ≠ w.heap.size := by have := cell_lt h0.cl; show lb ≠ w.heap.size; simp at this; omega
  have hub : ub ≠ w.heap.size := by have := cell_lt h0.cu; show ub ≠ w.heap.size; simp at this; omega
  clear h0
  go_enter Tryd.func48, Tryd.ntmps48
  go_upto_region 1 with fail
  obtain ⟨W1, hW1⟩ : ∃ W1, W1 = w.alloc (.cells #[.int .i64 0, .int .i64 0] 82) := ⟨_, rfl⟩
  have hbx : (w.alloc (.cells #[.int .i64 0, .int .i64 0] 82)).heap[w.heap.size]? = some (.cells #[.int .i64 0, .int .i64 0] 82 (0, 0)) := heap_alloc_new _ _
  rw [← hW1] at r0 r1 hf H1 HB hbx ⊢
  clear hW1
  have hl0 := H1.out.cl
  have hl1 := H1.out.cu
  have HBX := Lib.hid (show W1.drew.heap[w.heap.size]? = some (.cells #[.int .i64 0, .int .i64 0] 82 (0, 0)) from hbx)
  have H2 := Lib.hid (H1.out.step (below_drew W1 _))
  have HB2 := Lib.hid (HB.out.trans (below_drew W1 _))
  refine wp_region_held_drew (S := fun W' : World => W'.cell? ⟨lb, 0, none⟩ = some (.slice A n C) ∧ W'.cell? ⟨ub, 0, none⟩ = some (.slice B n D)) (by kernel_rfl) ⟨hl0, hl1⟩ (fun hHeld => ?_)
  clear r0 r1 hf hbx
  replace hl0 := H2.out.cl
  replace hl1 := H2.out.cu
  generalize W1.drew = W0 at HBX H2 HB2 hl0 hl1 hHeld ⊢
  refine wpAnyH_take (i := 0) (v := .slice A n C) rfl (by kernel_rfl) (by kernel_rfl) (by kernel_rfl) (fun _ _ _ h => h) (Or.inl ⟨by rfl, ?_⟩) (by assumption) ?_
  · (intro W hSw; obtain ⟨hS0, hS1⟩ := hSw; go_simp)
  try dsimp only [Act.put]
  refine wpAnyH_take (i := 1) (v := .int .i64 (s : Int)) rfl (by kernel_rfl) (by kernel_rfl) (by kernel_rfl) (fun _ _ _ h => h) (Or.inl ⟨by rfl, ?_⟩) (by assumption) ?_
  · (intro W hSw; obtain ⟨hS0, hS1⟩ := hSw; go_simp)
  try dsimp only [Act.put]
  refine wpAnyH_take (i := 3) (v := .slice B n D) rfl (by kernel_rfl) (by kernel_rfl) (by kernel_rfl) (fun _ _ _ h => h) (Or.inl ⟨by rfl, ?_⟩) (by assumption) ?_
  · (intro W hSw; obtain ⟨hS0, hS1⟩ := hSw; go_simp)
  try dsimp only [Act.put]
  refine wpAnyH_take (i := 4) (v := .int .i64 (s : Int)) rfl (by kernel_rfl) (by kernel_rfl) (by kernel_rfl) (fun _ _ _ h => h) (Or.inl ⟨by rfl, ?_⟩) (by assumption) ?_
  · (intro W hSw; obtain ⟨hS0, hS1⟩ := hSw; go_simp)
  try dsimp only [Act.put]
  refine wpAnyH_ready (rs := [2]) (by kernel_rfl) (by simp) ?_
  refine AllReadyH.cons rfl (fun K hK => ?_) ?_
  · go_simp
    refine (HCL.out _ H2.out).mono ?_
    rintro e w3 ⟨rfl, hw3⟩
    obtain rfl : W0 = w3 := by first | exact hw3 | exact hw3.symm
    go_wp2_with fail
    refine hK.out _ _ (⟨hl0, hl1⟩) (fun hHeld => ?_)
    clear hK K
    try dsimp only [Act.put]
    refine wpAnyH_ready (rs := [5]) (by kernel_rfl) (by simp) ?_
    refine AllReadyH.cons rfl (fun K hK => ?_) ?_
    · go_simp
      refine (HCU.out _ H2.out).mono ?_
      rintro e w3 ⟨rfl, hw3⟩
      obtain rfl : W0 = w3 := by first | exact hw3 | exact hw3.symm
      go_wp2_with fail
      refine hK.out _ _ (⟨hl0, hl1⟩) (fun hHeld => ?_)
      clear hK K
      try dsimp only [Act.put]
      refine wpAnyH_ready (rs := [6]) (by kernel_rfl) (by simp) ?_
      refine AllReadyH.cons rfl (fun K hK => ?_) ?_
      · go_simp
        refine hK.out _ _ (⟨hl0, hl1⟩) (fun hHeld => ?_)
        clear hK K
        try dsimp only [Act.put]
        refine wpAnyH_ready (rs := [7]) (by kernel_rfl) (by simp) ?_
        refine AllReadyH.cons rfl (fun K hK => ?_) ?_
        · refine step_store_row rfl 82 (.tmp 4) (.tmp 11) rfl w.heap.size #[.int .i64 ((unionF gl s n : Nat) : Int), .int .i64 ((unionF gu s n : Nat) : Int)] rfl rfl 82 #[.int .i64 0, .int .i64 0] HBX.out (by kernel_rfl) rfl (by simp [Value.oneCell']) ?_
          refine hK.out _ _ (⟨(cell_apart W0 _ hlb).trans hl0, (cell_apart W0 _ hub).trans hl1⟩) (fun hHeld => ?_)
          clear hK K
          try dsimp only [Act.put]
          refine wpAnyH_done (by kernel_rfl) ?_ _
          have hrow := setRow_heap W0 w.heap.size _ #[.int .i64 ((unionF gl s n : Nat) : Int), .int .i64 ((unionF gu s n : Nat) : Int)] _ _ HBX.out
          have z0 : (W0.setRow w.heap.size #[.int .i64 ((unionF gl s n : Nat) : Int), .int .i64 ((unionF gu s n : Nat) : Int)]).cell? ⟨w.heap.size, 0, none⟩ = some (.int .i64 ((unionF gl s n : Nat) : Int)) := by rw [cell_of_row _ w.heap.size 0 _ _ _ hrow]; rfl
          have z1 : (W0.setRow w.heap.size #[.int .i64 ((unionF gl s n : Nat) : Int), .int .i64 ((unionF gu s n : Nat) : Int)]).cell? ⟨w.heap.size, 1, none⟩ = some (.int .i64 ((unionF gu s n : Nat) : Int)) := by rw [cell_of_row _ w.heap.size 1 _ _ _ hrow]; rfl
          go_wp2_with fail
          refine bodyPost_ret (v := spanV (unionF gl s n) (unionF gu s n)) (by simp [results, Tryd.results48, go_sem, z0, z1]) rfl ?_
          exact ⟨rfl, below_setRow' HB2.out (Nat.le_refl _) _⟩
        exact AllReadyH.nil
      exact AllReadyH.nil
    exact AllReadyH.nil
  exact AllReadyH.nil

set_option maxRecDepth 100000 in
set_option maxHeartbeats 4000000 in
theorem convexSpan_any (lb ub n s : Nat) (gl gu : Nat → Nat) (A B : Option Addr) (C D : Nat) (w : World) (h : LU lb ub n gl gu A B C D w) (hn : n ≤ 60) (hgl : ∀ k, k < n → gl k < 2 ^ 60) (hgu : ∀ k, k < n → gu k < 2 ^ 60) (hs : s < 2 ^ 60) :
    Calls Tryd.prog 51 #[.int .i64 (s : Int), .pointer (some ⟨lb, 0, none⟩), .pointer (some ⟨ub, 0, none⟩)] w (SaysSpan (unionF gl s n) (unionF gu s n) w) := by
  have hb := (Below.refl w.heap.size w).alloc (Nat.le_refl _) (.cells #[.int .i64 0, .int .i64 0] 82)
  obtain ⟨r0, r1⟩ := fresh2' w (.int .i64 0) (.int .i64 0) 82
  have hf := frozen_of_row (w.alloc (.cells #[.int .i64 0, .int .i64 0] 82)) w.heap.size
  have H1 := Lib.hid (h.step hb)
  have HB := Lib.hid hb
  have hcL := fun W (hW : LU lb ub n gl gu A B C D W) => unionOf_any (.slice A n C) gl n s W hW.il hn hgl hs
  have hcU := fun W (hW : LU lb ub n gl gu A B C D W) => unionOf_any (.slice B n D) gu n s W hW.iu hn hgu hs
  have HCL := Lib.hid hcL
  have HCU := Lib.hid hcU
  have h0 := h
  clear hb h hgl hgu hcL hcU
  have hlb : lb ≠ w.heap.size := by have := cell_lt h0.cl; show lb ≠ w.heap.size; simp at this; omega
  have hub : ub ≠ w.heap.size := by have := cell_lt h0.cu; show ub ≠ w.heap.size; simp at this; omega
  clear h0
  go_enter Tryd.func51, Tryd.ntmps51
  go_upto_region 1 with fail
  obtain ⟨W1, hW1⟩ : ∃ W1, W1 = w.alloc (.cells #[.int .i64 0, .int .i64 0] 82) := ⟨_, rfl⟩
  have hbx : (w.alloc (.cells #[.int .i64 0, .int .i64 0] 82)).heap[w.heap.size]? = some (.cells #[.int .i64 0, .int .i64 0] 82 (0, 0)) := heap_alloc_new _ _
  rw [← hW1] at r0 r1 hf H1 HB hbx ⊢
  clear hW1
  have hl0 := H1.out.cl
  have hl1 := H1.out.cu
  have HBX := Lib.hid (show W1.drew.heap[w.heap.size]? = some (.cells #[.int .i64 0, .int .i64 0] 82 (0, 0)) from hbx)
  have H2 := Lib.hid (H1.out.step (below_drew W1 _))
  have HB2 := Lib.hid (HB.out.trans (below_drew W1 _))
  refine wp_region_held_drew (S := fun W' : World => W'.cell? ⟨lb, 0, none⟩ = some (.slice A n C) ∧ W'.cell? ⟨ub, 0, none⟩ = some (.slice B n D)) (by kernel_rfl) ⟨hl0, hl1⟩ (fun hHeld => ?_)
  clear r0 r1 hf hbx
  replace hl0 := H2.out.cl
  replace hl1 := H2.out.cu
  generalize W1.drew = W0 at HBX H2 HB2 hl0 hl1 hHeld ⊢
  refine wpAnyH_take (i := 0) (v := .slice A n C) rfl (by kernel_rfl) (by kernel_rfl) (by kernel_rfl) (fun _ _ _ h => h) (Or.inl ⟨by rfl, ?_⟩) (by assumption) ?_
  · (intro W hSw; obtain ⟨hS0, hS1⟩ := hSw; go_simp)
  try dsimp only [Act.put]
  refine wpAnyH_take (i := 1) (v := .int .i64 (s : Int)) rfl (by kernel_rfl) (by kernel_rfl) (by kernel_rfl) (fun _ _ _ h => h) (Or.inl ⟨by rfl, ?_⟩) (by assumption) ?_
  · (intro W hSw; obtain ⟨hS0, hS1⟩ := hSw; go_simp)
  try dsimp only [Act.put]
  refine wpAnyH_take (i := 3) (v := .slice B n D) rfl (by kernel_rfl) (by kernel_rfl) (by kernel_rfl) (fun _ _ _ h => h) (Or.inl ⟨by rfl, ?_⟩) (by assumption) ?_
  · (intro W hSw; obtain ⟨hS0, hS1⟩ := hSw; go_simp)
  try dsimp only [Act.put]
  refine wpAnyH_take (i := 4) (v := .int .i64 (s : Int)) rfl (by kernel_rfl) (by kernel_rfl) (by kernel_rfl) (fun _ _ _ h => h) (Or.inl ⟨by rfl, ?_⟩) (by assumption) ?_
  · (intro W hSw; obtain ⟨hS0, hS1⟩ := hSw; go_simp)
  try dsimp only [Act.put]
  refine wpAnyH_ready (rs := [2]) (by kernel_rfl) (by simp) ?_
  refine AllReadyH.cons rfl (fun K hK => ?_) ?_
  · go_simp
    refine (HCL.out _ H2.out).mono ?_
    rintro e w3 ⟨rfl, hw3⟩
    obtain rfl : W0 = w3 := by first | exact hw3 | exact hw3.symm
    go_wp2_with fail
    refine hK.out _ _ (⟨hl0, hl1⟩) (fun hHeld => ?_)
    clear hK K
    try dsimp only [Act.put]
    refine wpAnyH_ready (rs := [5]) (by kernel_rfl) (by simp) ?_
    refine AllReadyH.cons rfl (fun K hK => ?_) ?_
    · go_simp
      refine (HCU.out _ H2.out).mono ?_
      rintro e w3 ⟨rfl, hw3⟩
      obtain rfl : W0 = w3 := by first | exact hw3 | exact hw3.symm
      go_wp2_with fail
      refine hK.out _ _ (⟨hl0, hl1⟩) (fun hHeld => ?_)
      clear hK K
      try dsimp only [Act.put]
      refine wpAnyH_ready (rs := [6]) (by kernel_rfl) (by simp) ?_
      refine AllReadyH.cons rfl (fun K hK => ?_) ?_
      · go_simp
        refine hK.out _ _ (⟨hl0, hl1⟩) (fun hHeld => ?_)
        clear hK K
        try dsimp only [Act.put]
        refine wpAnyH_ready (rs := [7]) (by kernel_rfl) (by simp) ?_
        refine AllReadyH.cons rfl (fun K hK => ?_) ?_
        · refine step_store_row rfl 82 (.tmp 4) (.tmp 11) rfl w.heap.size #[.int .i64 ((unionF gl s n : Nat) : Int), .int .i64 ((unionF gu s n : Nat) : Int)] rfl rfl 82 #[.int .i64 0, .int .i64 0] HBX.out (by kernel_rfl) rfl (by simp [Value.oneCell']) ?_
          refine hK.out _ _ (⟨(cell_apart W0 _ hlb).trans hl0, (cell_apart W0 _ hub).trans hl1⟩) (fun hHeld => ?_)
          clear hK K
          try dsimp only [Act.put]
          refine wpAnyH_done (by kernel_rfl) ?_ _
          have hrow := setRow_heap W0 w.heap.size _ #[.int .i64 ((unionF gl s n : Nat) : Int), .int .i64 ((unionF gu s n : Nat) : Int)] _ _ HBX.out
          have z0 : (W0.setRow w.heap.size #[.int .i64 ((unionF gl s n : Nat) : Int), .int .i64 ((unionF gu s n : Nat) : Int)]).cell? ⟨w.heap.size, 0, none⟩ = some (.int .i64 ((unionF gl s n : Nat) : Int)) := by rw [cell_of_row _ w.heap.size 0 _ _ _ hrow]; rfl
          have z1 : (W0.setRow w.heap.size #[.int .i64 ((unionF gl s n : Nat) : Int), .int .i64 ((unionF gu s n : Nat) : Int)]).cell? ⟨w.heap.size, 1, none⟩ = some (.int .i64 ((unionF gu s n : Nat) : Int)) := by rw [cell_of_row _ w.heap.size 1 _ _ _ hrow]; rfl
          go_wp2_with fail
          refine bodyPost_ret (v := spanV (unionF gl s n) (unionF gu s n)) (by simp [results, Tryd.results51, go_sem, z0, z1]) rfl ?_
          exact ⟨rfl, below_setRow' HB2.out (Nat.le_refl _) _⟩
        exact AllReadyH.nil
      exact AllReadyH.nil
    exact AllReadyH.nil
  exact AllReadyH.nil
end Go.Proofs.YtiaajegdaipdmaaDoor

/- The three kinds of powerdomains: the closure of a set, the order of two sets. -/
namespace Go.Proofs.YtiaajegdaipdmaaDoor
open Go.RowKit Go.Deep Go.Shelf

/-- The closure of a span, and the order of two spans, of each kind. -/
def lowerC (lo _up : Nat) : Nat := lo
def upperC (_lo up : Nat) : Nat := up
def convexC (lo up : Nat) : Nat := lo &&& up
def lowerU (lo _up lo' _up' : Nat) : Bool := decide (diff lo lo' = 0)
def upperU (_lo up _lo' up' : Nat) : Bool := decide (diff up' up = 0)
def convexU (lo up lo' up' : Nat) : Bool := lowerU lo up lo' up' && upperU lo up lo' up'

theorem lowerClos_any (lo up : Nat) (w : World) : Calls Tryd.prog 103 #[.agg #[], spanV lo up] w (SaysI ((lowerC lo up : Nat) : Int) w) := by
  have b1 := (Below.refl w.heap.size w).alloc (Nat.le_refl _) (.cells #[] 60)
  have b2 := b1.alloc b1.size (.cells #[.int .i64 ((lo : Nat) : Int), .int .i64 ((up : Nat) : Int)] 82)
  obtain ⟨h0, h1⟩ := fresh2' (w.alloc (.cells #[] 60)) (.int .i64 ((lo : Nat) : Int)) (.int .i64 ((up : Nat) : Int)) 82
  rw [World.size_alloc] at h0 h1
  have HB := Lib.hid b2
  clear b1 b2
  go_enter Tryd.func103, Tryd.ntmps103
  go_wp2
  go_ret
  exact ⟨rfl, HB.out⟩
theorem upperClos_any (lo up : Nat) (w : World) : Calls Tryd.prog 105 #[.agg #[], spanV lo up] w (SaysI ((upperC lo up : Nat) : Int) w) := by
  have b1 := (Below.refl w.heap.size w).alloc (Nat.le_refl _) (.cells #[] 61)
  have b2 := b1.alloc b1.size (.cells #[.int .i64 ((lo : Nat) : Int), .int .i64 ((up : Nat) : Int)] 82)
  obtain ⟨h0, h1⟩ := fresh2' (w.alloc (.cells #[] 61)) (.int .i64 ((lo : Nat) : Int)) (.int .i64 ((up : Nat) : Int)) 82
  rw [World.size_alloc] at h0 h1
  have HB := Lib.hid b2
  clear b1 b2
  go_enter Tryd.func105, Tryd.ntmps105
  go_wp2
  go_ret
  exact ⟨rfl, HB.out⟩
theorem convexClos_any (lo up : Nat) (w : World) (hl : lo < 2 ^ 60) (hu : up < 2 ^ 60) : Calls Tryd.prog 107 #[.agg #[], spanV lo up] w (SaysI ((convexC lo up : Nat) : Int) w) := by
  have b1 := (Below.refl w.heap.size w).alloc (Nat.le_refl _) (.cells #[] 62)
  have b2 := b1.alloc b1.size (.cells #[.int .i64 ((lo : Nat) : Int), .int .i64 ((up : Nat) : Int)] 82)
  obtain ⟨h0, h1⟩ := fresh2' (w.alloc (.cells #[] 62)) (.int .i64 ((lo : Nat) : Int)) (.int .i64 ((up : Nat) : Int)) 82
  rw [World.size_alloc] at h0 h1
  have hand := bits_and (small_lt hl (by decide)) (small_lt hu (by decide))
  have HB := Lib.hid b2
  clear b1 b2
  go_enter Tryd.func107, Tryd.ntmps107
  go_wp2
  go_ret
  exact ⟨by unfold convexC; first | rfl | rw [← hand], HB.out⟩
theorem run_lower_clos (m : Nat) (w : World) : (Go.method (m + 1) 60 (.agg #[]) "loop.example/scottdomains/impl.closure").run Tryd.prog w = .ok (103, .agg #[]) w := by kernel_rfl
theorem run_upper_clos (m : Nat) (w : World) : (Go.method (m + 1) 61 (.agg #[]) "loop.example/scottdomains/impl.closure").run Tryd.prog w = .ok (105, .agg #[]) w := by kernel_rfl
theorem run_convex_clos (m : Nat) (w : World) : (Go.method (m + 1) 62 (.agg #[]) "loop.example/scottdomains/impl.closure").run Tryd.prog w = .ok (107, .agg #[]) w := by kernel_rfl
theorem run_lower_under (m : Nat) (w : World) : (Go.method (m + 1) 60 (.agg #[]) "loop.example/scottdomains/impl.below").run Tryd.prog w = .ok (102, .agg #[]) w := by kernel_rfl
theorem run_upper_under (m : Nat) (w : World) : (Go.method (m + 1) 61 (.agg #[]) "loop.example/scottdomains/impl.below").run Tryd.prog w = .ok (104, .agg #[]) w := by kernel_rfl
theorem run_convex_under (m : Nat) (w : World) : (Go.method (m + 1) 62 (.agg #[]) "loop.example/scottdomains/impl.below").run Tryd.prog w = .ok (106, .agg #[]) w := by kernel_rfl

/-- The memory of a powerdomain: the lists of sets, and the function that tells a set's span. -/
structure PM (F : FuncId) (sb lb ub n : Nat) (gl gu : Nat → Nat) (A B : Option Addr) (C D : Nat) (W : World) : Prop where
  lu : LU lb ub n gl gu A B C D W
  sc : W.cell? ⟨sb, 0, none⟩ = some (.func (.func F) #[] #[.pointer (some ⟨lb, 0, none⟩), .pointer (some ⟨ub, 0, none⟩)])
theorem PM.step {F : FuncId} {sb lb ub n : Nat} {gl gu : Nat → Nat} {A B : Option Addr} {C D : Nat} {W W' : World} (h : PM F sb lb ub n gl gu A B C D W) (hb : Below W.heap.size W W') : PM F sb lb ub n gl gu A B C D W' :=
  ⟨h.lu.step hb, (hb.cell (p := ⟨sb, 0, none⟩) (cell_lt h.sc)).trans h.sc⟩
theorem lowerClos' (lo up : Nat) (w : World) (_ : lo < 2 ^ 60) (_ : up < 2 ^ 60) : Calls Tryd.prog 103 #[.agg #[], spanV lo up] w (SaysI ((lowerC lo up : Nat) : Int) w) := lowerClos_any lo up w
theorem upperClos' (lo up : Nat) (w : World) (_ : lo < 2 ^ 60) (_ : up < 2 ^ 60) : Calls Tryd.prog 105 #[.agg #[], spanV lo up] w (SaysI ((upperC lo up : Nat) : Int) w) := upperClos_any lo up w
theorem convexClos' (lo up : Nat) (w : World) (hl : lo < 2 ^ 60) (hu : up < 2 ^ 60) : Calls Tryd.prog 107 #[.agg #[], spanV lo up] w (SaysI ((convexC lo up : Nat) : Int) w) := convexClos_any lo up w hl hu

set_option maxRecDepth 100000 in
set_option maxHeartbeats 4000000 in
theorem lowerClosed_any (kb sb lb ub n s : Nat) (gl gu : Nat → Nat) (A B : Option Addr) (C D : Nat) (w : World) (h : PM 43 sb lb ub n gl gu A B C D w) (hn : n ≤ 60) (hgl : ∀ k, k < n → gl k < 2 ^ 60) (hgu : ∀ k, k < n → gu k < 2 ^ 60) (hs : s < 2 ^ 60) :
    Calls Tryd.prog 45 #[.int .i64 (s : Int), .pointer (some ⟨kb, 0, none⟩), .pointer (some ⟨sb, 0, none⟩)] w (SaysI ((lowerC (unionF gl s n) (unionF gu s n) : Nat) : Int) w) := by
  have hq0 := fun d os => cell_regrown h.sc d os
  have hxS := fun d os => Calls.regrown_of (w := w) (d := d) (os := os) (lowerSpan_any lb ub n s gl gu A B C D _ (h.lu.step (below_regrown w d os)) hn hgl hgu hs)
  have hxC := fun d os => Calls.regrown_of (w := w) (d := d) (os := os) (lowerClos' (unionF gl s n) (unionF gu s n) _ (unionF_lt hgl) (unionF_lt hgu))
  have hmC := run_lower_clos
  clear h hgl hgu hs hn
  go_enter Tryd.func45, Tryd.ntmps45
  go_upto_region 1 with fail
  refine wp_region_quiet_below (by kernel_rfl) (by kernel_rfl) ?_
  repeat (go_big_quiet_step (first | (go_at_call 43; exact hxS _ _) | (go_at_call 103; exact hxC _ _)))
  refine wpQuiet_nil ?_
  intro _ hw'
  obtain ⟨⟨dq, osq⟩, hw''⟩ := hw'
  subst hw''
  clear hxS hxC hq0
  go_wp2
  go_ret
  exact ⟨rfl, below_regrown w dq osq⟩

set_option maxRecDepth 100000 in
set_option maxHeartbeats 4000000 in
theorem upperClosed_any (kb sb lb ub n s : Nat) (gl gu : Nat → Nat) (A B : Option Addr) (C D : Nat) (w : World) (h : PM 48 sb lb ub n gl gu A B C D w) (hn : n ≤ 60) (hgl : ∀ k, k < n → gl k < 2 ^ 60) (hgu : ∀ k, k < n → gu k < 2 ^ 60) (hs : s < 2 ^ 60) :
    Calls Tryd.prog 49 #[.int .i64 (s : Int), .pointer (some ⟨kb, 0, none⟩), .pointer (some ⟨sb, 0, none⟩)] w (SaysI ((upperC (unionF gl s n) (unionF gu s n) : Nat) : Int) w) := by
  have hq0 := fun d os => cell_regrown h.sc d os
  have hxS := fun d os => Calls.regrown_of (w := w) (d := d) (os := os) (upperSpan_any lb ub n s gl gu A B C D _ (h.lu.step (below_regrown w d os)) hn hgl hgu hs)
  have hxC := fun d os => Calls.regrown_of (w := w) (d := d) (os := os) (upperClos' (unionF gl s n) (unionF gu s n) _ (unionF_lt hgl) (unionF_lt hgu))
  have hmC := run_upper_clos
  clear h hgl hgu hs hn
  go_enter Tryd.func49, Tryd.ntmps49
  go_upto_region 1 with fail
  refine wp_region_quiet_below (by kernel_rfl) (by kernel_rfl) ?_
  repeat (go_big_quiet_step (first | (go_at_call 48; exact hxS _ _) | (go_at_call 105; exact hxC _ _)))
  refine wpQuiet_nil ?_
  intro _ hw'
  obtain ⟨⟨dq, osq⟩, hw''⟩ := hw'
  subst hw''
  clear hxS hxC hq0
  go_wp2
  go_ret
  exact ⟨rfl, below_regrown w dq osq⟩

set_option maxRecDepth 100000 in
set_option maxHeartbeats 4000000 in
theorem convexClosed_any (kb sb lb ub n s : Nat) (gl gu : Nat → Nat) (A B : Option Addr) (C D : Nat) (w : World) (h : PM 51 sb lb ub n gl gu A B C D w) (hn : n ≤ 60) (hgl : ∀ k, k < n → gl k < 2 ^ 60) (hgu : ∀ k, k < n → gu k < 2 ^ 60) (hs : s < 2 ^ 60) :
    Calls Tryd.prog 52 #[.int .i64 (s : Int), .pointer (some ⟨kb, 0, none⟩), .pointer (some ⟨sb, 0, none⟩)] w (SaysI ((convexC (unionF gl s n) (unionF gu s n) : Nat) : Int) w) := by
  have hq0 := fun d os => cell_regrown h.sc d os
  have hxS := fun d os => Calls.regrown_of (w := w) (d := d) (os := os) (convexSpan_any lb ub n s gl gu A B C D _ (h.lu.step (below_regrown w d os)) hn hgl hgu hs)
  have hxC := fun d os => Calls.regrown_of (w := w) (d := d) (os := os) (convexClos' (unionF gl s n) (unionF gu s n) _ (unionF_lt hgl) (unionF_lt hgu))
  have hmC := run_convex_clos
  clear h hgl hgu hs hn
  go_enter Tryd.func52, Tryd.ntmps52
  go_upto_region 1 with fail
  refine wp_region_quiet_below (by kernel_rfl) (by kernel_rfl) ?_
  repeat (go_big_quiet_step (first | (go_at_call 51; exact hxS _ _) | (go_at_call 107; exact hxC _ _)))
  refine wpQuiet_nil ?_
  intro _ hw'
  obtain ⟨⟨dq, osq⟩, hw''⟩ := hw'
  subst hw''
  clear hxS hxC hq0
  go_wp2
  go_ret
  exact ⟨rfl, below_regrown w dq osq⟩
end Go.Proofs.YtiaajegdaipdmaaDoor

/- The orders of the three kinds of powerdomains. -/
namespace Go.Proofs.YtiaajegdaipdmaaDoor
open Go.RowKit Go.Deep

theorem two_spans (w : World) (x : Array Value) (a b c d : Value) (t t' : TypeId) :
    (((w.alloc (.cells x t)).alloc (.cells #[a, b] t')).alloc (.cells #[c, d] t')).cell? ⟨w.heap.size + 1, 0, none⟩ = some a ∧
    (((w.alloc (.cells x t)).alloc (.cells #[a, b] t')).alloc (.cells #[c, d] t')).cell? ⟨w.heap.size + 1, 1, none⟩ = some b ∧
    (((w.alloc (.cells x t)).alloc (.cells #[a, b] t')).alloc (.cells #[c, d] t')).cell? ⟨w.heap.size + 1 + 1, 0, none⟩ = some c ∧
    (((w.alloc (.cells x t)).alloc (.cells #[a, b] t')).alloc (.cells #[c, d] t')).cell? ⟨w.heap.size + 1 + 1, 1, none⟩ = some d := by
  have h1 := fresh2' (w.alloc (.cells x t)) a b t'
  have h2 := fresh2' ((w.alloc (.cells x t)).alloc (.cells #[a, b] t')) c d t'
  have hs : (w.alloc (.cells x t)).heap.size = w.heap.size + 1 := World.size_alloc _ _
  have hs2 : ((w.alloc (.cells x t)).alloc (.cells #[a, b] t')).heap.size = w.heap.size + 1 + 1 := by rw [World.size_alloc, hs]
  rw [hs] at h1
  rw [hs2] at h2
  have hb := (Below.refl ((w.alloc (.cells x t)).alloc (.cells #[a, b] t')).heap.size ((w.alloc (.cells x t)).alloc (.cells #[a, b] t'))).alloc (Nat.le_refl _) (.cells #[c, d] t')
  exact ⟨(hb.cell (p := ⟨w.heap.size + 1, 0, none⟩) (by rw [hs2]; exact Nat.lt_succ_self _)).trans h1.1, (hb.cell (p := ⟨w.heap.size + 1, 1, none⟩) (by rw [hs2]; exact Nat.lt_succ_self _)).trans h1.2, h2.1, h2.2⟩
theorem two_spans_later (w : World) (x : Array Value) (a b c d : Value) (t t' : TypeId) {W : World} (hb : Below (((w.alloc (.cells x t)).alloc (.cells #[a, b] t')).alloc (.cells #[c, d] t')).heap.size (((w.alloc (.cells x t)).alloc (.cells #[a, b] t')).alloc (.cells #[c, d] t')) W) :
    W.cell? ⟨w.heap.size + 1, 0, none⟩ = some a ∧ W.cell? ⟨w.heap.size + 1, 1, none⟩ = some b ∧ W.cell? ⟨w.heap.size + 1 + 1, 0, none⟩ = some c ∧ W.cell? ⟨w.heap.size + 1 + 1, 1, none⟩ = some d := by
  obtain ⟨h1, h2, h3, h4⟩ := two_spans w x a b c d t t'
  exact ⟨(hb.cell (cell_lt h1)).trans h1, (hb.cell (cell_lt h2)).trans h2, (hb.cell (cell_lt h3)).trans h3, (hb.cell (cell_lt h4)).trans h4⟩
theorem below3 (w : World) (x : Array Value) (y z : Array Value) (t t' : TypeId) : Below w.heap.size w (((w.alloc (.cells x t)).alloc (.cells y t')).alloc (.cells z t')) := by
  have b1 := (Below.refl w.heap.size w).alloc (Nat.le_refl _) (.cells x t)
  have b2 := b1.alloc b1.size (.cells y t')
  exact b2.alloc b2.size (.cells z t')

theorem lowerUnder_any (lo up lo' up' : Nat) (w : World) (h1 : lo < 2 ^ 60) (_ : up < 2 ^ 60) (h2 : lo' < 2 ^ 60) (_ : up' < 2 ^ 60) : Calls Tryd.prog 102 #[.agg #[], spanV lo up, spanV lo' up'] w (SaysN (lowerU lo up lo' up') w) := by
  obtain ⟨c0, c1, d0, d1⟩ := two_spans w #[] (.int .i64 ((lo : Nat) : Int)) (.int .i64 ((up : Nat) : Int)) (.int .i64 ((lo' : Nat) : Int)) (.int .i64 ((up' : Nat) : Int)) 60 82
  have HB := Lib.hid (below3 w #[] #[.int .i64 ((lo : Nat) : Int), .int .i64 ((up : Nat) : Int)] #[.int .i64 ((lo' : Nat) : Int), .int .i64 ((up' : Nat) : Int)] 60 82)
  have HC := Lib.hid (fun W => within_any lo lo' W (by assumption) (by assumption))
  go_enter Tryd.func102, Tryd.ntmps102
  go_wp2_with (go_at_call 97; refine (HC.out _).mono ?_; rintro e w1 ⟨rfl, rfl⟩)
  go_ret
  exact ⟨rfl, HB.out⟩

theorem upperUnder_any (lo up lo' up' : Nat) (w : World) (_ : lo < 2 ^ 60) (h1 : up < 2 ^ 60) (_ : lo' < 2 ^ 60) (h2 : up' < 2 ^ 60) : Calls Tryd.prog 104 #[.agg #[], spanV lo up, spanV lo' up'] w (SaysN (upperU lo up lo' up') w) := by
  obtain ⟨c0, c1, d0, d1⟩ := two_spans w #[] (.int .i64 ((lo : Nat) : Int)) (.int .i64 ((up : Nat) : Int)) (.int .i64 ((lo' : Nat) : Int)) (.int .i64 ((up' : Nat) : Int)) 61 82
  have HB := Lib.hid (below3 w #[] #[.int .i64 ((lo : Nat) : Int), .int .i64 ((up : Nat) : Int)] #[.int .i64 ((lo' : Nat) : Int), .int .i64 ((up' : Nat) : Int)] 61 82)
  have HC := Lib.hid (fun W => within_any up' up W (by assumption) (by assumption))
  go_enter Tryd.func104, Tryd.ntmps104
  go_wp2_with (go_at_call 97; refine (HC.out _).mono ?_; rintro e w1 ⟨rfl, rfl⟩)
  go_ret
  exact ⟨rfl, HB.out⟩

theorem convexUnder_any (lo up lo' up' : Nat) (w : World) (h1 : lo < 2 ^ 60) (h2 : up < 2 ^ 60) (h3 : lo' < 2 ^ 60) (h4 : up' < 2 ^ 60) : Calls Tryd.prog 106 #[.agg #[], spanV lo up, spanV lo' up'] w (SaysN (convexU lo up lo' up') w) := by
  have HS := Lib.hid (fun W (hb : Below (((w.alloc (.cells #[] 62)).alloc (.cells #[.int .i64 ((lo : Nat) : Int), .int .i64 ((up : Nat) : Int)] 82)).alloc (.cells #[.int .i64 ((lo' : Nat) : Int), .int .i64 ((up' : Nat) : Int)] 82)).heap.size (((w.alloc (.cells #[] 62)).alloc (.cells #[.int .i64 ((lo : Nat) : Int), .int .i64 ((up : Nat) : Int)] 82)).alloc (.cells #[.int .i64 ((lo' : Nat) : Int), .int .i64 ((up' : Nat) : Int)] 82)) W) => two_spans_later w #[] (.int .i64 ((lo : Nat) : Int)) (.int .i64 ((up : Nat) : Int)) (.int .i64 ((lo' : Nat) : Int)) (.int .i64 ((up' : Nat) : Int)) 62 82 hb)
  obtain ⟨c0, c1, d0, d1⟩ := two_spans w #[] (.int .i64 ((lo : Nat) : Int)) (.int .i64 ((up : Nat) : Int)) (.int .i64 ((lo' : Nat) : Int)) (.int .i64 ((up' : Nat) : Int)) 62 82
  have HB := Lib.hid (below3 w #[] #[.int .i64 ((lo : Nat) : Int), .int .i64 ((up : Nat) : Int)] #[.int .i64 ((lo' : Nat) : Int), .int .i64 ((up' : Nat) : Int)] 62 82)
  have HL := Lib.hid (fun W => lowerUnder_any lo up lo' up' W h1 h2 h3 h4)
  have HU := Lib.hid (fun W => upperUnder_any lo up lo' up' W h1 h2 h3 h4)
  clear h1 h2 h3 h4
  cases hl : lowerU lo up lo' up' with
  | false =>
    have HE := Lib.hid (show convexU lo up lo' up' = false by unfold convexU; rw [hl]; rfl)
    rw [hl] at HL
    go_enter Tryd.func106, Tryd.ntmps106
    go_wp2_with (go_at_call 102; refine (HL.out _).mono ?_; rintro e w1 ⟨rfl, hb1⟩; have B1 := Lib.hid (HB.out.trans (hb1.mono HB.out.size)); clear hb1 c0 c1 d0 d1)
    go_ret
    exact ⟨by rw [HE.out]; rfl, B1.out⟩
  | true =>
    have HE := Lib.hid (show convexU lo up lo' up' = upperU lo up lo' up' by unfold convexU; rw [hl]; rfl)
    rw [hl] at HL
    generalize hu : upperU lo up lo' up' = u at HU HE
    go_enter Tryd.func106, Tryd.ntmps106
    go_wp2_with (first | (go_at_call 102; refine (HL.out _).mono ?_; rintro e w1 ⟨rfl, hb1⟩; have B1 := Lib.hid (HB.out.trans (hb1.mono HB.out.size)); obtain ⟨e0, e1, f0, f1⟩ := HS.out _ hb1; clear hb1 c0 c1 d0 d1) | (go_at_call 104; refine (HU.out _).mono ?_; rintro e w2 ⟨rfl, hb2⟩; have B2 := Lib.hid (B1.out.trans (hb2.mono B1.out.size)); clear hb2 e0 e1 f0 f1))
    go_ret
    exact ⟨by rw [HE.out]; rfl, B2.out⟩

set_option maxRecDepth 100000 in
set_option maxHeartbeats 4000000 in
theorem lowerOrdered_any (kb sb lb ub n s s' : Nat) (gl gu : Nat → Nat) (A B : Option Addr) (C D : Nat) (w : World) (h : PM 43 sb lb ub n gl gu A B C D w) (hn : n ≤ 60) (hgl : ∀ k, k < n → gl k < 2 ^ 60) (hgu : ∀ k, k < n → gu k < 2 ^ 60) (hs : s < 2 ^ 60) (hs' : s' < 2 ^ 60) :
    Calls Tryd.prog 46 #[.int .i64 (s : Int), .int .i64 (s' : Int), .pointer (some ⟨kb, 0, none⟩), .pointer (some ⟨sb, 0, none⟩)] w (SaysN (lowerU (unionF gl s n) (unionF gu s n) (unionF gl s' n) (unionF gu s' n)) w) := by
  have hq0 := fun d os => cell_regrown h.sc d os
  have hxS := fun d os => Calls.regrown_of (w := w) (d := d) (os := os) (lowerSpan_any lb ub n s gl gu A B C D _ (h.lu.step (below_regrown w d os)) hn hgl hgu hs)
  have hxT := fun d os => Calls.regrown_of (w := w) (d := d) (os := os) (lowerSpan_any lb ub n s' gl gu A B C D _ (h.lu.step (below_regrown w d os)) hn hgl hgu hs')
  have hxC := fun d os => Calls.regrown_of (w := w) (d := d) (os := os) (lowerUnder_any (unionF gl s n) (unionF gu s n) (unionF gl s' n) (unionF gu s' n) _ (unionF_lt hgl) (unionF_lt hgu) (unionF_lt hgl) (unionF_lt hgu))
  have hmC := run_lower_under
  clear h hgl hgu hs hs' hn
  generalize lowerU (unionF gl s n) (unionF gu s n) (unionF gl s' n) (unionF gu s' n) = t at hxC ⊢
  go_enter Tryd.func46, Tryd.ntmps46
  go_upto_region 1 with fail
  refine wp_region_quiet_below (by kernel_rfl) (by kernel_rfl) ?_
  repeat (go_big_quiet_step (first | (go_at_call_of 43 (Value.int .i64 (s : Int)); exact hxS _ _) | (go_at_call_of 43 (Value.int .i64 (s' : Int)); exact hxT _ _) | (go_at_call 102; exact hxC _ _)))
  refine wpQuiet_nil ?_
  intro _ hw'
  obtain ⟨⟨dq, osq⟩, hw''⟩ := hw'
  subst hw''
  clear hxS hxT hxC hq0
  go_wp2
  go_ret
  exact ⟨rfl, below_regrown w dq osq⟩

set_option maxRecDepth 100000 in
set_option maxHeartbeats 4000000 in
theorem upperOrdered_any (kb sb lb ub n s s' : Nat) (gl gu : Nat → Nat) (A B : Option Addr) (C D : Nat) (w : World) (h : PM 48 sb lb ub n gl gu A B C D w) (hn : n ≤ 60) (hgl : ∀ k, k < n → gl k < 2 ^ 60) (hgu : ∀ k, k < n → gu k < 2 ^ 60) (hs : s < 2 ^ 60) (hs' : s' < 2 ^ 60) :
    Calls Tryd.prog 50 #[.int .i64 (s : Int), .int .i64 (s' : Int), .pointer (some ⟨kb, 0, none⟩), .pointer (some ⟨sb, 0, none⟩)] w (SaysN (upperU (unionF gl s n) (unionF gu s n) (unionF gl s' n) (unionF gu s' n)) w) := by
  have hq0 := fun d os => cell_regrown h.sc d os
  have hxS := fun d os => Calls.regrown_of (w := w) (d := d) (os := os) (upperSpan_any lb ub n s gl gu A B C D _ (h.lu.step (below_regrown w d os)) hn hgl hgu hs)
  have hxT := fun d os => Calls.regrown_of (w := w) (d := d) (os := os) (upperSpan_any lb ub n s' gl gu A B C D _ (h.lu.step (below_regrown w d os)) hn hgl hgu hs')
  have hxC := fun d os => Calls.regrown_of (w := w) (d := d) (os := os) (upperUnder_any (unionF gl s n) (unionF gu s n) (unionF gl s' n) (unionF gu s' n) _ (unionF_lt hgl) (unionF_lt hgu) (unionF_lt hgl) (unionF_lt hgu))
  have hmC := run_upper_under
  clear h hgl hgu hs hs' hn
  generalize upperU (unionF gl s n) (unionF gu s n) (unionF gl s' n) (unionF gu s' n) = t at hxC ⊢
  go_enter Tryd.func50, Tryd.ntmps50
  go_upto_region 1 with fail
  refine wp_region_quiet_below (by kernel_rfl) (by kernel_rfl) ?_
  repeat (go_big_quiet_step (first | (go_at_call_of 48 (Value.int .i64 (s : Int)); exact hxS _ _) | (go_at_call_of 48 (Value.int .i64 (s' : Int)); exact hxT _ _) | (go_at_call 104; exact hxC _ _)))
  refine wpQuiet_nil ?_
  intro _ hw'
  obtain ⟨⟨dq, osq⟩, hw''⟩ := hw'
  subst hw''
  clear hxS hxT hxC hq0
  go_wp2
  go_ret
  exact ⟨rfl, below_regrown w dq osq⟩

set_option maxRecDepth 100000 in
set_option maxHeartbeats 4000000 in
theorem convexOrdered_any (kb sb lb ub n s s' : Nat) (gl gu : Nat → Nat) (A B : Option Addr) (C D : Nat) (w : World) (h : PM 51 sb lb ub n gl gu A B C D w) (hn : n ≤ 60) (hgl : ∀ k, k < n → gl k < 2 ^ 60) (hgu : ∀ k, k < n → gu k < 2 ^ 60) (hs : s < 2 ^ 60) (hs' : s' < 2 ^ 60) :
    Calls Tryd.prog 53 #[.int .i64 (s : Int), .int .i64 (s' : Int), .pointer (some ⟨kb, 0, none⟩), .pointer (some ⟨sb, 0, none⟩)] w (SaysN (convexU (unionF gl s n) (unionF gu s n) (unionF gl s' n) (unionF gu s' n)) w) := by
  have hq0 := fun d os => cell_regrown h.sc d os
  have hxS := fun d os => Calls.regrown_of (w := w) (d := d) (os := os) (convexSpan_any lb ub n s gl gu A B C D _ (h.lu.step (below_regrown w d os)) hn hgl hgu hs)
  have hxT := fun d os => Calls.regrown_of (w := w) (d := d) (os := os) (convexSpan_any lb ub n s' gl gu A B C D _ (h.lu.step (below_regrown w d os)) hn hgl hgu hs')
  have hxC := fun d os => Calls.regrown_of (w := w) (d := d) (os := os) (convexUnder_any (unionF gl s n) (unionF gu s n) (unionF gl s' n) (unionF gu s' n) _ (unionF_lt hgl) (unionF_lt hgu) (unionF_lt hgl) (unionF_lt hgu))
  have hmC := run_convex_under
  clear h hgl hgu hs hs' hn
  generalize convexU (unionF gl s n) (unionF gu s n) (unionF gl s' n) (unionF gu s' n) = t at hxC ⊢
  go_enter Tryd.func53, Tryd.ntmps53
  go_upto_region 1 with fail
  refine wp_region_quiet_below (by kernel_rfl) (by kernel_rfl) ?_
  repeat (go_big_quiet_step (first | (go_at_call_of 51 (Value.int .i64 (s : Int)); exact hxS _ _) | (go_at_call_of 51 (Value.int .i64 (s' : Int)); exact hxT _ _) | (go_at_call 106; exact hxC _ _)))
  refine wpQuiet_nil ?_
  intro _ hw'
  obtain ⟨⟨dq, osq⟩, hw''⟩ := hw'
  subst hw''
  clear hxS hxT hxC hq0
  go_wp2
  go_ret
  exact ⟨rfl, below_regrown w dq osq⟩
end Go.Proofs.YtiaajegdaipdmaaDoor

/- The rows that a relation makes. Plain facts: no function is walked here. -/
namespace Go.Proofs.YtiaajegdaipdmaaDoor
open Go.RowKit Go.Deep

/-- What row a holds when b elements have been looked at. -/
def bRow (B : Nat → Nat → Bool) (a b : Nat) : List Int := ((List.range b).filter fun k => B a k).map fun k : Nat => (k : Int)
theorem bRow_yes {B : Nat → Nat → Bool} {a b : Nat} (h : B a b = true) : bRow B a (b + 1) = bRow B a b ++ [(b : Int)] := by
  unfold bRow
  rw [List.range_succ, List.filter_append, List.map_append, List.filter_cons, h]
  rfl
theorem bRow_no {B : Nat → Nat → Bool} {a b : Nat} (h : B a b = false) : bRow B a (b + 1) = bRow B a b := by
  unfold bRow
  rw [List.range_succ, List.filter_append, List.filter_cons, h]
  simp
theorem bRow_len (B : Nat → Nat → Bool) (a b : Nat) : (bRow B a b).length ≤ b := by
  unfold bRow
  rw [List.length_map]
  have := List.length_filter_le (fun k => B a k) (List.range b)
  simpa using this
end Go.Proofs.YtiaajegdaipdmaaDoor

/- Domains told by bits; orders made of a relation; meets in domains. Plain facts: no function is walked here. -/
namespace Go.Proofs.YtiaajegdaipdmaaDoor
open Go.RowKit Go.Deep

theorem bottomF_pos {g : Nat → Nat} {s : Nat} (hs : s < 2 ^ 256) : 0 ≤ bottomF g s ↔ ∃ k, s.testBit k = true ∧ g k = s := by
  unfold bottomF
  cases hf : (elems s).find? (fun k => g k == s) with
  | none =>
    rw [List.find?_eq_none] at hf
    constructor
    · intro h
      exact absurd h (by decide)
    · rintro ⟨k, hk, e⟩
      exact absurd (beq_iff_eq.2 e) (hf k ((mem_elems hs).2 hk))
  | some k =>
    have h1 := List.find?_some hf
    have h2 := List.mem_of_find?_eq_some hf
    exact ⟨fun _ => ⟨k, (mem_elems hs).1 h2, beq_iff_eq.1 h1⟩, fun _ => Int.natCast_nonneg k⟩

/-- A domain, told by bits. -/
def DomBits (rows : Rows2) : Prop := (∃ m, m < rows.length ∧ gridF rows m = allF rows.length) ∧ ∀ a b, a < rows.length → b < rows.length → gridF rows a &&& gridF rows b ≠ 0 → ∃ c, c < rows.length ∧ gridF rows c = gridF rows a &&& gridF rows b
theorem domI_iff {rows : Rows2} (h : Ok rows) : domI rows = true ↔ DomBits rows := by
  have hn := h.len
  have hbad : ∀ a b, a < rows.length → b < rows.length → (badB rows a b = false ↔ (gridF rows a &&& gridF rows b ≠ 0 → ∃ c, c < rows.length ∧ gridF rows c = gridF rows a &&& gridF rows b)) := by
    intro a b ha hb
    have hlt : gridF rows a &&& gridF rows b < 2 ^ 256 := Nat.and_lt_two_pow _ (h.lt b)
    have hpos := bottomF_pos (g := gridF rows) hlt
    rw [← badF_eq h ha hb]
    unfold badF
    rw [Bool.and_eq_false_iff, Bool.not_eq_false', decide_eq_true_iff, decide_eq_false_iff_not]
    constructor
    · rintro (e | e) h0
      · exact absurd e h0
      · obtain ⟨k, hk, e2⟩ := hpos.1 (by omega)
        rw [Nat.testBit_and, Bool.and_eq_true] at hk
        exact ⟨k, (h.bit_lt hk.1).2, e2⟩
    · intro hi
      by_cases e : gridF rows a &&& gridF rows b = 0
      · exact .inl e
      · obtain ⟨c, hc, e2⟩ := hi e
        right
        have := hpos.2 ⟨c, by rw [← e2]; exact h.own c hc, e2⟩
        omega
  have hl : 0 ≤ leastI rows ↔ ∃ m, m < rows.length ∧ gridF rows m = allF rows.length := by
    rw [least_eq h, bottomF_pos (allF_lt (by omega))]
    constructor
    · rintro ⟨k, hk, e⟩
      rw [testBit_allF, decide_eq_true_iff] at hk
      exact ⟨k, hk, e⟩
    · rintro ⟨m, hm, e⟩
      exact ⟨m, by rw [testBit_allF]; exact decide_eq_true hm, e⟩
  constructor
  · intro hd
    have h1 : 0 ≤ leastI rows := by
      rcases Int.lt_or_le (leastI rows) 0 with h1 | h1
      · rw [domI_least h1] at hd; cases hd
      · exact h1
    refine ⟨hl.1 h1, fun a b ha hb hne => ?_⟩
    have hb' : ∀ a b, a < rows.length → b < a → badB rows a b = false := fun a b ha hb => by
      cases hq : badB rows a b with
      | false => rfl
      | true => rw [domI_bad ha hb hq] at hd; cases hd
    rcases Nat.lt_trichotomy b a with hlt | rfl | hlt
    · exact (hbad a b ha hb).1 (hb' a b ha hlt) hne
    · exact ⟨b, hb, (Nat.and_self _).symm⟩
    · obtain ⟨c, hc, e⟩ := (hbad b a hb ha).1 (hb' b a hb hlt) (by rw [Nat.and_comm]; exact hne)
      exact ⟨c, hc, by rw [e, Nat.and_comm]⟩
  · rintro ⟨h1, h2⟩
    exact domI_yes (hl.2 h1) fun a ha b hb => (hbad a b ha (by omega)).2 (h2 a b ha (by omega))
theorem domB_iff {rows : Rows2} : domB rows = true ↔ Ok rows ∧ DomBits rows := by
  unfold domB
  rw [Bool.and_eq_true]
  constructor
  · rintro ⟨h1, h2⟩
    exact ⟨ok_of_valid h1, (domI_iff (ok_of_valid h1)).1 h2⟩
  · rintro ⟨h1, h2⟩
    exact ⟨valid_of_ok h1, (domI_iff h1).2 h2⟩

theorem bRow_mem {B : Nat → Nat → Bool} {a N : Nat} (j : Int) : j ∈ bRow B a N ↔ ∃ k : Nat, k < N ∧ B a k = true ∧ j = (k : Int) := by
  unfold bRow
  rw [List.mem_map]
  constructor
  · rintro ⟨k, hk, rfl⟩
    rw [List.mem_filter, List.mem_range] at hk
    exact ⟨k, hk.1, hk.2, rfl⟩
  · rintro ⟨k, h1, h2, rfl⟩
    exact ⟨k, List.mem_filter.2 ⟨List.mem_range.2 h1, h2⟩, rfl⟩
theorem bRow_asc (B : Nat → Nat → Bool) (a N : Nat) : Asc (bRow B a N) := by
  have hp : ((List.range N).filter fun i => B a i).Pairwise (· < ·) := List.Pairwise.filter _ List.pairwise_lt_range
  intro i j hij hj
  unfold bRow at hj ⊢
  rw [List.length_map] at hj
  rw [List.getElem_map, List.getElem_map]
  have := (List.pairwise_iff_getElem.1 hp) i j (by omega) hj hij
  omega
/-- The order of N elements that a relation makes. -/
def madeL (B : Nat → Nat → Bool) (N : Nat) : Rows2 := (List.range N).map fun q => bRow B q N
theorem madeL_len (B : Nat → Nat → Bool) (N : Nat) : (madeL B N).length = N := by simp [madeL]
theorem madeL_at {B : Nat → Nat → Bool} {N q : Nat} (hq : q < (madeL B N).length) : (madeL B N)[q] = bRow B q N := by simp [madeL]
theorem made_asc (B : Nat → Nat → Bool) (N : Nat) (i : Nat) (hi : i < (madeL B N).length) : Asc (madeL B N)[i] ∧ ∀ x ∈ (madeL B N)[i], 0 ≤ x ∧ x < (madeL B N).length := by
  rw [madeL_at, madeL_len]
  refine ⟨bRow_asc B i N, fun x hx => ?_⟩
  obtain ⟨k, hk, _, rfl⟩ := (bRow_mem x).1 hx
  omega
theorem made_bit (B : Nat → Nat → Bool) {N q : Nat} (hq : q < N) (j : Nat) : (gridF (madeL B N) q).testBit j = (decide (j < N) && B q j) := by
  have hq' : q < (madeL B N).length := by rw [madeL_len]; exact hq
  rw [grid_bit hq' ((ascB_iff _ _).2 (made_asc B N q hq')), madeL_at, Bool.eq_iff_iff, decide_eq_true_iff, bRow_mem, Bool.and_eq_true, decide_eq_true_iff]
  constructor
  · rintro ⟨k, h1, h2, e⟩
    obtain rfl : j = k := by omega
    exact ⟨h1, h2⟩
  · rintro ⟨h1, h2⟩
    exact ⟨j, h1, h2, rfl⟩
theorem made_ok {B : Nat → Nat → Bool} {N : Nat} (h1 : 1 ≤ N) (h2 : N ≤ 200) (hr : ∀ a, a < N → B a a = true) (ha : ∀ a b, a < N → b < N → B a b = true → b ≠ a → B b a = false)
    (ht : ∀ a b c, a < N → b < N → c < N → B a b = true → B b c = true → B a c = true) : Ok (madeL B N) := by
  refine ⟨by rw [madeL_len]; exact ⟨h1, h2⟩, made_asc B N, fun i hi => ?_, fun i j hi hj hne => ?_, fun i j hi hj m hm => ?_⟩
  · rw [madeL_len] at hi
    rw [made_bit B hi, hr i hi, decide_eq_true hi]
    rfl
  · rw [madeL_len] at hi
    rw [made_bit B hi, Bool.and_eq_true, decide_eq_true_iff] at hj
    rw [made_bit B hj.1, ha i j hi hj.1 hj.2 hne, Bool.and_false]
  · rw [madeL_len] at hi
    rw [made_bit B hi, Bool.and_eq_true, decide_eq_true_iff] at hj
    rw [made_bit B hj.1, Bool.and_eq_true, decide_eq_true_iff] at hm
    rw [made_bit B hi, ht i j m hi hj.1 hm.1 hj.2 hm.2, decide_eq_true hm.1]
    rfl
theorem made_dom {B : Nat → Nat → Bool} {N : Nat} (h1 : 1 ≤ N) (h2 : N ≤ 200) (hr : ∀ a, a < N → B a a = true) (ha : ∀ a b, a < N → b < N → B a b = true → b ≠ a → B b a = false)
    (ht : ∀ a b c, a < N → b < N → c < N → B a b = true → B b c = true → B a c = true) (hl : ∃ m, m < N ∧ ∀ k, k < N → B m k = true)
    (hj : ∀ a b, a < N → b < N → (∃ c, c < N ∧ B a c = true ∧ B b c = true) → ∃ c, c < N ∧ ∀ k, k < N → B c k = (B a k && B b k)) : domB (madeL B N) = true := by
  refine domB_iff.2 ⟨made_ok h1 h2 hr ha ht, ?_, ?_⟩
  · obtain ⟨m, hm, hk⟩ := hl
    refine ⟨m, by rw [madeL_len]; exact hm, ?_⟩
    rw [madeL_len]
    apply Nat.eq_of_testBit_eq
    intro k
    rw [made_bit B hm, testBit_allF]
    by_cases hlt : k < N
    · rw [hk k hlt, Bool.and_true]
    · rw [decide_eq_false hlt, Bool.false_and]
  · intro a b ha' hb' hne
    rw [madeL_len] at ha' hb' ⊢
    obtain ⟨c, hc⟩ := Nat.exists_testBit_of_ne_zero hne
    rw [Nat.testBit_and, made_bit B ha', made_bit B hb', Bool.and_eq_true, Bool.and_eq_true, Bool.and_eq_true, decide_eq_true_iff] at hc
    obtain ⟨d, hd, hk⟩ := hj a b ha' hb' ⟨c, hc.1.1, hc.1.2, hc.2.2⟩
    refine ⟨d, hd, ?_⟩
    apply Nat.eq_of_testBit_eq
    intro k
    rw [Nat.testBit_and, made_bit B hd, made_bit B ha', made_bit B hb']
    by_cases hlt : k < N
    · rw [hk k hlt, decide_eq_true hlt]
      simp
    · rw [decide_eq_false hlt]
      simp

theorem lens_cut {rows : Rows2} {m n : Nat} (hl : rows.length ≤ n) (h : ∀ r ∈ rows, r.length ≤ m) : bulk rows ≤ n + n * m := by
  unfold bulk
  have h1 := sum_le (m := m) (rows.map List.length) fun x hx => by
    obtain ⟨r, hr, rfl⟩ := List.mem_map.1 hx
    exact h r hr
  rw [List.length_map] at h1
  have h2 := Nat.mul_le_mul_right m hl
  omega
theorem made_small {B : Nat → Nat → Bool} {N : Nat} (h : N ≤ 200) : bulk (madeL B N) ≤ 1048576 := by
  have hb := lens_cut (rows := madeL B N) (n := 200) (m := 200) (by rw [madeL_len]; exact h) (fun r hr => by
    unfold madeL at hr
    obtain ⟨q, _, rfl⟩ := List.mem_map.1 hr
    exact Nat.le_trans (bRow_len _ _ _) h)
  omega
/-- The relation of a grid. -/
def bitB (g : Nat → Nat) (a b : Nat) : Bool := (g a).testBit b

/-- In a domain each two elements have a meet. -/
theorem meet_there {rows : Rows2} (h : domB rows = true) {a b : Nat} (ha : a < rows.length) (hb : b < rows.length) : ∃ c, c < rows.length ∧ joinI (backRows rows) a b = (c : Int) := by
  obtain ⟨ok, ⟨m, hm, hme⟩, hjn⟩ := domB_iff.1 h
  have hleast : ∀ x, x < rows.length → (gridF rows m).testBit x = true := fun x hx => by rw [hme, testBit_allF]; exact decide_eq_true hx
  have key : ∀ k, k ≤ rows.length → ∃ c, c < rows.length ∧ (gridF rows c).testBit a = true ∧ (gridF rows c).testBit b = true ∧ ∀ x, x < k → (gridF rows x).testBit a = true → (gridF rows x).testBit b = true → (gridF rows x).testBit c = true := by
    intro k
    induction k with
    | zero => exact fun _ => ⟨m, hm, hleast a ha, hleast b hb, fun x hx => absurd hx (Nat.not_lt_zero _)⟩
    | succ k ih =>
      intro hk
      obtain ⟨c, hc, hca, hcb, hx⟩ := ih (by omega)
      by_cases hka : (gridF rows k).testBit a = true ∧ (gridF rows k).testBit b = true
      · have hne : gridF rows c &&& gridF rows k ≠ 0 := fun e => by
          have := congrArg (fun n => n.testBit a) e
          simp only [Nat.testBit_and, hca, hka.1, Nat.zero_testBit] at this
          cases this
        obtain ⟨d, hd, e⟩ := hjn c k hc (by omega) hne
        have hbit : ∀ x, (gridF rows d).testBit x = ((gridF rows c).testBit x && (gridF rows k).testBit x) := fun x => by rw [e, Nat.testBit_and]
        have hown := ok.own d hd
        rw [hbit, Bool.and_eq_true] at hown
        refine ⟨d, hd, by rw [hbit, hca, hka.1]; rfl, by rw [hbit, hcb, hka.2]; rfl, fun x hxk h1 h2 => ?_⟩
        by_cases exk : x = k
        · subst exk; exact hown.2
        · exact ok.trans x c (by omega) (hx x (by omega) h1 h2) d hown.1
      · refine ⟨c, hc, hca, hcb, fun x hxk h1 h2 => ?_⟩
        by_cases exk : x = k
        · subst exk; exact absurd ⟨h1, h2⟩ hka
        · exact hx x (by omega) h1 h2
  obtain ⟨c, hc, hca, hcb, hx⟩ := key rows.length (Nat.le_refl _)
  have hlen := backRows_len rows
  have hb9 := ok.back
  have hbits : gridF (backRows rows) c = gridF (backRows rows) a &&& gridF (backRows rows) b := by
    apply Nat.eq_of_testBit_eq
    intro x
    rw [Nat.testBit_and, back_bit ok, back_bit ok, back_bit ok, Bool.eq_iff_iff, Bool.and_eq_true]
    constructor
    · intro h1
      have hxl := (ok.bit_lt h1).1
      exact ⟨ok.trans x c hxl h1 a hca, ok.trans x c hxl h1 b hcb⟩
    · rintro ⟨h1, h2⟩
      exact hx x (ok.bit_lt h1).1 h1 h2
  have hpos : 0 ≤ joinI (backRows rows) a b := by
    rw [join_eq hb9 (by rw [hlen]; exact ha) (by rw [hlen]; exact hb), bottomF_pos (Nat.and_lt_two_pow _ (hb9.lt b))]
    exact ⟨c, by rw [← hbits]; exact hb9.own c (by rw [hlen]; exact hc), hbits⟩
  have hbd : joinI (backRows rows) a b < rows.length := by
    rw [join_eq hb9 (by rw [hlen]; exact ha) (by rw [hlen]; exact hb)] at hpos ⊢
    unfold bottomF at hpos ⊢
    cases hf : (elems (gridF (backRows rows) a &&& gridF (backRows rows) b)).find? (fun k => gridF (backRows rows) k == gridF (backRows rows) a &&& gridF (backRows rows) b) with
    | none => rw [hf] at hpos; exact absurd hpos (by decide)
    | some k =>
      have h2 := List.mem_of_find?_eq_some hf
      rw [mem_elems (Nat.and_lt_two_pow _ (hb9.lt b)), Nat.testBit_and, Bool.and_eq_true] at h2
      have := (hb9.bit_lt h2.1).2
      rw [hlen] at this
      show (k : Int) < _
      omega
  exact ⟨(joinI (backRows rows) a b).toNat, by omega, by omega⟩
end Go.Proofs.YtiaajegdaipdmaaDoor

/- Closures of sets, bit by bit. Plain facts: no function is walked here. -/
namespace Go.Proofs.YtiaajegdaipdmaaDoor
open Go.RowKit Go.Deep

/-- Is bit i in the union of those of the first k sets that are in s? -/
def hitB (g : Nat → Nat) (s i k : Nat) : Bool := (List.range k).any fun q => s.testBit q && (g q).testBit i
theorem hit_succ (g : Nat → Nat) (s i k : Nat) : hitB g s i (k + 1) = (hitB g s i k || (s.testBit k && (g k).testBit i)) := by
  unfold hitB
  rw [List.range_succ, List.any_append, List.any_cons, List.any_nil, Bool.or_false]
theorem hit_all (g : Nat → Nat) (s i n : Nat) : hitB g s i n = (unionF g s n).testBit i := (unionF_bit g s i n).symm
/-- The union below bit i, and bit i of the first k sets. -/
def partN (g : Nat → Nat) (s n i k : Nat) : Nat := unionF g s n % 2 ^ i ||| (if hitB g s i k = true then 2 ^ i else 0)
theorem partN_bit (g : Nat → Nat) (s n i k j : Nat) : (partN g s n i k).testBit j = ((decide (j < i) && (unionF g s n).testBit j) || (hitB g s i k && decide (j = i))) := by
  unfold partN
  rw [Nat.testBit_or, Nat.testBit_mod_two_pow]
  cases hitB g s i k with
  | true =>
    rw [if_pos rfl, Nat.testBit_two_pow, Bool.true_and]
    congr 1
    rw [Bool.eq_iff_iff, decide_eq_true_iff, decide_eq_true_iff]
    exact eq_comm
  | false => rw [if_neg (by simp), Nat.zero_testBit, Bool.false_and]
theorem partN_start (g : Nat → Nat) (s n : Nat) : partN g s n 0 0 = 0 := by
  unfold partN hitB
  simp [Nat.mod_one]
theorem partN_yes {g : Nat → Nat} {s n i k : Nat} (h1 : s.testBit k = true) (h2 : (g k).testBit i = true) : partN g s n i k ||| 2 ^ i = partN g s n i (k + 1) := by
  apply Nat.eq_of_testBit_eq
  intro j
  rw [Nat.testBit_or, partN_bit, partN_bit, hit_succ, h1, h2, Nat.testBit_two_pow, Bool.true_and, Bool.or_true, Bool.true_and]
  have e : decide (i = j) = decide (j = i) := by rw [Bool.eq_iff_iff, decide_eq_true_iff, decide_eq_true_iff]; exact eq_comm
  rw [e]
  cases decide (j < i) && (unionF g s n).testBit j <;> cases hitB g s i k <;> cases decide (j = i) <;> rfl
theorem partN_no {g : Nat → Nat} {s n i k : Nat} (h : (s.testBit k && (g k).testBit i) = false) : partN g s n i k = partN g s n i (k + 1) := by
  apply Nat.eq_of_testBit_eq
  intro j
  rw [partN_bit, partN_bit, hit_succ, h, Bool.or_false]
theorem partN_next (g : Nat → Nat) (s n i : Nat) : partN g s n i n = partN g s n (i + 1) 0 := by
  apply Nat.eq_of_testBit_eq
  intro j
  rw [partN_bit, partN_bit, hit_all]
  have h0 : hitB g s (i + 1) 0 = false := rfl
  rw [h0, Bool.false_and, Bool.or_false]
  by_cases e : j = i
  · subst e
    rw [decide_eq_false (Nat.lt_irrefl j), decide_eq_true (Nat.lt_succ_self j), decide_eq_true rfl]
    simp
  · rw [decide_eq_false e, Bool.and_false, Bool.or_false]
    congr 1
    rw [Bool.eq_iff_iff, decide_eq_true_iff, decide_eq_true_iff]
    omega
theorem partN_done {g : Nat → Nat} {s n : Nat} (h : ∀ k, k < n → g k < 2 ^ n) : partN g s n n 0 = unionF g s n := by
  unfold partN
  rw [Nat.mod_eq_of_lt (unionF_lt h)]
  simp [hitB]
theorem partN_lt {g : Nat → Nat} {s n i k : Nat} (h : ∀ q, q < n → g q < 2 ^ n) (hi : i < n) : partN g s n i k < 2 ^ n := by
  unfold partN
  refine Nat.or_lt_two_pow (Nat.lt_of_le_of_lt (Nat.mod_le _ _) (unionF_lt h)) ?_
  split
  · exact Nat.pow_lt_pow_right (by decide) hi
  · exact Nat.two_pow_pos n

/-- The rows of an order have no more bits than it has elements. -/
theorem Ok.small {rows : Rows2} (h : Ok rows) (i : Nat) : gridF rows i < 2 ^ rows.length := by
  apply Nat.lt_pow_two_of_testBit
  intro j hj
  cases hb : (gridF rows i).testBit j with
  | false => rfl
  | true => have := (h.bit_lt hb).2; omega
theorem Ok.backSmall {rows : Rows2} (h : Ok rows) (i : Nat) : gridF (backRows rows) i < 2 ^ rows.length := by
  have := h.back.small i
  rw [backRows_len] at this
  exact this
end Go.Proofs.YtiaajegdaipdmaaDoor

/- The kinds of powerdomains, told by their names; closures and orders of sets. Plain facts: no function is walked here. -/
namespace Go.Proofs.YtiaajegdaipdmaaDoor
open Go.RowKit Go.Deep

/-- The kind that a text names: 0, 1, 2; 3: none. -/
def kindN (z : ByteArray) : Nat :=
  if (z.toList == [108, 111, 119, 101, 114]) = true then 0
  else if (z.toList == [117, 112, 112, 101, 114]) = true then 1
  else if (z.toList == [99, 111, 110, 118, 101, 120]) = true then 2 else 3
theorem kind_0 {z : ByteArray} (h : kindN z = 0) : (z.toList == [108, 111, 119, 101, 114]) = true := by
  unfold kindN at h
  split at h
  · assumption
  · split at h
    · cases h
    · split at h <;> cases h
theorem kind_1 {z : ByteArray} (h : kindN z = 1) : (z.toList == [108, 111, 119, 101, 114]) = false ∧ (z.toList == [117, 112, 112, 101, 114]) = true := by
  unfold kindN at h
  split at h
  · cases h
  · rename_i h0
    split at h
    · rename_i h1
      exact ⟨Bool.eq_false_iff.2 h0, h1⟩
    · split at h <;> cases h
theorem kind_2 {z : ByteArray} (h : kindN z = 2) : (z.toList == [108, 111, 119, 101, 114]) = false ∧ (z.toList == [117, 112, 112, 101, 114]) = false ∧ (z.toList == [99, 111, 110, 118, 101, 120]) = true := by
  unfold kindN at h
  split at h
  · cases h
  · rename_i h0
    split at h
    · cases h
    · rename_i h1
      split at h
      · rename_i h2
        exact ⟨Bool.eq_false_iff.2 h0, Bool.eq_false_iff.2 h1, h2⟩
      · cases h
theorem kind_3 {z : ByteArray} (h : ¬ kindN z < 3) : (z.toList == [108, 111, 119, 101, 114]) = false ∧ (z.toList == [117, 112, 112, 101, 114]) = false ∧ (z.toList == [99, 111, 110, 118, 101, 120]) = false := by
  unfold kindN at h
  split at h
  · exact absurd (by decide) h
  · rename_i h0
    split at h
    · exact absurd (by decide) h
    · rename_i h1
      split at h
      · exact absurd (by decide) h
      · rename_i h2
        exact ⟨Bool.eq_false_iff.2 h0, Bool.eq_false_iff.2 h1, Bool.eq_false_iff.2 h2⟩
theorem kind_cases {z : ByteArray} (h : kindN z < 3) : kindN z = 0 ∨ kindN z = 1 ∨ kindN z = 2 := by omega

/-- The closure and the order of a kind. -/
def closeK (k lo up : Nat) : Nat := if k = 0 then lowerC lo up else if k = 1 then upperC lo up else convexC lo up
def underK (k lo up lo' up' : Nat) : Bool := if k = 0 then lowerU lo up lo' up' else if k = 1 then upperU lo up lo' up' else convexU lo up lo' up'
/-- The closure of a set of elements of an order; are two sets below each other? -/
def closL (rows : Rows2) (k s : Nat) : Nat := closeK k (unionF (gridF (backRows rows)) s rows.length) (unionF (gridF rows) s rows.length)
def undL (rows : Rows2) (k s s' : Nat) : Bool := underK k (unionF (gridF (backRows rows)) s rows.length) (unionF (gridF rows) s rows.length) (unionF (gridF (backRows rows)) s' rows.length) (unionF (gridF rows) s' rows.length)
theorem back_back {rows : Rows2} (h : Ok rows) : gridF (backRows (backRows rows)) = gridF rows := by
  funext i
  apply Nat.eq_of_testBit_eq
  intro j
  rw [back_bit h.back, back_bit h]
theorem lo_lt {rows : Rows2} (h : Ok rows) (s : Nat) : unionF (gridF (backRows rows)) s rows.length < 2 ^ rows.length := unionF_lt fun k _ => h.backSmall k
theorem up_lt {rows : Rows2} (h : Ok rows) (s : Nat) : unionF (gridF rows) s rows.length < 2 ^ rows.length := unionF_lt fun k _ => h.small k
theorem clos_lt {rows : Rows2} (h : Ok rows) (k s : Nat) : closL rows k s < 2 ^ rows.length := by
  unfold closL closeK
  split
  · exact lo_lt h s
  · split
    · exact up_lt h s
    · exact Nat.lt_of_le_of_lt Nat.and_le_left (lo_lt h s)
theorem pow7_lt {n x : Nat} (hn : n ≤ 7) (h : x < 2 ^ n) : x < 2 ^ 60 := Nat.lt_of_lt_of_le h (Nat.pow_le_pow_right (by decide) (by omega))
end Go.Proofs.YtiaajegdaipdmaaDoor

/- A powerdomain in its variable: the sets that are there so far; isSet. -/
namespace Go.Proofs.YtiaajegdaipdmaaDoor
open Go.RowKit Go.Deep

theorem pd_ne_int : (45 : TypeId) ≠ 3 := by decide
/-- The cells of a powerdomain. -/
abbrev pdCells (n : Nat) (v fc fo : Value) : Array Value := #[.int .i64 ((n : Nat) : Int), v, fc, fo]
structure PD (w0 : World) (pb n : Nat) (v fc fo : Value) (xs : List Int) (W : World) : Prop where
  below : Below w0.heap.size w0 W
  blk : W.heap[pb]? = some (.cells (pdCells n v fc fo) 45 (0, 0))
  own : W.ownsRow w0.heap.size 3 1 v xs.length (cellsI xs)
  place : w0.heap.size ≤ pb
section
variable {w0 : World} {pb n : Nat} {v fc fo : Value} {xs : List Int} {W : World}
theorem PD.lt (h : PD w0 pb n v fc fo xs W) : pb < W.heap.size := (Array.getElem?_eq_some_iff.1 h.blk).1
theorem PD.start (w0 : World) (n : Nat) (fc fo : Value) : PD w0 w0.heap.size n (.slice none 0 0) fc fo [] (w0.alloc (.cells (pdCells n (.slice none 0 0) fc fo) 45)) :=
  ⟨(Below.refl _ w0).alloc (Nat.le_refl _) _, heap_alloc_new _ _, World.ownsRow_nil _ _ _ _, Nat.le_refl _⟩
theorem PD.step {W' : World} (h : PD w0 pb n v fc fo xs W) (hb : Below W.heap.size W W') : PD w0 pb n v fc fo xs W' :=
  ⟨h.below.trans (hb.mono h.below.size), (hb.block _ h.lt).trans h.blk, owns_below h.own hb, h.place⟩
theorem PD.c0 (h : PD w0 pb n v fc fo xs W) : W.cell? ⟨pb, 0, none⟩ = some (.int .i64 ((n : Nat) : Int)) := by rw [cell_of_row W pb _ _ _ _ h.blk]; rfl
theorem PD.c1 (h : PD w0 pb n v fc fo xs W) : W.cell? ⟨pb, 1, none⟩ = some v := by rw [cell_of_row W pb _ _ _ _ h.blk]; rfl
theorem PD.c2 (h : PD w0 pb n v fc fo xs W) : W.cell? ⟨pb, 2, none⟩ = some fc := by rw [cell_of_row W pb _ _ _ _ h.blk]; rfl
theorem PD.c3 (h : PD w0 pb n v fc fo xs W) : W.cell? ⟨pb, 3, none⟩ = some fo := by rw [cell_of_row W pb _ _ _ _ h.blk]; rfl
theorem PD.frozen (h : PD w0 pb n v fc fo xs W) (o : Nat) : W.frozen? ⟨pb, o, none⟩ = false := frozen_of_row W pb o _ _ h.blk
/-- No block of integers is the variable's. -/
theorem owns_apart {u : Value} {m : Nat} {ys : List Value} {lo : Nat} (h : W.ownsRow lo 3 1 u m ys) (hb : ∃ cs, W.heap[pb]? = some (.cells cs 45 (0, 0))) : u.ownBlock = none ∨ u.ownBlock ≠ some pb := by
  obtain ⟨_, ⟨rfl, _⟩ | ⟨g, cap, cur, rfl, _, hg, _⟩⟩ := h
  · exact .inl rfl
  · refine .inr fun e => ?_
    have e' : g = pb := Option.some.inj e
    subst e'
    obtain ⟨cs, hc⟩ := hb
    rw [hc] at hg
    injection hg with hg
    injection hg with _ hg
    exact pd_ne_int hg
theorem PD.pushed {W3 : World} {u2 : Value} {x : Int} {o : Obj} (h : PD w0 pb n v fc fo xs W) (hown : W3.ownsRow w0.heap.size 3 1 u2 (xs.length + 1) (cellsI xs ++ [.int .i64 x])) (hgrow : (W.alloc o).grownBy W3 v.ownBlock) :
    PD w0 pb n u2 fc fo (xs ++ [x]) (W3.setCell ⟨pb, 1, none⟩ u2) := by
  have hne := owns_apart h.own ⟨_, h.blk⟩
  have hlt := h.lt
  have hb3 : W3.heap[pb]? = some (.cells (pdCells n v fc fo) 45 (0, 0)) := by
    rw [hgrow.block pb (by rw [World.size_alloc]; omega) (fun e => by
      rcases hne with h1 | h1
      · rw [h1] at e; cases e
      · exact h1 e.symm)]
    exact (World.grownBy_alloc W o none).block pb hlt (by simp) |>.trans h.blk
  have hne2 := owns_apart hown ⟨_, hb3⟩
  have hset := heap_setCell_same W3 pb 1 _ _ u2 hb3
  refine ⟨?_, hset, ?_, h.place⟩
  · exact ((h.below.alloc h.below.size o).grown hgrow (by rw [World.size_alloc]; have := h.below.size; omega) (fun k e => (h.own.lt k e).1)).setCell (p := ⟨pb, 1, none⟩) h.place _
  · have e : cellsI (xs ++ [x]) = cellsI xs ++ [.int .i64 x] := by simp
    rw [List.length_append, e]
    exact hown.kept (row := some pb) ⟨rfl, rfl, rfl, by simp, fun k _ hk => Below.heap_setCell _ _ _ k (fun e2 => hk (by rw [e2]))⟩ hne2
theorem PD.far {W3 : World} {o : Obj} (h : PD w0 pb n v fc fo xs W) (hgrow : (W.alloc o).grownBy W3 v.ownBlock) : W3.cell? ⟨pb, 1, none⟩ = some v ∧ W3.frozen? ⟨pb, 1, none⟩ = false := by
  have hne := owns_apart h.own ⟨_, h.blk⟩
  have hlt := h.lt
  have hb3 : W3.heap[pb]? = some (.cells (pdCells n v fc fo) 45 (0, 0)) := by
    rw [hgrow.block pb (by rw [World.size_alloc]; omega) (fun e => by
      rcases hne with h1 | h1
      · rw [h1] at e; cases e
      · exact h1 e.symm)]
    exact (World.grownBy_alloc W o none).block pb hlt (by simp) |>.trans h.blk
  exact ⟨by rw [cell_of_row W3 pb _ _ _ _ hb3]; rfl, frozen_of_row W3 pb _ _ _ hb3⟩
end

theorem fresh4 (W : World) (n : Nat) (v fc fo : Value) : (W.alloc (.cells (pdCells n v fc fo) 45)).cell? ⟨W.heap.size, 0, none⟩ = some (.int .i64 ((n : Nat) : Int)) ∧ (W.alloc (.cells (pdCells n v fc fo) 45)).cell? ⟨W.heap.size, 1, none⟩ = some v ∧ (W.alloc (.cells (pdCells n v fc fo) 45)).cell? ⟨W.heap.size, 2, none⟩ = some fc ∧ (W.alloc (.cells (pdCells n v fc fo) 45)).cell? ⟨W.heap.size, 3, none⟩ = some fo :=
  ⟨by rw [cell_of_row _ W.heap.size 0 _ _ _ (heap_alloc_new _ _)]; rfl, by rw [cell_of_row _ W.heap.size 1 _ _ _ (heap_alloc_new _ _)]; rfl, by rw [cell_of_row _ W.heap.size 2 _ _ _ (heap_alloc_new _ _)]; rfl, by rw [cell_of_row _ W.heap.size 3 _ _ _ (heap_alloc_new _ _)]; rfl⟩
theorem pow_i64 {n : Nat} (hn : n ≤ 7) : ∃ M : Nat, M = 2 ^ n ∧ (1 ≤ M ∧ M ≤ 128) ∧ wrap64 ((2 : Int) ^ n) = (M : Int) ∧ n % 64 = n := by
  obtain ⟨M, hM⟩ : ∃ M : Nat, M = 2 ^ n := ⟨_, rfl⟩
  have h1 := Nat.pow_le_pow_right (show 0 < 2 by decide) hn
  have h2 := Nat.two_pow_pos n
  rw [← hM] at h1 h2
  refine ⟨M, hM, ⟨h2, h1⟩, ?_, Nat.mod_eq_of_lt (by omega)⟩
  rw [show ((2 : Int) ^ n) = (M : Int) by rw [hM]; simp]
  exact IntWalk.wrap64_in _ (by omega)

set_option maxRecDepth 100000 in
set_option maxHeartbeats 4000000 in
theorem isSet_any (n M : Nat) (v fc fo : Value) (x : Int) (w : World) (hn : n ≤ 7) (hM : M = 2 ^ n) :
    Calls Tryd.prog 47 #[.agg (pdCells n v fc fo), .int .i64 x] w (SaysN (decide (1 ≤ x ∧ x < (M : Int))) w) := by
  obtain ⟨M', hM', hMb, hp1, hm64⟩ := pow_i64 hn
  obtain rfl : M = M' := by rw [hM, hM']
  obtain ⟨c0, _, _, _⟩ := fresh4 w n v fc fo
  have HB := Lib.hid ((Below.refl w.heap.size w).alloc (Nat.le_refl _) (.cells (pdCells n v fc fo) 45))
  clear hM hM' hMb
  by_cases h0 : 0 < x
  · by_cases h1 : x < (M : Int)
    · rw [decide_eq_true (show 1 ≤ x ∧ x < (M : Int) by omega)]
      go_enter Tryd.func47, Tryd.ntmps47
      go_wp2
      go_ret
      exact ⟨rfl, HB.out⟩
    · rw [decide_eq_false (show ¬ (1 ≤ x ∧ x < (M : Int)) by omega)]
      go_enter Tryd.func47, Tryd.ntmps47
      go_wp2
      go_ret
      exact ⟨rfl, HB.out⟩
  · rw [decide_eq_false (show ¬ (1 ≤ x ∧ x < (M : Int)) by omega)]
    go_enter Tryd.func47, Tryd.ntmps47
    go_wp2
    go_ret
    exact ⟨rfl, HB.out⟩
end Go.Proofs.YtiaajegdaipdmaaDoor

/- What a law holds while it runs, as a list of things that lie one behind the other in memory: variables' boxes, copies, answers. Plain facts on worlds: no function is walked here. -/
namespace Go.Proofs.YtiaajegdaipdmaaDoor
open Go.RowKit Go.Deep

/-- A thing that lies between the blocks lo and hi, and hangs on these alone. -/
structure It where
  lo : Nat
  hi : Nat
  P : World → Prop
  loc : ∀ W W' : World, (∀ b, lo ≤ b → b < hi → W'.heap[b]? = W.heap[b]?) → P W → P W'

/-- A list of integers in memory of its own; rows likewise; a variable's box. -/
def ItI (v : Value) (xs : List Int) (lo hi : Nat) : It := ⟨lo, hi, fun W => OwnI 3 W v xs lo hi, fun _ _ h k => k.kept fun b e => h b (k.block b e).1 (k.block b e).2.1⟩
def ItR (v : Value) (n : Nat) (R : Nat → List Int) (lo hi : Nat) : It := ⟨lo, hi, fun W => OwnR 3 34 W v n R lo hi, fun _ _ h k => k.kept h⟩
def ItB (b : Nat) (t : TypeId) (v : Value) : It := ⟨b, b + 1, fun W => Boxed W b t v, fun _ _ h k => (h b (Nat.le_refl _) (Nat.lt_succ_self _)).trans k⟩

def Holds (W : World) : Nat → List It → Prop
  | n, [] => n ≤ W.heap.size
  | n, i :: is => n ≤ i.lo ∧ i.lo ≤ i.hi ∧ i.P W ∧ Holds W i.hi is

theorem Holds.le {W : World} : ∀ {is : List It} {n : Nat}, Holds W n is → n ≤ W.heap.size
  | [], _, h => h
  | _ :: _, _, h => Nat.le_trans h.1 (Nat.le_trans h.2.1 (Holds.le h.2.2.2))
theorem Holds.above {W W' : World} : ∀ {is : List It} {n : Nat}, Holds W n is → (∀ b, n ≤ b → b < W.heap.size → W'.heap[b]? = W.heap[b]?) → W.heap.size ≤ W'.heap.size → Holds W' n is
  | [], _, h, _, hz => Nat.le_trans h hz
  | i :: _, _, h, hb, hz => ⟨h.1, h.2.1, i.loc W W' (fun b hl hh => hb b (Nat.le_trans h.1 hl) (Nat.lt_of_lt_of_le hh h.2.2.2.le)) h.2.2.1, h.2.2.2.above (fun b hl hs => hb b (Nat.le_trans h.1 (Nat.le_trans h.2.1 hl)) hs) hz⟩
theorem Holds.step {W W' : World} {is : List It} {n : Nat} (h : Holds W n is) (hb : Below W.heap.size W W') : Holds W' n is := h.above (fun b _ hs => hb.block b hs) hb.size
theorem Holds.push {W W' : World} {it : It} (hb : Below W.heap.size W W') (h1 : W.heap.size ≤ it.lo) (h2 : it.lo ≤ it.hi) (h3 : it.hi ≤ W'.heap.size) (hP : it.P W') : ∀ {is : List It} {n : Nat}, Holds W n is → Holds W' n (is ++ [it])
  | [], _, h => ⟨Nat.le_trans h h1, h2, hP, h3⟩
  | i :: _, _, h => ⟨h.1, h.2.1, i.loc W W' (fun b _ hh => hb.block b (Nat.lt_of_lt_of_le hh h.2.2.2.le)) h.2.2.1, Holds.push hb h1 h2 h3 hP h.2.2.2⟩
theorem Holds.pop {W : World} {it : It} : ∀ {is : List It} {n : Nat}, Holds W n (is ++ [it]) → Holds W n is
  | [], _, h => Nat.le_trans h.1 (Nat.le_trans h.2.1 h.2.2.2)
  | _ :: _, _, h => ⟨h.1, h.2.1, h.2.2.1, Holds.pop h.2.2.2⟩
theorem Holds.take {W : World} : ∀ {is : List It} {n : Nat} (k : Nat), Holds W n is → Holds W n (is.take k)
  | [], _, k, h => by rw [List.take_nil]; exact h
  | _ :: _, _, 0, h => Nat.le_trans h.1 (Nat.le_trans h.2.1 h.2.2.2.le)
  | _ :: _, _, k + 1, h => ⟨h.1, h.2.1, h.2.2.1, Holds.take k h.2.2.2⟩
theorem Holds.get {W : World} {it : It} : ∀ {is : List It} {n : Nat} (k : Nat), is[k]? = some it → Holds W n is → n ≤ it.lo ∧ it.lo ≤ it.hi ∧ it.hi ≤ W.heap.size ∧ it.P W
  | [], _, k, e, _ => by simp at e
  | i :: is, n, 0, e, h => by
    obtain rfl : i = it := by simpa using e
    exact ⟨h.1, h.2.1, h.2.2.2.le, h.2.2.1⟩
  | i :: is, n, k + 1, e, h => by
    have e' : is[k]? = some it := by simpa using e
    obtain ⟨a, b, c, d⟩ := Holds.get k e' h.2.2.2
    exact ⟨Nat.le_trans h.1 (Nat.le_trans h.2.1 a), b, c, d⟩
theorem Holds.turn {W W' : World} {it it' : It} (hlo : it'.lo = it.lo) (hhi : it'.hi = it.hi) (ht : Turned it.lo it.hi W W') (hP : it'.P W') : ∀ {is : List It} {n : Nat} (k : Nat), is[k]? = some it → Holds W n is → Holds W' n (is.set k it')
  | [], _, k, e, _ => by simp at e
  | i :: is, n, 0, e, h => by
    obtain rfl : i = it := by simpa using e
    refine ⟨by rw [hlo]; exact h.1, by rw [hlo, hhi]; exact h.2.1, hP, ?_⟩
    rw [hhi]
    exact h.2.2.2.above (fun b hl hs => ht.above b hl hs) ht.below.size
  | i :: is, n, k + 1, e, h => by
    have e' : is[k]? = some it := by simpa using e
    have hg := Holds.get k e' h.2.2.2
    exact ⟨h.1, h.2.1, i.loc W W' (fun b _ hh => ht.below.block b (Nat.lt_of_lt_of_le hh hg.1)) h.2.2.1, Holds.turn hlo hhi ht hP k e' h.2.2.2⟩

/-- The world W, since w: all that lay there lies as it lay, and behind it lie these things. -/
structure St (w : World) (is : List It) (W : World) : Prop where
  below : Below w.heap.size w W
  holds : Holds W w.heap.size is

section
variable {w : World} {is : List It} {W W' : World}
theorem St.start (w : World) : St w [] w := ⟨Below.refl _ _, Nat.le_refl _⟩
theorem St.step (h : St w is W) (hb : Below W.heap.size W W') : St w is W' := ⟨h.below.trans (hb.mono h.below.size), h.holds.step hb⟩
theorem St.drew (h : St w is W) : St w is W.drew := h.step ⟨rfl, rfl, rfl, Nat.le_refl _, fun _ _ => rfl⟩
theorem St.drewN (h : St w is W) (n : Nat) : St w is (W.drewN n) := h.step ⟨rfl, rfl, rfl, Nat.le_refl _, fun _ _ => rfl⟩
theorem St.push {it : It} (h : St w is W) (hb : Below W.heap.size W W') (h1 : W.heap.size ≤ it.lo) (h2 : it.lo ≤ it.hi) (h3 : it.hi ≤ W'.heap.size) (hP : it.P W') : St w (is ++ [it]) W' :=
  ⟨h.below.trans (hb.mono h.below.size), h.holds.push hb h1 h2 h3 hP⟩
theorem St.pop {it : It} (h : St w (is ++ [it]) W) : St w is W := ⟨h.below, h.holds.pop⟩
theorem St.take (h : St w is W) (k : Nat) : St w (is.take k) W := ⟨h.below, h.holds.take k⟩
theorem St.box (h : St w is W) (t : TypeId) (v : Value) : St w (is ++ [ItB W.heap.size t v]) (W.alloc (.cells #[v] t)) :=
  h.push ((Below.refl _ _).alloc (Nat.le_refl _) _) (Nat.le_refl _) (Nat.le_succ _) (by rw [World.size_alloc]; exact Nat.le_refl _) (Boxed.new W t v)
theorem St.pushI {v : Value} {xs : List Int} (h : St w is W) (hb : Below W.heap.size W W') (ho : OwnI 3 W' v xs W.heap.size W'.heap.size) : St w (is ++ [ItI v xs W.heap.size W'.heap.size]) W' :=
  h.push hb (Nat.le_refl _) hb.size (Nat.le_refl _) ho
theorem St.pushR {v : Value} {n : Nat} {R : Nat → List Int} (h : St w is W) (hb : Below W.heap.size W W') (ho : OwnR 3 34 W' v n R W.heap.size W'.heap.size) : St w (is ++ [ItR v n R W.heap.size W'.heap.size]) W' :=
  h.push hb (Nat.le_refl _) hb.size (Nat.le_refl _) ho
/-- The copies that the laws make. -/
theorem St.copyR {g : Nat} {G : Nat → Nat} {rows : Rows2} (h : St w is W) (hn : bulk rows ≤ maxLen) (hg : W.heap.size ≤ g) (ho : OwnRows 3 34 W' g W'.heap.size G rows) (hb : Below W.heap.size W W') :
    St w (is ++ [ItR (whole g rows.length) rows.length (rowsF rows) W.heap.size W'.heap.size]) W' :=
  h.pushR hb ((ho.ownR hn).wider hg (Nat.le_refl _))
theorem OwnInts.ownI {t : TypeId} {g : Nat} {xs : List Int} {hi : Nat} (h : OwnInts t W g xs) (hn : xs.length ≤ maxLen) (hg : g < hi) : OwnI t W (whole g xs.length) xs g hi :=
  ⟨h.2, .inr ⟨g, _, _, rfl, Nat.le_refl _, hn, Nat.le_refl _, hg, h.1, fun _ hi => intCell_lt hi⟩⟩
theorem St.copyI {xs : List Int} (h : St w is W) (hn : xs.length ≤ maxLen) (ho : OwnInts 3 W' W.heap.size xs) (hz : W'.heap.size = W.heap.size + 1) (hb : Below W.heap.size W W') :
    St w (is ++ [ItI (whole W.heap.size xs.length) xs W.heap.size W'.heap.size]) W' :=
  h.pushI hb (ho.ownI hn (by omega))
theorem St.cell {b : Nat} {t : TypeId} {v : Value} (h : St w is W) (k : Nat) (e : is[k]? = some (ItB b t v)) : W.cell? ⟨b, 0, none⟩ = some v := Boxed.cell (h.holds.get k e).2.2.2
theorem St.lt {b : Nat} {t : TypeId} {v : Value} (h : St w is W) (k : Nat) (e : is[k]? = some (ItB b t v)) : b < W.heap.size := Boxed.lt (h.holds.get k e).2.2.2
theorem St.ownI {v : Value} {xs : List Int} {lo hi : Nat} (h : St w is W) (k : Nat) (e : is[k]? = some (ItI v xs lo hi)) : OwnI 3 W v xs lo hi := (h.holds.get k e).2.2.2
theorem St.ownR {v : Value} {n : Nat} {R : Nat → List Int} {lo hi : Nat} (h : St w is W) (k : Nat) (e : is[k]? = some (ItR v n R lo hi)) : OwnR 3 34 W v n R lo hi := (h.holds.get k e).2.2.2
theorem St.ints {v : Value} {xs : List Int} {lo hi : Nat} (h : St w is W) (k : Nat) (e : is[k]? = some (ItI v xs lo hi)) : IntsAt W v xs := (h.ownI k e).at
theorem St.rows {v : Value} {rows : Rows2} {lo hi : Nat} (h : St w is W) (k : Nat) (e : is[k]? = some (ItR v rows.length (rowsF rows) lo hi)) : RowsAt W v rows := (h.ownR k e).at
theorem St.boundsR {v : Value} {n : Nat} {R : Nat → List Int} {lo hi : Nat} (h : St w is W) (k : Nat) (e : is[k]? = some (ItR v n R lo hi)) : lo ≤ W.heap.size ∧ hi ≤ W.heap.size := ⟨Nat.le_trans (h.holds.get k e).2.1 (h.holds.get k e).2.2.1, (h.holds.get k e).2.2.1⟩
theorem St.turn {it it' : It} (h : St w is W) (k : Nat) (e : is[k]? = some it) (hlo : it'.lo = it.lo) (hhi : it'.hi = it.hi) (ht : Turned it.lo it.hi W W') (hP : it'.P W') : St w (is.set k it') W' :=
  ⟨h.below.trans (ht.below.mono (h.holds.get k e).1), h.holds.turn hlo hhi ht hP k e⟩
theorem St.turnR {v : Value} {n : Nat} {R R' : Nat → List Int} {lo hi : Nat} (h : St w is W) (k : Nat) (e : is[k]? = some (ItR v n R lo hi)) (ht : Turned lo hi W W') (ho : OwnR 3 34 W' v n R' lo hi) : St w (is.set k (ItR v n R' lo hi)) W' :=
  h.turn (it' := ItR v n R' lo hi) k e rfl rfl ht ho
theorem St.turnI {v : Value} {xs ys : List Int} {lo hi : Nat} (h : St w is W) (k : Nat) (e : is[k]? = some (ItI v xs lo hi)) (hg : W.grownBy W' v.ownBlock) (ho : OwnI 3 W' v ys lo hi) : St w (is.set k (ItI v ys lo hi)) W' :=
  have hk := h.holds.get k e
  h.turn (it' := ItI v ys lo hi) k e rfl rfl (Turned.of_grownBy hg (Nat.le_trans hk.2.1 hk.2.2.1) fun b e' => ⟨((h.ownI k e).block b e').1, ((h.ownI k e).block b e').2.1⟩) ho
end
theorem St.start1 (w : World) (t : TypeId) (v : Value) : St w [ItB w.heap.size t v] (w.alloc (.cells #[v] t)) := (St.start w).box t v
theorem St.start2 (w : World) (t t' : TypeId) (v v' : Value) : St w [ItB w.heap.size t v, ItB (w.heap.size + 1) t' v'] ((w.alloc (.cells #[v] t)).alloc (.cells #[v'] t')) := by
  have h := (St.start1 w t v).box t' v'
  rw [World.size_alloc] at h
  exact h
theorem St.start3 (w : World) (t t' t2 : TypeId) (v v' v2 : Value) : St w [ItB w.heap.size t v, ItB (w.heap.size + 1) t' v', ItB (w.heap.size + 2) t2 v2] (((w.alloc (.cells #[v] t)).alloc (.cells #[v'] t')).alloc (.cells #[v2] t2)) := by
  have h := (St.start2 w t t' v v').box t2 v2
  rw [World.size_alloc, World.size_alloc] at h
  exact h
end Go.Proofs.YtiaajegdaipdmaaDoor

/- An answer that is an order in a variable whose place is drawn: the box and the rows as one thing in memory. Plain facts on worlds. -/
namespace Go.Proofs.YtiaajegdaipdmaaDoor
open Go.RowKit Go.Deep

/-- A variable that holds an order, and the order's rows, between the blocks lo and hi. -/
def ItO (b : Nat) (u : Value) (n : Nat) (R : Nat → List Int) (lo hi : Nat) : It :=
  ⟨lo, hi, fun W => (lo ≤ b ∧ b < hi) ∧ Boxed W b 26 u ∧ OwnR 3 34 W u n R lo hi, fun _ _ h k => ⟨k.1, (h b k.1.1 k.1.2).trans k.2.1, k.2.2.kept h⟩⟩

theorem Holds.split {W : World} : ∀ {a b : List It} {n : Nat}, Holds W n (a ++ b) → ∃ m, (∀ it : It, m ≤ it.lo → it.lo ≤ it.hi → it.hi ≤ W.heap.size → it.P W → Holds W n (a ++ [it])) ∧ Holds W m b
  | [], _, n, h => ⟨n, fun _ h1 h2 h3 h4 => ⟨h1, h2, h4, h3⟩, h⟩
  | i :: a, b, n, h => by
    obtain ⟨m, hm, hb⟩ := Holds.split (a := a) h.2.2.2
    exact ⟨m, fun it h1 h2 h3 h4 => ⟨h.1, h.2.1, h.2.2.1, hm it h1 h2 h3 h4⟩, hb⟩

section
variable {w : World} {is : List It} {W W' : World}
theorem St.boxed {b : Nat} {t : TypeId} {v : Value} (h : St w is W) (k : Nat) (e : is[k]? = some (ItB b t v)) : Boxed W b t v := (h.holds.get k e).2.2.2
theorem St.cellO {b n lo hi : Nat} {u : Value} {R : Nat → List Int} (h : St w is W) (k : Nat) (e : is[k]? = some (ItO b u n R lo hi)) : W.cell? ⟨b, 0, none⟩ = some u := Boxed.cell (h.holds.get k e).2.2.2.2.1
theorem St.rowsO {b lo hi : Nat} {u : Value} {rows : Rows2} (h : St w is W) (k : Nat) (e : is[k]? = some (ItO b u rows.length (rowsF rows) lo hi)) : RowsAt W u rows := (h.holds.get k e).2.2.2.2.2.at
/-- A store into a variable. -/
theorem St.setB {b : Nat} {t : TypeId} {v : Value} (h : St w is W) (k : Nat) (e : is[k]? = some (ItB b t v)) (v' : Value) : St w (is.set k (ItB b t v')) (W.setCell ⟨b, 0, none⟩ v') := by
  have hb := h.boxed k e
  refine h.turn (it' := ItB b t v') k e rfl rfl ⟨(Below.refl b W).setCell (p := ⟨b, 0, none⟩) (Nat.le_refl _) _, fun x hx _ => ?_⟩ (hb.set v')
  exact Below.heap_setCell _ _ _ x (fun e2 => by
    subst e2
    exact absurd hx (Nat.not_le.2 (Nat.lt_succ_self _)))
theorem St.packO {b n lo hi : Nat} {u : Value} {R : Nat → List Int} (h : St w is W) (k i j : Nat) (hi' : k ≤ i) (hj' : k ≤ j) (e1 : is[i]? = some (ItB b 26 u)) (e2 : is[j]? = some (ItR u n R lo hi)) :
    ∃ lo' hi', St w (is.take k ++ [ItO b u n R lo' hi']) W := by
  have hs := h.holds
  rw [← List.take_append_drop k is] at hs
  obtain ⟨m, hm, hb⟩ := Holds.split hs
  have f1 : (is.drop k)[i - k]? = some (ItB b 26 u) := by rw [List.getElem?_drop, show k + (i - k) = i by omega]; exact e1
  have f2 : (is.drop k)[j - k]? = some (ItR u n R lo hi) := by rw [List.getElem?_drop, show k + (j - k) = j by omega]; exact e2
  have g1 : m ≤ b ∧ b ≤ b + 1 ∧ b + 1 ≤ W.heap.size ∧ Boxed W b 26 u := Holds.get _ f1 hb
  have g2 : m ≤ lo ∧ lo ≤ hi ∧ hi ≤ W.heap.size ∧ OwnR 3 34 W u n R lo hi := Holds.get _ f2 hb
  have hmn : min b lo ≤ b ∧ min b lo ≤ lo ∧ b + 1 ≤ max (b + 1) hi ∧ hi ≤ max (b + 1) hi := ⟨Nat.min_le_left _ _, Nat.min_le_right _ _, Nat.le_max_left _ _, Nat.le_max_right _ _⟩
  refine ⟨min b lo, max (b + 1) hi, h.below, hm _ (Nat.le_min.2 ⟨g1.1, g2.1⟩) (show min b lo ≤ max (b + 1) hi by omega) (Nat.max_le.2 ⟨g1.2.2.1, g2.2.2.1⟩) ?_⟩
  exact ⟨⟨hmn.1, by omega⟩, g1.2.2.2, g2.2.2.2.wider hmn.2.1 hmn.2.2.2⟩
theorem St.name (h : St w is W) : ∃ IS, IS = is ∧ St w IS W := ⟨is, rfl, h⟩
end
end Go.Proofs.YtiaajegdaipdmaaDoor

/- The program's powerWith, at the three kinds: the sets, and the functions that tell closures and orders. -/
namespace Go.Proofs.YtiaajegdaipdmaaDoor
open Go.RowKit Go.Deep Go.Shelf

/-- The sets below m that are their own closures. -/
def setsTo (rows : Rows2) (k m : Nat) : List Int := ((List.range m).filter fun x => decide (1 ≤ x) && decide (closL rows k x = x)).map fun x : Nat => (x : Int)
theorem setsTo_one (rows : Rows2) (k : Nat) : setsTo rows k 1 = [] := by
  unfold setsTo
  rw [show List.range 1 = [0] from rfl]
  simp
theorem setsTo_yes {rows : Rows2} {k m : Nat} (h1 : 1 ≤ m) (h : closL rows k m = m) : setsTo rows k (m + 1) = setsTo rows k m ++ [(m : Int)] := by
  unfold setsTo
  rw [List.range_succ, List.filter_append, List.map_append, List.filter_cons, decide_eq_true h1, decide_eq_true h]
  rfl
theorem setsTo_no {rows : Rows2} {k m : Nat} (h : closL rows k m ≠ m) : setsTo rows k (m + 1) = setsTo rows k m := by
  unfold setsTo
  rw [List.range_succ, List.filter_append, List.filter_cons, decide_eq_false h, Bool.and_false]
  simp
theorem setsTo_len (rows : Rows2) (k m : Nat) : (setsTo rows k m).length ≤ m := by
  unfold setsTo
  rw [List.length_map]
  have := List.length_filter_le (fun x => decide (1 ≤ x) && decide (closL rows k x = x)) (List.range m)
  rw [List.length_range] at this
  exact this
theorem setsTo_mem {rows : Rows2} {k m : Nat} {y : Int} (h : y ∈ setsTo rows k m) : ∃ x : Nat, y = (x : Int) ∧ 1 ≤ x ∧ x < m ∧ closL rows k x = x := by
  unfold setsTo at h
  obtain ⟨x, hx, rfl⟩ := List.mem_map.1 h
  rw [List.mem_filter, List.mem_range, Bool.and_eq_true, decide_eq_true_iff, decide_eq_true_iff] at hx
  exact ⟨x, rfl, hx.2.1, hx.1, hx.2.2⟩
/-- All sets of a kind. -/
def setsL (rows : Rows2) (k : Nat) : List Int := setsTo rows k (2 ^ rows.length)

/-- A powerdomain as a value: its sets, and what its functions look at, which hangs on the blocks from lo to hi alone. -/
def PwAt (rows : Rows2) (k : Nat) (F1 : FuncId) (lo hi : Nat) (v : Value) (sb : Nat) (W : World) : Prop :=
  ∃ lb ub A B C D, OwnI 3 W v (setsL rows k) lo hi ∧ ∀ W', (∀ b, lo ≤ b → b < hi → W'.heap[b]? = W.heap[b]?) → hi ≤ W'.heap.size → PM F1 sb lb ub rows.length (gridF (backRows rows)) (gridF rows) A B C D W'
abbrev pwV (n : Nat) (v : Value) (F2 F3 : FuncId) (kb sb : Nat) : Value := .agg #[.int .i64 ((n : Nat) : Int), v, .func (.func F2) #[] #[.pointer (some ⟨kb, 0, none⟩), .pointer (some ⟨sb, 0, none⟩)], .func (.func F3) #[] #[.pointer (some ⟨kb, 0, none⟩), .pointer (some ⟨sb, 0, none⟩)]]
theorem ownI_form {t : TypeId} {W : World} {u : Value} {xs : List Int} {lo hi n : Nat} (h : OwnI t W u xs lo hi) (hn : xs.length = n) : ∃ a C, u = .slice a n C := by
  obtain ⟨a, C, e⟩ := h.form
  exact ⟨a, C, by rw [e, hn]⟩
/-- The lists lie where the rest of the memory does not matter. -/
theorem lu_of {wA W : World} {is : List It} {G1 G2 n lo hi lo' hi' : Nat} {gl gu : Nat → Nat} {a1 a2 : Option Addr} {C1 C2 : Nat} (h : St wA is W) (i j k l : Nat) (ei : is[i]? = some (ItB G1 34 (.slice a1 n C1))) (ej : is[j]? = some (ItB G2 34 (.slice a2 n C2)))
    (ek : is[k]? = some (ItI (.slice a1 n C1) (setsI gl n) lo hi)) (el : is[l]? = some (ItI (.slice a2 n C2) (setsI gu n) lo' hi')) (W' : World) (hb : ∀ b, wA.heap.size ≤ b → b < W.heap.size → W'.heap[b]? = W.heap[b]?) (hz : W.heap.size ≤ W'.heap.size) : LU G1 G2 n gl gu a1 a2 C1 C2 W' := by
  have hs := h.holds.above hb hz
  exact ⟨Boxed.cell (hs.get i ei).2.2.2, Boxed.cell (hs.get j ej).2.2.2, OwnI.at (hs.get k ek).2.2.2, OwnI.at (hs.get l el).2.2.2⟩
end Go.Proofs.YtiaajegdaipdmaaDoor
