/- A row as often as one likes (slices.Repeat at rows). -/
import Derived.Test.YtkhhbpeheikmfaaDoorRwAt
import Derived.Laws.CopyRow
import Derived.Laws.CopyOwn
import Derived.Deep.RegionLaw
import Derived.Laws.Bits64b
import Derived.Test.YtkhhbpeheikmfaaDoorBackS
import Derived.Test.YtkhhbpeheikmfaaDoorImplDom
import Derived.Test.YtkhhbpeheikmfaaDoorMidFa
import Derived.Test.YtkhhbpeheikmfaaDoorIsEl
import Derived.Test.YtkhhbpeheikmfaaDoorBottom
import Derived.Test.YtkhhbpeheikmfaaDoorGrid
import Derived.Test.YtkhhbpeheikmfaaDoorOkG
import Derived.Deep.AppendLies
import Derived.Lib.QuietBelow
import Derived.BigQuiet
import Derived.Test.YtkhhbpeheikmfaaDoorElemP
import Derived.Test.YtkhhbpeheikmfaaDoorBack
import Derived.Test.YtkhhbpeheikmfaaDoorLw
namespace Go.Proofs.YtkhhbpeheikmfaaDoor
open Go.RowKit Go.Deep

/-- copy of elements of several cells. -/
theorem run_copy_rowN {P : Program} (w : World) (dT sT ty elem : TypeId) (g o dLen dCap : Nat) (a : Addr) (sLen sCap sz : Nat) (cur : Array Value) (t : TypeId) (cs : List Value)
    (hu : P.underlying dT = some (.slice elem)) (hs : (P.info? elem).map (·.size) = some sz)
    (hg : w.heap[g]? = some (.cells cur t (0, 0))) (hn : cs.length = Nat.min sLen dLen * sz)
    (hsrc : ∀ j v, cs[j]? = some v → w.cell? (a.add j) = some v) (hfit : o + cs.length ≤ cur.size) (h1 : ∀ v ∈ cs, v.oneCell' = true) :
    (Builtin.copy_ #[dT, sT] ty #[.slice (some ⟨g, o, none⟩) dLen dCap, .slice (some a) sLen sCap]).run P w =
      .ok (goInt (Nat.min sLen dLen)) (w.setRow g (cur.toList.take o ++ cs ++ cur.toList.drop (o + cs.length)).toArray) := by
  have hl := run_loadCells_list (P := P) w a cs hsrc
  have hst := run_storeCells_at P g o t cs 0 cur w hg (by simpa using hfit) h1
  cases hq : P.info? elem with
  | none => simp [hq] at hs
  | some i =>
    have hi : i.size = sz := by simpa [hq] using hs
    rw [hn] at hl hst ⊢
    simp [Builtin.copy_, run_underlying hu, Builtin.lenOf, Builtin.firstCells, sizeOf, typeInfo, hq, hi, hl, hst]
theorem wpList_copy_rowN {P : Program} {w : World} {ops : Array Oper} {rest : List Oper} {o : Oper} {a : Act} {Q : Exit → Act → World → Prop} (hgd : o.guard = none) (d s : Operand) (dT sT : TypeId)
    (ho : o.op = .call { callee := .builtin .copy, args := #[d, s], argTypes := #[dT, sT] }) (elem : TypeId) (sz : Nat) (hu : P.underlying dT = some (.slice elem)) (hsz : (P.info? elem).map (·.size) = some sz)
    (g off dLen dCap : Nat) (ad : Addr) (sLen sCap : Nat) (hd : a.eval d = .slice (some ⟨g, off, none⟩) dLen dCap) (hs : a.eval s = .slice (some ad) sLen sCap)
    (cur : Array Value) (t : TypeId) (hg : w.heap[g]? = some (.cells cur t (0, 0))) (cs : List Value) (hn : cs.length = Nat.min sLen dLen * sz)
    (hsrc : ∀ j v, cs[j]? = some v → w.cell? (ad.add j) = some v) (hfit : off + cs.length ≤ cur.size) (h1 : ∀ v ∈ cs, v.oneCell' = true)
    (h : wpList P ops Q rest (a.put o.dst (goInt (Nat.min sLen dLen))) (w.setRow g (cur.toList.take off ++ cs ++ cur.toList.drop (off + cs.length)).toArray)) : wpList P ops Q (o :: rest) a w := by
  refine wpList_plain hgd fun K hK => ?_
  have hrun := run_copy_rowN (P := P) w dT sT o.type elem g off dLen dCap ad sLen sCap sz cur t cs hu hsz hg hn hsrc hfit h1
  unfold Oper.wp
  simp [execOp, ho, resolve, invoke, builtin, hd, hs, hrun, Result.andThen]
  exact hK _ _ (by simpa using h)
theorem step_copy_rowN {P : Program} {ops : Array Oper} {o : Oper} {a : Act} {w : World} {K : Act → World → Prop} {Q : Exit → Act → World → Prop} {E : Prop} (hgd : o.guard = none) (d s : Operand) (dT sT : TypeId)
    (ho : o.op = .call { callee := .builtin .copy, args := #[d, s], argTypes := #[dT, sT] }) (elem : TypeId) (sz : Nat) (hu : P.underlying dT = some (.slice elem)) (hsz : (P.info? elem).map (·.size) = some sz)
    (g off dLen dCap : Nat) (ad : Addr) (sLen sCap : Nat) (hd : a.eval d = .slice (some ⟨g, off, none⟩) dLen dCap) (hs : a.eval s = .slice (some ad) sLen sCap)
    (cur : Array Value) (t : TypeId) (hg : w.heap[g]? = some (.cells cur t (0, 0))) (cs : List Value) (hn : cs.length = Nat.min sLen dLen * sz)
    (hsrc : ∀ j v, cs[j]? = some v → w.cell? (ad.add j) = some v) (hfit : off + cs.length ≤ cur.size) (h1 : ∀ v ∈ cs, v.oneCell' = true)
    (h : K (a.put o.dst (goInt (Nat.min sLen dLen))) (w.setRow g (cur.toList.take off ++ cs ++ cur.toList.drop (off + cs.length)).toArray)) :
    if Region.wanted o (yielded ops a.tmps) = true then Oper.wp P o a w K Q else E := by
  have hw : Region.wanted o (yielded ops a.tmps) = true := by simp [Region.wanted, hgd]
  rw [if_pos hw]
  have hrun := run_copy_rowN (P := P) w dT sT o.type elem g off dLen dCap ad sLen sCap sz cur t cs hu hsz hg hn hsrc hfit h1
  unfold Oper.wp
  simp [execOp, ho, resolve, invoke, builtin, hd, hs, hrun, Result.andThen]
  exact (by simpa [Oper.upon] using h)

theorem mask32 (a : Nat) (ha : a < 4294967296) : bits BinOp.and IntKind.u64 (a : Int) 4294967295 = (a : Int) := by
  have h := bits_and_u64_nat a 4294967295 (by omega) (by omega)
  have e : a &&& 4294967295 = a % 4294967296 := Nat.and_two_pow_sub_one_eq_mod a 32
  rw [e, Nat.mod_eq_of_lt ha] at h
  exact h
theorem mul64_one (n : Nat) (hn : n ≤ 5000) (w : World) : Calls Tryd.prog 101 #[.int .u64 1, .int .u64 n] w fun e w' => e = .returned (.tuple #[.int .u64 0, .int .u64 n]) ∧ w' = w := by
  have h1 : bits BinOp.and IntKind.u64 1 4294967295 = 1 := mask32 1 (by omega)
  have h2 := mask32 n (by omega)
  have h3 : bits BinOp.and IntKind.u64 0 4294967295 = 0 := mask32 0 (by omega)
  have h4 : (n : Int) / 4294967296 = 0 := by omega
  have h5 : IntKind.u64.wrap (n : Int) = n := by rw [IntKind.wrap_u64]; omega
  have h6 : IntKind.u64.wrap 0 = 0 := by rw [IntKind.wrap_u64]; rfl
  go_enter Tryd.func101, Tryd.ntmps101
  go_wp2
  go_ret2
  exact ⟨rfl, rfl⟩
theorem mul_one' (n : Nat) (hn : n ≤ 5000) (w : World) : Calls Tryd.prog 91 #[.int .u64 1, .int .u64 n] w fun e w' => e = .returned (.tuple #[.int .u64 0, .int .u64 n]) ∧ w' = w := by
  have hc := mul64_one n hn w
  go_enter Tryd.func91, Tryd.ntmps91
  go_wp2_with (go_at_call 101; refine hc.mono ?_; rintro e w' ⟨rfl, rfl⟩)
  go_ret2
  exact ⟨rfl, rfl⟩

/-- The first K of n rows are A, the others empty. -/
def firstK (A K : Nat) (q : Nat) : Nat := if q < K then A else 0

theorem cellsRw_toArray (n : Nat) (O : Nat → Nat) {i : Nat} (h : i < (cellsRw n O).toArray.size) : (cellsRw n O).toArray[i] = .int .u64 ((word (O (i / 4)) (i % 4) : Nat) : Int) := by
  have hi : i < n * 4 := by rw [← cellsRw_len n O]; simpa using h
  have h3 := cellsRw_at (O := O) hi
  have h4 : (cellsRw n O)[i]? = some ((cellsRw n O)[i]'(by rw [cellsRw_len]; exact hi)) := List.getElem?_eq_getElem _
  rw [h4] at h3
  injection h3
theorem madeRw (A n : Nat) : madeCells #[.int .u64 0, .int .u64 0, .int .u64 0, .int .u64 0] (n * 4) = (cellsRw n (firstK A 0)).toArray := by
  apply Array.ext
  · rw [size_madeCells]; simp [cellsRw_len]
  · intro i h1 h2
    rw [cellsRw_toArray n _ h2]
    have h5 : i % 4 = 0 ∨ i % 4 = 1 ∨ i % 4 = 2 ∨ i % 4 = 3 := by omega
    have h6 : firstK A 0 (i / 4) = 0 := if_neg (Nat.not_lt_zero _)
    unfold madeCells
    rw [h6]
    rcases h5 with h | h | h | h <;> simp [h, word]
/-- Behind a copy of m rows. -/
theorem splice_rw {A n K m : Nat} (h : K + m ≤ n) : (cellsRw n (firstK A K)).take (K * 4) ++ cellsRw m (fun _ => A) ++ (cellsRw n (firstK A K)).drop (K * 4 + m * 4) = cellsRw n (firstK A (K + m)) := by
  apply List.ext_getElem?
  intro i
  have hl : ((cellsRw n (firstK A K)).take (K * 4)).length = K * 4 := by rw [List.length_take, cellsRw_len]; omega
  by_cases h0 : i < n * 4
  · rw [cellsRw_at h0]
    by_cases h1 : i < K * 4
    · rw [List.append_assoc, List.getElem?_append_left (by omega), List.getElem?_take, if_pos h1, cellsRw_at (by omega)]
      unfold firstK
      rw [if_pos (by omega), if_pos (by omega)]
    · by_cases h2 : i < K * 4 + m * 4
      · rw [List.append_assoc, List.getElem?_append_right (by omega), hl, List.getElem?_append_left (by rw [cellsRw_len]; omega), cellsRw_at (by omega)]
        unfold firstK
        rw [if_pos (by omega), show (i - K * 4) % 4 = i % 4 by omega]
      · rw [List.getElem?_append_right (by rw [List.length_append, hl, cellsRw_len]; omega), List.length_append, hl, cellsRw_len, List.getElem?_drop, show K * 4 + m * 4 + (i - (K * 4 + m * 4)) = i by omega, cellsRw_at h0]
        unfold firstK
        rw [if_neg (by omega), if_neg (by omega)]
  · rw [List.getElem?_eq_none (by rw [List.length_append, List.length_append, hl, List.length_drop, cellsRw_len, cellsRw_len]; omega), List.getElem?_eq_none (by rw [cellsRw_len]; omega)]
theorem setRow_cellsRw {W : World} {g n : Nat} {O O' : Nat → Nat} (h : W.heap[g]? = some (.cells (cellsRw n O).toArray 92 (0, 0))) : (W.setRow g (cellsRw n O').toArray).heap[g]? = some (.cells (cellsRw n O').toArray 92 (0, 0)) := setRow_heap W g _ _ _ _ h
theorem RwAt.of_cells {W : World} {g n : Nat} {O : Nat → Nat} (h : W.heap[g]? = some (.cells (cellsRw n O).toArray 92 (0, 0))) (hO : ∀ j, j < n → O j < 2 ^ 256) : RwAt W g n O :=
  ⟨_, h, fun j i hj hi => by
    rw [List.getElem?_toArray, cellsRw_at (by omega), show (j * 4 + i) / 4 = j by omega, show (j * 4 + i) % 4 = i by omega], hO⟩
/-- m of the first K rows are copied behind them. -/
theorem copy_rw {W : World} {g n A K m L sC dC : Nat} (hg : W.heap[g]? = some (.cells (cellsRw n (firstK A K)).toArray 92 (0, 0))) (hm : m = Nat.min K L) (hL : K + L = n) :
    (Builtin.copy_ #[105, 105] 3 #[.slice (some ⟨g, K * 4, none⟩) L dC, .slice (some ⟨g, 0, none⟩) K sC]).run Tryd.prog W = .ok (goInt (m : Int)) (W.setRow g (cellsRw n (firstK A (K + m))).toArray) := by
  have hmk : m ≤ K := by rw [hm]; exact Nat.min_le_left _ _
  have hml : m ≤ L := by rw [hm]; exact Nat.min_le_right _ _
  have h := run_copy_rowN (P := Tryd.prog) W 105 105 3 92 g (K * 4) L dC ⟨g, 0, none⟩ K sC 4 (cellsRw n (firstK A K)).toArray 92 (cellsRw m (fun _ => A)) Tryd.underlying105 (by kernel_rfl) hg (by rw [cellsRw_len, ← hm])
    (fun j v hj => by
      have hj' : j < m * 4 := by
        rw [← cellsRw_len m (fun _ => A)]
        exact (List.getElem?_eq_some_iff.1 hj).1
      rw [cellsRw_at hj'] at hj
      injection hj with hj
      rw [Addr.add_lit, Nat.zero_add, cell_of_row W g _ _ _ _ hg, List.getElem?_toArray, cellsRw_at (by omega), ← hj]
      unfold firstK
      rw [if_pos (by omega)])
    (by rw [cellsRw_len]; simp [cellsRw_len]; omega) (cellsRw_one m _)
  rw [← hm, cellsRw_len, splice_rw (by omega)] at h
  exact h
set_option maxRecDepth 100000 in
set_option maxHeartbeats 4000000 in
theorem repeat_any (b C n A : Nat) (w : World) (h : RwAt w b 1 (fun _ => A)) (hn : 0 < n) (hn2 : n ≤ 200) :
    Calls Tryd.prog 74 #[.slice (some ⟨b, 0, none⟩) 1 C, .int .i64 n] w fun e w' =>
      ∃ g, e = .returned (.slice (some ⟨g, 0, none⟩) n n) ∧ w.heap.size ≤ g ∧ RwAt w' g n (fun _ => A) ∧ Below w.heap.size w w' := by
  have hc := mul_one' n (by omega) w
  have hn0 : (0 : Int) ≤ (n : Int) := by omega
  have hn3 : (n : Int) ≤ 9223372036854775807 := by omega
  have h5 : IntKind.u64.wrap (n : Int) = n := by rw [IntKind.wrap_u64]; omega
  go_enter Tryd.func74, Tryd.ntmps74
  obtain ⟨j0, hj0, hy0, hy1, hy2⟩ := info_parts infoRow
  have hmk := run_make (P := Tryd.prog) w 105 92 j0 _ Tryd.underlying105 hj0 hy0 .i64 .i64 n n (by omega) (by omega) (by rw [hy2]; omega) (by omega)
  rw [hy1, show (Value.agg #[.int .u64 0, .int .u64 0, .int .u64 0, .int .u64 0]).cells = #[.int .u64 0, .int .u64 0, .int .u64 0, .int .u64 0] from rfl, Int.toNat_natCast, madeRw A] at hmk
  have hA := h.bits (j := 0) (by omega)
  have hg0 : (w.alloc (.cells (cellsRw n (firstK A 0)).toArray 92)).heap[w.heap.size]? = some (.cells (cellsRw n (firstK A 0)).toArray 92 (0, 0)) := heap_alloc_new w _
  have hb1 := (Below.refl w.heap.size w).alloc (Nat.le_refl _) (.cells (cellsRw n (firstK A 0)).toArray 92)
  have hcp := run_copy_rowN (P := Tryd.prog) _ 105 105 3 92 w.heap.size 0 n n ⟨b, 0, none⟩ 1 C 4 (cellsRw n (firstK A 0)).toArray 92 (cellsRw 1 (fun _ => A)) Tryd.underlying105 (by kernel_rfl) hg0 (by rw [cellsRw_len, show Nat.min 1 n = 1 from Nat.min_eq_left hn])
    (fun j v hj => (h.below hb1 h.lt).news j v hj) (by simp [cellsRw_len]; omega) (cellsRw_one 1 _)
  rw [show Nat.min 1 n = 1 from Nat.min_eq_left hn, cellsRw_len, show (0 : Nat) = 0 * 4 from rfl, show (0 * 4 + 1 * 4) = 0 * 4 + 1 * 4 from rfl, splice_rw (by omega : 0 + 1 ≤ n)] at hcp
  have hg1 := setRow_cellsRw (O' := firstK A (0 + 1)) hg0
  have hB := Lib.hid (below_setRow hb1 (Nat.le_refl _) (cellsRw n (firstK A (0 + 1))).toArray)
  have HG := Lib.hid hg1
  clear hg1 hb1 hg0
  go_wp2_with (go_at_call 91; refine hc.mono ?_; rintro e w' ⟨rfl, rfl⟩)
  clear hcp hmk hc
  go_loopw [8] (fun iv wr => ∃ K : Nat, 0 < K ∧ K ≤ n ∧ iv = .int .i64 K ∧ wr.heap[w'.heap.size]? = some (.cells (cellsRw n (firstK A K)).toArray 92 (0, 0)) ∧ Below w'.heap.size w' wr) (fun iv _ => n - (intOf iv).toNat)
  case atStart => exact ⟨1, by omega, by omega, rfl, HG.out, hB.out⟩
  case round =>
    obtain ⟨K, hK0, hK, rfl, hg, hb⟩ := hrel
    have HG2 := Lib.hid hg
    have HB2 := Lib.hid hb
    by_cases hlt : K < n
    · have hK1 : (K : Int) < (n : Int) := by omega
      have hdw : (wr.drew).heap[w'.heap.size]? = some (.cells (cellsRw n (firstK A K)).toArray 92 (0, 0)) := hg
      obtain ⟨M, hM⟩ : ∃ M, M = Nat.min K (n - K) := ⟨_, rfl⟩
      have hM0 : 0 < M := by rw [hM]; exact Nat.lt_min.2 ⟨hK0, by omega⟩
      have hMn : K + M ≤ n := by have : M ≤ n - K := by rw [hM]; exact Nat.min_le_right _ _
                                 omega
      have hcp := copy_rw (n := n) (K := K) (L := n - K) (m := M) (sC := n) (dC := n - K) hdw hM (by omega)
      clear hg hb hM
      go_wp2
      go_region
      have HB3 := Lib.hid (below_setRow (HB2.out.drew) (Nat.le_refl _) (cellsRw n (firstK A (K + M))).toArray)
      have HG3 := Lib.hid (setRow_cellsRw (O' := firstK A (K + M)) hdw)
      revert HB3 HG3
      generalize wr.drew.setRow w'.heap.size (cellsRw n (firstK A (K + M))).toArray = wz
      intro HB3 HG3
      simp only [Exit.inBlock]
      go_roundw
      case rel =>
        (repeat apply Exists.intro)
        refine ⟨?rel2, ?frame2⟩
        case frame2 => rfl
        case rel2 => exact ⟨K + M, by omega, hMn, rfl, HG3.out, HB3.out⟩
      case measure => simp [intOf]; omega
    · obtain rfl : K = n := by omega
      go_wp2
      go_ret
      exact ⟨_, rfl, Nat.le_refl _, (RwAt.of_cells HG2.out (fun j _ => by unfold firstK; split <;> omega)).congr (fun j hj => if_pos hj), HB2.out⟩
end Go.Proofs.YtkhhbpeheikmfaaDoor

/- The rows that a relation makes. Plain facts: no function is walked here. -/
namespace Go.Proofs.YtkhhbpeheikmfaaDoor
open Go.RowKit Go.Deep

/-- What row a holds when b elements have been looked at. -/
def bRow (B : Nat → Nat → Bool) (a b : Nat) : List Int := ((List.range b).filter fun k => B a k).map fun k : Nat => (k : Int)
theorem bRow_yes {B : Nat → Nat → Bool} {a b : Nat} (h : B a b = true) : bRow B a (b + 1) = bRow B a b ++ [(b : Int)] := by
  unfold bRow
  rw [List.range_succ, List.filter_append, List.map_append, List.filter_cons, h]
  rfl
theorem bRow_no {B : Nat → Nat → Bool} {a b : Nat} (h : B a b = false) : bRow B a (b + 1) = bRow B a b := by
  unfold bRow
  rw [List.range_succ, List.filter_append, List.filter_cons, h]
  simp
theorem bRow_len (B : Nat → Nat → Bool) (a b : Nat) : (bRow B a b).length ≤ b := by
  unfold bRow
  rw [List.length_map]
  have := List.length_filter_le (fun k => B a k) (List.range b)
  simpa using this
end Go.Proofs.YtkhhbpeheikmfaaDoor

/- Domains told by bits; orders made of a relation; meets in domains. Plain facts: no function is walked here. -/
namespace Go.Proofs.YtkhhbpeheikmfaaDoor
open Go.RowKit Go.Deep

theorem bottomF_pos {g : Nat → Nat} {s : Nat} (hs : s < 2 ^ 256) : 0 ≤ bottomF g s ↔ ∃ k, s.testBit k = true ∧ g k = s := by
  unfold bottomF
  cases hf : (elems s).find? (fun k => g k == s) with
  | none =>
    rw [List.find?_eq_none] at hf
    constructor
    · intro h
      exact absurd h (by decide)
    · rintro ⟨k, hk, e⟩
      exact absurd (beq_iff_eq.2 e) (hf k ((mem_elems hs).2 hk))
  | some k =>
    have h1 := List.find?_some hf
    have h2 := List.mem_of_find?_eq_some hf
    exact ⟨fun _ => ⟨k, (mem_elems hs).1 h2, beq_iff_eq.1 h1⟩, fun _ => Int.natCast_nonneg k⟩

/-- A domain, told by bits. -/
def DomBits (rows : Rows2) : Prop := (∃ m, m < rows.length ∧ gridF rows m = allF rows.length) ∧ ∀ a b, a < rows.length → b < rows.length → gridF rows a &&& gridF rows b ≠ 0 → ∃ c, c < rows.length ∧ gridF rows c = gridF rows a &&& gridF rows b
theorem domI_iff {rows : Rows2} (h : Ok rows) : domI rows = true ↔ DomBits rows := by
  have hn := h.len
  have hbad : ∀ a b, a < rows.length → b < rows.length → (badB rows a b = false ↔ (gridF rows a &&& gridF rows b ≠ 0 → ∃ c, c < rows.length ∧ gridF rows c = gridF rows a &&& gridF rows b)) := by
    intro a b ha hb
    have hlt : gridF rows a &&& gridF rows b < 2 ^ 256 := Nat.and_lt_two_pow _ (h.lt b)
    have hpos := bottomF_pos (g := gridF rows) hlt
    rw [← badF_eq h ha hb]
    unfold badF
    rw [Bool.and_eq_false_iff, Bool.not_eq_false', decide_eq_true_iff, decide_eq_false_iff_not]
    constructor
    · rintro (e | e) h0
      · exact absurd e h0
      · obtain ⟨k, hk, e2⟩ := hpos.1 (by omega)
        rw [Nat.testBit_and, Bool.and_eq_true] at hk
        exact ⟨k, (h.bit_lt hk.1).2, e2⟩
    · intro hi
      by_cases e : gridF rows a &&& gridF rows b = 0
      · exact .inl e
      · obtain ⟨c, hc, e2⟩ := hi e
        right
        have := hpos.2 ⟨c, by rw [← e2]; exact h.own c hc, e2⟩
        omega
  have hl : 0 ≤ leastI rows ↔ ∃ m, m < rows.length ∧ gridF rows m = allF rows.length := by
    rw [least_eq h, bottomF_pos (allF_lt (by omega))]
    constructor
    · rintro ⟨k, hk, e⟩
      rw [testBit_allF, decide_eq_true_iff] at hk
      exact ⟨k, hk, e⟩
    · rintro ⟨m, hm, e⟩
      exact ⟨m, by rw [testBit_allF]; exact decide_eq_true hm, e⟩
  constructor
  · intro hd
    have h1 : 0 ≤ leastI rows := by
      rcases Int.lt_or_le (leastI rows) 0 with h1 | h1
      · rw [domI_least h1] at hd; cases hd
      · exact h1
    refine ⟨hl.1 h1, fun a b ha hb hne => ?_⟩
    have hb' : ∀ a b, a < rows.length → b < a → badB rows a b = false := fun a b ha hb => by
      cases hq : badB rows a b with
      | false => rfl
      | true => rw [domI_bad ha hb hq] at hd; cases hd
    rcases Nat.lt_trichotomy b a with hlt | rfl | hlt
    · exact (hbad a b ha hb).1 (hb' a b ha hlt) hne
    · exact ⟨b, hb, (Nat.and_self _).symm⟩
    · obtain ⟨c, hc, e⟩ := (hbad b a hb ha).1 (hb' b a hb hlt) (by rw [Nat.and_comm]; exact hne)
      exact ⟨c, hc, by rw [e, Nat.and_comm]⟩
  · rintro ⟨h1, h2⟩
    exact domI_yes (hl.2 h1) fun a ha b hb => (hbad a b ha (by omega)).2 (h2 a b ha (by omega))
theorem domB_iff {rows : Rows2} : domB rows = true ↔ Ok rows ∧ DomBits rows := by
  unfold domB
  rw [Bool.and_eq_true]
  constructor
  · rintro ⟨h1, h2⟩
    exact ⟨ok_of_valid h1, (domI_iff (ok_of_valid h1)).1 h2⟩
  · rintro ⟨h1, h2⟩
    exact ⟨valid_of_ok h1, (domI_iff h1).2 h2⟩

theorem bRow_mem {B : Nat → Nat → Bool} {a N : Nat} (j : Int) : j ∈ bRow B a N ↔ ∃ k : Nat, k < N ∧ B a k = true ∧ j = (k : Int) := by
  unfold bRow
  rw [List.mem_map]
  constructor
  · rintro ⟨k, hk, rfl⟩
    rw [List.mem_filter, List.mem_range] at hk
    exact ⟨k, hk.1, hk.2, rfl⟩
  · rintro ⟨k, h1, h2, rfl⟩
    exact ⟨k, List.mem_filter.2 ⟨List.mem_range.2 h1, h2⟩, rfl⟩
theorem bRow_asc (B : Nat → Nat → Bool) (a N : Nat) : Asc (bRow B a N) := by
  have hp : ((List.range N).filter fun i => B a i).Pairwise (· < ·) := List.Pairwise.filter _ List.pairwise_lt_range
  intro i j hij hj
  unfold bRow at hj ⊢
  rw [List.length_map] at hj
  rw [List.getElem_map, List.getElem_map]
  have := (List.pairwise_iff_getElem.1 hp) i j (by omega) hj hij
  omega
/-- The order of N elements that a relation makes. -/
def madeL (B : Nat → Nat → Bool) (N : Nat) : Rows2 := (List.range N).map fun q => bRow B q N
theorem madeL_len (B : Nat → Nat → Bool) (N : Nat) : (madeL B N).length = N := by simp [madeL]
theorem madeL_at {B : Nat → Nat → Bool} {N q : Nat} (hq : q < (madeL B N).length) : (madeL B N)[q] = bRow B q N := by simp [madeL]
theorem made_asc (B : Nat → Nat → Bool) (N : Nat) (i : Nat) (hi : i < (madeL B N).length) : Asc (madeL B N)[i] ∧ ∀ x ∈ (madeL B N)[i], 0 ≤ x ∧ x < (madeL B N).length := by
  rw [madeL_at, madeL_len]
  refine ⟨bRow_asc B i N, fun x hx => ?_⟩
  obtain ⟨k, hk, _, rfl⟩ := (bRow_mem x).1 hx
  omega
theorem made_bit (B : Nat → Nat → Bool) {N q : Nat} (hq : q < N) (j : Nat) : (gridF (madeL B N) q).testBit j = (decide (j < N) && B q j) := by
  have hq' : q < (madeL B N).length := by rw [madeL_len]; exact hq
  rw [grid_bit hq' ((ascB_iff _ _).2 (made_asc B N q hq')), madeL_at, Bool.eq_iff_iff, decide_eq_true_iff, bRow_mem, Bool.and_eq_true, decide_eq_true_iff]
  constructor
  · rintro ⟨k, h1, h2, e⟩
    obtain rfl : j = k := by omega
    exact ⟨h1, h2⟩
  · rintro ⟨h1, h2⟩
    exact ⟨j, h1, h2, rfl⟩
theorem made_ok {B : Nat → Nat → Bool} {N : Nat} (h1 : 1 ≤ N) (h2 : N ≤ 200) (hr : ∀ a, a < N → B a a = true) (ha : ∀ a b, a < N → b < N → B a b = true → b ≠ a → B b a = false)
    (ht : ∀ a b c, a < N → b < N → c < N → B a b = true → B b c = true → B a c = true) : Ok (madeL B N) := by
  refine ⟨by rw [madeL_len]; exact ⟨h1, h2⟩, made_asc B N, fun i hi => ?_, fun i j hi hj hne => ?_, fun i j hi hj m hm => ?_⟩
  · rw [madeL_len] at hi
    rw [made_bit B hi, hr i hi, decide_eq_true hi]
    rfl
  · rw [madeL_len] at hi
    rw [made_bit B hi, Bool.and_eq_true, decide_eq_true_iff] at hj
    rw [made_bit B hj.1, ha i j hi hj.1 hj.2 hne, Bool.and_false]
  · rw [madeL_len] at hi
    rw [made_bit B hi, Bool.and_eq_true, decide_eq_true_iff] at hj
    rw [made_bit B hj.1, Bool.and_eq_true, decide_eq_true_iff] at hm
    rw [made_bit B hi, ht i j m hi hj.1 hm.1 hj.2 hm.2, decide_eq_true hm.1]
    rfl
theorem made_dom {B : Nat → Nat → Bool} {N : Nat} (h1 : 1 ≤ N) (h2 : N ≤ 200) (hr : ∀ a, a < N → B a a = true) (ha : ∀ a b, a < N → b < N → B a b = true → b ≠ a → B b a = false)
    (ht : ∀ a b c, a < N → b < N → c < N → B a b = true → B b c = true → B a c = true) (hl : ∃ m, m < N ∧ ∀ k, k < N → B m k = true)
    (hj : ∀ a b, a < N → b < N → (∃ c, c < N ∧ B a c = true ∧ B b c = true) → ∃ c, c < N ∧ ∀ k, k < N → B c k = (B a k && B b k)) : domB (madeL B N) = true := by
  refine domB_iff.2 ⟨made_ok h1 h2 hr ha ht, ?_, ?_⟩
  · obtain ⟨m, hm, hk⟩ := hl
    refine ⟨m, by rw [madeL_len]; exact hm, ?_⟩
    rw [madeL_len]
    apply Nat.eq_of_testBit_eq
    intro k
    rw [made_bit B hm, testBit_allF]
    by_cases hlt : k < N
    · rw [hk k hlt, Bool.and_true]
    · rw [decide_eq_false hlt, Bool.false_and]
  · intro a b ha' hb' hne
    rw [madeL_len] at ha' hb' ⊢
    obtain ⟨c, hc⟩ := Nat.exists_testBit_of_ne_zero hne
    rw [Nat.testBit_and, made_bit B ha', made_bit B hb', Bool.and_eq_true, Bool.and_eq_true, Bool.and_eq_true, decide_eq_true_iff] at hc
    obtain ⟨d, hd, hk⟩ := hj a b ha' hb' ⟨c, hc.1.1, hc.1.2, hc.2.2⟩
    refine ⟨d, hd, ?_⟩
    apply Nat.eq_of_testBit_eq
    intro k
    rw [Nat.testBit_and, made_bit B hd, made_bit B ha', made_bit B hb']
    by_cases hlt : k < N
    · rw [hk k hlt, decide_eq_true hlt]
      simp
    · rw [decide_eq_false hlt]
      simp

theorem lens_cut {rows : Rows2} {m n : Nat} (hl : rows.length ≤ n) (h : ∀ r ∈ rows, r.length ≤ m) : bulk rows ≤ n + n * m := by
  unfold bulk
  have h1 := sum_le (m := m) (rows.map List.length) fun x hx => by
    obtain ⟨r, hr, rfl⟩ := List.mem_map.1 hx
    exact h r hr
  rw [List.length_map] at h1
  have h2 := Nat.mul_le_mul_right m hl
  omega
theorem made_small {B : Nat → Nat → Bool} {N : Nat} (h : N ≤ 200) : bulk (madeL B N) ≤ 1048576 := by
  have hb := lens_cut (rows := madeL B N) (n := 200) (m := 200) (by rw [madeL_len]; exact h) (fun r hr => by
    unfold madeL at hr
    obtain ⟨q, _, rfl⟩ := List.mem_map.1 hr
    exact Nat.le_trans (bRow_len _ _ _) h)
  omega
/-- The relation of a grid. -/
def bitB (g : Nat → Nat) (a b : Nat) : Bool := (g a).testBit b

/-- In a domain each two elements have a meet. -/
theorem meet_there {rows : Rows2} (h : domB rows = true) {a b : Nat} (ha : a < rows.length) (hb : b < rows.length) : ∃ c, c < rows.length ∧ joinI (backRows rows) a b = (c : Int) := by
  obtain ⟨ok, ⟨m, hm, hme⟩, hjn⟩ := domB_iff.1 h
  have hleast : ∀ x, x < rows.length → (gridF rows m).testBit x = true := fun x hx => by rw [hme, testBit_allF]; exact decide_eq_true hx
  have key : ∀ k, k ≤ rows.length → ∃ c, c < rows.length ∧ (gridF rows c).testBit a = true ∧ (gridF rows c).testBit b = true ∧ ∀ x, x < k → (gridF rows x).testBit a = true → (gridF rows x).testBit b = true → (gridF rows x).testBit c = true := by
    intro k
    induction k with
    | zero => exact fun _ => ⟨m, hm, hleast a ha, hleast b hb, fun x hx => absurd hx (Nat.not_lt_zero _)⟩
    | succ k ih =>
      intro hk
      obtain ⟨c, hc, hca, hcb, hx⟩ := ih (by omega)
      by_cases hka : (gridF rows k).testBit a = true ∧ (gridF rows k).testBit b = true
      · have hne : gridF rows c &&& gridF rows k ≠ 0 := fun e => by
          have := congrArg (fun n => n.testBit a) e
          simp only [Nat.testBit_and, hca, hka.1, Nat.zero_testBit] at this
          cases this
        obtain ⟨d, hd, e⟩ := hjn c k hc (by omega) hne
        have hbit : ∀ x, (gridF rows d).testBit x = ((gridF rows c).testBit x && (gridF rows k).testBit x) := fun x => by rw [e, Nat.testBit_and]
        have hown := ok.own d hd
        rw [hbit, Bool.and_eq_true] at hown
        refine ⟨d, hd, by rw [hbit, hca, hka.1]; rfl, by rw [hbit, hcb, hka.2]; rfl, fun x hxk h1 h2 => ?_⟩
        by_cases exk : x = k
        · subst exk; exact hown.2
        · exact ok.trans x c (by omega) (hx x (by omega) h1 h2) d hown.1
      · refine ⟨c, hc, hca, hcb, fun x hxk h1 h2 => ?_⟩
        by_cases exk : x = k
        · subst exk; exact absurd ⟨h1, h2⟩ hka
        · exact hx x (by omega) h1 h2
  obtain ⟨c, hc, hca, hcb, hx⟩ := key rows.length (Nat.le_refl _)
  have hlen := backRows_len rows
  have hb9 := ok.back
  have hbits : gridF (backRows rows) c = gridF (backRows rows) a &&& gridF (backRows rows) b := by
    apply Nat.eq_of_testBit_eq
    intro x
    rw [Nat.testBit_and, back_bit ok, back_bit ok, back_bit ok, Bool.eq_iff_iff, Bool.and_eq_true]
    constructor
    · intro h1
      have hxl := (ok.bit_lt h1).1
      exact ⟨ok.trans x c hxl h1 a hca, ok.trans x c hxl h1 b hcb⟩
    · rintro ⟨h1, h2⟩
      exact hx x (ok.bit_lt h1).1 h1 h2
  have hpos : 0 ≤ joinI (backRows rows) a b := by
    rw [join_eq hb9 (by rw [hlen]; exact ha) (by rw [hlen]; exact hb), bottomF_pos (Nat.and_lt_two_pow _ (hb9.lt b))]
    exact ⟨c, by rw [← hbits]; exact hb9.own c (by rw [hlen]; exact hc), hbits⟩
  have hbd : joinI (backRows rows) a b < rows.length := by
    rw [join_eq hb9 (by rw [hlen]; exact ha) (by rw [hlen]; exact hb)] at hpos ⊢
    unfold bottomF at hpos ⊢
    cases hf : (elems (gridF (backRows rows) a &&& gridF (backRows rows) b)).find? (fun k => gridF (backRows rows) k == gridF (backRows rows) a &&& gridF (backRows rows) b) with
    | none => rw [hf] at hpos; exact absurd hpos (by decide)
    | some k =>
      have h2 := List.mem_of_find?_eq_some hf
      rw [mem_elems (Nat.and_lt_two_pow _ (hb9.lt b)), Nat.testBit_and, Bool.and_eq_true] at h2
      have := (hb9.bit_lt h2.1).2
      rw [hlen] at this
      show (k : Int) < _
      omega
  exact ⟨(joinI (backRows rows) a b).toNat, by omega, by omega⟩
end Go.Proofs.YtkhhbpeheikmfaaDoor

/- All monotone functions, as the program makes them (monotoneLists). -/
namespace Go.Proofs.YtkhhbpeheikmfaaDoor
open Go.RowKit Go.Deep Go.Shelf

/-- All monotone functions. -/
noncomputable abbrev funsR (rows rows' : Rows2) : List (List Nat) := funsN (Bf rows) (Bf rows') rows.length rows'.length

theorem funs_least {rows rows' : Rows2} (hok : Ok rows) (hd' : domB rows' = true) : rows.length * (rows'.length - 1) + 1 ≤ (funsR rows rows').length := by
  obtain ⟨hok', ⟨z, hz, hza⟩, _⟩ := domB_iff.1 hd'
  exact funs_many (fun a ha => up_refl hok ha) (fun a b ha hb h1 h2 => up_anti hok ha hb h1 h2) (fun a b c ha hb hc h1 h2 => up_trans hok ha hb h1 h2) hz
    (fun v hv => by show upB rows' z (v : Int) = true; rw [← upB_grid hok' hz, hza, testBit_allF]; exact decide_eq_true hv) (fun v hv => up_refl hok' hv)
/-- What monotoneLists answers. -/
def ListsP (rows rows' : Rows2) (lim : Nat) (w : World) (e : Ending) (w' : World) : Prop :=
  ((lim < (funsR rows rows').length ∧ e = .returned (.tuple #[.slice none 0 0, .bool false])) ∨ ((funsR rows rows').length ≤ lim ∧ ∃ v, e = .returned (.tuple #[v, .bool true]) ∧ OwnR 3 37 w' v (funsR rows rows').length (rowsF (I2 (funsR rows rows'))) w.heap.size w'.heap.size)) ∧ Below w.heap.size w w'

/-- The search's own variable. -/
def srchCells (p p' G lb n lim : Nat) : Array Value := #[.pointer (some ⟨p, 0, none⟩), .pointer (some ⟨p', 0, none⟩), .pointer (some ⟨G, 0, none⟩), .int .i64 (lim : Int), .slice (some ⟨lb, 0, none⟩) n n, .slice none 0 0]

set_option maxRecDepth 100000 in
set_option maxHeartbeats 4000000 in
theorem lists_any (p p' lim : Nat) (rows rows' : Rows2) (hok : Ok rows) (hd' : domB rows' = true) (hlim : lim ≤ 5000) (w : World) (hg : GridAt w p (gridF rows)) (hg' : GridAt w p' (gridF rows')) (hT : Tab w) :
    Calls Tryd.prog 52 #[.pointer (some ⟨p, 0, none⟩), .pointer (some ⟨p', 0, none⟩), .int .i64 (lim : Int)] w (ListsP rows rows' lim w) := by
  have hok' := (domB_iff.1 hd').1
  have hl := hok.len
  have hl' := hok'.len
  have hsz := size_any p rows.length (gridF rows) w hg hl.2 hok.gridN.some hok.gridN.none
  have HG := Lib.hid hg
  have HG' := Lib.hid hg'
  have HT := Lib.hid hT
  have hsz' := fun (W : World) (hb : Below w.heap.size w W) => size_any p' rows'.length (gridF rows') W (HG'.out.below hb HG'.out.lt) hl'.2 hok'.gridN.some hok'.gridN.none
  have HS2 := Lib.hid hsz'
  have HMANY := Lib.hid (funs_least hok hd')
  obtain ⟨K, hK⟩ : ∃ K, K = rows.length * (rows'.length - 1) := ⟨_, rfl⟩
  have hK2 : (rows.length : Int) * ((rows'.length : Int) - 1) = (K : Int) := by
    rw [hK, Int.natCast_mul]
    congr 1
    omega
  have hK3 : K ≤ 200 * 200 := by rw [hK]; exact Nat.mul_le_mul hl.2 (by omega)
  clear hsz' hg hg' hT
  by_cases hbig : lim < K + 1
  · have hb1 : (lim : Int) < (K : Int) + 1 := by omega
    go_enter Tryd.func52, Tryd.ntmps52
    go_wp2_with fail
    refine hsz.mono ?_
    clear hsz
    rintro e w1 ⟨rfl, hb1⟩
    have B1 := Lib.hid hb1
    clear hb1
    go_wp2_with fail
    refine (HS2.out _ B1.out).mono ?_
    rintro e w2 ⟨rfl, hb2⟩
    have B2 := Lib.hid (B1.out.trans (hb2.mono B1.out.size))
    clear hb2
    go_wp2
    go_ret2
    exact ⟨.inl ⟨by have := HMANY.out; omega, rfl⟩, B2.out⟩
  · have hb1 : ¬ (lim : Int) < (K : Int) + 1 := by omega
    have HEL := Lib.hid (fun i (_ : i < rows'.length) k (hk : k ∈ elems (gridF rows' i)) => hok'.lt200 ((mem_elems (hok'.lt i)).1 hk))
    have HN := Lib.hid hok'.gridN
    have HBN := Lib.hid (backN_rows hok')
    have HLT := Lib.hid hok'.back.lt
    have hz := (zero_of_info zeroGrid).1
    go_enter Tryd.func52, Tryd.ntmps52
    go_wp2_with fail
    refine hsz.mono ?_
    clear hsz
    rintro e w1 ⟨rfl, hb1⟩
    have B1 := Lib.hid hb1
    clear hb1
    go_wp2_with fail
    refine (HS2.out _ B1.out).mono ?_
    rintro e w2 ⟨rfl, hb2⟩
    have B2 := Lib.hid (B1.out.trans (hb2.mono B1.out.size))
    clear hb2
    go_wp2_with fail
    refine (back_any p' rows'.length (gridF rows') _ (HG'.out.below B2.out HG'.out.lt) (HT.out.below B2.out) HN.out HEL.out).mono ?_
    rintro e w5 ⟨rfl, hb5⟩
    rw [HBN.out]
    have B5 := Lib.hid (B2.out.trans (hb5.mono B2.out.size))
    clear hb5
    obtain ⟨w6, hw6⟩ : ∃ w6, w6 = newGrid (gridF (backRows rows')) w5 := ⟨_, rfl⟩
    have hb6 : Below w5.heap.size w5 w6 := by rw [hw6]; exact newGrid_below _ w5
    have B6 := Lib.hid (B5.out.trans (hb6.mono B5.out.size))
    have R6 := Lib.hid (show GridAt w6 w5.heap.size (gridF (backRows rows')) by rw [hw6]; exact newGrid_at HLT.out w5)
    clear hb6
    go_upto_region 5 with (refine wpList_store_row rfl 94 (.tmp 9) (.tmp 22) rfl w5.heap.size (gridCells (gridF (backRows rows'))) rfl rfl 94 (gridCells fun _ => 0) (store_new w5).1 (by rw [gridCells_size]; exact sizeGrid) (by rw [gridCells_size, gridCells_size]) (gridCells_one _) ?_)
    rw [show ((w5.alloc (.cells (gridCells fun _ => 0) 94)).setRow w5.heap.size (gridCells (gridF (backRows rows')))) = w6 from hw6.symm]
    clear hw6
    have hz5 := B5.out.size
    generalize w5.heap.size = G at R6 hz5 ⊢
    have hmk := run_make_row' (P := Tryd.prog) 37 3 (.int .i64 0) 8 Tryd.underlying37 infoInt rfl .i64 .i64 rows.length (by omega) (by omega)
    go_wp2_with fail
    obtain ⟨W7, hW7⟩ : ∃ W7, W7 = ((w6.alloc (.cells (madeCells #[.int .i64 0] rows.length) 3)).alloc (.cells (srchCells p p' G w6.heap.size rows.length lim) 103)) := ⟨_, rfl⟩
    have B7 := Lib.hid (show Below w6.heap.size w6 W7 by rw [hW7]; exact ((Below.refl _ w6).alloc (Nat.le_refl _) _).alloc (by simp) _)
    have hz7 : W7.heap.size = w6.heap.size + 2 := by rw [hW7]; simp
    have hGlt := R6.out.lt
    have HPW := Lib.hid (show ∀ lo, PW (w6.heap.size + 1) p p' G w6.heap.size lo lim rows rows' [] [] (.slice none 0 0) W7 from fun lo => by
      have hs : W7.heap[w6.heap.size + 1]? = some (.cells (srchCells p p' G w6.heap.size rows.length lim) 103 (0, 0)) := by
        rw [hW7]
        have h := heap_alloc_new (w6.alloc (.cells (madeCells #[.int .i64 0] rows.length) 3)) (.cells (srchCells p p' G w6.heap.size rows.length lim) 103)
        rw [World.size_alloc] at h
        exact h
      have hc : ∀ o v, (srchCells p p' G w6.heap.size rows.length lim)[o]? = some v → W7.cell? ⟨w6.heap.size + 1, o, none⟩ = some v := fun o v h => by rw [cell_of_row W7 _ _ _ _ _ hs]; exact h
      have hr : W7.rowIs w6.heap.size 3 rows.length (fun _ => .int .i64 0) := by
        rw [hW7]
        exact (World.rowIs_made w6 (.int .i64 0) rows.length 3).of_block (Below.heap_alloc _ _ _ (by simp))
      refine ⟨⟨hc 0 _ rfl, hc 1 _ rfl, hc 2 _ rfl, hc 3 _ rfl, hc 4 _ rfl, hc 5 _ rfl⟩, frozen_of_row W7 _ _ _ _ hs, ⟨(HG.out.below B6.out HG.out.lt).below B7.out (Nat.lt_of_lt_of_le HG.out.lt B6.out.size), (HG'.out.below B6.out HG'.out.lt).below B7.out (Nat.lt_of_lt_of_le HG'.out.lt B6.out.size), R6.out.below B7.out hGlt⟩, ⟨_, _, hr, Nat.le_refl _, fun q hq => absurd hq (Nat.not_lt_zero _)⟩, OwnR.nil _ _ _ _ _ _⟩)
    unfold srchCells at hW7
    rw [← hW7]
    clear hW7
    have hpz := HG.out.lt
    have hpz' := HG'.out.lt
    have hw6 := B6.out.size
    have B07 := Lib.hid (B6.out.trans (B7.out.mono B6.out.size))
    refine (all_any p' rows'.length (gridF rows') W7 (HPW.out 0).grids.up HN.out).mono ?_
    rintro e w8 ⟨rfl, hb8⟩
    have hr9 := RowIn.alloc w8 (allF_lt (n := rows'.length) (by omega))
    have hb9 := (Below.refl w8.heap.size w8).alloc (Nat.le_refl _) (.cells #[.int .u64 ((word (allF rows'.length) 0 : Nat) : Int), .int .u64 ((word (allF rows'.length) 1 : Nat) : Int), .int .u64 ((word (allF rows'.length) 2 : Nat) : Int), .int .u64 ((word (allF rows'.length) 3 : Nat) : Int)] 92)
    have hz8 := hb8.size
    obtain ⟨w9, hw9⟩ : ∃ w9, w9 = w8.alloc (.cells #[.int .u64 ((word (allF rows'.length) 0 : Nat) : Int), .int .u64 ((word (allF rows'.length) 1 : Nat) : Int), .int .u64 ((word (allF rows'.length) 2 : Nat) : Int), .int .u64 ((word (allF rows'.length) 3 : Nat) : Int)] 92) := ⟨_, rfl⟩
    rw [← hw9] at hr9 hb9
    have hz9 : w9.heap.size = w8.heap.size + 1 := by rw [hw9]; simp
    have B9 := Lib.hid (hb8.trans (hb9.mono hz8))
    have HA := Lib.hid (show RwAt w9 w8.heap.size 1 (fun _ => allF rows'.length) from ⟨_, hr9.1, fun j i hj hi => by
      obtain rfl : j = 0 := by omega
      have h4 : i = 0 ∨ i = 1 ∨ i = 2 ∨ i = 3 := by omega
      rcases h4 with h | h | h | h <;> rw [h] <;> rfl, fun _ _ => hr9.2⟩)
    clear hr9 hb9 hb8
    go_wp2_with fail
    rw [← hw9]
    refine (repeat_any w8.heap.size 1 rows.length (allF rows'.length) w9 HA.out hl.1 hl.2).mono ?_
    rintro e w10 ⟨ob, rfl, hob, ho10, hb10⟩
    have B10 := Lib.hid (B9.out.trans (hb10.mono B9.out.size))
    have hz10 := hb10.size
    have htab : 0 < w.heap.size := cell_lt (HT.out 0 (by omega))
    have hpl := place_any (w6.heap.size + 1) p p' G w6.heap.size w10.heap.size lim w.heap.size rows rows' hok hok' hlim (by omega) (by omega) (by omega) (by omega) (by omega) htab rows.length [] [] (.slice none 0 0) ob rows.length (fun _ => allF rows'.length) w10 ((HPW.out w10.heap.size).step B10.out) (by simp) (fun x h => (by cases h)) (MonN.nil _ _) (Cho.start fun m hm c => testBit_allF _ _) ho10 (by omega) (by omega) (Nat.zero_le _) (Nat.le_refl _) ((HT.out.below B07.out).below (B10.out.mono (by have := B07.out.size; omega)))
    rw [show ((([] : List Nat).length : Nat) : Int) = 0 from rfl] at hpl
    clear ho10 hb10
    go_wp2_with fail
    refine hpl.mono ?_
    rintro e w11 ⟨rfl, vf, hp11, hs11, hf11⟩
    rw [show ([] ++ extL rows'.length (monN (Bf rows) (Bf rows')) rows.length [] : List (List Nat)) = funsR rows rows' from List.nil_append _] at hp11
    obtain ⟨ao, CO, rfl⟩ := hp11.found.form
    have hB11 := Lib.hid (show Below w.heap.size w w11 from (B07.out.trans (B10.out.mono B07.out.size)).trans (hs11.under (by omega) (by omega) (fun b e => by simp [Value.ownBlock] at e) (by have := B07.out.size; have := B10.out.size; omega)))
    have hc5 := hp11.srch.found
    have hlen : ((funsR rows rows').take (lim + 1)).length = min (lim + 1) (funsR rows rows').length := List.length_take
    have HP := Lib.hid hp11
    clear hpl hp11 hs11 hf11
    by_cases hfin : lim < (funsR rows rows').length
    · have hl2 : ((funsR rows rows').take (lim + 1)).length = lim + 1 := by omega
      rw [hl2] at hc5
      have hgt : (lim : Int) < ((lim + 1 : Nat) : Int) := by omega
      clear hlen
      go_wp2
      go_ret2
      exact ⟨.inl ⟨hfin, rfl⟩, hB11.out⟩
    · have hl2 : (funsR rows rows').take (lim + 1) = funsR rows rows' := List.take_of_length_le (by omega)
      rw [hl2] at hc5
      have hgt : ¬ (lim : Int) < ((funsR rows rows').length : Int) := by omega
      clear hlen
      go_wp2
      go_ret2
      have hfo := HP.out.found
      rw [hl2] at hfo
      exact ⟨.inr ⟨by omega, _, rfl, hfo.wider (by have := B07.out.size; have := B10.out.size; omega) (Nat.le_refl _)⟩, hB11.out⟩
end Go.Proofs.YtkhhbpeheikmfaaDoor

/- The program's order of a grid (grid.order), in memory of its own. -/
namespace Go.Proofs.YtkhhbpeheikmfaaDoor
open Go.RowKit Go.Deep Go.Shelf

theorem ints_ne : (3 : TypeId) ≠ 37 := by decide

/-- Rows in memory of their own, as an order. -/
def RowsPost (n : Nat) (R : Nat → List Int) (w : World) (e : Ending) (w' : World) : Prop :=
  ∃ v, e = .returned (.agg #[v]) ∧ OwnR 3 37 w' v n R w.heap.size w'.heap.size ∧ Below w.heap.size w w'

/-- A list is stored into row i of rows that are being filled. -/
theorem OwnR.fill {W W2 : World} {g n i lo : Nat} {R : Nat → List Int} {v' : Value} {xs : List Int} (h : OwnR 3 37 W (.slice (some ⟨g, 0, none⟩) n n) n R lo W.heap.size)
    (hb : Below W.heap.size W W2) (hn : OwnI 3 W2 v' xs W.heap.size W2.heap.size) :
    OwnR 3 37 (W2.setCell ⟨g, i, none⟩ v') (.slice (some ⟨g, 0, none⟩) n n) n (fun q => if q = i then xs else R q) lo (W2.setCell ⟨g, i, none⟩ v').heap.size := by
  obtain hnil | ⟨g1, C1, f, e, h1, h2, h3, h4, h5, h6, h7⟩ := h
  · cases hnil.1
  cases e
  rw [size_setCell]
  exact OwnR.stored ints_ne h1 h2 h3 h5 h6 h7 hb hn
theorem OwnR.cellOf {W : World} {g n i lo hi : Nat} {R : Nat → List Int} (h : OwnR 3 37 W (.slice (some ⟨g, 0, none⟩) n n) n R lo hi) (hlt : i < n) : (∃ u, W.cell? ⟨g, i, none⟩ = some u) ∧ W.frozen? ⟨g, i, none⟩ = false ∧ g < W.heap.size := by
  obtain hnil | ⟨g1, C1, f, e, h1, h2, h3, h4, h5, h6, h7⟩ := h
  · cases hnil.1
  cases e
  exact ⟨⟨_, h5.cell hlt⟩, h5.frozen i, h5.lt⟩
/-- What row j holds when i rows have been filled. -/
def upto (R : Nat → List Int) (i j : Nat) : List Int := if j < i then R j else []
theorem upto_step (R : Nat → List Int) (i : Nat) : (fun q => if q = i then R i else upto R i q) = upto R (i + 1) := by
  funext q
  unfold upto
  by_cases e : q = i
  · subst e; rw [if_pos rfl, if_pos (by omega)]
  · rw [if_neg e]
    by_cases h : q < i
    · rw [if_pos h, if_pos (by omega)]
    · rw [if_neg h, if_neg (by omega)]
theorem OwnR.made (W : World) (n lo : Nat) (hn : n ≤ maxLen) (hlo : lo ≤ W.heap.size) (R : Nat → List Int) :
    OwnR 3 37 (W.alloc (.cells (madeCells #[.slice none 0 0] n) 37)) (.slice (some ⟨W.heap.size, 0, none⟩) n n) n (upto R 0) lo (W.alloc (.cells (madeCells #[.slice none 0 0] n) 37)).heap.size :=
  .inr ⟨W.heap.size, n, _, rfl, Nat.le_refl _, hn, hlo, by simp, World.rowIs_made W (.slice none 0 0) n 37, fun j _ => by unfold upto; rw [if_neg (Nat.not_lt_zero _)]; exact OwnI.nil _ _ _ _, fun _ _ _ _ => .inl rfl⟩

set_option maxRecDepth 100000 in
set_option maxHeartbeats 4000000 in
theorem order_any (b n : Nat) (g : Nat → Nat) (w : World) (hg : GridAt w b g) (hT : Tab w) (hn : GridN g n) :
    Calls Tryd.prog 57 #[.pointer (some ⟨b, 0, none⟩)] w (RowsPost n (fun i => intsOf (elems (g i))) w) := by
  have hn2 := hn.le
  have hmk := run_make_row' (P := Tryd.prog) 22 37 (.slice none 0 0) 24 Tryd.underlying22 infoInts rfl .i64 .i64 n (by omega) (by omega)
  have hL0 : Look b g w w := ⟨hg, hT, Below.refl _ _, hg.lt⟩
  have hL1 := hL0.step ((Below.refl _ w).alloc (Nat.le_refl _) (.cells #[.slice none 0 0] 26))
  have hbx := Boxed.new w 26 (.slice none 0 0)
  have hcall := size_any b n g _ hL1.grid hn.le hn.some hn.none
  have HL1 := Lib.hid hL1
  have HBX := Lib.hid hbx
  clear hL0 hL1 hg hT hn hbx
  go_enter Tryd.func57, Tryd.ntmps57
  go_wp2_with (go_at_call 48; refine hcall.mono ?_; clear hcall; rintro e w1 ⟨rfl, hb1⟩; have HL2 := Lib.hid (HL1.out.step hb1); have HBX1 : Hid (Boxed w1 w.heap.size 26 (.slice none 0 0)) := Lib.hid ((hb1.block _ HBX.out.lt).trans HBX.out); clear hb1)
  clear hmk
  have HLa := Lib.hid (HL2.out.step ((Below.refl _ w1).alloc (Nat.le_refl _) (.cells (madeCells #[.slice none 0 0] n) 37)))
  have HBa := Lib.hid (HBX1.out.alloc (.cells (madeCells #[.slice none 0 0] n) 37))
  have HOa := Lib.hid (OwnR.made w1 n (w.heap.size + 1) (by unfold maxLen; omega) HBX1.out.lt (fun i => intsOf (elems (g i))))
  have hwl : w.heap.size < w1.heap.size := HBX1.out.lt
  go_loopw [10] (fun iv wr => ∃ i : Nat, i ≤ n ∧ iv = .int .i64 i ∧ OwnR 3 37 wr (.slice (some ⟨w1.heap.size, 0, none⟩) n n) n (upto (fun i => intsOf (elems (g i))) i) (w.heap.size + 1) wr.heap.size ∧ Boxed wr w.heap.size 26 (.slice none 0 0) ∧ Look b g w wr) (fun iv _ => n - (intOf iv).toNat)
  case atStart => exact ⟨0, Nat.zero_le _, rfl, HOa.out, HBa.out, HLa.out⟩
  case round =>
    obtain ⟨i, hi, rfl, ho, hbx, hL⟩ := hrel
    have HO := Lib.hid ho
    have HB := Lib.hid hbx
    have HL := Lib.hid hL
    clear HLa HBa HOa
    by_cases hlt : i < n
    · have hi0 : (0 : Int) ≤ (i : Int) := by omega
      have hi1 : (i : Int) < 200 := by omega
      obtain ⟨c0, c1, c2, c3⟩ := hL.grid.row i (by omega)
      have HCALL := Lib.hid (list_any (g i) wr (hL.grid.2 i) hL.tab)
      clear ho hbx hL
      go_wp2_with fail
      refine HCALL.out.mono ?_
      clear HCALL
      rintro e w2 ⟨v', rfl, hv', hb2⟩
      obtain ⟨⟨u, hu⟩, hfz, hgl⟩ := HO.out.cellOf hlt
      have hu2 : w2.cell? ⟨w1.heap.size, i, none⟩ = some u := (hb2.cell (p := ⟨w1.heap.size, i, none⟩) hgl).trans hu
      have hf2 : w2.frozen? ⟨w1.heap.size, i, none⟩ = false := (hb2.frozen (p := ⟨w1.heap.size, i, none⟩) hgl).trans hfz
      have HV := Lib.hid hv'
      have HB2 := Lib.hid hb2
      obtain ⟨a', C', rfl⟩ := hv'.form
      clear hv' hb2 hu hfz c0 c1 c2 c3
      go_wp2
      go_roundw
      case rel =>
        have hls := HL.out.step HB2.out
        refine ⟨i + 1, by omega, by go_num, ?_, ?_, hls.set (p := w1.heap.size) HL2.out.below.size _ _⟩
        · rw [← upto_step]
          exact HO.out.fill HB2.out HV.out
        · exact (Below.heap_setCell _ _ _ w.heap.size (show w.heap.size ≠ w1.heap.size by omega)).trans ((HB2.out.block _ HB.out.lt).trans HB.out)
      case measure => simp [intOf]; omega
    · obtain rfl : i = n := by omega
      have hres := hbx.cell
      have hfr := hbx.frozen
      have hc9 := World.cell?_setCell_same' wr ⟨w.heap.size, 0, none⟩ (.slice (some ⟨w1.heap.size, 0, none⟩) i i) (by rw [hres]; rfl)
      clear ho hbx hL
      go_wp2
      refine bodyPost_ret (v := .agg #[.slice (some ⟨w1.heap.size, 0, none⟩) i i]) (by simp [results, Tryd.results57, go_sem, hc9]) rfl ?_
      refine ⟨_, rfl, ?_, HL.out.below.setCell (p := ⟨w.heap.size, 0, none⟩) (Nat.le_refl _) _⟩
      rw [size_setCell]
      exact ((HO.out.kept fun b' hb' _ => Below.heap_setCell _ _ _ b' (show b' ≠ w.heap.size by omega)).wider (by omega) (Nat.le_refl _)).congr fun j hj => by unfold upto; rw [if_pos hj]
end Go.Proofs.YtkhhbpeheikmfaaDoor

/- The program's order of a domain that is not built yet (built): its rows, one after the other. -/
namespace Go.Proofs.YtkhhbpeheikmfaaDoor
open Go.RowKit Go.Deep Go.Shelf

/-- All rows, when b elements of row a have been looked at. -/
def bP (B : Nat → Nat → Bool) (N a b q : Nat) : List Int := if q < a then bRow B q N else if q = a then bRow B a b else []
theorem bP_start (B : Nat → Nat → Bool) (N : Nat) : bP B N 0 0 = fun _ => [] := by
  funext q
  unfold bP
  rw [if_neg (Nat.not_lt_zero _)]
  split
  · rfl
  · rfl
theorem bP_yes {B : Nat → Nat → Bool} {N a b : Nat} (h : B a b = true) : bP B N a (b + 1) = fun q => if q = a then bP B N a b a ++ [(b : Int)] else bP B N a b q := by
  funext q
  unfold bP
  by_cases e : q = a
  · subst e
    rw [if_neg (Nat.lt_irrefl _), if_pos rfl, if_pos rfl, if_neg (Nat.lt_irrefl _), if_pos rfl, bRow_yes h]
  · rw [if_neg e, if_neg e, if_neg e]
theorem bP_no {B : Nat → Nat → Bool} {N a b : Nat} (h : B a b = false) : bP B N a (b + 1) = bP B N a b := by
  funext q
  unfold bP
  rw [bRow_no h]
theorem bP_next (B : Nat → Nat → Bool) (N a : Nat) : bP B N a N = bP B N (a + 1) 0 := by
  funext q
  unfold bP
  by_cases e : q = a
  · subst e
    rw [if_neg (Nat.lt_irrefl _), if_pos rfl, if_pos (Nat.lt_succ_self _)]
  · by_cases e2 : q < a
    · rw [if_pos e2, if_pos (by omega)]
    · rw [if_neg e2, if_neg e, if_neg (by omega)]
      split
      · rfl
      · rfl
theorem bP_at (B : Nat → Nat → Bool) (N a b : Nat) : bP B N a b a = bRow B a b := by unfold bP; rw [if_neg (Nat.lt_irrefl _), if_pos rfl]
theorem bP_done {B : Nat → Nat → Bool} {N q : Nat} (h : q < N) : bP B N N 0 q = bRow B q N := by unfold bP; rw [if_pos h]

/-- While the order is built; K is what of the domain's own memory is needed. -/
structure BlG (w : World) (K : World → Prop) (L N : Nat) (R : Nat → List Int) (W : World) : Prop where
  kept : K W
  res : Boxed W w.heap.size 26 (.slice none 0 0)
  own : OwnR 3 37 W (.slice (some ⟨L, 0, none⟩) N N) N R (w.heap.size + 1) W.heap.size
  below : Below w.heap.size w W
/-- K holds on when no memory turns that was there ahead of the call. -/
def Stays (w : World) (K : World → Prop) : Prop := ∀ W W' : World, Below w.heap.size W W' → K W → K W'
theorem BlG.step {w : World} {K : World → Prop} {L N : Nat} {R : Nat → List Int} {W W' : World} (hK : Stays w K) (h : BlG w K L N R W) (hb : Below W.heap.size W W') : BlG w K L N R W' :=
  ⟨hK W W' (hb.mono h.below.size) h.kept, (hb.block _ h.res.lt).trans h.res, (h.own.below hb (Nat.le_refl _)).wider (Nat.le_refl _) hb.size, h.below.trans (hb.mono h.below.size)⟩

theorem BlG.appended {w : World} {K : World → Prop} {L N : Nat} {R : Nat → List Int} {W W1 W2 : World} {f : Nat → Value} {j g' cap' : Nat} {y : Int} (hK : Stays w K) (h : BlG w K L N R W) (hN : N ≤ maxLen) (hL : w.heap.size + 1 ≤ L) (hr : W.rowIs L 37 N f)
    (hI : ∀ q, q < N → OwnI 3 W (f q) (R q) (w.heap.size + 1) W.heap.size) (hD : ∀ p q, p < q → q < N → (f p).ownBlock = none ∨ (f p).ownBlock ≠ (f q).ownBlock) (hj : j < N)
    (hy : (Lit.int .i64 y).wf = true) (hb1 : Below W.heap.size W W1)
    (hown : W2.ownsRow (w.heap.size + 1) 3 1 (.slice (some ⟨g', 0, none⟩) ((R j).length + 1) cap') ((R j).length + 1) (cellsI (R j) ++ [.int .i64 y])) (hgrow : W1.grownBy W2 (f j).ownBlock) (hat : (f j).ownBlock = some g' ∨ g' = W.heap.size + 1) (hlt : g' < W2.heap.size) :
    BlG w K L N (fun q => if q = j then R j ++ [y] else R q) (W2.setCell ⟨L, j, none⟩ (.slice (some ⟨g', 0, none⟩) ((R j).length + 1) cap')) := by
  have hz : w.heap.size < W.heap.size := h.res.lt
  have ho := OwnR.appended (t := 3) (u := 37) ints_ne (Nat.le_refl _) hN hL hr hI hD hj hy hb1.size (fun b hb => hb1.block b hb) hown hgrow (by rcases hat with h | h; exact .inl h; exact .inr (by omega)) hlt
  have hk : Below (w.heap.size + 1) W W2 := (hb1.mono (by omega)).grown hgrow (by have := hb1.size; omega) (fun b e => ((hI j hj).block b e).1)
  have hk2 := hk.setCell (p := ⟨L, j, none⟩) hL (.slice (some ⟨g', 0, none⟩) ((R j).length + 1) cap')
  exact ⟨hK _ _ (hk2.mono (by omega)) h.kept, (hk2.block _ (by omega)).trans h.res, by rw [size_setCell]; exact ho, h.below.trans (hk2.mono (by omega))⟩
/-- Rows in memory of their own, and a Boolean. -/
def RowsG (N : Nat) (R : Nat → List Int) (t : Bool) (w : World) (e : Ending) (w' : World) : Prop :=
  ∃ v, e = .returned (.tuple #[.agg #[v], .bool t]) ∧ OwnR 3 37 w' v N R w.heap.size w'.heap.size ∧ Below w.heap.size w w'
theorem Stays.grid {w : World} {p : Nat} {g : Nat → Nat} (h : p < w.heap.size) : Stays w (fun W => GridAt W p g) := fun _ _ hb hg => hg.below hb h
theorem Stays.grids {w : World} {p p' : Nat} {g g' : Nat → Nat} (h : p < w.heap.size) (h' : p' < w.heap.size) : Stays w (fun W => GridAt W p g ∧ GridAt W p' g') := fun _ _ hb hg => ⟨hg.1.below hb h, hg.2.below hb h'⟩
end Go.Proofs.YtkhhbpeheikmfaaDoor

/- The program's sum of two domains, unbuilt: how many elements it has, and what is below what. -/
namespace Go.Proofs.YtkhhbpeheikmfaaDoor
open Go.RowKit Go.Deep Go.Shelf

/-- Both fields of a struct of two, right behind. -/
theorem fresh2 (W : World) (a b : Value) (t : TypeId) : (W.alloc (.cells #[a, b] t)).cell? ⟨W.heap.size, 0, none⟩ = some a ∧ (W.alloc (.cells #[a, b] t)).cell? ⟨W.heap.size, 1, none⟩ = some b :=
  ⟨by rw [cell_of_row _ W.heap.size 0 _ _ _ (heap_alloc_new _ _)]; rfl, by rw [cell_of_row _ W.heap.size 1 _ _ _ (heap_alloc_new _ _)]; rfl⟩

/-- A grid behind an interface. -/
abbrev gridV (p : Nat) : Value := .iface 63 (.pointer (some ⟨p, 0, none⟩))

/-- Is a below b in the sum? -/
def sumB (g g' : Nat → Nat) (n a b : Nat) : Bool :=
  if a = 0 then true else if b = 0 then false
  else if a ≤ n then (if b ≤ n then (g (a - 1)).testBit (b - 1) else false)
  else (if b ≤ n then false else (g' (a - 1 - n)).testBit (b - 1 - n))

end Go.Proofs.YtkhhbpeheikmfaaDoor

/- A row that a relation makes, as a number. Plain facts: no function is walked here. -/
namespace Go.Proofs.YtkhhbpeheikmfaaDoor
open Go.RowKit Go.Deep

/-- Row a of the rows that a relation makes, when b elements have been looked at. -/
def bNum (B : Nat → Nat → Bool) (a : Nat) : Nat → Nat
  | 0 => 0
  | b + 1 => if B a b then put (bNum B a b) b else bNum B a b
theorem bNum_bit (B : Nat → Nat → Bool) (a k : Nat) : ∀ n, (bNum B a n).testBit k = (decide (k < n) && B a k)
  | 0 => by simp [bNum]
  | n + 1 => by
    have ih := bNum_bit B a k n
    unfold bNum
    by_cases h : B a n = true
    · rw [if_pos h, testBit_put, ih]
      by_cases e : n = k
      · subst e; simp [h]
      · rw [decide_eq_false e, Bool.or_false]
        congr 1
        rw [decide_eq_decide]; omega
    · rw [if_neg h, ih]
      by_cases e : k = n
      · subst e; simp [h]
      · congr 1
        rw [decide_eq_decide]; omega
theorem bNum_lt (B : Nat → Nat → Bool) (a : Nat) : ∀ n, n ≤ 256 → bNum B a n < 2 ^ 256
  | 0, _ => Nat.two_pow_pos 256
  | n + 1, h => by
    have ih := bNum_lt B a n (by omega)
    unfold bNum
    split
    · exact put_lt ih (by omega)
    · exact ih
end Go.Proofs.YtkhhbpeheikmfaaDoor

/- The rows of a domain that is not built yet, as numbers (rowsOf), and its order (built). -/
namespace Go.Proofs.YtkhhbpeheikmfaaDoor
open Go.RowKit Go.Deep Go.Shelf

theorem bNum_elems (B : Nat → Nat → Bool) (a : Nat) {n : Nat} (h : n ≤ 256) : intsOf (elems (bNum B a n)) = bRow B a n := by
  unfold intsOf elems bRow
  congr 1
  have hf : (fun b => (bNum B a n).testBit b) = fun k => decide (k < n) && B a k := by funext k; exact bNum_bit B a k n
  rw [hf]
  obtain ⟨m, hm⟩ : ∃ m, 256 = n + m := ⟨256 - n, by omega⟩
  rw [hm, List.range_add, List.filter_append]
  have h1 : (List.filter (fun k => decide (k < n) && B a k) (List.range n)) = List.filter (fun k => B a k) (List.range n) := List.filter_congr fun k hk => by
    rw [List.mem_range] at hk
    rw [decide_eq_true hk, Bool.true_and]
  have h2 : List.filter (fun k => decide (k < n) && B a k) (List.map (fun x => n + x) (List.range m)) = [] := List.filter_eq_nil_iff.2 fun k hk => by
    obtain ⟨x, _, rfl⟩ := List.mem_map.1 hk
    rw [decide_eq_false (by omega)]
    simp
  rw [h1, h2, List.append_nil]
/-- All rows, when b elements of row a have been looked at. -/
def bG (B : Nat → Nat → Bool) (N a b q : Nat) : Nat := if q < a then bNum B q N else if q = a then bNum B a b else 0
theorem bG_start (B : Nat → Nat → Bool) (N : Nat) : bG B N 0 0 = fun _ => 0 := by
  funext q
  unfold bG
  rw [if_neg (Nat.not_lt_zero _)]
  split
  · rfl
  · rfl
theorem bG_yes {B : Nat → Nat → Bool} {N a b : Nat} (h : B a b = true) : bG B N a (b + 1) = fun j => if j = a then put (bG B N a b a) b else bG B N a b j := by
  funext q
  unfold bG
  by_cases e : q = a
  · subst e
    rw [if_neg (Nat.lt_irrefl _), if_pos rfl, if_pos rfl, if_neg (Nat.lt_irrefl _), if_pos rfl]
    show (if B q b = true then _ else _) = _
    rw [if_pos h]
  · rw [if_neg e, if_neg e, if_neg e]
theorem bG_no {B : Nat → Nat → Bool} {N a b : Nat} (h : B a b = false) : bG B N a (b + 1) = bG B N a b := by
  funext q
  unfold bG
  have e : bNum B a (b + 1) = bNum B a b := by
    show (if B a b = true then _ else _) = _
    rw [h]; rfl
  rw [e]
theorem bG_next (B : Nat → Nat → Bool) (N a : Nat) : bG B N a N = bG B N (a + 1) 0 := by
  funext q
  unfold bG
  by_cases e : q = a
  · subst e
    rw [if_neg (Nat.lt_irrefl _), if_pos rfl, if_pos (Nat.lt_succ_self _)]
  · by_cases e2 : q < a
    · rw [if_pos e2, if_pos (by omega)]
    · rw [if_neg e2, if_neg e, if_neg (by omega)]
      split
      · rfl
      · rfl
/-- The rows of the domain. -/
def madeG (B : Nat → Nat → Bool) (N : Nat) : Nat → Nat := bG B N N 0
theorem madeG_lt {B : Nat → Nat → Bool} {N q : Nat} (h : q < N) : madeG B N q = bNum B q N := by unfold madeG bG; rw [if_pos h]
theorem madeG_out {B : Nat → Nat → Bool} {N q : Nat} (h : N ≤ q) : madeG B N q = 0 := by
  unfold madeG bG
  rw [if_neg (by omega)]
  split
  · rfl
  · rfl
theorem madeG_bit (B : Nat → Nat → Bool) (N q k : Nat) : (madeG B N q).testBit k = (decide (q < N) && decide (k < N) && B q k) := by
  by_cases h : q < N
  · rw [madeG_lt h, bNum_bit, decide_eq_true h, Bool.true_and]
  · rw [madeG_out (by omega), Nat.zero_testBit, decide_eq_false h]; rfl
theorem madeG_gridN {B : Nat → Nat → Bool} {N : Nat} (hN : N ≤ 200) (hr : ∀ q, q < N → B q q = true) : GridN (madeG B N) N :=
  ⟨hN, fun i hi h => (by
    have e := madeG_bit B N i i
    rw [h, Nat.zero_testBit, decide_eq_true hi, hr i hi] at e
    cases e), fun _ => madeG_out (Nat.le_refl _)⟩

/-- What rowsOf answers: none, or rows in memory of their own. -/
def RowsNo (w : World) (e : Ending) (w' : World) : Prop := e = .returned (.tuple #[.pointer none, .bool false]) ∧ Below w.heap.size w w'
def RowsYes (G : Nat → Nat) (w : World) (e : Ending) (w' : World) : Prop :=
  (∃ p : Nat, e = .returned (.tuple #[.pointer (some ⟨p, 0, none⟩), .bool true]) ∧ w.heap.size ≤ p ∧ GridAt w' p G) ∧ Below w.heap.size w w'

/-- While the rows are laid; K is what of the domain's own memory is needed. -/
structure RwG (w : World) (K : World → Prop) (p : Nat) (G : Nat → Nat) (W : World) : Prop where
  kept : K W
  grid : GridAt W p G
  own : w.heap.size ≤ p
  below : Below w.heap.size w W
theorem RwG.step {w : World} {K : World → Prop} {p : Nat} {G : Nat → Nat} {W W' : World} (hK : Stays w K) (h : RwG w K p G W) (hb : Below W.heap.size W W') : RwG w K p G W' :=
  ⟨hK W W' (hb.mono h.below.size) h.kept, h.grid.below hb h.grid.lt, h.own, h.below.trans (hb.mono h.below.size)⟩
theorem RwG.put {w : World} {K : World → Prop} {p : Nat} {G : Nat → Nat} {W : World} (hK : Stays w K) (h : RwG w K p G W) {k i : Nat} (hk : k < 200) (hi : i < 200) (m : Nat) :
    RwG w K p (fun j => if j = k then put (G k) i else G j) ((W.drewN m).setCell ⟨p, k * 4 + i / 64, none⟩ (.int .u64 ((word (G k) (i / 64) ||| 2 ^ (i % 64) : Nat) : Int))) := by
  have hb := below_put (Below.refl w.heap.size W) m (q := p) h.own (k * 4 + i / 64) (.int .u64 ((word (G k) (i / 64) ||| 2 ^ (i % 64) : Nat) : Int))
  exact ⟨hK _ _ hb h.kept, h.grid.putAt hk (by omega) m, h.own, h.below.trans hb⟩

set_option maxRecDepth 100000 in
set_option maxHeartbeats 4000000 in
/-- An order of too many elements is not made. -/
theorem built_no (x : Value) (w : World) (h : ∀ W, Below w.heap.size w W → Calls Tryd.prog 56 #[x] W (RowsNo W)) :
    Calls Tryd.prog 39 #[x] w (RowsG 0 (fun _ => []) false w) := by
  have b0 := (Below.refl w.heap.size w).alloc (Nat.le_refl _) (.cells #[.slice none 0 0] 26)
  have hbx := Boxed.new w 26 (.slice none 0 0)
  have hc1 := h _ b0
  have HBX := Lib.hid hbx
  have HB0 := Lib.hid b0
  clear b0 hbx h
  go_enter Tryd.func39, Tryd.ntmps39
  go_wp2_with (go_at_call 56; refine hc1.mono ?_; clear hc1; rintro e w1 ⟨rfl, hb1⟩; have HBX1 : Hid (Boxed w1 w.heap.size 26 (.slice none 0 0)) := Lib.hid ((hb1.block _ HBX.out.lt).trans HBX.out); have HB1 := Lib.hid (HB0.out.trans (hb1.mono HB0.out.size)); have hres := HBX1.out.cell; have hfr := HBX1.out.frozen; clear hb1)
  have hc9 := World.cell?_setCell_same' w1 ⟨w.heap.size, 0, none⟩ (.slice none 0 0) (by rw [hres]; rfl)
  refine bodyPost_ret (v := .tuple #[.agg #[.slice none 0 0], .bool false]) (by simp [results, Tryd.results39, go_sem, hc9]) rfl ?_
  exact ⟨_, rfl, OwnR.nil _ _ _ _ _ _, HB1.out.setCell (p := ⟨w.heap.size, 0, none⟩) (Nat.le_refl _) _⟩

set_option maxRecDepth 100000 in
set_option maxHeartbeats 4000000 in
theorem built_yes (x : Value) (B : Nat → Nat → Bool) (N : Nat) (w : World) (hT : Tab w) (hN : N ≤ 200) (hr : ∀ q, q < N → B q q = true) (h : ∀ W, Below w.heap.size w W → Calls Tryd.prog 56 #[x] W (RowsYes (madeG B N) W)) :
    Calls Tryd.prog 39 #[x] w (RowsG N (fun q => bRow B q N) true w) := by
  have b0 := (Below.refl w.heap.size w).alloc (Nat.le_refl _) (.cells #[.slice none 0 0] 26)
  have hbx := Boxed.new w 26 (.slice none 0 0)
  have hc1 := h _ b0
  have HBX := Lib.hid hbx
  have HB0 := Lib.hid b0
  have HORD := Lib.hid (fun W p (hg : GridAt W p (madeG B N)) (hW : Below w.heap.size w W) => order_any p N (madeG B N) W hg (hT.below hW) (madeG_gridN hN hr))
  clear b0 hbx h hr hT
  go_enter Tryd.func39, Tryd.ntmps39
  go_wp2_with (first | (go_at_call 56; refine hc1.mono ?_; clear hc1; rintro e w1 ⟨⟨p, rfl, _, hg⟩, hb1⟩; have HG := Lib.hid hg; have HBX1 : Hid (Boxed w1 w.heap.size 26 (.slice none 0 0)) := Lib.hid ((hb1.block _ HBX.out.lt).trans HBX.out); have HB1 := Lib.hid (HB0.out.trans (hb1.mono HB0.out.size)); clear hb1 hg) | (go_at_call 57; refine (HORD.out _ p HG.out HB1.out).mono ?_; rintro e w2 ⟨u, rfl, hu, hb2⟩; obtain ⟨a2, C2, rfl⟩ := hu.form; have HU := Lib.hid hu; have HBX2 : Hid (Boxed w2 w.heap.size 26 (.slice none 0 0)) := Lib.hid ((hb2.block _ HBX1.out.lt).trans HBX1.out); have HB2 := Lib.hid (HB1.out.trans (hb2.mono HB1.out.size)); have hres := HBX2.out.cell; have hfr := HBX2.out.frozen; clear hu hb2))
  have hc9 := World.cell?_setCell_same' w2 ⟨w.heap.size, 0, none⟩ (.slice a2 N C2) (by rw [hres]; rfl)
  have hw1 : w.heap.size < w1.heap.size := HBX1.out.lt
  refine bodyPost_ret (v := .tuple #[.agg #[.slice a2 N C2], .bool true]) (by simp [results, Tryd.results39, go_sem, hc9]) rfl ?_
  refine ⟨_, rfl, ?_, HB2.out.setCell (p := ⟨w.heap.size, 0, none⟩) (Nat.le_refl _) _⟩
  rw [size_setCell]
  exact ((HU.out.kept fun b hb _ => Below.heap_setCell _ _ _ b (show b ≠ w.heap.size by omega)).wider (by omega) (Nat.le_refl _)).congr fun q hq => by rw [madeG_lt hq]; exact bNum_elems B q (by omega)
end Go.Proofs.YtkhhbpeheikmfaaDoor

/- The walks of rowsOf and built at sum. -/
namespace Go.Proofs.YtkhhbpeheikmfaaDoor
open Go.RowKit Go.Deep Go.Shelf

end Go.Proofs.YtkhhbpeheikmfaaDoor

/- The program's DomainSum. -/
namespace Go.Proofs.YtkhhbpeheikmfaaDoor
open Go.RowKit Go.Deep Go.Shelf

/-- What domainOf answers: a pointer, and whether there is one. -/
def DomP (rows : Rows2) (w : World) (e : Ending) (w' : World) : Prop :=
  (∃ q, e = .returned (.tuple #[.pointer q, .bool (domB rows)]) ∧ (domB rows = true → ∃ p, q = some ⟨p, 0, none⟩ ∧ GridAt w' p (gridF rows))) ∧ Below w.heap.size w w'
theorem domainOf_any (v : Value) (rows : Rows2) (w : World) (hv : RowsAt w v rows) (hT : Tab w) (hn : bulk rows ≤ 1048576) :
    Calls Tryd.prog 45 #[.agg #[v]] w (DomP rows w) := by
  cases h : domB rows with
  | false =>
    refine (domainOf_no v rows w hv hT hn h).mono fun e w' hp => ?_
    obtain ⟨rfl, hb⟩ := hp
    exact ⟨⟨_, by rw [h], fun h' => by rw [h] at h'; cases h'⟩, hb⟩
  | true =>
    refine (domainOf_yes v rows w hv hT hn h).mono fun e w' hp => ?_
    obtain ⟨⟨p, rfl, _, hg⟩, hb⟩ := hp
    exact ⟨⟨_, by rw [h], fun _ => ⟨p, rfl, hg⟩⟩, hb⟩

/-- Two orders in their variables, and the result's. -/
structure TwoR (w : World) (v v' : Value) (rows rows' : Rows2) (W : World) : Prop where
  r0 : RowsAt W v rows
  r1 : RowsAt W v' rows'
  c0 : W.cell? ⟨w.heap.size, 0, none⟩ = some v
  c1 : W.cell? ⟨w.heap.size + 1, 0, none⟩ = some v'
  res : Boxed W (w.heap.size + 2) 26 (.slice none 0 0)
  below : Below w.heap.size w W
theorem TwoR.step {w : World} {v v' : Value} {rows rows' : Rows2} {W W' : World} (h : TwoR w v v' rows rows' W) (hb : Below W.heap.size W W') : TwoR w v v' rows rows' W' :=
  ⟨h.r0.below hb, h.r1.below hb, (hb.cell (p := ⟨w.heap.size, 0, none⟩) (cell_lt h.c0)).trans h.c0, (hb.cell (p := ⟨w.heap.size + 1, 0, none⟩) (cell_lt h.c1)).trans h.c1, (hb.block _ h.res.lt).trans h.res, h.below.trans (hb.mono h.below.size)⟩
theorem TwoR.start (w : World) {v v' : Value} {rows rows' : Rows2} (hv : RowsAt w v rows) (hv' : RowsAt w v' rows') :
    TwoR w v v' rows rows' (((w.alloc (.cells #[v] 26)).alloc (.cells #[v'] 26)).alloc (.cells #[.slice none 0 0] 26)) := by
  have s1 : (w.alloc (.cells #[v] 26)).heap.size = w.heap.size + 1 := World.size_alloc _ _
  have s2 : ((w.alloc (.cells #[v] 26)).alloc (.cells #[v'] 26)).heap.size = w.heap.size + 2 := by rw [World.size_alloc, s1]
  have b1 := ((Below.refl w.heap.size w).alloc (Nat.le_refl _) (.cells #[v] 26)).alloc (by rw [s1]; omega) (.cells #[v'] 26)
  have b2 := b1.alloc (by rw [s2]; omega) (.cells #[.slice none 0 0] 26)
  have x0 := ((Boxed.new w 26 v).alloc (.cells #[v'] 26)).alloc (.cells #[.slice none 0 0] 26)
  have x1 := (Boxed.new (w.alloc (.cells #[v] 26)) 26 v').alloc (.cells #[.slice none 0 0] 26)
  have x2 := Boxed.new ((w.alloc (.cells #[v] 26)).alloc (.cells #[v'] 26)) 26 (.slice none 0 0)
  rw [s1] at x1
  rw [s2] at x2
  exact ⟨hv.below b2, hv'.below b2, x0.cell, x1.cell, x2, b2⟩

theorem sum_refl {rows rows' : Rows2} (hok : Ok rows) (hok' : Ok rows') : ∀ q, q < 1 + rows.length + rows'.length → sumB (gridF rows) (gridF rows') rows.length q q = true := fun q hq => by
  unfold sumB
  by_cases h0 : q = 0
  · rw [if_pos h0]
  · rw [if_neg h0, if_neg h0]
    by_cases h1 : q ≤ rows.length
    · rw [if_pos h1, if_pos h1]
      exact hok.own (q - 1) (by omega)
    · rw [if_neg h1, if_neg h1]
      exact hok'.own (q - 1 - rows.length) (by omega)
/-- What DomainSum answers. -/
noncomputable def sumOk (rows rows' : Rows2) : Bool := domB rows && domB rows' && decide (1 + rows.length + rows'.length ≤ 200)
noncomputable def sumRow (rows rows' : Rows2) (q : Nat) : List Int := bRow (sumB (gridF rows) (gridF rows') rows.length) q (1 + rows.length + rows'.length)
noncomputable def sumL (rows rows' : Rows2) : Rows2 := if sumOk rows rows' = true then (List.range (1 + rows.length + rows'.length)).map (sumRow rows rows') else []
theorem sumL_yes {rows rows' : Rows2} (h : sumOk rows rows' = true) : (sumL rows rows').length = 1 + rows.length + rows'.length ∧ ∀ q, q < 1 + rows.length + rows'.length → rowsF (sumL rows rows') q = sumRow rows rows' q := by
  unfold sumL
  rw [if_pos h]
  refine ⟨by simp, fun q hq => ?_⟩
  rw [rowsF_lt (by simpa using hq)]
  simp
theorem sumL_no {rows rows' : Rows2} (h : sumOk rows rows' = false) : sumL rows rows' = [] := by unfold sumL; rw [if_neg (by rw [h]; simp)]
/-- No order. -/
theorem orderP_no {xs : Rows2} {t : Bool} {w W : World} {b : Nat} (hx : xs = []) (ht : t = false) (hb : Below w.heap.size w W) (hl : w.heap.size ≤ b) (u : Value) : OrderP xs t w (.returned (.tuple #[.agg #[.slice none 0 0], .bool false])) (W.setCell ⟨b, 0, none⟩ u) := by
  subst hx ht
  exact ⟨_, rfl, OwnR.nil _ _ _ _ _ _, hb.setCell (p := ⟨b, 0, none⟩) hl _⟩

end Go.Proofs.YtkhhbpeheikmfaaDoor

/- The program's function domain of two domains (funsBetween, funsOf). -/
namespace Go.Proofs.YtkhhbpeheikmfaaDoor
open Go.RowKit Go.Deep Go.Shelf

/-- A function domain, in memory of its own but for the grid to which it goes. -/
def FunDom (rows rows' : Rows2) (lo : Nat) (u1 u2 : Value) (W : World) : Prop :=
  ∃ p', u2 = .iface 63 (.pointer (some ⟨p', 0, none⟩)) ∧ OwnR 3 37 W u1 (funsR rows rows').length (rowsF (I2 (funsR rows rows'))) lo W.heap.size ∧ GridAt W p' (gridF rows')
/-- What funsBetween and funsOf answer. -/
def FbP (t : Bool) (rows rows' : Rows2) (w : World) (e : Ending) (w' : World) : Prop :=
  (∃ u1 u2, e = .returned (.tuple #[.agg #[u1, u2], .bool t]) ∧ (t = true → FunDom rows rows' w.heap.size u1 u2 w') ∧ (t = false → u1 = .slice none 0 0 ∧ u2 = .nilIface)) ∧ Below w.heap.size w w'
theorem FunDom.put {rows rows' : Rows2} {lo : Nat} {u1 u2 : Value} {W W' : World} (h : FunDom rows rows' lo u1 u2 W) {r : Nat} (hb : ∀ b, b ≠ r → W'.heap[b]? = W.heap[b]?) (hz : W.heap.size ≤ W'.heap.size) (hr : r < lo) (hg : ∀ p' : Nat, u2 = .iface 63 (.pointer (some ⟨p', 0, none⟩)) → p' ≠ r) : FunDom rows rows' lo u1 u2 W' := by
  obtain ⟨p', e, ho, hG⟩ := h
  exact ⟨p', e, (ho.kept fun b h1 _ => hb b (by omega)).wider (Nat.le_refl _) hz, ⟨(hb p' (hg p' e)).trans hG.1, hG.2⟩⟩
theorem FunDom.lower {rows rows' : Rows2} {lo lo' : Nat} {u1 u2 : Value} {W : World} (h : FunDom rows rows' lo u1 u2 W) (hl : lo' ≤ lo) : FunDom rows rows' lo' u1 u2 W := by
  obtain ⟨p', e, ho, hG⟩ := h
  exact ⟨p', e, ho.wider hl (Nat.le_refl _), hG⟩
theorem FunDom.step {rows rows' : Rows2} {lo : Nat} {u1 u2 : Value} {W W' : World} (h : FunDom rows rows' lo u1 u2 W) (hb : Below W.heap.size W W') : FunDom rows rows' lo u1 u2 W' := by
  obtain ⟨p', e, ho, hG⟩ := h
  exact ⟨p', e, (ho.below hb (Nat.le_refl _)).wider (Nat.le_refl _) hb.size, hG.below hb hG.lt⟩

/-- A variable of two cells. -/
theorem two_new (W : World) (a b : Value) (t : TypeId) : (W.alloc (.cells #[a, b] t)).cell? ⟨W.heap.size, 0, none⟩ = some a ∧ (W.alloc (.cells #[a, b] t)).cell? ⟨W.heap.size, 1, none⟩ = some b ∧ ∀ o, (W.alloc (.cells #[a, b] t)).frozen? ⟨W.heap.size, o, none⟩ = false := by
  refine ⟨?_, ?_, fun o => frozen_of_row _ _ _ _ _ (heap_alloc_new _ _)⟩ <;> rw [cell_of_row _ W.heap.size _ _ _ _ (heap_alloc_new _ _)] <;> rfl

set_option maxRecDepth 100000 in
set_option maxHeartbeats 4000000 in
theorem funsBetween_any (p p' : Nat) (rows rows' : Rows2) (hok : Ok rows) (hd' : domB rows' = true) (w : World) (hg : GridAt w p (gridF rows)) (hg' : GridAt w p' (gridF rows')) (hT : Tab w) :
    Calls Tryd.prog 55 #[.pointer (some ⟨p, 0, none⟩), .pointer (some ⟨p', 0, none⟩)] w (FbP (decide ((funsR rows rows').length ≤ 200)) rows rows' w) := by
  have hb0 := (Below.refl w.heap.size w).alloc (Nat.le_refl _) (.cells #[.slice none 0 0, .nilIface] 54)
  have hc := lists_any p p' 200 rows rows' hok hd' (by omega) _ (hg.below hb0 hg.lt) (hg'.below hb0 hg'.lt) (hT.below hb0)
  have hpz := hg'.lt
  obtain ⟨n0, n1, n2⟩ := two_new w (.slice none 0 0) .nilIface 54
  have HB0 := Lib.hid hb0
  have HG := Lib.hid hg'
  clear hb0 hg hg' hT
  go_enter Tryd.func55, Tryd.ntmps55
  go_wp2_with fail
  refine hc.mono ?_
  clear hc
  rintro e w1 ⟨hres, hb1⟩
  have B1 := Lib.hid (HB0.out.trans (hb1.mono HB0.out.size))
  have k0 := (hb1.cell (p := ⟨w.heap.size, 0, none⟩) (cell_lt n0)).trans n0
  have k1 := (hb1.cell (p := ⟨w.heap.size, 1, none⟩) (cell_lt n1)).trans n1
  have hzz : w.heap.size < (w.alloc (.cells #[.slice none 0 0, .nilIface] 54)).heap.size := by simp
  have kf := fun o => (hb1.frozen (p := ⟨w.heap.size, o, none⟩) hzz).trans (n2 o)
  have hz1 := hb1.size
  rw [World.size_alloc] at hz1
  clear n0 n1 n2 hb1
  have kf0 := kf 0
  have kf1 := kf 1
  rcases hres with ⟨hlt, rfl⟩ | ⟨hle, v, rfl, hv⟩
  · have HD := Lib.hid (show decide ((funsR rows rows').length ≤ 200) = false from decide_eq_false (by omega))
    go_wp2
    have hq0 := World.cell?_setCell_other (w1.setCell ⟨w.heap.size, 0, none⟩ (.slice none 0 0)) ⟨w.heap.size, 1, none⟩ ⟨w.heap.size, 0, none⟩ .nilIface (fun e => by injection e with _ e; cases e)
    rw [World.cell?_setCell_same' w1 ⟨w.heap.size, 0, none⟩ _ (by rw [k0]; rfl)] at hq0
    have hq1 := World.cell?_setCell_same' (w1.setCell ⟨w.heap.size, 0, none⟩ (.slice none 0 0)) ⟨w.heap.size, 1, none⟩ .nilIface (by rw [World.cell?_setCell_other _ _ _ _ (fun e => by injection e with _ e; cases e), k1]; rfl)
    refine bodyPost_ret (v := .tuple #[.agg #[.slice none 0 0, .nilIface], .bool false]) (by simp [results, Tryd.results55, go_sem, hq0, hq1]) rfl ?_
    rw [HD.out]
    exact ⟨⟨_, _, rfl, fun h => (by cases h), fun _ => ⟨rfl, rfl⟩⟩, (B1.out.setCell (p := ⟨w.heap.size, 0, none⟩) (Nat.le_refl _) _).setCell (p := ⟨w.heap.size, 1, none⟩) (Nat.le_refl _) _⟩
  · have HD := Lib.hid (show decide ((funsR rows rows').length ≤ 200) = true from decide_eq_true hle)
    obtain ⟨av, Cv, rfl⟩ := hv.form
    have HV := Lib.hid hv
    clear hv
    go_wp2
    have hq0 := World.cell?_setCell_other (w1.setCell ⟨w.heap.size, 0, none⟩ (.slice av (funsR rows rows').length Cv)) ⟨w.heap.size, 1, none⟩ ⟨w.heap.size, 0, none⟩ (.iface 63 (.pointer (some ⟨p', 0, none⟩))) (fun e => by injection e with _ e; cases e)
    rw [World.cell?_setCell_same' w1 ⟨w.heap.size, 0, none⟩ _ (by rw [k0]; rfl)] at hq0
    have hq1 := World.cell?_setCell_same' (w1.setCell ⟨w.heap.size, 0, none⟩ (.slice av (funsR rows rows').length Cv)) ⟨w.heap.size, 1, none⟩ (.iface 63 (.pointer (some ⟨p', 0, none⟩))) (by rw [World.cell?_setCell_other _ _ _ _ (fun e => by injection e with _ e; cases e), k1]; rfl)
    refine bodyPost_ret (v := .tuple #[.agg #[.slice av (funsR rows rows').length Cv, .iface 63 (.pointer (some ⟨p', 0, none⟩))], .bool true]) (by simp [results, Tryd.results55, go_sem, hq0, hq1]) rfl ?_
    rw [HD.out]
    have hV := HV.out
    rw [World.size_alloc] at hV
    refine ⟨⟨_, _, rfl, fun _ => FunDom.lower (lo := w.heap.size + 1) (FunDom.put (W := w1) ⟨p', rfl, hV, HG.out.below B1.out hpz⟩ (r := w.heap.size) (fun b hb => ?_) (by rw [size_setCell, size_setCell]; exact Nat.le_refl _) (by omega) (fun q hq => by injection hq with _ hq; injection hq with hq; injection hq with hq; injection hq with hq; omega)) (Nat.le_succ _), fun h => (by cases h)⟩, (B1.out.setCell (p := ⟨w.heap.size, 0, none⟩) (Nat.le_refl _) _).setCell (p := ⟨w.heap.size, 1, none⟩) (Nat.le_refl _) _⟩
    rw [Below.heap_setCell _ _ _ b hb, Below.heap_setCell _ _ _ b hb]

theorem two_stored {W : World} {r : Nat} {a b a0 b0 : Value} (h0 : W.cell? ⟨r, 0, none⟩ = some a0) (h1 : W.cell? ⟨r, 1, none⟩ = some b0) : ((W.setCell ⟨r, 0, none⟩ a).setCell ⟨r, 1, none⟩ b).cell? ⟨r, 0, none⟩ = some a ∧ ((W.setCell ⟨r, 0, none⟩ a).setCell ⟨r, 1, none⟩ b).cell? ⟨r, 1, none⟩ = some b := by
  constructor
  · rw [World.cell?_setCell_other _ _ _ _ (fun e => by injection e with _ e; cases e)]
    exact World.cell?_setCell_same' W _ _ (by rw [h0]; rfl)
  · exact World.cell?_setCell_same' _ _ _ (by rw [World.cell?_setCell_other _ _ _ _ (fun e => by injection e with _ e; cases e), h1]; rfl)
theorem two_below {w W : World} {r : Nat} (hb : Below w.heap.size w W) (hr : w.heap.size ≤ r) (a b : Value) : Below w.heap.size w ((W.setCell ⟨r, 0, none⟩ a).setCell ⟨r, 1, none⟩ b) := (hb.setCell (p := ⟨r, 0, none⟩) hr _).setCell (p := ⟨r, 1, none⟩) hr _
/-- Two orders in their variables, and a function domain as it begins. -/
structure TwoD (w : World) (v v' : Value) (rows rows' : Rows2) (W : World) : Prop where
  r0 : RowsAt W v rows
  r1 : RowsAt W v' rows'
  c0 : W.cell? ⟨w.heap.size, 0, none⟩ = some v
  c1 : W.cell? ⟨w.heap.size + 1, 0, none⟩ = some v'
  res : W.heap[w.heap.size + 2]? = some (.cells #[.slice none 0 0, .nilIface] 54 (0, 0))
  below : Below w.heap.size w W
theorem TwoD.reslt {w : World} {v v' : Value} {rows rows' : Rows2} {W : World} (h : TwoD w v v' rows rows' W) : w.heap.size + 2 < W.heap.size := (Array.getElem?_eq_some_iff.1 h.res).1
theorem TwoD.res0 {w : World} {v v' : Value} {rows rows' : Rows2} {W : World} (h : TwoD w v v' rows rows' W) : W.cell? ⟨w.heap.size + 2, 0, none⟩ = some (.slice none 0 0) := by rw [cell_of_row W _ _ _ _ _ h.res]; rfl
theorem TwoD.res1 {w : World} {v v' : Value} {rows rows' : Rows2} {W : World} (h : TwoD w v v' rows rows' W) : W.cell? ⟨w.heap.size + 2, 1, none⟩ = some .nilIface := by rw [cell_of_row W _ _ _ _ _ h.res]; rfl
theorem TwoD.resf {w : World} {v v' : Value} {rows rows' : Rows2} {W : World} (h : TwoD w v v' rows rows' W) (o : Nat) : W.frozen? ⟨w.heap.size + 2, o, none⟩ = false := frozen_of_row W _ _ _ _ h.res
theorem TwoD.step {w : World} {v v' : Value} {rows rows' : Rows2} {W W' : World} (h : TwoD w v v' rows rows' W) (hb : Below W.heap.size W W') : TwoD w v v' rows rows' W' :=
  ⟨h.r0.below hb, h.r1.below hb, (hb.cell (p := ⟨w.heap.size, 0, none⟩) (cell_lt h.c0)).trans h.c0, (hb.cell (p := ⟨w.heap.size + 1, 0, none⟩) (cell_lt h.c1)).trans h.c1, (hb.block _ h.reslt).trans h.res, h.below.trans (hb.mono h.below.size)⟩
theorem TwoD.start (w : World) {v v' : Value} {rows rows' : Rows2} (hv : RowsAt w v rows) (hv' : RowsAt w v' rows') :
    TwoD w v v' rows rows' (((w.alloc (.cells #[v] 26)).alloc (.cells #[v'] 26)).alloc (.cells #[.slice none 0 0, .nilIface] 54)) := by
  have s1 : (w.alloc (.cells #[v] 26)).heap.size = w.heap.size + 1 := World.size_alloc _ _
  have s2 : ((w.alloc (.cells #[v] 26)).alloc (.cells #[v'] 26)).heap.size = w.heap.size + 2 := by rw [World.size_alloc, s1]
  have b1 := ((Below.refl w.heap.size w).alloc (Nat.le_refl _) (.cells #[v] 26)).alloc (by rw [s1]; omega) (.cells #[v'] 26)
  have b2 := b1.alloc (by rw [s2]; omega) (.cells #[.slice none 0 0, .nilIface] 54)
  have x0 := ((Boxed.new w 26 v).alloc (.cells #[v'] 26)).alloc (.cells #[.slice none 0 0, .nilIface] 54)
  have x1 := (Boxed.new (w.alloc (.cells #[v] 26)) 26 v').alloc (.cells #[.slice none 0 0, .nilIface] 54)
  have x2 := heap_alloc_new ((w.alloc (.cells #[v] 26)).alloc (.cells #[v'] 26)) (.cells #[.slice none 0 0, .nilIface] 54)
  rw [s1] at x1
  rw [s2] at x2
  exact ⟨hv.below b2, hv'.below b2, x0.cell, x1.cell, x2, b2⟩
/-- Are both domains, with no more functions than elements can be? -/
noncomputable def funB (rows rows' : Rows2) : Bool := domB rows && domB rows' && decide ((funsR rows rows').length ≤ 200)

set_option maxRecDepth 100000 in
set_option maxHeartbeats 8000000 in
theorem funsOf_any (v v' : Value) (rows rows' : Rows2) (w : World) (hv : RowsAt w v rows) (hv' : RowsAt w v' rows') (hT : Tab w) (hn : bulk rows ≤ 1048576) (hn' : bulk rows' ≤ 1048576) :
    Calls Tryd.prog 38 #[.agg #[v], .agg #[v']] w (FbP (funB rows rows') rows rows' w) := by
  have h0 := TwoD.start w hv hv'
  have T0 := Lib.hid (hT.below h0.below)
  have hd1 := domainOf_any _ rows _ h0.r0 T0.out hn
  have hc0 := h0.c0
  obtain ⟨A, C, rfl, _⟩ := hv
  obtain ⟨A', C', rfl, _⟩ := hv'
  have H0 := Lib.hid h0
  have HTA := Lib.hid (fun W (h : Below w.heap.size w W) => hT.below h)
  clear h0 hT
  go_enter Tryd.func38, Tryd.ntmps38
  go_wp2_with fail
  refine hd1.mono ?_
  rintro e w1 ⟨⟨q, rfl, hq⟩, hb1⟩
  have H1 := Lib.hid (H0.out.step hb1)
  have hc1 := H1.out.c1
  have hd2 := domainOf_any _ rows' _ H1.out.r1 (T0.out.below hb1) hn'
  clear hd1 hc0 hb1
  go_wp2_with fail
  refine hd2.mono ?_
  rintro e w2 ⟨⟨q', rfl, hq'⟩, hb2⟩
  have H2 := Lib.hid (H1.out.step hb2)
  have B12 := Lib.hid hb2
  clear hd2 hc1 hb2
  have r0 := H2.out.res0
  have r1 := H2.out.res1
  have rf0 := H2.out.resf 0
  have rf1 := H2.out.resf 1
  cases h1 : domB rows with
  | false =>
    have HE := Lib.hid (show funB rows rows' = false by unfold funB; rw [h1]; rfl)
    go_wp2
    simp only [Nat.add_assoc, Nat.reduceAdd]
    obtain ⟨hq0, hq1⟩ := two_stored (a := .slice none 0 0) (b := .nilIface) r0 r1
    refine bodyPost_ret (v := .tuple #[.agg #[.slice none 0 0, .nilIface], .bool false]) (by simp [results, Tryd.results38, go_sem, hq0, hq1]) rfl ?_
    rw [HE.out]
    exact ⟨⟨_, _, rfl, fun h => (by cases h), fun _ => ⟨rfl, rfl⟩⟩, two_below H2.out.below (by omega) _ _⟩
  | true =>
    cases h2 : domB rows' with
    | false =>
      have HE := Lib.hid (show funB rows rows' = false by unfold funB; rw [h1, h2]; rfl)
      go_wp2
      simp only [Nat.add_assoc, Nat.reduceAdd]
      obtain ⟨hq0, hq1⟩ := two_stored (a := .slice none 0 0) (b := .nilIface) r0 r1
      refine bodyPost_ret (v := .tuple #[.agg #[.slice none 0 0, .nilIface], .bool false]) (by simp [results, Tryd.results38, go_sem, hq0, hq1]) rfl ?_
      rw [HE.out]
      exact ⟨⟨_, _, rfl, fun h => (by cases h), fun _ => ⟨rfl, rfl⟩⟩, two_below H2.out.below (by omega) _ _⟩
    | true =>
      have HE := Lib.hid (show funB rows rows' = decide ((funsR rows rows').length ≤ 200) by unfold funB; rw [h1, h2]; rfl)
      obtain ⟨p, rfl, hg⟩ := hq h1
      obtain ⟨p', rfl, hg'⟩ := hq' h2
      have hok := ok_of_valid (show validB rows = true by have h := h1; unfold domB at h; rw [Bool.and_eq_true] at h; exact h.1)
      have hfb := funsBetween_any p p' rows rows' hok h2 w2 (hg.below B12.out hg.lt) hg' (HTA.out _ H2.out.below)
      clear hg hg' hq hq'
      go_wp2_with fail
      refine hfb.mono ?_
      rintro e w3 ⟨⟨u1, u2, rfl, hyes, hno⟩, hb3⟩
      have H3 := Lib.hid (H2.out.step hb3)
      have hform : ∃ a n C, u1 = .slice a n C := by
        cases ht : decide ((funsR rows rows').length ≤ 200) with
        | false => exact ⟨none, 0, 0, (hno ht).1⟩
        | true =>
          obtain ⟨_, _, ho, _⟩ := hyes ht
          obtain ⟨a, C, e⟩ := ho.form
          exact ⟨a, _, C, e⟩
      have hform2 : u2 = .nilIface ∨ ∃ v, u2 = .iface 63 v := by
        cases ht : decide ((funsR rows rows').length ≤ 200) with
        | false => exact .inl (hno ht).2
        | true =>
          obtain ⟨q, e, _⟩ := hyes ht
          exact .inr ⟨_, e⟩
      have HY := Lib.hid hyes
      have HN := Lib.hid hno
      have hz2 := H2.out.reslt
      clear hfb hyes hno hb3 r0 r1 rf0 rf1
      obtain ⟨a, n, C0, rfl⟩ := hform
      have r0 := H3.out.res0
      have r1 := H3.out.res1
      have rf0 := H3.out.resf 0
      have rf1 := H3.out.resf 1
      have hE2 := HE.out
      generalize decide ((funsR rows rows').length ≤ 200) = t at HY HN hE2 ⊢
      have HE2 := Lib.hid hE2
      clear hE2
      have HFIN := Lib.hid (show ∀ W, W = ((w3.setCell ⟨w.heap.size + 2, 0, none⟩ (.slice a n C0)).setCell ⟨w.heap.size + 2, 1, none⟩ u2) → FbP t rows rows' w (.returned (.tuple #[.agg #[.slice a n C0, u2], .bool t])) W from fun W hW => by
        subst hW
        refine ⟨⟨_, _, rfl, fun ht => (FunDom.put (HY.out ht) (r := w.heap.size + 2) (fun b hb => ?_) (by rw [size_setCell, size_setCell]; exact Nat.le_refl _) (by omega) (fun q hq e => ?_)).lower (by omega), fun ht => HN.out ht⟩, two_below H3.out.below (by omega) _ _⟩
        · rw [Below.heap_setCell _ _ _ b hb, Below.heap_setCell _ _ _ b hb]
        · obtain ⟨q2, e2, _, hG⟩ := HY.out ht
          rw [e2] at hq
          injection hq with _ hq; injection hq with hq; injection hq with hq; injection hq with hq
          have h5 := hG.1
          rw [hq, e, H3.out.res] at h5
          injection h5 with h5
          injection h5 with h5 _
          have h6 := congrArg Array.size h5
          rw [gridCells_size] at h6
          simp at h6)
      rcases hform2 with rfl | ⟨v2, rfl⟩
      all_goals go_wp2
      all_goals simp only [Nat.add_assoc, Nat.reduceAdd]
      · obtain ⟨hq0, hq1⟩ := two_stored (a := .slice a n C0) (b := .nilIface) r0 r1
        refine bodyPost_ret (v := .tuple #[.agg #[.slice a n C0, .nilIface], .bool t]) (by simp [results, Tryd.results38, go_sem, hq0, hq1]) rfl ?_
        rw [HE2.out]
        exact HFIN.out _ rfl
      · obtain ⟨hq0, hq1⟩ := two_stored (a := .slice a n C0) (b := .iface 63 v2) r0 r1
        refine bodyPost_ret (v := .tuple #[.agg #[.slice a n C0, .iface 63 v2], .bool t]) (by simp [results, Tryd.results38, go_sem, hq0, hq1]) rfl ?_
        rw [HE2.out]
        exact HFIN.out _ rfl
end Go.Proofs.YtkhhbpeheikmfaaDoor

/- The model's list of all monotone functions (l2All), their number (FunCount), and DomainFuns. -/
namespace Go.Proofs.YtkhhbpeheikmfaaDoor
open Go.RowKit Go.Deep Go.Shelf

theorem funs_call (v v' : Value) (rows rows' : Rows2) (W : World) (hv : RowsAt W v rows) (hv' : RowsAt W v' rows') (hd : domB rows = true) (hd' : domB rows' = true) (most : Nat) (hm : most ≤ 5000) :
    Calls Tryd.prog 50 #[.agg #[v], .agg #[v'], .slice (some ⟨W.heap.size, 0, none⟩) 0 0, .int .i64 (most : Int), .slice (some ⟨W.heap.size + 1, 0, none⟩) 0 0] ((W.alloc (.cells #[] 3)).alloc (.cells #[] 37)) fun e w' =>
      ∃ vo, e = .returned vo ∧ OwnR 3 37 w' vo ((funsR rows rows').take (most + 1)).length (rowsF (I2 ((funsR rows rows').take (most + 1)))) W.heap.size w'.heap.size ∧ Below W.heap.size W w' := by
  have hb2 := ((Below.refl W.heap.size W).alloc (Nat.le_refl _) (.cells #[] 3)).alloc (by simp) (.cells #[] 37)
  have hz2 : ((W.alloc (.cells #[] 3)).alloc (.cells #[] 37)).heap.size = W.heap.size + 2 := by simp
  have hL : ListAt ((W.alloc (.cells #[] 3)).alloc (.cells #[] 37)) (.slice (some ⟨W.heap.size, 0, none⟩) 0 0) [] W.heap.size := by
    refine ⟨⟨_, _, rfl⟩, fun _ h => (by cases h), .inr ⟨W.heap.size, 0, fun _ => undef, rfl, Nat.le_refl _, Nat.zero_le _, Nat.le_refl _, by omega, ?_, fun _ h => absurd h (Nat.not_lt_zero _)⟩⟩
    exact (World.rowIs_alloc W #[] 3 (fun _ => undef) (fun _ h => absurd h (Nat.not_lt_zero _))).of_block (Below.heap_alloc _ _ _ (by simp))
  have hO : OwnR 3 37 ((W.alloc (.cells #[] 3)).alloc (.cells #[] 37)) (.slice (some ⟨W.heap.size + 1, 0, none⟩) 0 0) ([] : List (List Nat)).length (rowsF (I2 [])) W.heap.size ((W.alloc (.cells #[] 3)).alloc (.cells #[] 37)).heap.size := by
    refine .inr ⟨W.heap.size + 1, 0, fun _ => undef, rfl, Nat.le_refl _, Nat.zero_le _, by omega, by omega, ?_, fun _ h => absurd h (Nat.not_lt_zero _), fun _ _ _ h => absurd h (Nat.not_lt_zero _)⟩
    have h := World.rowIs_alloc (W.alloc (.cells #[] 3)) #[] 37 (fun _ => undef) (fun _ h => absurd h (Nat.not_lt_zero _))
    rw [World.size_alloc] at h
    exact h
  have h := l2Funs_any v v' rows rows' W hv hv' hd hd' most hm rows.length [] _ _ [] _ W.heap.size (Nat.zero_add _) (fun x h => (by cases h)) (MonN.nil _ _) (Nat.zero_le _) hb2 (Nat.le_refl _) hL hO (by omega)
  refine h.mono ?_
  rintro e w' ⟨vo, rfl, ho, hg, _⟩
  exact ⟨vo, rfl, ho, hb2.grown hg (by omega) (fun b e => by
    have h4 : W.heap.size + 1 = b := by simpa [Value.ownBlock] using e
    omega)⟩

/-- What FunCount answers. -/
noncomputable def countI (rows rows' : Rows2) : Int := if (domB rows && domB rows') = true then (if (funsR rows rows').length ≤ 5000 then ((funsR rows rows').length : Int) else -1) else -1

set_option maxRecDepth 100000 in
set_option maxHeartbeats 8000000 in
theorem specCount_any (v v' : Value) (rows rows' : Rows2) (w : World) (hv : RowsAt w v rows) (hv' : RowsAt w v' rows') (hn : bulk rows ≤ 1048576) (hn' : bulk rows' ≤ 1048576) :
    Calls Tryd.prog 31 #[.agg #[v], .agg #[v']] w (SaysJ (countI rows rows') w) := by
  have h0 := Two.start w 26 26 hv hv'
  have hd1 := specDom_any _ rows _ h0.r0 hn
  have hc0 := h0.c0
  obtain ⟨A, C, rfl, _⟩ := hv
  obtain ⟨A', C', rfl, _⟩ := hv'
  have H0 := Lib.hid h0
  clear h0
  go_enter Tryd.func31, Tryd.ntmps31
  go_wp2_with fail
  refine hd1.mono ?_
  rintro e w1 ⟨rfl, hb1⟩
  have H1 := Lib.hid (H0.out.step hb1)
  have hc1 := H1.out.c1
  have hd2 := specDom_any _ rows' _ H1.out.r1 hn'
  clear hd1 hc0 hb1
  cases h1 : domB rows with
  | false =>
    have HE := Lib.hid (show countI rows rows' = -1 by unfold countI; rw [h1]; rfl)
    go_wp2
    go_ret
    exact ⟨by rw [HE.out]; rfl, H1.out.below⟩
  | true =>
    go_wp2_with fail
    refine hd2.mono ?_
    rintro e w2 ⟨rfl, hb2⟩
    have H2 := Lib.hid (H1.out.step hb2)
    clear hd2 hb2
    cases h2 : domB rows' with
    | false =>
      have HE := Lib.hid (show countI rows rows' = -1 by unfold countI; rw [h1, h2]; rfl)
      go_wp2
      go_ret
      exact ⟨by rw [HE.out]; rfl, H2.out.below⟩
    | true =>
      have hcA := H2.out.c0
      have hcB := H2.out.c1
      have hfc := funs_call _ _ rows rows' w2 H2.out.r0 H2.out.r1 h1 h2 5000 (Nat.le_refl _)
      clear hc1
      go_wp2_with fail
      refine hfc.mono ?_
      rintro e w3 ⟨vo, rfl, ho, hb3⟩
      have B3 := Lib.hid (H2.out.below.trans (hb3.mono H2.out.below.size))
      obtain ⟨ao, Co, rfl⟩ := ho.form
      have hlen : ((funsR rows rows').take (5000 + 1)).length = min (5000 + 1) (funsR rows rows').length := List.length_take
      clear hfc hb3 ho
      by_cases hfin : (funsR rows rows').length ≤ 5000
      · have HE := Lib.hid (show countI rows rows' = (((funsR rows rows').take (5000 + 1)).length : Int) by unfold countI; rw [h1, h2, hlen, if_pos (show (true && true) = true from rfl), if_pos hfin]; omega)
        have hle : ((funsR rows rows').take (5000 + 1)).length ≤ 5000 := by omega
        generalize ((funsR rows rows').take (5000 + 1)).length = L at HE hle ⊢
        have hgt : ¬ (5000 : Int) < (L : Int) := by omega
        clear hlen
        go_wp2
        go_ret
        exact ⟨by rw [HE.out]; rfl, B3.out⟩
      · have HE := Lib.hid (show countI rows rows' = -1 by unfold countI; rw [h1, h2, if_pos (show (true && true) = true from rfl), if_neg hfin])
        have hle : ((funsR rows rows').take (5000 + 1)).length = 5001 := by omega
        rw [hle]
        clear hlen hle
        go_wp2
        go_ret
        exact ⟨by rw [HE.out]; rfl, B3.out⟩

/-- What l2All answers. -/
def AllP (rows rows' : Rows2) (w : World) (e : Ending) (w' : World) : Prop :=
  (∃ a n C, e = .returned (.tuple #[.slice a n C, .bool (funB rows rows')]) ∧ (funB rows rows' = true → n = (funsR rows rows').length ∧ OwnR 3 37 w' (.slice a n C) (funsR rows rows').length (rowsF (I2 (funsR rows rows'))) w.heap.size w'.heap.size)) ∧ Below w.heap.size w w'

set_option maxRecDepth 100000 in
set_option maxHeartbeats 8000000 in
theorem all2_any (v v' : Value) (rows rows' : Rows2) (w : World) (hv : RowsAt w v rows) (hv' : RowsAt w v' rows') (hn : bulk rows ≤ 1048576) (hn' : bulk rows' ≤ 1048576) :
    Calls Tryd.prog 34 #[.agg #[v], .agg #[v']] w (AllP rows rows' w) := by
  have h0 := Two.start w 26 26 hv hv'
  have hd1 := specDom_any _ rows _ h0.r0 hn
  have hc0 := h0.c0
  obtain ⟨A, C, rfl, _⟩ := hv
  obtain ⟨A', C', rfl, _⟩ := hv'
  have H0 := Lib.hid h0
  clear h0
  go_enter Tryd.func34, Tryd.ntmps34
  go_wp2_with fail
  refine hd1.mono ?_
  rintro e w1 ⟨rfl, hb1⟩
  have H1 := Lib.hid (H0.out.step hb1)
  have hc1 := H1.out.c1
  have hd2 := specDom_any _ rows' _ H1.out.r1 hn'
  clear hd1 hc0 hb1
  cases h1 : domB rows with
  | false =>
    have HE := Lib.hid (show funB rows rows' = false by unfold funB; rw [h1]; rfl)
    go_wp2
    go_ret2
    refine ⟨⟨_, _, _, by rw [HE.out]; rfl, fun h => by rw [HE.out] at h; cases h⟩, H1.out.below.alloc H1.out.below.size _⟩
  | true =>
    go_wp2_with fail
    refine hd2.mono ?_
    rintro e w2 ⟨rfl, hb2⟩
    have H2 := Lib.hid (H1.out.step hb2)
    clear hd2 hb2
    cases h2 : domB rows' with
    | false =>
      have HE := Lib.hid (show funB rows rows' = false by unfold funB; rw [h1, h2]; rfl)
      go_wp2
      go_ret2
      refine ⟨⟨_, _, _, by rw [HE.out]; rfl, fun h => by rw [HE.out] at h; cases h⟩, H2.out.below.alloc H2.out.below.size _⟩
    | true =>
      have hcA := H2.out.c0
      have hcB := H2.out.c1
      have hfc := funs_call _ _ rows rows' w2 H2.out.r0 H2.out.r1 h1 h2 200 (by omega)
      clear hc1
      go_wp2_with fail
      refine hfc.mono ?_
      rintro e w3 ⟨vo, rfl, ho, hb3⟩
      have B3 := Lib.hid (H2.out.below.trans (hb3.mono H2.out.below.size))
      obtain ⟨ao, Co, rfl⟩ := ho.form
      have hlen : ((funsR rows rows').take (200 + 1)).length = min (200 + 1) (funsR rows rows').length := List.length_take
      have HO := Lib.hid (ho.wider H2.out.below.size (Nat.le_refl _))
      clear hfc hb3 ho
      by_cases hfin : (funsR rows rows').length ≤ 200
      · have HE := Lib.hid (show funB rows rows' = true by unfold funB; rw [h1, h2, decide_eq_true hfin]; rfl)
        have htk : (funsR rows rows').take (200 + 1) = funsR rows rows' := List.take_of_length_le (by omega)
        rw [htk] at HO ⊢
        have hgt : ((funsR rows rows').length : Int) ≤ 200 := by omega
        clear hlen htk
        go_wp2
        go_ret2
        exact ⟨⟨_, _, _, by rw [HE.out]; rfl, fun _ => ⟨rfl, HO.out⟩⟩, B3.out⟩
      · have HE := Lib.hid (show funB rows rows' = false by unfold funB; rw [h1, h2, decide_eq_false hfin]; rfl)
        have hle : ((funsR rows rows').take (200 + 1)).length = 201 := by omega
        rw [hle]
        clear hlen hle HO
        go_wp2
        go_ret2
        exact ⟨⟨_, _, _, by rw [HE.out]; rfl, fun h => by rw [HE.out] at h; cases h⟩, B3.out⟩
end Go.Proofs.YtkhhbpeheikmfaaDoor
