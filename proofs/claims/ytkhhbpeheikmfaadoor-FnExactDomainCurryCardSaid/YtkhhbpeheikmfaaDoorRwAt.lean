/- A slice of rows (sets of elements) in memory, and its clone. -/
import Derived.Test.YtkhhbpeheikmfaaDoorRow
import Derived.Test.YtkhhbpeheikmfaaDoorAns
import Derived.Test.YtkhhbpeheikmfaaDoorTo
import Derived.Lib.SliceRun
namespace Go.Proofs.YtkhhbpeheikmfaaDoor
open Go.RowKit Go.Deep

/-- n rows O lie in block b from its start on. -/
def RwAt (W : World) (b n : Nat) (O : Nat → Nat) : Prop :=
  ∃ c : Array Value, W.heap[b]? = some (.cells c 92 (0, 0)) ∧ (∀ j i, j < n → i < 4 → c[j * 4 + i]? = some (.int .u64 ((word (O j) i : Nat) : Int))) ∧ ∀ j, j < n → O j < 2 ^ 256
theorem RwAt.lt {W : World} {b n : Nat} {O : Nat → Nat} (h : RwAt W b n O) : b < W.heap.size := by
  obtain ⟨c, h, _⟩ := h
  exact (Array.getElem?_eq_some_iff.1 h).1
theorem RwAt.block {W W' : World} {b n : Nat} {O : Nat → Nat} (h : RwAt W b n O) (e : W'.heap[b]? = W.heap[b]?) : RwAt W' b n O := by
  obtain ⟨c, h1, h2⟩ := h
  exact ⟨c, e.trans h1, h2⟩
theorem RwAt.below {W W' : World} {b n B : Nat} {O : Nat → Nat} (h : RwAt W b n O) (hb : Below B W W') (hB : b < B) : RwAt W' b n O := h.block (hb.block b hB)
theorem RwAt.congr {W : World} {b n : Nat} {O O' : Nat → Nat} (h : RwAt W b n O) (e : ∀ j, j < n → O j = O' j) : RwAt W b n O' := by
  obtain ⟨c, h1, h2, h3⟩ := h
  exact ⟨c, h1, fun j i hj hi => by rw [← e j hj]; exact h2 j i hj hi, fun j hj => by rw [← e j hj]; exact h3 j hj⟩
theorem RwAt.cells {W : World} {b n : Nat} {O : Nat → Nat} (h : RwAt W b n O) {j : Nat} (hj : j < n) :
    W.cell? ⟨b, j * 4, none⟩ = some (.int .u64 ((word (O j) 0 : Nat) : Int)) ∧ W.cell? ⟨b, j * 4 + 1, none⟩ = some (.int .u64 ((word (O j) 1 : Nat) : Int)) ∧ W.cell? ⟨b, j * 4 + 2, none⟩ = some (.int .u64 ((word (O j) 2 : Nat) : Int)) ∧ W.cell? ⟨b, j * 4 + 3, none⟩ = some (.int .u64 ((word (O j) 3 : Nat) : Int)) := by
  obtain ⟨c, h1, h2, _⟩ := h
  refine ⟨?_, ?_, ?_, ?_⟩
  · rw [cell_of_row W b _ _ _ _ h1]; simpa using h2 j 0 hj (by omega)
  · rw [cell_of_row W b _ _ _ _ h1]; exact h2 j 1 hj (by omega)
  · rw [cell_of_row W b _ _ _ _ h1]; exact h2 j 2 hj (by omega)
  · rw [cell_of_row W b _ _ _ _ h1]; exact h2 j 3 hj (by omega)
theorem RwAt.frozen {W : World} {b n : Nat} {O : Nat → Nat} (h : RwAt W b n O) (o : Nat) : W.frozen? ⟨b, o, none⟩ = false := by
  obtain ⟨c, h1, _⟩ := h
  exact frozen_of_row W b o _ _ h1
theorem RwAt.bits {W : World} {b n : Nat} {O : Nat → Nat} (h : RwAt W b n O) {j : Nat} (hj : j < n) : O j < 2 ^ 256 := by
  obtain ⟨c, _, _, h3⟩ := h
  exact h3 j hj
/-- A row is stored. -/
theorem RwAt.store {W : World} {b n : Nat} {O : Nat → Nat} (h : RwAt W b n O) {m X : Nat} (hX : X < 2 ^ 256) :
    RwAt ((((W.setCell ⟨b, m * 4, none⟩ (.int .u64 ((word X 0 : Nat) : Int))).setCell ⟨b, m * 4 + 1, none⟩ (.int .u64 ((word X 1 : Nat) : Int))).setCell ⟨b, m * 4 + 2, none⟩ (.int .u64 ((word X 2 : Nat) : Int))).setCell ⟨b, m * 4 + 3, none⟩ (.int .u64 ((word X 3 : Nat) : Int))) b n (fun q => if q = m then X else O q) := by
  obtain ⟨c, h1, h2, h3⟩ := h
  have e1 := heap_setCell_same W b (m * 4) c 92 (.int .u64 ((word X 0 : Nat) : Int)) h1
  have e2 := heap_setCell_same _ b (m * 4 + 1) _ 92 (.int .u64 ((word X 1 : Nat) : Int)) e1
  have e3 := heap_setCell_same _ b (m * 4 + 2) _ 92 (.int .u64 ((word X 2 : Nat) : Int)) e2
  have e4 := heap_setCell_same _ b (m * 4 + 3) _ 92 (.int .u64 ((word X 3 : Nat) : Int)) e3
  refine ⟨_, e4, fun j i hj hi => ?_, fun j hj => ?_⟩
  · have hold := h2 j i hj hi
    obtain ⟨hlt, _⟩ := Array.getElem?_eq_some_iff.1 hold
    by_cases e : j = m
    · subst e
      show _ = some (Value.int .u64 ((word (if j = j then X else O j) i : Nat) : Int))
      rw [if_pos rfl]
      simp only [Array.getElem?_setIfInBounds, Array.size_setIfInBounds]
      obtain rfl | rfl | rfl | rfl : i = 0 ∨ i = 1 ∨ i = 2 ∨ i = 3 := by omega
      · simp only [Nat.add_zero] at hlt ⊢
        rw [if_neg (by omega), if_neg (by omega), if_neg (by omega), if_pos trivial, if_pos hlt]
      · rw [if_neg (by omega), if_neg (by omega), if_pos rfl, if_pos hlt]
      · rw [if_neg (by omega), if_pos rfl, if_pos hlt]
      · rw [if_pos rfl, if_pos hlt]
    · show _ = some (Value.int .u64 ((word (if j = m then X else O j) i : Nat) : Int))
      rw [if_neg e]
      simp only [Array.getElem?_setIfInBounds]
      rw [if_neg (by omega), if_neg (by omega), if_neg (by omega), if_neg (by omega)]
      exact hold
  · show (if j = m then X else O j) < _
    split
    · exact hX
    · exact h3 j hj

/-- The cells of the rows, one behind the other. -/
def cellsRw (n : Nat) (O : Nat → Nat) : List Value := (List.range (n * 4)).map fun q => .int .u64 ((word (O (q / 4)) (q % 4) : Nat) : Int)
theorem cellsRw_len (n : Nat) (O : Nat → Nat) : (cellsRw n O).length = n * 4 := by unfold cellsRw; simp
theorem cellsRw_at {n : Nat} {O : Nat → Nat} {q : Nat} (h : q < n * 4) : (cellsRw n O)[q]? = some (.int .u64 ((word (O (q / 4)) (q % 4) : Nat) : Int)) := by
  unfold cellsRw
  rw [List.getElem?_map, List.getElem?_range h]
  rfl
theorem cellsRw_one (n : Nat) (O : Nat → Nat) : ∀ u ∈ cellsRw n O, u.oneCell' = true := by
  intro u hu
  unfold cellsRw at hu
  obtain ⟨_, _, rfl⟩ := List.mem_map.1 hu
  rfl
theorem RwAt.news {W : World} {b n : Nat} {O : Nat → Nat} (h : RwAt W b n O) : ∀ j u, (cellsRw n O)[j]? = some u → W.cell? ((⟨b, 0, none⟩ : Addr).add j) = some u := fun j u hj => by
  have hlt : j < n * 4 := by rw [← cellsRw_len n O]; exact (List.getElem?_eq_some_iff.1 hj).1
  rw [cellsRw_at hlt] at hj
  obtain ⟨c, h1, h2, _⟩ := h
  rw [Addr.add_lit, Nat.zero_add, cell_of_row W b _ _ _ _ h1]
  have := h2 (j / 4) (j % 4) (by omega) (by omega)
  rw [show j / 4 * 4 + j % 4 = j by omega] at this
  rw [this]
  exact hj
theorem RwAt.of_owns {W : World} {base n : Nat} {v : Value} {O : Nat → Nat} (h : W.ownsRow base 92 4 v n (cellsRw n O)) (hn : 0 < n) (hO : ∀ j, j < n → O j < 2 ^ 256) : ∃ g C, v = .slice (some ⟨g, 0, none⟩) n C ∧ base ≤ g ∧ RwAt W g n O := by
  obtain ⟨_, ⟨_, h0⟩ | ⟨g, cap, cur, rfl, h1, h2, h3, h4, h5, h6⟩⟩ := h
  · omega
  · refine ⟨g, cap, rfl, h1, cur, h2, fun j i hj hi => ?_, hO⟩
    have hq : j * 4 + i < n * 4 := by omega
    have e := cellsRw_at (O := O) hq
    rw [← h6, List.getElem?_take, if_pos hq, Array.getElem?_toList] at e
    rw [e, show (j * 4 + i) / 4 = j by omega, show (j * 4 + i) % 4 = i by omega]

theorem infoRow : (Tryd.prog.info? 92).map (fun i => (i.zero, i.size, i.bytes)) = some (some (.agg #[.int .u64 0, .int .u64 0, .int .u64 0, .int .u64 0]), 4, 32) := by kernel_rfl

set_option maxRecDepth 100000 in
set_option maxHeartbeats 4000000 in
theorem cloneRows_any (b n C : Nat) (O : Nat → Nat) (w : World) (h : RwAt w b n O) (hn : 0 < n) (hn2 : n ≤ 200) :
    Calls Tryd.prog 98 #[.slice (some ⟨b, 0, none⟩) n C] w fun e w' => ∃ g C', e = .returned (.slice (some ⟨g, 0, none⟩) n C') ∧ w.heap.size ≤ g ∧ RwAt w' g n O ∧ Below w.heap.size w w' := by
  have hbA := (Below.refl w.heap.size w).alloc (Nat.le_refl _) (.cells #[] 92)
  have HNEWS := Lib.hid (h.below hbA h.lt).news
  have HO := Lib.hid (fun j (hj : j < n) => h.bits hj)
  have HMADE := Lib.hid (World.ownsRow_made (e := 92) (size := 4) w #[] 0 (base := w.heap.size) (Nat.le_refl _) (Nat.zero_le _) (by simp))
  have HBA := Lib.hid hbA
  obtain ⟨i0, hi0, hz0, hz1, hz2⟩ := info_parts infoRow
  have hq := fun w => Lib.run_eql_slice_nil (P := Tryd.prog) w 105 92 (some ⟨b, 0, none⟩) n C 0 0 Tryd.underlying105
  clear h hbA
  go_enter Tryd.func98, Tryd.ntmps98
  go_wp2_with (at_builtin; refine wpList_append_own _ rfl _ _ 105 rfl w.heap.size 92 i0 (.agg #[.int .u64 0, .int .u64 0, .int .u64 0, .int .u64 0]) 4 32 Tryd.underlying105 hi0 hz0 hz1 hz2 rfl (by decide) _ _ _ rfl HMADE.out ⟨b, 0, none⟩ n C (cellsRw n O) rfl (cellsRw_len n O) HNEWS.out (cellsRw_one n O) (by unfold maxLen; omega) (by omega) (by simp) ?_; intro v1 w3 hown1 hgrow1 _; rw [List.nil_append, Nat.zero_add] at hown1; obtain ⟨g, C', rfl, hg, hrw⟩ := RwAt.of_owns hown1 hn HO.out; have HB3 : Hid (Below w.heap.size w w3) := Lib.hid (HBA.out.grown hgrow1 HBA.out.size (fun b e => (HMADE.out.lt b e).1)); have HRW := Lib.hid hrw; clear hown1 hgrow1 hrw)
  go_ret
  exact ⟨g, C', rfl, hg, HRW.out, HB3.out⟩
end Go.Proofs.YtkhhbpeheikmfaaDoor
