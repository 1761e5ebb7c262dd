/- A row of bits as an ascending list of numbers; orders as grids of bits: least elements, joins, orders turned round. Plain facts. -/
import Derived.Test.YtkhhbpeheikmfaaDoorGridPure
namespace Go.Proofs.YtkhhbpeheikmfaaDoor
open Go

/-- A word without its lowest bit. -/
theorem testBit_clear {x : Nat} (hx0 : x ≠ 0) (hx : x < 2 ^ 64) (j : Nat) : (x &&& (x - 1)).testBit j = (x.testBit j && !decide (j = Lib.ctz 64 x)) := by
  obtain ⟨m, hm, _⟩ := Lib.ctzFrom_spec 64 x (by omega) hx
  have e : Lib.ctz 64 x = Lib.ctzFrom 64 x := by unfold Lib.ctz; rw [if_neg hx0]
  rw [e]
  generalize Lib.ctzFrom 64 x = k at hm
  have hp := Nat.two_pow_pos k
  have h1 : x - 1 = 2 ^ k * (2 * m) + (2 ^ k - 1) := by rw [hm, Nat.mul_add]; omega
  have h2 : x = 2 ^ k * (2 * m + 1) + 0 := hm
  rw [Nat.testBit_and, h1, h2, Nat.testBit_two_pow_mul_add _ (by omega), Nat.testBit_two_pow_mul_add _ (by omega)]
  by_cases hj : j < k
  · simp [hj]
  · rw [if_neg hj, if_neg hj]
    by_cases e2 : j = k
    · subst e2; simp
    · obtain ⟨d, hd⟩ : ∃ d, j - k = d + 1 := ⟨j - k - 1, by omega⟩
      rw [hd, decide_eq_false e2]
      simp only [Nat.testBit_succ, Bool.not_false, Bool.and_true]
      rw [show (2 * m + 1) / 2 = m by omega, show 2 * m / 2 = m by omega, Bool.and_self]
theorem clear_lt {x : Nat} (hx0 : x ≠ 0) : x &&& (x - 1) < x := by
  have := Nat.and_le_right (n := x) (m := x - 1)
  omega

/-- The bits of a word, ascending. -/
def bitsW (x : Nat) : List Nat := (List.range 64).filter fun b => x.testBit b
theorem bitsW_zero : bitsW 0 = [] := by unfold bitsW; simp
theorem bitsW_cons {x : Nat} (hx0 : x ≠ 0) (hx : x < 2 ^ 64) : bitsW x = Lib.ctz 64 x :: bitsW (x &&& (x - 1)) := by
  obtain ⟨h1, h2, h3⟩ := ctz_low x hx0 hx
  have hc := testBit_clear hx0 hx
  unfold bitsW
  generalize Lib.ctz 64 x = k at h1 h2 h3 hc
  have hr : List.range 64 = List.range k ++ k :: (List.range (63 - k)).map (k + 1 + ·) := by
    have e : 64 = k + (1 + (63 - k)) := by omega
    rw [e, List.range_add, List.range_add, List.map_append, List.map_map]
    simp only [List.range_one, List.map_cons, List.map_nil, Nat.add_zero, List.cons_append, List.nil_append]
    congr 2
    apply List.map_congr_left
    intro a _
    simp only [Function.comp]
    omega
  rw [hr, List.filter_append, List.filter_append, List.filter_cons, List.filter_cons]
  have e1 : (List.range k).filter (fun b => x.testBit b) = [] := by
    rw [List.filter_eq_nil_iff]
    intro a ha
    rw [h2 a (by simpa using ha)]
    simp
  have e2 : (List.range k).filter (fun b => (x &&& (x - 1)).testBit b) = [] := by
    rw [List.filter_eq_nil_iff]
    intro a ha
    rw [hc, h2 a (by simpa using ha)]
    simp
  rw [e1, e2, if_pos h1, if_neg (by rw [hc]; simp)]
  simp only [List.nil_append, List.cons.injEq, true_and]
  apply List.filter_congr
  intro a ha
  have : a ≠ k := by
    obtain ⟨b, _, rfl⟩ := List.mem_map.1 ha
    omega
  rw [hc, decide_eq_false this]
  simp

/-- The numbers of a row, ascending. -/
def elems (r : Nat) : List Nat := (List.range 256).filter fun b => r.testBit b
/-- Those that stand in words from j on. -/
def tailW (r j : Nat) : List Nat := ((List.range (4 - j)).map fun i => (bitsW (word r (j + i))).map (64 * (j + i) + ·)).flatten
theorem tailW_step {r j : Nat} (hj : j < 4) : tailW r j = (bitsW (word r j)).map (64 * j + ·) ++ tailW r (j + 1) := by
  unfold tailW
  rw [show 4 - j = (4 - (j + 1)) + 1 by omega, List.range_succ_eq_map, List.map_cons, List.flatten_cons, List.map_map]
  congr 2
  apply List.map_congr_left
  intro a _
  simp only [Function.comp, show j + (a.succ) = j + 1 + a by omega]
theorem tailW_done (r : Nat) : tailW r 4 = [] := by simp [tailW]
theorem elems_words (r : Nat) : elems r = tailW r 0 := by
  have key : ∀ n, (List.range (64 * n)).filter (fun b => r.testBit b) = ((List.range n).map fun i => (bitsW (word r i)).map (64 * i + ·)).flatten := by
    intro n
    induction n with
    | zero => simp
    | succ n ih =>
      rw [Nat.mul_succ, List.range_add, List.filter_append, ih, List.range_succ (n := n), List.map_append (l₁ := List.range n), List.flatten_append]
      congr 1
      simp only [List.map_cons, List.map_nil, List.flatten_cons, List.flatten_nil, List.append_nil]
      unfold bitsW
      rw [List.filter_map]
      congr 1
      apply List.filter_congr
      intro a ha
      have : a < 64 := by simpa using ha
      rw [testBit_word]
      simp [this]
  have := key 4
  unfold elems tailW
  simpa using this
theorem mem_elems {r k : Nat} (hr : r < 2 ^ 256) : k ∈ elems r ↔ r.testBit k = true := by
  unfold elems
  rw [List.mem_filter, List.mem_range]
  constructor
  · exact fun h => h.2
  · intro h
    refine ⟨?_, h⟩
    by_cases hk : k < 256
    · exact hk
    · rw [Nat.testBit_lt_two_pow (Nat.lt_of_lt_of_le hr (Nat.pow_le_pow_right (by decide) (by omega)))] at h
      cases h


/-! ### A row of bits as a list of numbers -/
theorem elems_pairwise (r : Nat) : (elems r).Pairwise (· < ·) := by
  unfold elems
  exact List.Pairwise.filter _ List.pairwise_lt_range
theorem sorted_ext : ∀ {l m : List Nat}, l.Pairwise (· < ·) → m.Pairwise (· < ·) → (∀ x, x ∈ l ↔ x ∈ m) → l = m
  | [], [], _, _, _ => rfl
  | [], y :: m, _, _, h => absurd ((h y).2 (by simp)) (by simp)
  | x :: l, [], _, _, h => absurd ((h x).1 (by simp)) (by simp)
  | x :: l, y :: m, hl, hm, h => by
    rw [List.pairwise_cons] at hl hm
    have e : x = y := by
      rcases List.mem_cons.1 ((h x).1 (by simp)) with e | e
      · exact e
      · rcases List.mem_cons.1 ((h y).2 (by simp)) with e2 | e2
        · exact e2.symm
        · have := hm.1 x e; have := hl.1 y e2; omega
    subst e
    congr 1
    refine sorted_ext hl.2 hm.2 fun z => ⟨fun hz => ?_, fun hz => ?_⟩
    · rcases List.mem_cons.1 ((h z).1 (List.mem_cons_of_mem _ hz)) with e | e
      · have := hl.1 z hz; omega
      · exact e
    · rcases List.mem_cons.1 ((h z).2 (List.mem_cons_of_mem _ hz)) with e | e
      · have := hm.1 z hz; omega
      · exact e
theorem asc_pairwise {l : List Int} (h : Asc l) (h0 : ∀ x ∈ l, 0 ≤ x) : (l.map Int.toNat).Pairwise (· < ·) := by
  rw [List.pairwise_iff_getElem]
  intro i j hi hj hij
  simp only [List.length_map] at hi hj
  have h1 := h i j hij hj
  have h2 := h0 _ (List.getElem_mem hi)
  have h3 := h0 _ (List.getElem_mem hj)
  simp only [List.getElem_map]
  omega
theorem elems_bitsOf {l : List Int} (h : Asc l) (h0 : ∀ x ∈ l, 0 ≤ x ∧ x < 256) : elems (bitsOf l) = l.map Int.toNat := by
  refine sorted_ext (elems_pairwise _) (asc_pairwise h fun x hx => (h0 x hx).1) fun x => ?_
  rw [mem_elems (bitsOf_lt fun x hx => (h0 x hx).2), testBit_bitsOf (fun x hx => (h0 x hx).1), decide_eq_true_iff, List.mem_map]
  constructor
  · exact fun hx => ⟨_, hx, by omega⟩
  · rintro ⟨y, hy, rfl⟩
    rwa [Int.toNat_of_nonneg (h0 y hy).1]
theorem elems_and (r s : Nat) : elems (r &&& s) = (elems r).filter (fun k => s.testBit k) := by
  unfold elems
  rw [List.filter_filter]
  apply List.filter_congr
  intro k _
  rw [Nat.testBit_and, Bool.and_comm]
theorem elems_inj {r s : Nat} (hr : r < 2 ^ 256) (hs : s < 2 ^ 256) (h : elems r = elems s) : r = s := by
  apply Nat.eq_of_testBit_eq
  intro i
  rw [Bool.eq_iff_iff, ← mem_elems hr, ← mem_elems hs, h]

/-! ### A valid order -/
structure Ok (rows : List (List Int)) : Prop where
  len : 1 ≤ rows.length ∧ rows.length ≤ 200
  asc : ∀ i (hi : i < rows.length), Asc rows[i] ∧ ∀ x ∈ rows[i], 0 ≤ x ∧ x < rows.length
  own : ∀ i, i < rows.length → (gridF rows i).testBit i = true
  anti : ∀ i j, i < rows.length → (gridF rows i).testBit j = true → j ≠ i → (gridF rows j).testBit i = false
  trans : ∀ i j, i < rows.length → (gridF rows i).testBit j = true → ∀ m, (gridF rows j).testBit m = true → (gridF rows i).testBit m = true

theorem gridF_lt {rows : List (List Int)} (h : ∀ i (hi : i < rows.length), Asc rows[i] ∧ ∀ x ∈ rows[i], 0 ≤ x ∧ x < rows.length) (hn : rows.length ≤ 200) (i : Nat) : gridF rows i < 2 ^ 256 := by
  by_cases hi : i < rows.length
  · unfold gridF
    rw [getD_at [] hi]
    exact bitsOf_lt fun x hx => by have := (h i hi).2 x hx; omega
  · rw [gridF_out rows (by omega)]
    exact Nat.two_pow_pos 256
theorem Ok.lt {rows : List (List Int)} (h : Ok rows) (i : Nat) : gridF rows i < 2 ^ 256 := gridF_lt h.asc h.len.2 i
theorem Ok.bit {rows : List (List Int)} (h : Ok rows) {i : Nat} (hi : i < rows.length) (j : Nat) : (gridF rows i).testBit j = decide ((j : Int) ∈ rows[i]) :=
  grid_bit hi ((ascB_iff _ _).2 (h.asc i hi)) j
theorem Ok.bit_lt {rows : List (List Int)} (h : Ok rows) {i j : Nat} (hj : (gridF rows i).testBit j = true) : i < rows.length ∧ j < rows.length := by
  by_cases hi : i < rows.length
  · rw [h.bit hi, decide_eq_true_iff] at hj
    have := (h.asc i hi).2 _ hj
    exact ⟨hi, by omega⟩
  · rw [gridF_out rows (by omega)] at hj; simp at hj
theorem Ok.elems {rows : List (List Int)} (h : Ok rows) {i : Nat} (hi : i < rows.length) : rows[i] = (elems (gridF rows i)).map (fun k : Nat => (k : Int)) := by
  unfold gridF
  rw [getD_at [] hi, elems_bitsOf (h.asc i hi).1 (fun x hx => by have := (h.asc i hi).2 x hx; have := h.len; omega), List.map_map]
  have : ∀ x ∈ rows[i], ((fun k : Nat => (k : Int)) ∘ Int.toNat) x = x := fun x hx => by
    have := (h.asc i hi).2 x hx
    simp only [Function.comp]; omega
  rw [List.map_congr_left this]
  simp
theorem Ok.up {rows : List (List Int)} (h : Ok rows) {i : Nat} (hi : i < rows.length) (j : Nat) : upB rows i j = (gridF rows i).testBit j := by
  rw [h.bit hi]; unfold upB; rw [getD_at [] hi]

theorem ok_of_valid {rows : List (List Int)} (h : validB rows = true) : Ok rows := by
  have hl := valid_lists h
  have hv : ∀ i, i < rows.length → GoodAt rows i := by
    classical
    unfold validB at h
    exact (of_decide_eq_true h).2
  have hasc := fun i hi => lists_at hl i hi
  have hb : ∀ {i : Nat} (hi : i < rows.length) (j : Nat), (gridF rows i).testBit j = decide ((j : Int) ∈ rows[i]) := fun hi j => grid_bit hi ((ascB_iff _ _).2 (hasc _ hi)) j
  have hlt : ∀ {i j : Nat} (hi : i < rows.length), (gridF rows i).testBit j = true → j < rows.length := fun {i j} hi hj => by
    rw [hb hi, decide_eq_true_iff] at hj
    have := (hasc i hi).2 _ hj
    omega
  refine ⟨lists_len hl, hasc, fun i hi => ?_, fun i j hi hj hne => ?_, fun i j hi hj m hm => ?_⟩
  · have := (hv i hi).1
    rw [getD_at [] hi] at this
    rw [hb hi]; exact decide_eq_true this
  · have hjl := hlt hi hj
    rw [hb hi, decide_eq_true_iff] at hj
    have := ((hv i hi).2 j (by rw [getD_at [] hi]; exact hj)).1 (by omega)
    rw [Int.toNat_natCast, getD_at [] hjl] at this
    rw [hb hjl]; exact decide_eq_false this
  · have hjl := hlt hi hj
    rw [hb hi, decide_eq_true_iff] at hj
    rw [hb hjl, decide_eq_true_iff] at hm
    have := ((hv i hi).2 j (by rw [getD_at [] hi]; exact hj)).2 m (by rw [Int.toNat_natCast, getD_at [] hjl]; exact hm)
    rw [getD_at [] hi] at this
    rw [hb hi]; exact decide_eq_true this
theorem valid_of_ok {rows : List (List Int)} (h : Ok rows) : validB rows = true := by
  refine valid_yes ?_ fun i hi => ⟨?_, fun j hj => ⟨fun hne => ?_, fun m hm => ?_⟩⟩
  · rw [listsB_all fun i hi => (ascB_iff _ _).2 (h.asc i hi), Bool.and_eq_true, decide_eq_true_iff, decide_eq_true_iff]
    have := h.len; omega
  · have := h.own i hi
    rw [h.bit hi] at this
    rw [getD_at [] hi]; exact of_decide_eq_true this
  · rw [getD_at [] hi] at hj
    have h0 := (h.asc i hi).2 j hj
    have hb := h.anti i j.toNat hi (by rw [h.bit hi, Int.toNat_of_nonneg h0.1]; exact decide_eq_true hj) (by omega)
    rw [h.bit (by omega)] at hb
    rw [getD_at [] (by omega)]; exact of_decide_eq_false hb
  · rw [getD_at [] hi] at hj ⊢
    have h0 := (h.asc i hi).2 j hj
    rw [getD_at [] (by omega)] at hm
    have h1 := (h.asc j.toNat (by omega)).2 m hm
    have hb := h.trans i j.toNat hi (by rw [h.bit hi, Int.toNat_of_nonneg h0.1]; exact decide_eq_true hj) m.toNat (by rw [h.bit (by omega), Int.toNat_of_nonneg h1.1]; exact decide_eq_true hm)
    rw [h.bit hi, Int.toNat_of_nonneg h1.1] at hb
    exact of_decide_eq_true hb

/-- The first element of a set whose row is the set itself, or -1. -/
def bottomF (g : Nat → Nat) (s : Nat) : Int := match (elems s).find? (fun k => g k == s) with | some k => (k : Int) | none => -1
/-- The set of the first n numbers. -/
def allF : Nat → Nat
  | 0 => 0
  | n + 1 => put (allF n) n
theorem testBit_allF (n i : Nat) : (allF n).testBit i = decide (i < n) := by
  induction n with
  | zero => simp [allF]
  | succ n ih =>
    unfold allF
    rw [testBit_put, ih, Bool.eq_iff_iff]
    simp only [Bool.or_eq_true, decide_eq_true_eq]
    omega
theorem allF_lt {n : Nat} (h : n ≤ 256) : allF n < 2 ^ 256 := by
  induction n with
  | zero => exact Nat.two_pow_pos 256
  | succ n ih => exact put_lt (ih (by omega)) (by omega)
theorem elems_allF {n : Nat} (h : n ≤ 256) : elems (allF n) = List.range n :=
  sorted_ext (elems_pairwise _) List.pairwise_lt_range fun x => by rw [mem_elems (allF_lt h), testBit_allF, decide_eq_true_iff, List.mem_range]

theorem find?_congr_mem {α : Type} {p q : α → Bool} : ∀ {l : List α}, (∀ x ∈ l, p x = q x) → l.find? p = l.find? q
  | [], _ => rfl
  | x :: l, h => by
    rw [List.find?_cons, List.find?_cons, h x (by simp), find?_congr_mem fun y hy => h y (by simp [hy])]

theorem full_iff {rows : List (List Int)} (h : Ok rows) {i : Nat} (hi : i < rows.length) : rows[i].length = rows.length ↔ gridF rows i = allF rows.length := by
  have hn := h.len
  have e := h.elems hi
  have hsub : elems (gridF rows i) = (List.range rows.length).filter (fun k => (gridF rows i).testBit k) :=
    sorted_ext (elems_pairwise _) (List.Pairwise.filter _ List.pairwise_lt_range) fun x => by
      rw [mem_elems (h.lt i), List.mem_filter, List.mem_range]
      exact ⟨fun hx => ⟨(h.bit_lt hx).2, hx⟩, fun hx => hx.2⟩
  have hlen : rows[i].length = (elems (gridF rows i)).length := by rw [e, List.length_map]
  constructor
  · intro hl
    refine elems_inj (h.lt i) (allF_lt (by omega)) ?_
    rw [elems_allF (by omega), hsub]
    rw [hlen, hsub] at hl
    exact List.filter_eq_self.2 ((List.length_filter_eq_length_iff).1 (by rw [hl, List.length_range]))
  · intro he
    rw [hlen, he, elems_allF (by omega), List.length_range]

/-- The model's least element is the program's. -/
def leastI (rows : List (List Int)) : Int :=
  match (List.range rows.length).find? (fun i => (rows.getD i []).length == rows.length) with
  | some i => (i : Int)
  | none => -1
theorem least_eq {rows : List (List Int)} (h : Ok rows) : leastI rows = bottomF (gridF rows) (allF rows.length) := by
  unfold leastI bottomF
  rw [elems_allF (by have := h.len; omega), find?_congr_mem (q := fun k => gridF rows k == allF rows.length)]
  intro i hi
  have hi' : i < rows.length := by simpa using hi
  rw [getD_at [] hi', Bool.eq_iff_iff, beq_iff_eq, beq_iff_eq]
  exact full_iff h hi'

/-- The model's join. -/
def joinTest (rows : List (List Int)) (a b : Nat) (c : Int) : Bool := upB rows b c && (rows.getD a []).all fun e => !upB rows b e || upB rows c.toNat e
def joinI (rows : List (List Int)) (a b : Nat) : Int := match (rows.getD a []).find? (joinTest rows a b) with | some c => c | none => -1

theorem find?_map' {α β : Type} (f : α → β) (p : β → Bool) : ∀ l : List α, (l.map f).find? p = (l.find? (fun x => p (f x))).map f
  | [] => rfl
  | x :: l => by
    rw [List.map_cons, List.find?_cons, List.find?_cons]
    cases p (f x) with
    | true => rfl
    | false => exact find?_map' f p l
theorem find?_filter' {α : Type} (p q : α → Bool) : ∀ l : List α, (l.filter p).find? q = l.find? (fun x => p x && q x)
  | [] => rfl
  | x :: l => by
    rw [List.filter_cons, List.find?_cons]
    cases hp : p x with
    | true =>
      rw [if_pos rfl, List.find?_cons, find?_filter' p q l]
      cases q x <;> simp
    | false =>
      rw [if_neg (by simp), find?_filter' p q l]
      simp

theorem join_eq {rows : List (List Int)} (h : Ok rows) {a b : Nat} (ha : a < rows.length) (hb : b < rows.length) : joinI rows a b = bottomF (gridF rows) (gridF rows a &&& gridF rows b) := by
  unfold joinI bottomF
  rw [elems_and, find?_filter', getD_at [] ha, h.elems ha, find?_map', find?_congr_mem (q := fun k => (gridF rows b).testBit k && (gridF rows k == gridF rows a &&& gridF rows b))]
  · cases (elems (gridF rows a)).find? (fun k => (gridF rows b).testBit k && (gridF rows k == gridF rows a &&& gridF rows b)) <;> rfl
  · intro k hk
    rw [mem_elems (h.lt a)] at hk
    have hkl := (h.bit_lt hk).2
    unfold joinTest
    rw [h.up hb k]
    cases hbk : (gridF rows b).testBit k with
    | false => rfl
    | true =>
      rw [Bool.true_and, Bool.true_and, getD_at [] ha, h.elems ha, Bool.eq_iff_iff, List.all_eq_true, beq_iff_eq]
      simp only [List.mem_map, forall_exists_index, and_imp, Bool.or_eq_true, Bool.not_eq_true', Int.toNat_natCast]
      constructor
      · intro hall
        apply Nat.eq_of_testBit_eq
        intro m
        rw [Nat.testBit_and]
        cases hm : (gridF rows a).testBit m && (gridF rows b).testBit m with
        | true =>
          rw [Bool.and_eq_true] at hm
          have := hall m m ((mem_elems (h.lt a)).2 hm.1) rfl
          rw [h.up hb, h.up hkl, hm.2] at this
          simpa using this
        | false =>
          cases hkm : (gridF rows k).testBit m with
          | false => rfl
          | true =>
            rw [h.trans a k ha hk m hkm, h.trans b k hb hbk m hkm] at hm
            cases hm
      · intro he c m hm hc
        subst hc
        rw [mem_elems (h.lt a)] at hm
        rw [h.up hb, h.up hkl, he, Nat.testBit_and, hm, Bool.true_and]
        cases (gridF rows b).testBit m <;> simp

/-! ### Turned round -/
def backRow (rows : List (List Int)) (k : Nat) : List Int := ((List.range rows.length).filter fun i => (gridF rows i).testBit k).map (fun i : Nat => (i : Int))
def backRows (rows : List (List Int)) : List (List Int) := (List.range rows.length).map (backRow rows)
theorem backRows_len (rows : List (List Int)) : (backRows rows).length = rows.length := by unfold backRows; simp
theorem backRows_at {rows : List (List Int)} {k : Nat} (hk : k < (backRows rows).length) : (backRows rows)[k] = backRow rows k := by simp [backRows]
theorem backRow_asc (rows : List (List Int)) (k : Nat) : Asc (backRow rows k) ∧ ∀ x ∈ backRow rows k, 0 ≤ x ∧ x < rows.length := by
  have hp : ((List.range rows.length).filter fun i => (gridF rows i).testBit k).Pairwise (· < ·) := List.Pairwise.filter _ List.pairwise_lt_range
  refine ⟨fun i j hij hj => ?_, fun x hx => ?_⟩
  · unfold backRow at hj ⊢
    rw [List.length_map] at hj
    rw [List.getElem_map, List.getElem_map]
    have := (List.pairwise_iff_getElem.1 hp) i j (by omega) hj hij
    omega
  · unfold backRow at hx
    obtain ⟨i, hi, rfl⟩ := List.mem_map.1 hx
    have := (List.mem_filter.1 hi).1
    rw [List.mem_range] at this
    omega
theorem back_bit {rows : List (List Int)} (h : Ok rows) (k i : Nat) : (gridF (backRows rows) k).testBit i = (gridF rows i).testBit k := by
  by_cases hk : k < rows.length
  · have hk' : k < (backRows rows).length := by rw [backRows_len]; exact hk
    rw [grid_bit hk' (by rw [backRows_at, backRows_len, ascB_iff]; exact backRow_asc rows k), backRows_at, Bool.eq_iff_iff, decide_eq_true_iff]
    unfold backRow
    constructor
    · intro hi
      obtain ⟨j, hj, e⟩ := List.mem_map.1 hi
      obtain rfl : j = i := by omega
      exact (List.mem_filter.1 hj).2
    · intro hi
      exact List.mem_map.2 ⟨i, List.mem_filter.2 ⟨List.mem_range.2 (h.bit_lt hi).1, hi⟩, rfl⟩
  · rw [gridF_out _ (by rw [backRows_len]; omega), Nat.zero_testBit]
    cases hi : (gridF rows i).testBit k with
    | false => rfl
    | true => exact absurd (h.bit_lt hi).2 hk
theorem Ok.back {rows : List (List Int)} (h : Ok rows) : Ok (backRows rows) := by
  refine ⟨by rw [backRows_len]; exact h.len, fun i hi => by rw [backRows_at, backRows_len]; exact backRow_asc rows i, fun i hi => ?_, fun i j hi hj hne => ?_, fun i j hi hj m hm => ?_⟩
  · rw [back_bit h]; exact h.own i (by rw [backRows_len] at hi; exact hi)
  · rw [back_bit h] at hj ⊢
    cases hb : (gridF rows i).testBit j with
    | false => rfl
    | true => rw [h.anti i j (h.bit_lt hb).1 hb hne] at hj; cases hj
  · rw [back_bit h] at hj hm ⊢
    exact h.trans m j (h.bit_lt hm).1 hm i hj

/-! ### Domains -/
def boundedI (rows : List (List Int)) (a b : Nat) : Bool := (rows.getD a []).any fun c => upB rows b c
theorem bounded_eq {rows : List (List Int)} (h : Ok rows) {a b : Nat} (ha : a < rows.length) (hb : b < rows.length) : boundedI rows a b = !decide (gridF rows a &&& gridF rows b = 0) := by
  unfold boundedI
  rw [getD_at [] ha, h.elems ha, Bool.eq_iff_iff, List.any_eq_true, Bool.not_eq_true', decide_eq_false_iff_not]
  constructor
  · rintro ⟨c, hc, hu⟩ e
    obtain ⟨k, hk, rfl⟩ := List.mem_map.1 hc
    rw [mem_elems (h.lt a)] at hk
    rw [h.up hb] at hu
    have : (gridF rows a &&& gridF rows b).testBit k = true := by rw [Nat.testBit_and, hk, hu]; rfl
    rw [e, Nat.zero_testBit] at this
    cases this
  · intro hne
    obtain ⟨k, hk⟩ := Nat.exists_testBit_of_ne_zero hne
    rw [Nat.testBit_and, Bool.and_eq_true] at hk
    exact ⟨k, List.mem_map.2 ⟨k, (mem_elems (h.lt a)).2 hk.1, rfl⟩, by rw [h.up hb]; exact hk.2⟩
end Go.Proofs.YtkhhbpeheikmfaaDoor
