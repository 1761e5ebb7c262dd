/- Domains told by bits; orders made of a relation; meets in domains. Plain facts: no function is walked here. -/
import Derived.Test.YtkomghohdhengaaDoorPc21
import Derived.Test.YtkomghohdhengaaDoorPc19
import Derived.Test.YtkomghohdhengaaDoorPc8
import Derived.Test.YtkomghohdhengaaDoorPc13
import Derived.Test.YtkomghohdhengaaDoorPc9
import Derived.Test.YtkomghohdhengaaDoorPc1
import Derived.Test.YtkomghohdhengaaDoorPc10
import Derived.Maps.AppendAt
import Derived.Test.YtkomghohdhengaaDoorPc2
import Derived.Test.YtkomghohdhengaaDoorPc5
import Derived.Deep.RegionLaw
import Derived.Deep.AppendLies
import Derived.Lib.QuietBelow
import Derived.BigQuiet
namespace Go.Proofs.YtkomghohdhengaaDoor
open Go.RowKit Go.Deep

theorem bottomF_pos {g : Nat → Nat} {s : Nat} (hs : s < 2 ^ 256) : 0 ≤ bottomF g s ↔ ∃ k, s.testBit k = true ∧ g k = s := by
  unfold bottomF
  cases hf : (elems s).find? (fun k => g k == s) with
  | none =>
    rw [List.find?_eq_none] at hf
    constructor
    · intro h
      exact absurd h (by decide)
    · rintro ⟨k, hk, e⟩
      exact absurd (beq_iff_eq.2 e) (hf k ((mem_elems hs).2 hk))
  | some k =>
    have h1 := List.find?_some hf
    have h2 := List.mem_of_find?_eq_some hf
    exact ⟨fun _ => ⟨k, (mem_elems hs).1 h2, beq_iff_eq.1 h1⟩, fun _ => Int.natCast_nonneg k⟩

/-- A domain, told by bits. -/
def DomBits (rows : Rows2) : Prop := (∃ m, m < rows.length ∧ gridF rows m = allF rows.length) ∧ ∀ a b, a < rows.length → b < rows.length → gridF rows a &&& gridF rows b ≠ 0 → ∃ c, c < rows.length ∧ gridF rows c = gridF rows a &&& gridF rows b
theorem domI_iff {rows : Rows2} (h : Ok rows) : domI rows = true ↔ DomBits rows := by
  have hn := h.len
  have hbad : ∀ a b, a < rows.length → b < rows.length → (badB rows a b = false ↔ (gridF rows a &&& gridF rows b ≠ 0 → ∃ c, c < rows.length ∧ gridF rows c = gridF rows a &&& gridF rows b)) := by
    intro a b ha hb
    have hlt : gridF rows a &&& gridF rows b < 2 ^ 256 := Nat.and_lt_two_pow _ (h.lt b)
    have hpos := bottomF_pos (g := gridF rows) hlt
    rw [← badF_eq h ha hb]
    unfold badF
    rw [Bool.and_eq_false_iff, Bool.not_eq_false', decide_eq_true_iff, decide_eq_false_iff_not]
    constructor
    · rintro (e | e) h0
      · exact absurd e h0
      · obtain ⟨k, hk, e2⟩ := hpos.1 (by omega)
        rw [Nat.testBit_and, Bool.and_eq_true] at hk
        exact ⟨k, (h.bit_lt hk.1).2, e2⟩
    · intro hi
      by_cases e : gridF rows a &&& gridF rows b = 0
      · exact .inl e
      · obtain ⟨c, hc, e2⟩ := hi e
        right
        have := hpos.2 ⟨c, by rw [← e2]; exact h.own c hc, e2⟩
        omega
  have hl : 0 ≤ leastI rows ↔ ∃ m, m < rows.length ∧ gridF rows m = allF rows.length := by
    rw [least_eq h, bottomF_pos (allF_lt (by omega))]
    constructor
    · rintro ⟨k, hk, e⟩
      rw [testBit_allF, decide_eq_true_iff] at hk
      exact ⟨k, hk, e⟩
    · rintro ⟨m, hm, e⟩
      exact ⟨m, by rw [testBit_allF]; exact decide_eq_true hm, e⟩
  constructor
  · intro hd
    have h1 : 0 ≤ leastI rows := by
      rcases Int.lt_or_le (leastI rows) 0 with h1 | h1
      · rw [domI_least h1] at hd; cases hd
      · exact h1
    refine ⟨hl.1 h1, fun a b ha hb hne => ?_⟩
    have hb' : ∀ a b, a < rows.length → b < a → badB rows a b = false := fun a b ha hb => by
      cases hq : badB rows a b with
      | false => rfl
      | true => rw [domI_bad ha hb hq] at hd; cases hd
    rcases Nat.lt_trichotomy b a with hlt | rfl | hlt
    · exact (hbad a b ha hb).1 (hb' a b ha hlt) hne
    · exact ⟨b, hb, (Nat.and_self _).symm⟩
    · obtain ⟨c, hc, e⟩ := (hbad b a hb ha).1 (hb' b a hb hlt) (by rw [Nat.and_comm]; exact hne)
      exact ⟨c, hc, by rw [e, Nat.and_comm]⟩
  · rintro ⟨h1, h2⟩
    exact domI_yes (hl.2 h1) fun a ha b hb => (hbad a b ha (by omega)).2 (h2 a b ha (by omega))
theorem domB_iff {rows : Rows2} : domB rows = true ↔ Ok rows ∧ DomBits rows := by
  unfold domB
  rw [Bool.and_eq_true]
  constructor
  · rintro ⟨h1, h2⟩
    exact ⟨ok_of_valid h1, (domI_iff (ok_of_valid h1)).1 h2⟩
  · rintro ⟨h1, h2⟩
    exact ⟨valid_of_ok h1, (domI_iff h1).2 h2⟩

theorem bRow_mem {B : Nat → Nat → Bool} {a N : Nat} (j : Int) : j ∈ bRow B a N ↔ ∃ k : Nat, k < N ∧ B a k = true ∧ j = (k : Int) := by
  unfold bRow
  rw [List.mem_map]
  constructor
  · rintro ⟨k, hk, rfl⟩
    rw [List.mem_filter, List.mem_range] at hk
    exact ⟨k, hk.1, hk.2, rfl⟩
  · rintro ⟨k, h1, h2, rfl⟩
    exact ⟨k, List.mem_filter.2 ⟨List.mem_range.2 h1, h2⟩, rfl⟩
theorem bRow_asc (B : Nat → Nat → Bool) (a N : Nat) : Asc (bRow B a N) := by
  have hp : ((List.range N).filter fun i => B a i).Pairwise (· < ·) := List.Pairwise.filter _ List.pairwise_lt_range
  intro i j hij hj
  unfold bRow at hj ⊢
  rw [List.length_map] at hj
  rw [List.getElem_map, List.getElem_map]
  have := (List.pairwise_iff_getElem.1 hp) i j (by omega) hj hij
  omega
/-- The order of N elements that a relation makes. -/
def madeL (B : Nat → Nat → Bool) (N : Nat) : Rows2 := (List.range N).map fun q => bRow B q N
theorem madeL_len (B : Nat → Nat → Bool) (N : Nat) : (madeL B N).length = N := by simp [madeL]
theorem madeL_at {B : Nat → Nat → Bool} {N q : Nat} (hq : q < (madeL B N).length) : (madeL B N)[q] = bRow B q N := by simp [madeL]
theorem made_asc (B : Nat → Nat → Bool) (N : Nat) (i : Nat) (hi : i < (madeL B N).length) : Asc (madeL B N)[i] ∧ ∀ x ∈ (madeL B N)[i], 0 ≤ x ∧ x < (madeL B N).length := by
  rw [madeL_at, madeL_len]
  refine ⟨bRow_asc B i N, fun x hx => ?_⟩
  obtain ⟨k, hk, _, rfl⟩ := (bRow_mem x).1 hx
  omega
theorem made_bit (B : Nat → Nat → Bool) {N q : Nat} (hq : q < N) (j : Nat) : (gridF (madeL B N) q).testBit j = (decide (j < N) && B q j) := by
  have hq' : q < (madeL B N).length := by rw [madeL_len]; exact hq
  rw [grid_bit hq' ((ascB_iff _ _).2 (made_asc B N q hq')), madeL_at, Bool.eq_iff_iff, decide_eq_true_iff, bRow_mem, Bool.and_eq_true, decide_eq_true_iff]
  constructor
  · rintro ⟨k, h1, h2, e⟩
    obtain rfl : j = k := by omega
    exact ⟨h1, h2⟩
  · rintro ⟨h1, h2⟩
    exact ⟨j, h1, h2, rfl⟩
theorem made_ok {B : Nat → Nat → Bool} {N : Nat} (h1 : 1 ≤ N) (h2 : N ≤ 200) (hr : ∀ a, a < N → B a a = true) (ha : ∀ a b, a < N → b < N → B a b = true → b ≠ a → B b a = false)
    (ht : ∀ a b c, a < N → b < N → c < N → B a b = true → B b c = true → B a c = true) : Ok (madeL B N) := by
  refine ⟨by rw [madeL_len]; exact ⟨h1, h2⟩, made_asc B N, fun i hi => ?_, fun i j hi hj hne => ?_, fun i j hi hj m hm => ?_⟩
  · rw [madeL_len] at hi
    rw [made_bit B hi, hr i hi, decide_eq_true hi]
    rfl
  · rw [madeL_len] at hi
    rw [made_bit B hi, Bool.and_eq_true, decide_eq_true_iff] at hj
    rw [made_bit B hj.1, ha i j hi hj.1 hj.2 hne, Bool.and_false]
  · rw [madeL_len] at hi
    rw [made_bit B hi, Bool.and_eq_true, decide_eq_true_iff] at hj
    rw [made_bit B hj.1, Bool.and_eq_true, decide_eq_true_iff] at hm
    rw [made_bit B hi, ht i j m hi hj.1 hm.1 hj.2 hm.2, decide_eq_true hm.1]
    rfl
theorem made_dom {B : Nat → Nat → Bool} {N : Nat} (h1 : 1 ≤ N) (h2 : N ≤ 200) (hr : ∀ a, a < N → B a a = true) (ha : ∀ a b, a < N → b < N → B a b = true → b ≠ a → B b a = false)
    (ht : ∀ a b c, a < N → b < N → c < N → B a b = true → B b c = true → B a c = true) (hl : ∃ m, m < N ∧ ∀ k, k < N → B m k = true)
    (hj : ∀ a b, a < N → b < N → (∃ c, c < N ∧ B a c = true ∧ B b c = true) → ∃ c, c < N ∧ ∀ k, k < N → B c k = (B a k && B b k)) : domB (madeL B N) = true := by
  refine domB_iff.2 ⟨made_ok h1 h2 hr ha ht, ?_, ?_⟩
  · obtain ⟨m, hm, hk⟩ := hl
    refine ⟨m, by rw [madeL_len]; exact hm, ?_⟩
    rw [madeL_len]
    apply Nat.eq_of_testBit_eq
    intro k
    rw [made_bit B hm, testBit_allF]
    by_cases hlt : k < N
    · rw [hk k hlt, Bool.and_true]
    · rw [decide_eq_false hlt, Bool.false_and]
  · intro a b ha' hb' hne
    rw [madeL_len] at ha' hb' ⊢
    obtain ⟨c, hc⟩ := Nat.exists_testBit_of_ne_zero hne
    rw [Nat.testBit_and, made_bit B ha', made_bit B hb', Bool.and_eq_true, Bool.and_eq_true, Bool.and_eq_true, decide_eq_true_iff] at hc
    obtain ⟨d, hd, hk⟩ := hj a b ha' hb' ⟨c, hc.1.1, hc.1.2, hc.2.2⟩
    refine ⟨d, hd, ?_⟩
    apply Nat.eq_of_testBit_eq
    intro k
    rw [Nat.testBit_and, made_bit B hd, made_bit B ha', made_bit B hb']
    by_cases hlt : k < N
    · rw [hk k hlt, decide_eq_true hlt]
      simp
    · rw [decide_eq_false hlt]
      simp

theorem lens_cut {rows : Rows2} {m n : Nat} (hl : rows.length ≤ n) (h : ∀ r ∈ rows, r.length ≤ m) : bulk rows ≤ n + n * m := by
  unfold bulk
  have h1 := sum_le (m := m) (rows.map List.length) fun x hx => by
    obtain ⟨r, hr, rfl⟩ := List.mem_map.1 hx
    exact h r hr
  rw [List.length_map] at h1
  have h2 := Nat.mul_le_mul_right m hl
  omega
theorem made_small {B : Nat → Nat → Bool} {N : Nat} (h : N ≤ 200) : bulk (madeL B N) ≤ 1048576 := by
  have hb := lens_cut (rows := madeL B N) (n := 200) (m := 200) (by rw [madeL_len]; exact h) (fun r hr => by
    unfold madeL at hr
    obtain ⟨q, _, rfl⟩ := List.mem_map.1 hr
    exact Nat.le_trans (bRow_len _ _ _) h)
  omega
/-- The relation of a grid. -/
def bitB (g : Nat → Nat) (a b : Nat) : Bool := (g a).testBit b

end Go.Proofs.YtkomghohdhengaaDoor

/- OrderFrom's answer: the order of what is reached along lists. Plain facts: no function is walked here. -/
namespace Go.Proofs.YtkomghohdhengaaDoor
open Go.RowKit Go.Deep

/-- One step along lists. -/
def stepE (rows : Rows2) (i j : Nat) : Prop := (j : Int) ∈ rows.getD i []
/-- All lists hold elements alone. -/
def RangeP (rows : Rows2) : Prop := ∀ i (hi : i < rows.length), ∀ x ∈ rows[i], 0 ≤ x ∧ x < rows.length
open Classical in
noncomputable def rchB (rows : Rows2) (i j : Nat) : Bool := decide (Rch (stepE rows) i j)
noncomputable def reachR (rows : Rows2) : Rows2 := madeL (rchB rows) rows.length
open Classical in
/-- What OrderFrom answers. -/
noncomputable def fromT (rows : Rows2) : Bool := decide (rows.length ≤ 200 ∧ RangeP rows) && validB (reachR rows)
noncomputable def fromL (rows : Rows2) : Rows2 := if fromT rows = true then reachR rows else []

theorem reachR_len (rows : Rows2) : (reachR rows).length = rows.length := madeL_len _ _
theorem rchB_iff {rows : Rows2} {i j : Nat} : rchB rows i j = true ↔ Rch (stepE rows) i j := by
  classical
  unfold rchB
  exact decide_eq_true_iff
theorem from_no {rows : Rows2} (h : ¬ (rows.length ≤ 200 ∧ RangeP rows)) : fromT rows = false ∧ fromL rows = [] := by
  classical
  have h1 : fromT rows = false := by unfold fromT; rw [decide_eq_false h]; rfl
  exact ⟨h1, by unfold fromL; rw [if_neg (by rw [h1]; simp)]⟩
theorem from_yes {rows : Rows2} (h1 : rows.length ≤ 200) (h2 : RangeP rows) : fromT rows = validB (reachR rows) := by
  classical
  unfold fromT
  rw [decide_eq_true ⟨h1, h2⟩, Bool.true_and]
theorem fromL_true {rows : Rows2} (h : fromT rows = true) : fromL rows = reachR rows := by unfold fromL; rw [if_pos h]
theorem fromL_false {rows : Rows2} (h : fromT rows = false) : fromL rows = [] := by unfold fromL; rw [if_neg (by rw [h]; simp)]
theorem from_ok {rows : Rows2} (h : fromT rows = true) : Ok (reachR rows) ∧ rows.length ≤ 200 ∧ RangeP rows := by
  classical
  unfold fromT at h
  rw [Bool.and_eq_true, decide_eq_true_iff] at h
  exact ⟨ok_of_valid h.2, h.1.1, h.1.2⟩
theorem range_not {rows : Rows2} {i k : Nat} (hi : i < rows.length) (hk : k < rows[i].length) (h : ¬ (0 ≤ rows[i][k] ∧ rows[i][k] ≤ (rows.length : Int) - 1)) : ¬ RangeP rows := fun hr => by
  have := hr i hi _ (List.getElem_mem hk)
  omega
theorem step_lt {rows : Rows2} (h : RangeP rows) {i j : Nat} (he : stepE rows i j) : i < rows.length ∧ j < rows.length := by
  unfold stepE at he
  by_cases hi : i < rows.length
  · rw [getD_at [] hi] at he
    have := h i hi _ he
    exact ⟨hi, by omega⟩
  · rw [List.getD_eq_getElem?_getD, List.getElem?_eq_none (by omega)] at he
    cases he
theorem step_iff {rows : Rows2} {i j : Nat} (hi : i < rows.length) : stepE rows i j ↔ (j : Int) ∈ rows[i] := by
  unfold stepE
  rw [getD_at [] hi]

end Go.Proofs.YtkomghohdhengaaDoor

/- Orders told by their pairs: what 'below', joins, meets and the least element answer. Plain facts: no function is walked here. -/
namespace Go.Proofs.YtkomghohdhengaaDoor
open Go.RowKit Go.Deep

/-- Is b above a, in rows? -/
abbrev Lq (rows : Rows2) (a b : Nat) : Bool := (gridF rows a).testBit b
section
variable {rows : Rows2} (h : Ok rows)
include h
theorem Lq.refl {a : Nat} (ha : a < rows.length) : Lq rows a a = true := h.own a ha
theorem Lq.anti {a b : Nat} (h1 : Lq rows a b = true) (h2 : Lq rows b a = true) : a = b := by
  by_cases e : b = a
  · exact e.symm
  · have := h.anti a b (h.bit_lt h1).1 h1 e
    rw [show Lq rows b a = (gridF rows b).testBit a from rfl, this] at h2
    cases h2
theorem Lq.trans {a b c : Nat} (h1 : Lq rows a b = true) (h2 : Lq rows b c = true) : Lq rows a c = true := h.trans a b (h.bit_lt h1).1 h1 c h2
theorem has_iff (a b : Int) : hasB rows a b = true ↔ (0 ≤ a ∧ a < rows.length) ∧ 0 ≤ b ∧ b < rows.length := by
  have hv := valid_of_ok h
  unfold hasB
  simp only [Bool.and_eq_true, decide_eq_true_eq, hv, true_and]
theorem has_at {a b : Nat} (ha : a < rows.length) (hb : b < rows.length) : hasB rows a b = true := (has_iff h a b).2 (by omega)
theorem below_at {a b : Nat} (ha : a < rows.length) (hb : b < rows.length) : belowB rows a b = Lq rows a b := by
  unfold belowB
  rw [has_at h ha hb, Bool.true_and, Int.toNat_natCast, h.up ha]
theorem joinB_at {a b : Nat} (ha : a < rows.length) (hb : b < rows.length) : joinB rows a b = joinI rows a b := by
  unfold joinB
  rw [if_pos (has_at h ha hb), Int.toNat_natCast, Int.toNat_natCast]
theorem meetB_at {a b : Nat} (ha : a < rows.length) (hb : b < rows.length) : meetB rows a b = joinI (backRows rows) a b := by
  unfold meetB
  rw [if_pos (has_at h ha hb), Int.toNat_natCast, Int.toNat_natCast]
theorem grid_inj {a b : Nat} (ha : a < rows.length) (hb : b < rows.length) (e : gridF rows a = gridF rows b) : a = b := by
  refine Lq.anti h ?_ ?_
  · show (gridF rows a).testBit b = true
    rw [e]; exact h.own b hb
  · show (gridF rows b).testBit a = true
    rw [← e]; exact h.own a ha
/-- A join is the least one above both. -/
theorem join_is {a b c : Nat} (ha : a < rows.length) (hb : b < rows.length) : joinI rows a b = (c : Int) ↔ Lq rows a c = true ∧ Lq rows b c = true ∧ ∀ d, Lq rows a d = true → Lq rows b d = true → Lq rows c d = true := by
  constructor
  · intro hj
    have hg := join_bits h ha hb hj
    have hc : c < rows.length := by have := (joinI_bounds h ha b).2; omega
    have hcc := h.own c hc
    rw [hg, Nat.testBit_and, Bool.and_eq_true] at hcc
    refine ⟨hcc.1, hcc.2, fun d h1 h2 => ?_⟩
    show (gridF rows c).testBit d = true
    rw [hg, Nat.testBit_and, Bool.and_eq_true]
    exact ⟨h1, h2⟩
  · rintro ⟨h1, h2, h3⟩
    have hc := (h.bit_lt h1).2
    have hg : gridF rows c = gridF rows a &&& gridF rows b := by
      apply Nat.eq_of_testBit_eq
      intro d
      rw [Nat.testBit_and, Bool.eq_iff_iff, Bool.and_eq_true]
      exact ⟨fun hd => ⟨h.trans a c ha h1 d hd, h.trans b c hb h2 d hd⟩, fun hd => h3 d hd.1 hd.2⟩
    have hlt : gridF rows a &&& gridF rows b < 2 ^ 256 := Nat.and_lt_two_pow _ (h.lt b)
    have hp : 0 ≤ joinI rows a b := by
      rw [join_eq h ha hb]
      refine (bottomF_pos hlt).2 ⟨c, ?_, hg⟩
      rw [← hg]
      exact h.own c hc
    obtain ⟨k, hk⟩ : ∃ k : Nat, joinI rows a b = (k : Int) := ⟨(joinI rows a b).toNat, by omega⟩
    have hkl : k < rows.length := by have := (joinI_bounds h ha b).2; omega
    have hgk := join_bits h ha hb hk
    rw [hk, grid_inj h hkl hc (by rw [hgk, hg])]
theorem back_q (a b : Nat) : Lq (backRows rows) a b = Lq rows b a := back_bit h a b
theorem meet_is {a b c : Nat} (ha : a < rows.length) (hb : b < rows.length) : joinI (backRows rows) a b = (c : Int) ↔ Lq rows c a = true ∧ Lq rows c b = true ∧ ∀ d, Lq rows d a = true → Lq rows d b = true → Lq rows d c = true := by
  rw [join_is h.back (by rw [backRows_len]; exact ha) (by rw [backRows_len]; exact hb)]
  simp only [back_q h]
theorem least_at (hl : 0 ≤ leastI rows) : ∃ m : Nat, m < rows.length ∧ leastI rows = (m : Int) ∧ ∀ i, i < rows.length → Lq rows m i = true := by
  rw [least_eq h] at hl ⊢
  unfold bottomF at hl ⊢
  cases hf : (elems (allF rows.length)).find? (fun k => gridF rows k == allF rows.length) with
  | none => rw [hf] at hl; exact absurd hl (by decide)
  | some k =>
    have h1 := List.find?_some hf
    have h2 := List.mem_of_find?_eq_some hf
    rw [mem_elems (allF_lt (by have := h.len; omega)), testBit_allF, decide_eq_true_iff] at h2
    refine ⟨k, h2, rfl, fun i hi => ?_⟩
    show (gridF rows k).testBit i = true
    rw [beq_iff_eq.1 h1, testBit_allF]
    exact decide_eq_true hi
end
end Go.Proofs.YtkomghohdhengaaDoor

/- Heights and covers of orders: plain facts. -/
namespace Go.Proofs.YtkomghohdhengaaDoor
open Go.RowKit Go.Deep

section
variable {rows : Rows2} (h : Ok rows)
include h
theorem strict_grow {i k : Nat} (hk : Lq rows i k = true) (hne : k ≠ i) : (elems (gridF rows k)).length < (elems (gridF rows i)).length := strict_less h ((strict_iff h).2 ⟨hk, hne⟩)
end
end Go.Proofs.YtkomghohdhengaaDoor

/- OrderFrom of an order, and of its covers: plain facts. -/
namespace Go.Proofs.YtkomghohdhengaaDoor
open Go.RowKit Go.Deep

end Go.Proofs.YtkomghohdhengaaDoor

/- An order drawn from a code: what its lists are, and what the world holds meanwhile. Plain facts: no function is walked here. -/
namespace Go.Proofs.YtkomghohdhengaaDoor
open Go.RowKit Go.Deep

/-- A list of row j that goes up alone. -/
def UpRow (n j : Nat) (l : List Int) : Prop := l.length ≤ n ∧ ∀ x ∈ l, (j : Int) < x ∧ x < (n : Int)
/-- Lists that go up alone make an order. -/
theorem from_up {rows : Rows2} (h1 : 1 ≤ rows.length) (h2 : rows.length ≤ 200) (hu : ∀ i (hi : i < rows.length), ∀ x ∈ rows[i], (i : Int) < x ∧ x < rows.length) : fromT rows = true := by
  have hr : RangeP rows := fun i hi x hx => by have := hu i hi x hx; omega
  have hs : ∀ a b, stepE rows a b → a < b := fun a b he => by
    have ha := (step_lt hr he).1
    rw [step_iff ha] at he
    have := hu a ha _ he
    omega
  have hle : ∀ a b, Rch (stepE rows) a b → a ≤ b := fun a b h => by
    induction h with
    | refl => exact Nat.le_refl _
    | step _ e ih => have := hs _ _ e; omega
  rw [from_yes h2 hr]
  refine valid_of_ok (made_ok h1 h2 (fun a _ => rchB_iff.2 .refl) (fun a b _ _ hab hne => ?_) (fun a b c _ _ _ h1 h2 => rchB_iff.2 ((rchB_iff.1 h1).trans (rchB_iff.1 h2))))
  cases hc : rchB rows b a with
  | false => rfl
  | true =>
    have e1 := hle _ _ (rchB_iff.1 hab)
    have e2 := hle _ _ (rchB_iff.1 hc)
    omega
theorem made_bulk (B : Nat → Nat → Bool) (N : Nat) (h : N ≤ 200) : bulk (madeL B N) ≤ 50000 := by
  unfold bulk
  have h1 := sum_le (m := 200) ((madeL B N).map List.length) fun x hx => by
    obtain ⟨r, hr, rfl⟩ := List.mem_map.1 hx
    obtain ⟨i, hi, rfl⟩ := List.getElem_of_mem hr
    rw [madeL_at]
    have := bRow_len B i N
    omega
  rw [List.length_map, madeL_len] at h1
  rw [madeL_len]
  have := Nat.mul_le_mul_right 200 h
  omega
theorem fromL_bulk (rows : Rows2) : bulk (fromL rows) ≤ 50000 := by
  cases h : fromT rows with
  | false => rw [fromL_false h]; decide
  | true =>
    rw [fromL_true h]
    exact made_bulk _ _ (from_ok h).2.1

theorem fromL_row (rows : Rows2) (j : Nat) : (rowsF (fromL rows) j).length ≤ rows.length := by
  cases h : fromT rows with
  | false => rw [fromL_false h]; exact Nat.zero_le _
  | true =>
    rw [fromL_true h]
    by_cases hj : j < (reachR rows).length
    · rw [rowsF_lt hj]
      unfold reachR at hj ⊢
      rw [madeL_at hj]
      exact bRow_len _ _ _
    · unfold rowsF
      rw [List.getD_eq_getElem?_getD, List.getElem?_eq_none (by omega)]
      exact Nat.zero_le _
/-- What is held while an order's lists are drawn. -/
structure DrO (r : Nat) (v : Value) (w : World) (q : Nat) (u : Value) (i : Nat) (R : Nat → List Int) (W : World) : Prop where
  dr : Dr r v w q W
  res : Boxed W w.heap.size 25 (.slice none 0 0)
  own : OwnR 3 26 W u i R (w.heap.size + 1) W.heap.size
section
variable {r : Nat} {v : Value} {w : World} {q : Nat} {u : Value} {i : Nat} {R : Nat → List Int} {W W' : World}
theorem DrO.step (h : DrO r v w q u i R W) (hb : Below W.heap.size W W') : DrO r v w q u i R W' :=
  ⟨h.dr.step hb, (hb.block _ h.res.lt).trans h.res, (h.own.below hb (Nat.le_refl _)).wider (Nat.le_refl _) hb.size⟩
theorem Dr.boxed {q' b : Nat} {t : TypeId} {x : Value} (h : Dr r v w q W) (h2 : Dr r v W q' W') (hx : Boxed W b t x) (hl : w.heap.size ≤ b) : Boxed W' b t x :=
  (h2.turned.above b (by have := h.old; omega) hx.lt).trans hx
theorem DrO.pick {q' : Nat} (h : DrO r v w q u i R W) (h2 : Dr r v W q' W') : DrO r v w q' u i R W' :=
  ⟨h.dr.trans h2, h.dr.boxed h2 h.res (Nat.le_refl _), (h.dr.ownR h2 h.own (Nat.le_succ _) (Nat.le_refl _)).wider (Nat.le_refl _) h2.size⟩
end
theorem DrO.empty {r : Nat} {v : Value} {w : World} {q : Nat} {u : Value} {R : Nat → List Int} {W : World} (h : DrO r v w q u 0 R W) : DrO r v w q (.slice (some ⟨W.heap.size, 0, none⟩) 0 0) 0 R (W.alloc (.cells #[] 26)) := by
  have hb := (Below.refl W.heap.size W).alloc (Nat.le_refl _) (.cells #[] 26)
  have hs := h.step hb
  have hl := h.res.lt
  refine ⟨hs.dr, hs.res, .inr ⟨W.heap.size, 0, fun _ => undef, rfl, Nat.le_refl _, Nat.zero_le _, hl, by rw [World.size_alloc]; omega, World.rowIs_alloc W #[] 26 (fun _ => undef) (fun _ h => absurd h (Nat.not_lt_zero _)), fun j hj => absurd hj (Nat.not_lt_zero _), fun i j _ hj => absurd hj (Nat.not_lt_zero _)⟩⟩
theorem Dr.grown {r : Nat} {v : Value} {w : World} {q : Nat} {W : World} (h : Dr r v w q W) : w.grownBy W (some r) :=
  ⟨h.turned.below.os, h.turned.below.tape, h.turned.below.output, h.turned.below.size, fun k hk hne => by
    rcases Nat.lt_or_ge k r with hlt | hge
    · exact h.turned.below.block k hlt
    · exact h.turned.above k (by have : k ≠ r := fun e => hne (by rw [e]); omega) hk⟩
theorem Dr.owns {r : Nat} {v : Value} {w : World} {q : Nat} {W : World} (h : Dr r v w q W) {lo n : Nat} {t : TypeId} {u : Value} {xs : List Value} (ho : w.ownsRow lo t 1 u n xs) (hr : r < lo) : W.ownsRow lo t 1 u n xs :=
  ho.kept h.grown (by
    cases hb : u.ownBlock with
    | none => exact .inl rfl
    | some b => exact .inr fun e => by have := (ho.lt b hb).1; have := Option.some.inj e; omega)
theorem owns_form {W : World} {lo n : Nat} {t : TypeId} {v : Value} {xs : List Value} (h : W.ownsRow lo t 1 v n xs) : ∃ a C, v = .slice a n C := by
  obtain ⟨_, ⟨rfl, h0⟩ | ⟨g, C, c, rfl, _⟩⟩ := h
  · exact ⟨none, 0, by rw [h0]⟩
  · exact ⟨_, C, rfl⟩
/-- An append to what is new. -/
theorem Dr.far {r : Nat} {v : Value} {w : World} {q : Nat} {W w3 : World} {o : Obj} {ub : Option Nat} (h : Dr r v w q W) (hgrow : (W.alloc o).grownBy w3 ub) (hub : ∀ b, ub = some b → w.heap.size ≤ b) : Dr r v w q w3 := by
  have ha := h.step ((Below.refl W.heap.size W).alloc (Nat.le_refl _) o)
  have hold := h.old
  have hkeep : ∀ b, b < w.heap.size → w3.heap[b]? = (W.alloc o).heap[b]? := fun b hb => hgrow.block b (by have := ha.size; omega) fun e => by have := hub b e.symm; omega
  exact ⟨⟨⟨hgrow.os.trans ha.turned.below.os, hgrow.tape.trans ha.turned.below.tape, hgrow.output.trans ha.turned.below.output, Nat.le_trans ha.turned.below.size hgrow.size, fun b hb => (hkeep b (by omega)).trans (ha.turned.below.block b hb)⟩, fun b hb hw => (hkeep b hw).trans (ha.turned.above b hb hw)⟩,
    ⟨ha.rd.row.of_block (hkeep r hold), ha.rd.code.below ⟨hgrow.os, hgrow.tape, hgrow.output, hgrow.size, fun b hb => hkeep b (by omega)⟩⟩, hold⟩
/-- A row is added behind. -/
theorem DrO.pushed {r : Nat} {v : Value} {w : World} {q : Nat} {u u2 v' : Value} {i mid : Nat} {R : Nat → List Int} {f : Nat → Value} {xs : List Int} {W w3 : World} {o : Obj} (h : DrO r v w q u i R W)
    (h0 : W.ownsRow (w.heap.size + 1) 26 1 u i ((List.range i).map f)) (h1 : ∀ j, j < i → OwnI 3 W (f j) (R j) (w.heap.size + 1) mid) (h2 : ∀ a b, a < b → b < i → (f a).ownBlock = none ∨ (f a).ownBlock ≠ (f b).ownBlock)
    (hlo : w.heap.size + 1 ≤ mid) (hmid : mid ≤ W.heap.size) (hn : OwnI 3 W v' xs mid W.heap.size) (hown : w3.ownsRow (w.heap.size + 1) 26 1 u2 (i + 1) ((List.range i).map f ++ [v'])) (hgrow : (W.alloc o).grownBy w3 u.ownBlock) :
    DrO r v w q u2 (i + 1) (fun k => if k = i then xs else R k) w3 := by
  have hp := OwnR.pushed (W := W) (mid := mid) (lo := w.heap.size + 1) int_ne_ints h0 h1 h2 hlo hmid hn ((Below.refl _ W).alloc (Nat.le_refl _) o) hown hgrow
  have hnb : ∀ b, u.ownBlock = some b → w.heap.size + 1 ≤ b := fun b hb => (h0.lt b hb).1
  have hold := h.dr.old
  have ha := h.dr.step ((Below.refl W.heap.size W).alloc (Nat.le_refl _) o)
  have hsz : W.heap.size ≤ (W.alloc o).heap.size := by rw [World.size_alloc]; exact Nat.le_succ _
  have hkeep : ∀ b, b ≤ w.heap.size → w3.heap[b]? = (W.alloc o).heap[b]? := fun b hb => hgrow.block b (by have := h.dr.size; have := h.res.lt; omega) fun e => by have := hnb b e.symm; omega
  refine ⟨⟨⟨⟨hgrow.os.trans ha.turned.below.os, hgrow.tape.trans ha.turned.below.tape, hgrow.output.trans ha.turned.below.output, Nat.le_trans ha.turned.below.size hgrow.size, fun b hb => (hkeep b (by omega)).trans (ha.turned.below.block b hb)⟩, fun b hb hw => (hkeep b (by omega)).trans (ha.turned.above b hb hw)⟩,
    ⟨ha.rd.row.of_block (hkeep r (by omega)), ha.rd.code.below ⟨hgrow.os, hgrow.tape, hgrow.output, hgrow.size, fun b hb => hkeep b (by omega)⟩⟩, hold⟩, (hkeep _ (Nat.le_refl _)).trans (h.res.alloc o), hp⟩
theorem OwnR.parts {t t' : TypeId} {W : World} {u : Value} {n lo hi : Nat} {R : Nat → List Int} (h : OwnR t t' W u n R lo hi) (hn : 0 < n) :
    ∃ g C f, u = .slice (some ⟨g, 0, none⟩) n C ∧ n ≤ C ∧ C ≤ maxLen ∧ lo ≤ g ∧ g < hi ∧ W.rowIs g t' C f ∧ (∀ j, j < n → OwnI t W (f j) (R j) lo hi) ∧ (∀ i j, i < j → j < n → (f i).ownBlock = none ∨ (f i).ownBlock ≠ (f j).ownBlock) := by
  obtain h | h := h
  · omega
  · exact h
/-- A block of cells of one type is none of another type's. -/
theorem ownI_ne {t tz : TypeId} {W : World} {x : Value} {l : List Int} {lo hi b : Nat} {c : Array Value} (h : OwnI t W x l lo hi) (hb : W.heap[b]? = some (.cells c tz (0, 0))) (hne : t ≠ tz) : some b ≠ x.ownBlock := fun e => by
  obtain ⟨_, _, c', h3⟩ := h.block b e.symm
  rw [hb] at h3
  injection h3 with h3
  injection h3 with _ h5
  exact hne h5.symm
/-- A store into what is new. -/
theorem Dr.setNew {r : Nat} {v : Value} {w : World} {q : Nat} {W : World} (h : Dr r v w q W) {b : Nat} (hb : w.heap.size ≤ b) (o : Nat) (x : Value) : Dr r v w q (W.setCell ⟨b, o, none⟩ x) := by
  have hold := h.old
  exact ⟨⟨h.turned.below.setCell (p := ⟨b, o, none⟩) (by show r ≤ b; omega) _, fun c hc hw => (Below.heap_setCell _ _ _ c (show c ≠ b by omega)).trans (h.turned.above c hc hw)⟩,
    ⟨h.rd.row.setOther (a := ⟨b, o, none⟩) (by show r ≠ b; omega) _, h.rd.code.below ((Below.refl r W).setCell (p := ⟨b, o, none⟩) (by show r ≤ b; omega) _)⟩, hold⟩
theorem OrdE.fin {K r : Nat} {v : Value} {w : World} {p q : Nat} {W : World} {rows : Rows2} {u x : Value} (hD : Dr r v w q W) (hres : Boxed W w.heap.size 25 x) (ho : OwnR 3 26 W u rows.length (rowsF rows) (w.heap.size + 1) W.heap.size)
    (hb : bulk rows ≤ 100000) (hq : q ≤ p + K) : OrdE K r v p w (.returned (.agg #[u])) (W.setCell ⟨w.heap.size, 0, none⟩ u) := by
  have hl := hres.lt
  refine ⟨rows, u, q, rfl, hq, hD.setNew (Nat.le_refl _) _ _, ?_, hb⟩
  rw [size_setCell]
  exact (ho.kept fun b hb _ => Below.heap_setCell _ _ _ b (show b ≠ w.heap.size by omega)).wider (Nat.le_succ _) (Nat.le_refl _)
/-- Rows told one by one, as a list. -/
def rowsOf (R : Nat → List Int) (n : Nat) : Rows2 := (List.range n).map R
theorem rowsOf_len (R : Nat → List Int) (n : Nat) : (rowsOf R n).length = n := by simp [rowsOf]
theorem rowsOf_at {R : Nat → List Int} {n j : Nat} (h : j < (rowsOf R n).length) : (rowsOf R n)[j] = R j := by simp [rowsOf]
theorem OwnR.list {t t' : TypeId} {W : World} {u : Value} {n lo hi : Nat} {R : Nat → List Int} (h : OwnR t t' W u n R lo hi) : OwnR t t' W u (rowsOf R n).length (rowsF (rowsOf R n)) lo hi := by
  rw [rowsOf_len]
  exact h.congr fun j hj => by rw [rowsF_lt (by rw [rowsOf_len]; exact hj), rowsOf_at]
theorem rowsOf_bulk {R : Nat → List Int} {n m : Nat} (h : ∀ j, j < n → (R j).length ≤ m) : bulk (rowsOf R n) ≤ n + n * m := by
  unfold bulk
  have h1 := sum_le (m := m) ((rowsOf R n).map List.length) fun x hx => by
    obtain ⟨l, hl, rfl⟩ := List.mem_map.1 hx
    obtain ⟨i, hi, rfl⟩ := List.getElem_of_mem hl
    rw [rowsOf_at]
    exact h i (by rw [rowsOf_len] at hi; exact hi)
  rw [List.length_map, rowsOf_len] at h1
  rw [rowsOf_len]
  omega
end Go.Proofs.YtkomghohdhengaaDoor

/- The model's l1Reach: what is reached along lists. -/
namespace Go.Proofs.YtkomghohdhengaaDoor
open Go.RowKit Go.Deep

theorem infoBoolR : (Tryd.prog.info? 4).map (fun i => (i.zero, i.size, i.bytes)) = some (some (.bool false), 1, 1) := by kernel_rfl

/-- The walk that l1Reach makes: those met, ts, all reached from i, all that is one step behind the first k of them met. -/
structure WalkR (rows : Rows2) (i : Nat) (ts : List Nat) (k : Nat) : Prop where
  first : i ∈ ts
  lt : ∀ x ∈ ts, x < rows.length
  nodup : ts.Nodup
  sound : ∀ x ∈ ts, Rch (stepE rows) i x
  done : ∀ q (hq : q < ts.length), q < k → ∀ y, stepE rows ts[q] y → y ∈ ts
theorem WalkR.start {rows : Rows2} {i : Nat} (hi : i < rows.length) : WalkR rows i [i] 0 :=
  ⟨by simp, fun x hx => by rw [List.mem_singleton] at hx; subst hx; exact hi, by simp, fun x hx => by rw [List.mem_singleton] at hx; subst hx; exact .refl, fun q _ h => absurd h (Nat.not_lt_zero _)⟩
theorem WalkR.len {rows : Rows2} {i k : Nat} {ts : List Nat} (h : WalkR rows i ts k) : ts.length ≤ rows.length := by
  have := List.Nodup.length_le_of_subset (l₁ := ts) (l₂ := List.range rows.length) h.nodup fun x hx => List.mem_range.2 (h.lt x hx)
  rwa [List.length_range] at this
theorem WalkR.met {rows : Rows2} {i k y : Nat} {ts : List Nat} (h : WalkR rows i ts k) (hk : k < ts.length) (hr : RangeP rows) (he : stepE rows ts[k] y) (hn : y ∉ ts) : WalkR rows i (ts ++ [y]) k := by
  refine ⟨by simp [h.first], fun x hx => ?_, ?_, fun x hx => ?_, fun q hq hqk z hz => ?_⟩
  · rcases List.mem_append.1 hx with hx | hx
    · exact h.lt x hx
    · rw [List.mem_singleton] at hx; subst hx; exact (step_lt hr he).2
  · rw [List.nodup_append]
    refine ⟨h.nodup, by simp, fun a ha b hb => ?_⟩
    rw [List.mem_singleton] at hb
    subst hb
    exact fun e => hn (e ▸ ha)
  · rcases List.mem_append.1 hx with hx | hx
    · exact h.sound x hx
    · rw [List.mem_singleton] at hx; subst hx; exact (h.sound _ (List.getElem_mem hk)).step he
  · rw [List.getElem_append_left (by omega)] at hz
    exact List.mem_append_left _ (h.done q (by omega) hqk z hz)
theorem WalkR.next {rows : Rows2} {i k : Nat} {ts : List Nat} (h : WalkR rows i ts k) (hk : k < ts.length) (ha : ∀ y, stepE rows ts[k] y → y ∈ ts) : WalkR rows i ts (k + 1) :=
  ⟨h.first, h.lt, h.nodup, h.sound, fun q hq hqk y hy => by
    by_cases e : q = k
    · subst e; exact ha y hy
    · exact h.done q hq (by omega) y hy⟩
theorem WalkR.end {rows : Rows2} {i : Nat} {ts : List Nat} (h : WalkR rows i ts ts.length) (x : Nat) : decide (x ∈ ts) = rchB rows i x := by
  rw [Bool.eq_iff_iff, decide_eq_true_iff, rchB_iff]
  refine walk_done h.sound h.first (fun a ha y hy => ?_) x
  obtain ⟨q, hq, rfl⟩ := List.getElem_of_mem ha
  exact h.done q hq hq y hy

/-- Numbers as a list of integers. -/
abbrev intsN (ts : List Nat) : List Int := ts.map fun k : Nat => (k : Int)

/-- What l1Reach holds: those met as Booleans, those to do as a list. -/
structure ReachW (w : World) (rows : Rows2) (ts : List Nat) (tv : Value) (W : World) : Prop where
  below : Below w.heap.size w W
  met : W.rowIs w.heap.size 4 rows.length (fun j => .bool (decide (j ∈ ts)))
  todo : W.ownsRow (w.heap.size + 1) 3 1 tv ts.length (cellsI (intsN ts))
theorem ReachW.get {w W : World} {rows : Rows2} {ts : List Nat} {tv : Value} (h : ReachW w rows ts tv W) {k : Nat} (hk : k < ts.length) :
    ∃ g C, tv = .slice (some ⟨g, 0, none⟩) ts.length C ∧ W.cell? ⟨g, k, none⟩ = some (.int .i64 (ts[k] : Int)) := by
  obtain ⟨_, ⟨rfl, h0⟩ | ⟨g, C, c, rfl, h3, h5, h1, h2, h6, h7⟩⟩ := h.todo
  · omega
  · refine ⟨g, C, rfl, ?_⟩
    have h8 := congrArg (fun l => l[k]?) h7
    rw [List.getElem?_take, Nat.mul_one, if_pos hk, Array.getElem?_toList] at h8
    have hr : W.rowIs g 3 C (fun i => c[i]?.getD (.int .i64 0)) := ⟨c, h5, by omega, fun i hi => by
      dsimp only
      rw [Array.getElem?_eq_getElem (by omega)]
      rfl⟩
    rw [hr.cell (by omega), h8]
    simp [hk]
theorem ReachW.form {w W : World} {rows : Rows2} {ts : List Nat} {tv : Value} (h : ReachW w rows ts tv W) : ∃ a C, tv = .slice a ts.length C := by
  obtain ⟨_, ⟨rfl, h0⟩ | ⟨g, C, c, rfl, _⟩⟩ := h.todo
  · exact ⟨none, 0, by rw [h0]⟩
  · exact ⟨_, C, rfl⟩
/-- One more is met. -/
theorem ReachW.push {w W w1 : World} {rows : Rows2} {ts : List Nat} {tv v' : Value} {y : Nat} {o : Obj} (h : ReachW w rows ts tv W) (hy : y < rows.length)
    (hown : w1.ownsRow (w.heap.size + 1) 3 1 v' (ts.length + 1) (cellsI (intsN ts) ++ [.int .i64 (y : Int)])) (hgrow : ((W.setCell ⟨w.heap.size, y, none⟩ (.bool true)).alloc o).grownBy w1 tv.ownBlock) : ReachW w rows (ts ++ [y]) v' w1 := by
  have hlt := h.met.lt
  have hs := h.met.set y (.bool true)
  have hnb : ∀ b, tv.ownBlock = some b → w.heap.size + 1 ≤ b := fun b hb => (h.todo.lt b hb).1
  have hz : (W.setCell ⟨w.heap.size, y, none⟩ (.bool true)).heap.size = W.heap.size := size_setCell _ _ _
  refine ⟨?_, ?_, ?_⟩
  · exact (((h.below.setCell (p := ⟨w.heap.size, y, none⟩) (Nat.le_refl _) _).alloc (by rw [hz]; omega) o)).grown hgrow (by rw [World.size_alloc, hz]; omega) fun b e => by have := hnb b e; omega
  · have hb : w1.heap[w.heap.size]? = (W.setCell ⟨w.heap.size, y, none⟩ (.bool true)).heap[w.heap.size]? :=
      (hgrow.block w.heap.size (by rw [World.size_alloc, hz]; omega) (fun e => by have := hnb _ e.symm; omega)).trans (Below.heap_alloc _ _ _ (by rw [hz]; omega))
    refine (hs.of_block hb).congr fun i hi => ?_
    by_cases e : i = y
    · subst e; simp
    · rw [if_neg e]; simp [e]
  · rw [List.length_append, List.length_singleton, show cellsI (intsN (ts ++ [y])) = cellsI (intsN ts) ++ [.int .i64 (y : Int)] by simp]
    exact hown

theorem ReachW.start (w : World) {rows : Rows2} {i : Nat} (_hi : i < rows.length) : ReachW w rows [i] (.slice (some ⟨w.heap.size + 1, 0, none⟩) 1 1)
    (((w.alloc (.cells (madeCells #[.bool false] rows.length) 4)).alloc (.cells #[.int .i64 (i : Int)] 3)).setCell ⟨w.heap.size, i, none⟩ (.bool true)) := by
  have s1 : (w.alloc (.cells (madeCells #[.bool false] rows.length) 4)).heap.size = w.heap.size + 1 := World.size_alloc _ _
  have b2 := ((Below.refl w.heap.size w).alloc (Nat.le_refl _) (.cells (madeCells #[.bool false] rows.length) 4)).alloc (by rw [s1]; omega) (.cells #[.int .i64 (i : Int)] 3)
  have hl := World.ownsRow_lit (base := w.heap.size + 1) (e := 3) (size := 1) (w.alloc (.cells (madeCells #[.bool false] rows.length) 4)) #[.int .i64 (i : Int)] 1 (by rw [s1]; omega) (by decide) (by simp)
  rw [s1] at hl
  refine ⟨b2.setCell (p := ⟨w.heap.size, i, none⟩) (Nat.le_refl _) _, ?_, ?_⟩
  · refine ((((World.rowIs_made w (.bool false) rows.length 4).alloc _).set i (.bool true))).congr fun j _ => ?_
    by_cases e : j = i
    · subst e; simp
    · rw [if_neg e]; simp [e]
  · refine hl.kept (row := some w.heap.size) ⟨rfl, rfl, rfl, by rw [size_setCell]; exact Nat.le_refl _, fun k _ hk => Below.heap_setCell _ _ _ k (fun e => hk (by rw [e]))⟩ (.inr (by simp [Value.ownBlock]))

/-- A row of rows, in whatever world that keeps what lay there. -/
theorem RowsAt.rowAll {w : World} {b0 o0 C : Nat} {rows : Rows2} (h : RowsAt w (.slice (some ⟨b0, o0, none⟩) rows.length C) rows) {i : Nat} (hi : i < rows.length) :
    ∃ A1 C1, rows[i].length ≤ C1 ∧ C1 ≤ maxLen ∧ ∀ W, Below w.heap.size w W → W.cell? ⟨b0, o0 + i, none⟩ = some (.slice A1 rows[i].length C1) ∧ ∀ k (hk : k < rows[i].length), ∃ b1 o1, A1 = some ⟨b1, o1, none⟩ ∧ W.cell? ⟨b1, o1 + k, none⟩ = some (.int .i64 rows[i][k]) := by
  obtain ⟨A1, C1, h1, h2, h3, h4⟩ := h.row hi
  refine ⟨A1, C1, h1, h2, fun W hb => ⟨(hb.cell (p := ⟨b0, o0 + i, none⟩) (cell_lt h3)).trans h3, fun k hk => ?_⟩⟩
  obtain ⟨b1, o1, e, h5⟩ := h4 k hk
  exact ⟨b1, o1, e, (hb.cell (p := ⟨b1, o1 + k, none⟩) (cell_lt h5)).trans h5⟩

set_option maxRecDepth 100000 in
set_option maxHeartbeats 4000000 in
theorem l1Reach_any (v : Value) (rows : Rows2) (i : Nat) (w : World) (hv : RowsAt w v rows) (hr : RangeP rows) (hl : rows.length ≤ 200) (hi : i < rows.length) (hbk : bulk rows ≤ 1048576) :
    Calls Tryd.prog 124 #[v, .int .i64 (i : Int)] w (OwnQ (bRow (rchB rows) i rows.length) w) := by
  have HR := Lib.hid hr
  have HWS := Lib.hid (WalkR.start hi)
  have HST := Lib.hid (ReachW.start w hi)
  have hv0 := hv
  obtain ⟨A, C, rfl, hC, hm, hx⟩ := hv
  obtain ⟨b0, o0, _, rfl, _, _⟩ := hx 0 (by omega)
  unfold maxLen at hm
  have HV := Lib.hid (fun x (hx : x < rows.length) => hv0.rowAll hx)
  have hmk := run_make_row' (P := Tryd.prog) 101 4 (.bool false) 1 Tryd.underlying101 infoBoolR rfl .i64 .i64 rows.length (by omega) (by omega)
  have hmet := (World.rowIs_made w (.bool false) rows.length 4).alloc (.cells #[.int .i64 (i : Int)] 3)
  have hfz0 := hmet.frozen i
  have hc0 := hmet.cell hi
  have hiz : (i : Int) < (rows.length : Int) := by omega
  obtain ⟨i0, hi0, hz0, hz1, hz2⟩ := info_parts infoInt
  clear hr hmet hx hv0
  go_enter Tryd.func124, Tryd.ntmps124
  go_wp2
  clear hmk hfz0 hc0
  go_loopw [6, 7] (fun tv kv wr => ∃ (ts : List Nat) (k : Nat), k ≤ ts.length ∧ kv = .int .i64 k ∧ WalkR rows i ts k ∧ ReachW w rows ts tv wr) (fun _ kv _ => rows.length - (intOf kv).toNat)
  case atStart =>
    have h := HST.out
    rw [World.setCell_alloc_past _ _ _ _ (by rw [World.size_alloc]; exact Nat.lt_succ_self _), World.setCell_alloc_at _ _ _ _ _ rfl] at h
    exact ⟨[i], 0, Nat.zero_le _, rfl, HWS.out, h⟩
  case round =>
    obtain ⟨ts, k, hk, rfl, hw, hh⟩ := hrel
    have HW := Lib.hid hw
    have HH := Lib.hid hh
    obtain ⟨at_, Ct, rfl⟩ := hh.form
    have hlen := hw.len
    clear HWS HST
    by_cases hkl : k < ts.length
    · have hkz : (k : Int) < (ts.length : Int) := by omega
      obtain ⟨g, Cg, e, hcg⟩ := hh.get hkl
      cases e
      have htk : ts[k] < rows.length := hw.lt _ (List.getElem_mem hkl)
      obtain ⟨x, hx⟩ : ∃ x : Nat, x = ts[k] := ⟨_, rfl⟩
      rw [← hx] at hcg htk
      have HXE := Lib.hid hx
      have hxz : (x : Int) < (rows.length : Int) := by omega
      have hnl : rows[x].length ≤ 1048576 := by have := bulk_row htk; omega
      obtain ⟨A1, C1, hC1, hm1, hrow⟩ := HV.out x htk
      unfold maxLen at hm1
      have hcu := (hrow wr hh.below).1
      have HROW := Lib.hid hrow
      have HS : Hid (∀ y, stepE rows x y ↔ (y : Int) ∈ rows[x]) := Lib.hid fun y => step_iff htk
      have HRX := Lib.hid (fun q (hq : q < rows[x].length) => HR.out x htk _ (List.getElem_mem hq))
      clear hw hh hrow hx
      go_wp2
      go_loopw [6, 9] (fun tv mv wq => ∃ (us : List Nat) (m : Nat), m ≤ rows[x].length ∧ mv = .int .i64 m ∧ k < us.length ∧ us[k]? = some x ∧ WalkR rows i us k ∧ (∀ q (hq : q < rows[x].length), q < m → ∀ y : Nat, rows[x][q] = (y : Int) → y ∈ us) ∧ ReachW w rows us tv wq) (fun _ mv _ => rows[x].length - (intOf mv).toNat)
      case atStart => exact ⟨ts, 0, Nat.zero_le _, rfl, hkl, by rw [List.getElem?_eq_getElem hkl, HXE.out], HW.out, fun _ _ h => absurd h (Nat.not_lt_zero _), HH.out⟩
      case round =>
        obtain ⟨us, m, hm2, rfl, hku, hux, hw, hall, hh⟩ := hrel
        have HW2 := Lib.hid hw
        have HA := Lib.hid hall
        have HH2 := Lib.hid hh
        have HUX := Lib.hid hux
        obtain ⟨au, Cu, rfl⟩ := hh.form
        have hlen2 := hw.len
        clear hw hall hux HW HH
        by_cases hml : m < rows[x].length
        · have hmz : (m : Int) < (rows[x].length : Int) := by omega
          obtain ⟨hcu2, hyu⟩ := HROW.out wr hh.below
          obtain ⟨b1, o1, rfl, hcy⟩ := hyu m hml
          have hry := HRX.out m hml
          obtain ⟨y, hy⟩ : ∃ y : Nat, rows[x][m] = (y : Int) := ⟨rows[x][m].toNat, by omega⟩
          rw [hy] at hcy hry
          have HY := Lib.hid hy
          have hyl : y < rows.length := by omega
          have hyz : (y : Int) < (rows.length : Int) := by omega
          have hcm := hh.met.cell hyl
          have hfm := hh.met.frozen y
          have hzm := hh.met.lt
          clear hy hry hyu
          by_cases hmem : y ∈ us
          · rw [decide_eq_true hmem] at hcm
            have HME := Lib.hid hmem
            clear hmem hh
            go_wp2
            go_roundw
            case rel =>
              refine ⟨us, m + 1, by omega, by go_num, hku, HUX.out, HW2.out, fun q hq hqm z hz => ?_, HH2.out⟩
              by_cases e : q = m
              · subst e
                rw [HY.out] at hz
                have : y = z := by omega
                subst this
                exact HME.out
              · exact HA.out q hq (by omega) z hz
            case measure => simp [intOf]; omega
          · rw [decide_eq_false hmem] at hcm
            have HME := Lib.hid hmem
            have htodo := hh.todo
            have HTD := Lib.hid htodo
            have hnb : ∀ b, (Value.slice au us.length Cu).ownBlock = some b → w.heap.size + 1 ≤ b := fun b hb => (htodo.lt b hb).1
            have HOS : Hid ((wr.setCell ⟨w.heap.size, y, none⟩ (.bool true)).ownsRow (w.heap.size + 1) 3 1 (.slice au us.length Cu) us.length (cellsI (intsN us))) :=
              Lib.hid (htodo.kept (row := some w.heap.size) ⟨rfl, rfl, rfl, by rw [size_setCell]; exact Nat.le_refl _, fun k _ hk => Below.heap_setCell _ _ _ k (fun e => hk (by rw [e]))⟩ (.inr fun e => by have := hnb _ e; omega))
            have hcy2 : (wr.setCell ⟨w.heap.size, y, none⟩ (.bool true)).cell? ⟨b1, o1 + m, none⟩ = some (.int .i64 (y : Int)) := by
              have hb := (hh.below).setCell (p := ⟨w.heap.size, y, none⟩) (Nat.le_refl _) (.bool true)
              obtain ⟨b1', o1', e, h5⟩ := (HROW.out _ hb).2 m hml
              cases e
              rw [HY.out] at h5
              exact h5
            have HHP := Lib.hid (fun v' w1 o (hown : World.ownsRow w1 (w.heap.size + 1) 3 1 v' (us.length + 1) (cellsI (intsN us) ++ [.int .i64 (y : Int)])) (hgrow : ((wr.setCell ⟨w.heap.size, y, none⟩ (.bool true)).alloc o).grownBy w1 (Value.slice au us.length Cu).ownBlock) => hh.push hyl hown hgrow)
            have hzs : (wr.setCell ⟨w.heap.size, y, none⟩ (.bool true)).heap.size = wr.heap.size := size_setCell _ _ _
            have HKU := Lib.hid hku
            clear hmem hh htodo hnb
            go_wp2_with (at_builtin; refine wpList_append_own _ rfl _ _ 26 rfl (w.heap.size + 1) 3 i0 (.int .i64 0) 1 8 Tryd.underlying26 hi0 hz0 hz1 hz2 rfl (by decide) _ _ _ rfl (HOS.out.alloc _) ⟨wr.heap.size, 0, none⟩ 1 1 [.int .i64 (y : Int)] rfl rfl (by rw [← hzs]; exact cell_one_new _ _ _) (by simp [Value.oneCell']) (by unfold maxLen; omega) (by omega) (by simp; omega) ?_; intro v' w1 hown' hgrow _)
            go_roundw
            case rel =>
              have hku2 := HKU.out
              refine ⟨us ++ [y], m + 1, by omega, by go_num, by rw [List.length_append]; omega, by rw [List.getElem?_append_left hku2]; exact HUX.out, ?_, fun q hq hqm z hz => ?_, HHP.out _ _ _ hown' hgrow⟩
              · refine HW2.out.met hku2 HR.out ?_ HME.out
                have hxk : us[k] = x := by have := HUX.out; rw [List.getElem?_eq_getElem hku2] at this; exact Option.some.inj this
                rw [hxk, HS.out, ← HY.out]
                exact List.getElem_mem hml
              · by_cases e : q = m
                · subst e
                  rw [HY.out] at hz
                  have : y = z := by omega
                  subst this
                  simp
                · exact List.mem_append_left _ (HA.out q hq (by omega) z hz)
            case measure => simp [intOf]; omega
        · obtain rfl : m = rows[x].length := by omega
          clear hh
          go_wp2
          go_roundw
          case rel =>
            have hxk : us[k] = x := by have := HUX.out; rw [List.getElem?_eq_getElem hku] at this; exact Option.some.inj this
            refine ⟨us, k + 1, by omega, by go_num, HW2.out.next hku fun y hy => ?_, HH2.out⟩
            rw [hxk, HS.out] at hy
            obtain ⟨q, hq, e⟩ := List.getElem_of_mem hy
            exact HA.out q hq hq y e
          case measure => simp [intOf]; omega
    · obtain rfl : k = ts.length := by omega
      have hkz : ¬ (ts.length : Int) < (ts.length : Int) := by omega
      have HE := Lib.hid (fun x => hw.end x)
      have hmet := hh.met
      have HM := Lib.hid (fun W (h : Below wr.heap.size wr W) j (hj : j < rows.length) => show W.cell? ⟨w.heap.size, j, none⟩ = some (.bool (rchB rows i j)) by
        rw [h.cell (p := ⟨w.heap.size, j, none⟩) hmet.lt, hmet.cell hj, hw.end j])
      have HB := Lib.hid hh.below
      have HO := Lib.hid (World.ownsRow_made (e := 3) (size := 1) wr #[] 0 (base := wr.heap.size) (Nat.le_refl _) (Nat.zero_le _) (by simp))
      have HB0 := Lib.hid ((Below.refl wr.heap.size wr).alloc (Nat.le_refl _) (.cells #[] 3))
      obtain ⟨wo, hwo⟩ : ∃ wo : World, wo = wr := ⟨_, rfl⟩
      subst hwo
      clear hw hh hmet HW HH
      go_wp2
      go_loopw [10, 11] (fun ov jv wq => ∃ j : Nat, j ≤ rows.length ∧ jv = .int .i64 j ∧ wq.ownsRow wo.heap.size 3 1 ov (bRow (rchB rows) i j).length (cellsI (bRow (rchB rows) i j)) ∧ Below wo.heap.size wo wq) (fun _ jv _ => rows.length - (intOf jv).toNat)
      case atStart => exact ⟨0, Nat.zero_le _, rfl, HO.out, HB0.out⟩
      case round =>
        obtain ⟨j, hj, rfl, hown, hB⟩ := hrel
        have HOWN := Lib.hid hown
        have HBW := Lib.hid hB
        have hcl := bRow_len (rchB rows) i j
        clear hown hB HO HB0
        by_cases hjl : j < rows.length
        · have hjz : (j : Int) < (rows.length : Int) := by omega
          have hc := HM.out _ HBW.out j hjl
          have hbz := HBW.out.size
          cases hq : rchB rows i j with
          | true =>
            rw [hq] at hc
            have HE := Lib.hid (bRow_yes (B := rchB rows) (a := i) (b := j) hq)
            clear hq
            go_wp2_with (at_builtin; refine wpList_append_own _ rfl _ _ 26 rfl wo.heap.size 3 i0 (.int .i64 0) 1 8 Tryd.underlying26 hi0 hz0 hz1 hz2 rfl (by decide) _ _ _ rfl (HOWN.out.alloc _) ⟨wr.heap.size, 0, none⟩ 1 1 [.int .i64 (j : Int)] rfl rfl (cell_one_new _ _ _) (by simp [Value.oneCell']) (by unfold maxLen; omega) (by omega) (by simp; omega) ?_; intro v' w1 hown' hgrow _)
            go_roundw
            case rel =>
              refine ⟨j + 1, by omega, by go_num, ?_, (HBW.out.alloc HBW.out.size _).grown hgrow (by rw [World.size_alloc]; omega) (fun b e => (HOWN.out.lt b e).1)⟩
              rw [HE.out, List.length_append, show cellsI (bRow (rchB rows) i j ++ [(j : Int)]) = cellsI (bRow (rchB rows) i j) ++ [.int .i64 (j : Int)] by simp]
              exact hown'
            case measure => simp [intOf]; omega
          | false =>
            rw [hq] at hc
            have HE := Lib.hid (bRow_no (B := rchB rows) (a := i) (b := j) hq)
            clear hq
            go_wp2
            go_roundw
            case rel => exact ⟨j + 1, by omega, by go_num, by rw [HE.out]; exact HOWN.out, HBW.out⟩
            case measure => simp [intOf]; omega
        · obtain rfl : j = rows.length := by omega
          have hjz : ¬ (rows.length : Int) < (rows.length : Int) := by omega
          go_wp2
          go_ret
          refine ⟨_, rfl, (OwnI.of_owns HOWN.out (fun y hy => ?_) (fun b hb => (HOWN.out.lt b hb).2)).wider HB.out.size (Nat.le_refl _), HB.out.trans (HBW.out.mono HB.out.size)⟩
          obtain ⟨q, hq, _, rfl⟩ := (bRow_mem y).1 hy
          exact wf_int (by omega) (by omega)
end Go.Proofs.YtkomghohdhengaaDoor

/- The model's OrderFrom. -/
namespace Go.Proofs.YtkomghohdhengaaDoor
open Go.RowKit Go.Deep Go.Shelf

theorem fromP_no {rows : Rows2} {w W : World} (h : fromT rows = false ∧ fromL rows = []) (hb : Below w.heap.size w W) : OrderP (fromL rows) (fromT rows) w (.returned (.tuple #[.agg #[.slice none 0 0], .bool false])) W := by
  rw [h.1, h.2]
  exact ⟨_, rfl, OwnR.nil _ _ _ _ _ _, hb⟩
theorem fromP_yes {rows : Rows2} {w W : World} {u : Value} {b : Nat} (h : fromT rows = true) (hb : Below w.heap.size w W) (hbb : b = w.heap.size) (ho : OwnR 3 26 W u rows.length (fun a => bRow (rchB rows) a rows.length) (w.heap.size + 1) W.heap.size) :
    OrderP (fromL rows) (fromT rows) w (.returned (.tuple #[.agg #[u], .bool true])) (W.setCell ⟨b, 0, none⟩ u) := by
  subst hbb
  rw [h, fromL_true h]
  refine ⟨_, rfl, ?_, hb.setCell (p := ⟨w.heap.size, 0, none⟩) (Nat.le_refl _) _⟩
  rw [reachR_len, size_setCell]
  refine ((ho.kept fun b hb _ => Below.heap_setCell _ _ _ b (show b ≠ w.heap.size by omega)).wider (Nat.le_succ _) (Nat.le_refl _)).congr fun q hq => ?_
  rw [rowsF_lt (by rw [reachR_len]; exact hq)]
  exact (madeL_at _).symm

set_option maxRecDepth 100000 in
set_option maxHeartbeats 8000000 in
theorem specFrom_any (v : Value) (rows : Rows2) (w : World) (hv : RowsAt w v rows) (hn : bulk rows ≤ 1048576) :
    Calls Tryd.prog 69 #[v] w (OrderP (fromL rows) (fromT rows) w) := by
  have b1 := (Below.refl w.heap.size w).alloc (Nat.le_refl _) (.cells #[.slice none 0 0] 25)
  have hbR := Boxed.new w 25 (.slice none 0 0)
  have hlr : ∀ i (hi : i < rows.length), rows[i].length ≤ 1048576 := fun i hi => by have := bulk_row hi; omega
  have hlen : rows.length ≤ 1048576 := by unfold bulk at hn; omega
  have B1 := Lib.hid b1
  have BR := Lib.hid hbR
  have HV := Lib.hid (fun W (h : Below w.heap.size w W) => hv.below h)
  obtain ⟨A, C, rfl, hC, hm, hx⟩ := hv
  unfold maxLen at hm
  have HX := Lib.hid hx
  have HLR := Lib.hid hlr
  clear hx hlr
  by_cases h0 : 200 < rows.length
  · have HN := Lib.hid (from_no (rows := rows) fun h => by omega)
    have hz : (200 : Int) < (rows.length : Int) := by omega
    have hres := hbR.cell
    have hfr := hbR.frozen
    clear hbR b1
    go_enter Tryd.func69, Tryd.ntmps69
    go_wp2
    refine bodyPost_ret (v := .tuple #[.agg #[.slice none 0 0], .bool false]) (by simp [results, Tryd.results69, go_sem]) rfl ?_
    exact fromP_no HN.out B1.out
  · have hl : rows.length ≤ 200 := by omega
    have hz : ¬ (200 : Int) < (rows.length : Int) := by omega
    have s1 : (w.alloc (.cells #[.slice none 0 0] 25)).heap.size = w.heap.size + 1 := World.size_alloc _ _
    generalize hw0 : (w.alloc (.cells #[.slice none 0 0] 25)) = w0 at b1 hbR s1
    have S1 := Lib.hid s1
    have B0 := Lib.hid b1
    have BR0 := Lib.hid hbR
    obtain ⟨i0, hi0, hz0, hz1, hz2⟩ := info_parts infoInt
    obtain ⟨j0, hj0, hy0, hy1, hy2⟩ := info_parts infoInts
    clear B1 BR h0 b1 hbR
    go_enter Tryd.func69, Tryd.ntmps69
    go_upto_region 4 with fail
    clear hw0 s1
    go_wp2
    go_loopw [5] (fun iv wr => ∃ i : Nat, i ≤ rows.length ∧ iv = .int .i64 i ∧ (∀ j (hj : j < rows.length), j < i → ∀ x ∈ rows[j], 0 ≤ x ∧ x < rows.length) ∧ Below w0.heap.size w0 wr) (fun iv _ => rows.length - (intOf iv).toNat)
    case atStart => exact ⟨0, Nat.zero_le _, rfl, fun _ _ h => absurd h (Nat.not_lt_zero _), Below.refl _ _⟩
    case round =>
      obtain ⟨i, hi, rfl, hr, hb⟩ := hrel
      have HR := Lib.hid hr
      have HB := Lib.hid hb
      clear hr hb
      by_cases hlt : i < rows.length
      · have hltz : (i : Int) < (rows.length : Int) := by omega
        obtain ⟨b0, o0, u, rfl, hc, hu⟩ := HX.out i hlt
        obtain ⟨Au, Cu, rfl, hCu, hmu, _, hy⟩ := hu
        unfold maxLen at hmu
        have hli := HLR.out i hlt
        have HC := Lib.hid (fun W (h : Below w0.heap.size w0 W) => ((B0.out.trans (h.mono (by rw [S1.out]; omega))).cell (p := ⟨b0, o0 + i, none⟩) (cell_lt hc)).trans hc)
        have HY := Lib.hid (fun W (h : Below w0.heap.size w0 W) k (hk : k < rows[i].length) => show ∃ b o, Au = some ⟨b, o, none⟩ ∧ W.cell? ⟨b, o + k, none⟩ = some (.int .i64 rows[i][k]) by
          obtain ⟨b, o, e, h3⟩ := hy k hk
          exact ⟨b, o, e, ((B0.out.trans (h.mono (by rw [S1.out]; omega))).cell (p := ⟨b, o + k, none⟩) (cell_lt h3)).trans h3⟩)
        clear hc hy
        go_wp2
        go_loopw [6] (fun kv wq => ∃ k : Nat, k ≤ rows[i].length ∧ kv = .int .i64 k ∧ (∀ q (hq : q < rows[i].length), q < k → 0 ≤ rows[i][q] ∧ rows[i][q] < rows.length) ∧ Below w0.heap.size w0 wq) (fun kv _ => rows[i].length - (intOf kv).toNat)
        case atStart => exact ⟨0, Nat.zero_le _, rfl, fun _ _ h => absurd h (Nat.not_lt_zero _), HB.out⟩
        case round =>
          obtain ⟨k, hk, rfl, hq, hb⟩ := hrel
          have HQ := Lib.hid hq
          have HB2 := Lib.hid hb
          have hc := HC.out _ hb
          clear hq hb
          by_cases hkl : k < rows[i].length
          · have hkz : (k : Int) < (rows[i].length : Int) := by omega
            obtain ⟨b1, o1, rfl, hcx⟩ := HY.out _ HB2.out k hkl
            by_cases hin : 0 ≤ rows[i][k] ∧ rows[i][k] ≤ (rows.length : Int) - 1
            · have HIN := Lib.hid hin
              have hcl := fun W => l6In_yes rows[i][k] 0 ((rows.length : Int) - 1) W hin.1 hin.2
              clear hin
              generalize hxe : rows[i][k] = x at hcx hcl HIN
              have HXE := Lib.hid hxe
              clear hxe
              go_wp2_with (go_at_call 123; refine (hcl _).mono ?_; clear hcl; rintro e w1 ⟨rfl, hw1⟩; obtain rfl : wr = w1 := by first | exact hw1 | exact hw1.symm)
              go_roundw
              case rel =>
                refine ⟨k + 1, by omega, by go_num, fun q hq hqk => ?_, HB2.out⟩
                by_cases e : q = k
                · subst e; rw [HXE.out]; have := HIN.out; omega
                · exact HQ.out q hq (by omega)
              case measure => simp [intOf]; omega
            · have HN := Lib.hid (from_no (rows := rows) fun h => range_not hlt hkl hin h.2)
              have hcl := fun W => l6In_no rows[i][k] 0 ((rows.length : Int) - 1) W hin
              have hbx : Boxed wr w.heap.size 25 (.slice none 0 0) := (HB2.out.block _ BR0.out.lt).trans BR0.out
              have hres := hbx.cell
              have hfr := hbx.frozen
              clear hbx
              have hc9 := World.cell?_setCell_same' wr ⟨w.heap.size, 0, none⟩ (.slice none 0 0) (by rw [hres]; rfl)
              clear hin
              generalize rows[i][k] = x at hcx hcl
              go_wp2_with (go_at_call 123; refine (hcl _).mono ?_; clear hcl; rintro e w1 ⟨rfl, hw1⟩; obtain rfl : wr = w1 := by first | exact hw1 | exact hw1.symm)
              refine bodyPost_ret (v := .tuple #[.agg #[.slice none 0 0], .bool false]) (by simp [results, Tryd.results69, go_sem, hc9]) rfl ?_
              exact fromP_no HN.out ((B0.out.trans (HB2.out.mono (by rw [S1.out]; omega))).setCell (p := ⟨w.heap.size, 0, none⟩) (Nat.le_refl _) _)
          · obtain rfl : k = rows[i].length := by omega
            have hkz : ¬ (rows[i].length : Int) < (rows[i].length : Int) := by omega
            go_wp2
            go_roundw
            case rel =>
              refine ⟨i + 1, by omega, by go_num, fun j hj hji x hx => ?_, HB2.out⟩
              by_cases e : j = i
              · subst e
                obtain ⟨q, hq, rfl⟩ := List.getElem_of_mem hx
                exact HQ.out q hq hq
              · exact HR.out j hj (by omega) x hx
            case measure => simp [intOf]; omega
      · obtain rfl : i = rows.length := by omega
        have hltz : ¬ (rows.length : Int) < (rows.length : Int) := by omega
        have HRG : Hid (RangeP rows) := Lib.hid (fun j hj x hx => HR.out j hj hj x hx)
        have hN0 := Out.empty wr (fun a => bRow (rchB rows) a rows.length)
        obtain ⟨w1, hw1⟩ : ∃ w1 : World, w1 = wr := ⟨_, rfl⟩
        subst hw1
        go_upto_region 13 with fail
        generalize ((w1.alloc (.cells #[] 26)).alloc (.cells #[.slice (some ⟨w1.heap.size, 0, none⟩) 0 0] 25)) = wq at hN0 ⊢
        generalize w1.heap.size + 1 = Z at hN0 ⊢
        have HST := Lib.hid hN0
        have HBW := Lib.hid (B0.out.trans (HB.out.mono (by rw [S1.out]; omega)))
        have HZ1 := Lib.hid (show w.heap.size + 1 ≤ w1.heap.size by have := HB.out.size; rw [S1.out] at this; exact this)
        clear hN0
        go_wp2
        go_loopw [8] (fun av wx => ∃ (a : Nat) (u : Value), a ≤ rows.length ∧ av = .int .i64 a ∧ Out w1 Z u a (fun a => bRow (rchB rows) a rows.length) wx) (fun av _ => rows.length - (intOf av).toNat)
        case atStart => exact ⟨0, _, Nat.zero_le _, rfl, HST.out⟩
        case round =>
          obtain ⟨a, u, ha, rfl, ho⟩ := hrel
          have HK := Lib.hid ho
          obtain ⟨au, Cu, rfl⟩ := ho.own.form
          clear HST
          by_cases hla : a < rows.length
          · have hlz : (a : Int) < (rows.length : Int) := by omega
            have hout := ho.out.cell
            have hZ2 := ho.out.lt
            have hb0 := ho.below.size
            have HRO := Lib.hid (l1Reach_any (.slice A rows.length C) rows a wr.drew ((HV.out wr (HBW.out.trans (ho.below.mono HBW.out.size))).below (below_drew wr _)) HRG.out hl hla hn)
            obtain ⟨f, hf0, hf1, hf2⟩ := ho.own.owns
            have HF0 := Lib.hid hf0
            have HF1 := Lib.hid hf1
            have HF2 := Lib.hid hf2
            clear hf0 hf1 hf2 ho
            go_upto_region 16 with fail
            go_region_law (first | (go_simp; go_at_call 124; refine HRO.out.mono ?_; clear HRO; rintro e w2 ⟨v', rfl, hv', hb2⟩; obtain ⟨a2, C2, rfl⟩ := hv'.form; have HV2 := Lib.hid hv'; have HB2 := Lib.hid ((below_drew wr _).trans hb2); have HK2 := Lib.hid (HK.out.step HB2.out); have HW0 := Lib.hid (owns_below HF0.out HB2.out); have hout2 := HK2.out.out.cell; have hout3 := cell_alloc_any hout2; have hz22 : wr.heap.size ≤ w2.heap.size := hb2.size; clear hv' hb2) | (refine step_append_lies _ (by rfl) _ _ 23 (by rfl) w1.heap.size 26 j0 (.slice none 0 0) 1 24 Tryd.underlying23 hj0 hy0 hy1 hy2 rfl (by decide) (.slice au a Cu) a ((List.range a).map f) (by rfl) (HW0.out.alloc _) ⟨w2.heap.size, 0, none⟩ 1 1 [.slice a2 (bRow (rchB rows) a rows.length).length C2] (by rfl) rfl (World.news_of_block (heap_alloc_new w2 _)) (by simp [Value.oneCell']) (by omega) (by unfold maxLen; omega) (by omega) (by simp; omega) (w2.heap.size + 1) (by simp) ?_; intro g' cap' w3 hown hgrow hat hlt'; have hfar := HK2.out.far HW0.out hgrow; have hc3 := hfar.cell; have hf3 := hfar.frozen; clear hfar))
            all_goals
              go_wp2
              go_roundw
              case rel =>
                refine ⟨a + 1, _, by omega, by go_num, (HK.out.pushed HF0.out HF1.out HF2.out HB2.out HV2.out hown ⟨hgrow.os, hgrow.tape, hgrow.output, hgrow.size, hgrow.block⟩).congr fun j hj => ?_⟩
                by_cases e : j = a
                · subst e; rw [if_pos rfl]
                · rw [if_neg e]
              case measure => simp [intOf]; omega
          · obtain rfl : a = rows.length := by omega
            have hlz : ¬ (rows.length : Int) < (rows.length : Int) := by omega
            have hout := ho.out.cell
            have hown : OwnR 3 26 wr (.slice au rows.length Cu) (reachR rows).length (rowsF (reachR rows)) w1.heap.size wr.heap.size := by
              rw [reachR_len]
              exact ho.own.congr fun q hq => by
                rw [rowsF_lt (by rw [reachR_len]; exact hq)]
                exact (madeL_at (B := rchB rows) _).symm
            have hrat : RowsAt wr (.slice au rows.length Cu) (reachR rows) := hown.at
            have hcall := specValid_any (.slice au rows.length Cu) (reachR rows) wr hrat (made_small hl)
            have HBR : Hid (Boxed wr w.heap.size 25 (.slice none 0 0)) := Lib.hid (((HB.out.trans (ho.below.mono HB.out.size)).block _ BR0.out.lt).trans BR0.out)
            have HOB := Lib.hid ho.out
            have HBX := Lib.hid (HBW.out.trans (ho.below.mono HBW.out.size))
            have HFY := Lib.hid (from_yes hl HRG.out)
            clear ho hown hrat
            cases hval : validB (reachR rows) with
            | false =>
              rw [hval] at hcall HFY
              have HN := Lib.hid (And.intro HFY.out (fromL_false HFY.out))
              clear hval
              go_wp2_with (go_at_call 125; refine hcall.mono ?_; clear hcall; rintro e w2 ⟨rfl, hb2⟩; have HB2 := Lib.hid hb2; have BR2 : Hid (Boxed w2 w.heap.size 25 (.slice none 0 0)) := Lib.hid ((hb2.block _ HBR.out.lt).trans HBR.out); have hres := BR2.out.cell; have hfr := BR2.out.frozen; clear hb2)
              have hc9 := World.cell?_setCell_same' w2 ⟨w.heap.size, 0, none⟩ (.slice none 0 0) (by rw [hres]; rfl)
              refine bodyPost_ret (v := .tuple #[.agg #[.slice none 0 0], .bool false]) (by simp [results, Tryd.results69, go_sem, hc9]) rfl ?_
              exact fromP_no HN.out ((HBX.out.trans (HB2.out.mono HBX.out.size)).setCell (p := ⟨w.heap.size, 0, none⟩) (Nat.le_refl _) _)
            | true =>
              rw [hval] at hcall HFY
              clear hval
              go_wp2_with (go_at_call 125; refine hcall.mono ?_; clear hcall; rintro e w2 ⟨rfl, hb2⟩; have HB2 := Lib.hid hb2; have BR2 : Hid (Boxed w2 w.heap.size 25 (.slice none 0 0)) := Lib.hid ((hb2.block _ HBR.out.lt).trans HBR.out); have hres := BR2.out.cell; have hfr := BR2.out.frozen; have BO2 : Hid (Boxed w2 Z 25 (.slice au rows.length Cu)) := Lib.hid ((hb2.block _ HOB.out.lt).trans HOB.out); have hou2 := BO2.out.cell; clear hb2)
              have hc9 := World.cell?_setCell_same' w2 ⟨w.heap.size, 0, none⟩ (.slice au rows.length Cu) (by rw [hres]; rfl)
              refine bodyPost_ret (v := .tuple #[.agg #[.slice au rows.length Cu], .bool true]) (by simp [results, Tryd.results69, go_sem, hc9]) rfl ?_
              refine fromP_yes HFY.out (HBX.out.trans (HB2.out.mono HBX.out.size)) rfl ?_
              exact (HK.out.step HB2.out).own.wider HZ1.out (Nat.le_refl _)
end Go.Proofs.YtkomghohdhengaaDoor

/- The program's domainOf. -/
namespace Go.Proofs.YtkomghohdhengaaDoor
open Go.RowKit Go.Deep Go.Shelf

/-- What domainOf answers: the grid of a domain, in memory of its own. -/
def DomNo (w : World) (e : Ending) (w' : World) : Prop := e = .returned (.tuple #[.pointer none, .bool false]) ∧ Below w.heap.size w w'
def DomYes (rows : Rows2) (w : World) (e : Ending) (w' : World) : Prop :=
  (∃ p : Nat, e = .returned (.tuple #[.pointer (some ⟨p, 0, none⟩), .bool true]) ∧ w.heap.size ≤ p ∧ GridAt w' p (gridF rows)) ∧ Below w.heap.size w w'

set_option maxRecDepth 100000 in
set_option maxHeartbeats 4000000 in
theorem domainOf_no (v : Value) (rows : Rows2) (w : World) (hv : RowsAt w v rows) (hT : Tab w) (hn : bulk rows ≤ 1048576) (hd : domB rows = false) :
    Calls Tryd.prog 102 #[.agg #[v]] w (DomNo w) := by
  have hH := Held.start w 25 hv
  have hT1 := hT.below ((Below.refl _ w).alloc (Nat.le_refl _) (.cells #[v] 25))
  have hcall := fun t h => gridOf_t v rows _ hH.2.1 hT1 hn (t := t) h
  have hz := (zero_of_info zeroGrid).1
  obtain ⟨A, C, rfl, _⟩ := hv
  have HH := Lib.hid hH
  have HT := Lib.hid hT1
  clear hH hT hT1
  unfold domB at hd
  cases hval : validB rows with
  | false =>
    have hc := hcall false hval
    clear hval hcall hd
    go_enter Tryd.func102, Tryd.ntmps102
    go_wp2_with (first | (go_at_call 82; refine hc.mono ?_; clear hc; rintro e w1 ⟨⟨g, hg, rfl⟩, hb1⟩; have HG := Lib.hid hg; have H1 := Lib.hid (HH.out.below hb1); clear hg hb1) | (refine wpList_store_row rfl 93 (.tmp 4) (.tmp 9) rfl w1.heap.size (gridCells g) rfl rfl 93 (gridCells fun _ => 0) (store_new w1).1 (by rw [gridCells_size]; exact sizeGrid) (by rw [gridCells_size, gridCells_size]) (gridCells_one _) ?_))
    go_ret2
    exact ⟨rfl, (H1.out.below (newGrid_below g w1)).2.2.1⟩
  | true =>
    have hok := ok_of_valid hval
    have hc := hcall true hval
    have hde := isDomF_eq hok
    rw [hval, Bool.true_and, ← hde] at hd
    have HEL := Lib.hid (fun i (_ : i < rows.length) k (hk : k ∈ elems (gridF rows i)) => hok.lt200 ((mem_elems (hok.lt i)).1 hk))
    have HN := Lib.hid hok.gridN
    clear hval hcall hde hok
    go_enter Tryd.func102, Tryd.ntmps102
    go_wp2_with (first | (go_at_call 82; refine hc.mono ?_; clear hc; rintro e w1 ⟨⟨g, hg, rfl⟩, hb1⟩; obtain ⟨hg1, hg2⟩ := hg; obtain rfl := hg2 rfl; clear hg2; have HG := Lib.hid hg1; have H1 := Lib.hid (HH.out.below hb1); have T1 := Lib.hid (HT.out.below hb1); clear hg1 hb1; have H2 := Lib.hid (H1.out.below (newGrid_below (gridF rows) w1)); have T2 := Lib.hid (T1.out.below (newGrid_below (gridF rows) w1)); have G2 := Lib.hid (newGrid_at HG.out w1)) | (refine wpList_store_row rfl 93 (.tmp 4) (.tmp 9) rfl w1.heap.size (gridCells (gridF rows)) rfl rfl 93 (gridCells fun _ => 0) (store_new w1).1 (by rw [gridCells_size]; exact sizeGrid) (by rw [gridCells_size, gridCells_size]) (gridCells_one _) ?_) | (go_at_call 93; have hcd := isDomain_any w1.heap.size rows.length (gridF rows) _ G2.out T2.out HN.out HEL.out; rw [hd] at hcd; refine hcd.mono ?_; clear hcd; rintro e w3 ⟨rfl, hb3⟩; have H3 := Lib.hid (H2.out.below hb3); clear hb3))
    go_ret2
    exact ⟨rfl, H3.out.2.2.1⟩

set_option maxRecDepth 100000 in
set_option maxHeartbeats 4000000 in
theorem domainOf_yes (v : Value) (rows : Rows2) (w : World) (hv : RowsAt w v rows) (hT : Tab w) (hn : bulk rows ≤ 1048576) (hd : domB rows = true) :
    Calls Tryd.prog 102 #[.agg #[v]] w (DomYes rows w) := by
  have hH := Held.start w 25 hv
  have hT1 := hT.below ((Below.refl _ w).alloc (Nat.le_refl _) (.cells #[v] 25))
  have hcall := fun t h => gridOf_t v rows _ hH.2.1 hT1 hn (t := t) h
  have hz := (zero_of_info zeroGrid).1
  obtain ⟨A, C, rfl, _⟩ := hv
  have HH := Lib.hid hH
  have HT := Lib.hid hT1
  clear hH hT hT1
  unfold domB at hd
  rw [Bool.and_eq_true] at hd
  obtain ⟨hval, hd⟩ := hd
  have hok := ok_of_valid hval
  have hc := hcall true hval
  have hde := isDomF_eq hok
  rw [← hde] at hd
  have HEL := Lib.hid (fun i (_ : i < rows.length) k (hk : k ∈ elems (gridF rows i)) => hok.lt200 ((mem_elems (hok.lt i)).1 hk))
  have HN := Lib.hid hok.gridN
  clear hval hcall hde hok
  go_enter Tryd.func102, Tryd.ntmps102
  go_wp2_with (first | (go_at_call 82; refine hc.mono ?_; clear hc; rintro e w1 ⟨⟨g, hg, rfl⟩, hb1⟩; obtain ⟨hg1, hg2⟩ := hg; obtain rfl := hg2 rfl; clear hg2; have HG := Lib.hid hg1; have H1 := Lib.hid (HH.out.below hb1); have T1 := Lib.hid (HT.out.below hb1); clear hg1 hb1; have H2 := Lib.hid (H1.out.below (newGrid_below (gridF rows) w1)); have T2 := Lib.hid (T1.out.below (newGrid_below (gridF rows) w1)); have G2 := Lib.hid (newGrid_at HG.out w1)) | (refine wpList_store_row rfl 93 (.tmp 4) (.tmp 9) rfl w1.heap.size (gridCells (gridF rows)) rfl rfl 93 (gridCells fun _ => 0) (store_new w1).1 (by rw [gridCells_size]; exact sizeGrid) (by rw [gridCells_size, gridCells_size]) (gridCells_one _) ?_) | (go_at_call 93; have hcd := isDomain_any w1.heap.size rows.length (gridF rows) _ G2.out T2.out HN.out HEL.out; rw [hd] at hcd; refine hcd.mono ?_; clear hcd; rintro e w3 ⟨rfl, hb3⟩; have H3 := Lib.hid (H2.out.below hb3); have G3 := Lib.hid (G2.out.below hb3 G2.out.lt); clear hb3))
  go_ret2
  exact ⟨⟨w1.heap.size, rfl, H1.out.2.2.1.size, G3.out⟩, H3.out.2.2.1⟩
end Go.Proofs.YtkomghohdhengaaDoor

/- The program's domainOf and funTypeOf. -/
namespace Go.Proofs.YtkomghohdhengaaDoor
open Go.RowKit Go.Deep Go.Shelf

theorem upB_grid {rows : Rows2} (h : Ok rows) {a b : Nat} (ha : a < rows.length) : (gridF rows a).testBit b = upB rows a b := (h.up ha b).symm
theorem mono_grid {rows rows' : Rows2} (h : Ok rows) (h' : Ok rows') (f : List Int) : monoI rows rows' f = true ↔ MonoG (gridF rows) (gridF rows') rows.length rows'.length f := by
  classical
  unfold monoI
  rw [decide_eq_true_iff]
  have e : ∀ x ∈ f, outN rows'.length x = false ↔ (0 ≤ x ∧ x < rows'.length) := fun x _ => by
    unfold outN
    rw [Bool.or_eq_false_iff, decide_eq_false_iff_not, decide_eq_false_iff_not]
    omega
  constructor
  · rintro ⟨h1, h2, h3⟩
    refine ⟨h1, fun x hx => (e x hx).2 (h2 x hx), fun a b ha hb hab => ?_⟩
    rw [upB_grid h ha] at hab
    have h4 := h3 a b ha hb hab
    have hfa := h2 _ (getD_lt 0 (h1 ▸ ha) ▸ List.getElem_mem (h1 ▸ ha))
    have hfb := h2 _ (getD_lt 0 (h1 ▸ hb) ▸ List.getElem_mem (h1 ▸ hb))
    rw [upB_grid h' (by omega), Int.toNat_of_nonneg hfb.1]
    exact h4
  · rintro ⟨h1, h2, h3⟩
    refine ⟨h1, fun x hx => (e x hx).1 (h2 x hx), fun a b ha hb hab => ?_⟩
    rw [← upB_grid h ha] at hab
    have h4 := h3 a b ha hb hab
    have ma : f.getD a 0 ∈ f := getD_lt 0 (h1 ▸ ha) ▸ List.getElem_mem (h1 ▸ ha)
    have mb : f.getD b 0 ∈ f := getD_lt 0 (h1 ▸ hb) ▸ List.getElem_mem (h1 ▸ hb)
    have hfa := (e _ ma).1 (h2 _ ma)
    have hfb := (e _ mb).1 (h2 _ mb)
    rw [upB_grid h' (by omega), Int.toNat_of_nonneg hfb.1] at h4
    exact h4

end Go.Proofs.YtkomghohdhengaaDoor

/- The program's lift of a domain, unbuilt: how many elements it has, and what is below what. -/
namespace Go.Proofs.YtkomghohdhengaaDoor
open Go.RowKit Go.Deep Go.Shelf

theorem one_new (W : World) (a : Value) (t : TypeId) : (W.alloc (.cells #[a] t)).cell? ⟨W.heap.size, 0, none⟩ = some a := by
  rw [cell_of_row _ W.heap.size 0 _ _ _ (heap_alloc_new _ _)]; rfl

/-- Is a below b in the lift? -/
def liftB (g : Nat → Nat) (a b : Nat) : Bool := decide (a = 0) || (decide (0 < b) && (g (a - 1)).testBit (b - 1))

end Go.Proofs.YtkomghohdhengaaDoor

/- The program's flat domains and chains, unbuilt: how many elements they have, and what is below what. -/
namespace Go.Proofs.YtkomghohdhengaaDoor
open Go.RowKit Go.Deep Go.Shelf

/-- Is a below b in a flat domain? In a chain? -/
def flatB (a b : Nat) : Bool := decide (a = 0) || decide (a = b)
def chainB (a b : Nat) : Bool := decide (a ≤ b)

end Go.Proofs.YtkomghohdhengaaDoor

/- The walks of rowsOf and built at lift. -/
namespace Go.Proofs.YtkomghohdhengaaDoor
open Go.RowKit Go.Deep Go.Shelf

end Go.Proofs.YtkomghohdhengaaDoor

/- The program's DomainLift. -/
namespace Go.Proofs.YtkomghohdhengaaDoor
open Go.RowKit Go.Deep Go.Shelf

/-- What row a holds when b elements have been looked at. -/
def liftRow (g : Nat → Nat) (a b : Nat) : List Int := ((List.range b).filter fun k => liftB g a k).map fun k : Nat => (k : Int)
end Go.Proofs.YtkomghohdhengaaDoor

/- The rows of a lift, in numbers: the first one full, the others moved on by one. -/
namespace Go.Proofs.YtkomghohdhengaaDoor
open Go.RowKit Go.Deep

theorem liftRow_first (g : Nat → Nat) (N : Nat) : liftRow g 0 N = (List.range N).map fun k : Nat => (k : Int) := by
  unfold liftRow
  rw [List.filter_eq_self.2 (fun k _ => by unfold liftB; rfl)]
theorem filter_short {p : Nat → Bool} {n m : Nat} (h : ∀ k, p k = true → k < n) (hm : n ≤ m) : (List.range m).filter p = (List.range n).filter p := by
  obtain ⟨d, rfl⟩ : ∃ d, m = n + d := ⟨m - n, by omega⟩
  rw [List.range_add, List.filter_append]
  have e : ((List.range d).map fun x => n + x).filter p = [] := by
    rw [List.filter_eq_nil_iff]
    intro x hx hp
    obtain ⟨y, _, rfl⟩ := List.mem_map.1 hx
    have := h _ hp
    omega
  rw [e, List.append_nil]
theorem liftRow_next {rows : Rows2} (h : Ok rows) {i : Nat} (hi : i < rows.length) : liftRow (gridF rows) (i + 1) (rows.length + 1) = movedN rows[i] 1 rows[i].length := by
  unfold liftRow movedN
  rw [List.take_length, h.elems hi, List.range_succ_eq_map, List.filter_cons]
  have e0 : liftB (gridF rows) (i + 1) 0 = false := by unfold liftB; simp
  rw [e0, if_neg (by simp), List.filter_map]
  have e1 : (List.range rows.length).filter ((fun k => liftB (gridF rows) (i + 1) k) ∘ Nat.succ) = (List.range rows.length).filter (fun k => (gridF rows i).testBit k) := by
    congr 1
  have e2 : elems (gridF rows i) = (List.range rows.length).filter (fun k => (gridF rows i).testBit k) := by
    unfold elems
    exact filter_short (fun k hk => (h.bit_lt hk).2) (by have := h.len.2; omega)
  rw [e1, e2, List.map_map, List.map_map]
  apply List.map_congr_left
  intro k _
  simp
end Go.Proofs.YtkomghohdhengaaDoor

/- The program's sum of two domains, unbuilt: how many elements it has, and what is below what. -/
namespace Go.Proofs.YtkomghohdhengaaDoor
open Go.RowKit Go.Deep Go.Shelf

/-- Both fields of a struct of two, right behind. -/
theorem fresh2 (W : World) (a b : Value) (t : TypeId) : (W.alloc (.cells #[a, b] t)).cell? ⟨W.heap.size, 0, none⟩ = some a ∧ (W.alloc (.cells #[a, b] t)).cell? ⟨W.heap.size, 1, none⟩ = some b :=
  ⟨by rw [cell_of_row _ W.heap.size 0 _ _ _ (heap_alloc_new _ _)]; rfl, by rw [cell_of_row _ W.heap.size 1 _ _ _ (heap_alloc_new _ _)]; rfl⟩

/-- A grid behind an interface. -/
abbrev gridV (p : Nat) : Value := .iface 70 (.pointer (some ⟨p, 0, none⟩))

/-- Is a below b in the sum? -/
def sumB (g g' : Nat → Nat) (n a b : Nat) : Bool :=
  if a = 0 then true else if b = 0 then false
  else if a ≤ n then (if b ≤ n then (g (a - 1)).testBit (b - 1) else false)
  else (if b ≤ n then false else (g' (a - 1 - n)).testBit (b - 1 - n))

end Go.Proofs.YtkomghohdhengaaDoor

/- The program's product of two domains, unbuilt: how many elements it has, and what is below what. -/
namespace Go.Proofs.YtkomghohdhengaaDoor
open Go.RowKit Go.Deep Go.Shelf

theorem run_prod_size (m : Nat) (v v' : Value) (w : World) : (Go.method (m + 1) 114 (.agg #[v, v']) "loop.example/scottdomains/impl.size").run Tryd.prog w = .ok (103, .agg #[v, v']) w := by kernel_rfl
theorem run_prod_below (m : Nat) (v v' : Value) (w : World) : (Go.method (m + 1) 114 (.agg #[v, v']) "loop.example/scottdomains/impl.below").run Tryd.prog w = .ok (192, .agg #[v, v']) w := by kernel_rfl

set_option maxRecDepth 100000 in
set_option maxHeartbeats 4000000 in
theorem prodSize_any (p p' n n' : Nat) (g g' : Nat → Nat) (w : World) (hg : GridAt w p g) (hg' : GridAt w p' g') (hn : GridN g n) (hn' : GridN g' n') :
    Calls Tryd.prog 103 #[.agg #[gridV p, gridV p']] w (SaysI ((n * n' : Nat) : Int) w) := by
  have b0 := (Below.refl w.heap.size w).alloc (Nat.le_refl _) (.cells #[gridV p, gridV p'] 114)
  have hs : w.heap.size ≤ (w.alloc (.cells #[gridV p, gridV p'] 114)).heap.size := b0.size
  obtain ⟨hc, hc'⟩ := fresh2 w (gridV p) (gridV p') 114
  have hcall := fun d os => Calls.regrown_of (d := d) (os := os) (size_any p n g _ ((hg.below b0 hg.lt).below (below_regrown _ d os) (hg.below b0 hg.lt).lt) hn.le hn.some hn.none)
  have hcall' := fun d os => Calls.regrown_of (d := d) (os := os) (size_any p' n' g' _ ((hg'.below b0 hg'.lt).below (below_regrown _ d os) (hg'.below b0 hg'.lt).lt) hn'.le hn'.some hn'.none)
  have hq0 := fun d os => cell_regrown hc d os
  have hq1 := fun d os => cell_regrown hc' d os
  have hmS := run_size
  have hle := hn.le
  have hle' := hn'.le
  have hp : n * n' ≤ 40000 := Nat.le_trans (Nat.mul_le_mul hle hle') (by decide)
  have hw1 : IntKind.i64.wrap ((n : Int) * (n' : Int)) = (n : Int) * (n' : Int) := IntWalk.i64_in _ (by rw [← Int.natCast_mul]; omega)
  have HB := Lib.hid b0
  clear b0 hg hg' hn hn' hc hc'
  go_enter Tryd.func103, Tryd.ntmps103
  go_upto_region 1 with fail
  refine wp_region_quiet_below (by kernel_rfl) (by kernel_rfl) ?_
  repeat (go_big_quiet_step (first | (go_at_call_of 106 (Value.pointer (some ⟨p, 0, none⟩)); exact hcall _ _) | (go_at_call_of 106 (Value.pointer (some ⟨p', 0, none⟩)); exact hcall' _ _)))
  refine wpQuiet_nil ?_
  intro _ hw'
  obtain ⟨⟨dq, osq⟩, hw''⟩ := hw'
  subst hw''
  clear hcall hcall' hq0 hq1
  go_wp2
  go_ret
  exact ⟨by rw [Int.natCast_mul]; rfl, HB.out.trans ((below_regrown _ dq osq).mono hs)⟩

/-- Is a below b in the product? -/
def prodB (g g' : Nat → Nat) (n' a b : Nat) : Bool := (g (a / n')).testBit (b / n') && (g' (a % n')).testBit (b % n')

set_option maxRecDepth 100000 in
set_option maxHeartbeats 8000000 in
theorem prodBelow_any (p p' n n' : Nat) (g g' : Nat → Nat) (a b : Nat) (w : World) (hg : GridAt w p g) (hg' : GridAt w p' g') (hn : GridN g n) (hn' : GridN g' n') (ha : a < n * n') (hb : b < n * n') :
    Calls Tryd.prog 192 #[.agg #[gridV p, gridV p'], .int .i64 (a : Int), .int .i64 (b : Int)] w (SaysN (prodB g g' n' a b) w) := by
  have b0 := (Below.refl w.heap.size w).alloc (Nat.le_refl _) (.cells #[gridV p, gridV p'] 114)
  have hs : w.heap.size ≤ (w.alloc (.cells #[gridV p, gridV p'] 114)).heap.size := b0.size
  obtain ⟨hc, hc'⟩ := fresh2 w (gridV p) (gridV p') 114
  have hcall := size_any p' n' g' _ (hg'.below b0 hg'.lt) hn'.le hn'.some hn'.none
  have hmS := run_size
  have hmB := run_below
  have hmN := fun b w => run_nilAhead 296 b w
  have hle := hn.le
  have hle' := hn'.le
  have hn0 : 0 < n' := by
    rcases Nat.eq_zero_or_pos n' with h | h
    · subst h; simp at ha
    · exact h
  have hq1 : a / n' < n := Nat.div_lt_of_lt_mul (by rw [Nat.mul_comm]; exact ha)
  have hq2 : b / n' < n := Nat.div_lt_of_lt_mul (by rw [Nat.mul_comm]; exact hb)
  have hr1 : a % n' < n' := Nat.mod_lt _ hn0
  have hr2 : b % n' < n' := Nat.mod_lt _ hn0
  have hz : ((n' : Int) == 0) = false := by rw [beq_eq_false_iff_ne]; omega
  have hz2 : (n' == 0) = false := by rw [beq_eq_false_iff_ne]; omega
  have hz3 : ¬ n' = 0 := by omega
  unfold prodB
  have d1 : (a : Int).tdiv (n' : Int) = ((a / n' : Nat) : Int) := (Int.ofNat_tdiv a n').symm
  have d2 : (b : Int).tdiv (n' : Int) = ((b / n' : Nat) : Int) := (Int.ofNat_tdiv b n').symm
  have m1 : (a : Int).tmod (n' : Int) = ((a % n' : Nat) : Int) := (Int.ofNat_tmod a n').symm
  have m2 : (b : Int).tmod (n' : Int) = ((b % n' : Nat) : Int) := (Int.ofNat_tmod b n').symm
  have d3 : (a : Int) / (n' : Int) = ((a / n' : Nat) : Int) := (Int.natCast_ediv a n').symm
  have d4 : (b : Int) / (n' : Int) = ((b / n' : Nat) : Int) := (Int.natCast_ediv b n').symm
  have m3 : (a : Int) % (n' : Int) = ((a % n' : Nat) : Int) := (Int.natCast_emod a n').symm
  have m4 : (b : Int) % (n' : Int) = ((b % n' : Nat) : Int) := (Int.natCast_emod b n').symm
  generalize a / n' = qa at d1 d3 hq1 ⊢
  generalize b / n' = qb at d2 d4 hq2 ⊢
  generalize a % n' = ra at m1 m3 hr1 ⊢
  generalize b % n' = rb at m2 m4 hr2 ⊢
  have wa : IntKind.i64.wrap (qa : Int) = (qa : Int) := IntWalk.i64_in _ (by omega)
  have wb : IntKind.i64.wrap (qb : Int) = (qb : Int) := IntWalk.i64_in _ (by omega)
  have HB := Lib.hid b0
  have HC := Lib.hid hc
  have HC' := Lib.hid hc'
  have hd0 := hc'
  clear b0 hc hc' ha hb
  go_enter Tryd.func192, Tryd.ntmps192
  go_upto_region 2 with (go_at_call 106; refine hcall.mono ?_; clear hcall; rintro e w1 ⟨rfl, hb1⟩; have B1 := Lib.hid (HB.out.trans (hb1.mono hs)); have E0 := Lib.hid ((hb1.cell (p := ⟨w.heap.size, 0, none⟩) (cell_lt HC.out)).trans HC.out); have E1 := Lib.hid ((hb1.cell (p := ⟨w.heap.size, 1, none⟩) (cell_lt HC'.out)).trans HC'.out); clear hb1)
  clear hd0
  have hk0 := fun d os => cell_regrown E0.out d os
  have hk1 := fun d os => cell_regrown E1.out d os
  have hG := fun d os => (hg.below B1.out hg.lt).below (below_regrown w1 d os) (hg.below B1.out hg.lt).lt
  have hG' := fun d os => (hg'.below B1.out hg'.lt).below (below_regrown w1 d os) (hg'.below B1.out hg'.lt).lt
  have hx := fun d os => Calls.regrown_of (d := d) (os := os) (gbelow_any p g (qa : Int) (qb : Int) qa qb _ (hG d os) rfl (by omega) rfl (by omega))
  have hy := fun d os => Calls.regrown_of (d := d) (os := os) (gbelow_any p' g' (ra : Int) (rb : Int) ra rb _ (hG' d os) rfl (by omega) rfl (by omega))
  clear hG hG' hg hg' hn hn' HC HC'
  cases hbit : (g qa).testBit qb with
  | false =>
    simp only [hbit] at hx
    have HBIT := Lib.hid hbit
    clear hbit
    refine wp_region_quiet_below (by kernel_rfl) (by kernel_rfl) ?_
    repeat (go_big_quiet_step (first | (go_at_call_of 148 (Value.pointer (some ⟨p, 0, none⟩)); exact hx _ _) | (go_at_call_of 148 (Value.pointer (some ⟨p', 0, none⟩)); exact hy _ _)))
    refine wpQuiet_nil ?_
    intro _ hw'
    obtain ⟨⟨dq, osq⟩, hw''⟩ := hw'
    subst hw''
    clear hx hy hk0 hk1
    go_wp2
    go_ret
    exact ⟨by rw [HBIT.out, Bool.false_and]; rfl, B1.out.trans ((below_regrown w1 dq osq).mono B1.out.size)⟩
  | true =>
    simp only [hbit] at hx
    have HBIT := Lib.hid hbit
    clear hbit
    obtain ⟨t, ht⟩ : ∃ t, (g' ra).testBit rb = t := ⟨_, rfl⟩
    simp only [ht] at hy
    have HT := Lib.hid ht
    clear ht
    refine wp_region_quiet_below (by kernel_rfl) (by kernel_rfl) ?_
    repeat (go_big_quiet_step (first | (go_at_call_of 148 (Value.pointer (some ⟨p, 0, none⟩)); exact hx _ _) | (go_at_call_of 148 (Value.pointer (some ⟨p', 0, none⟩)); exact hy _ _)))
    refine wpQuiet_nil ?_
    intro _ hw'
    obtain ⟨⟨dq, osq⟩, hw''⟩ := hw'
    subst hw''
    clear hx hy hk0 hk1
    go_wp2
    go_ret
    exact ⟨by rw [HBIT.out, HT.out, Bool.true_and]; rfl, B1.out.trans ((below_regrown w1 dq osq).mono B1.out.size)⟩
end Go.Proofs.YtkomghohdhengaaDoor

/- The walks of rowsOf and built at prod. -/
namespace Go.Proofs.YtkomghohdhengaaDoor
open Go.RowKit Go.Deep Go.Shelf

end Go.Proofs.YtkomghohdhengaaDoor
