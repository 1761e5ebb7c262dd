/- Lifts, products, sums and cuts of domains: what is below, and how high they are. Plain facts: no function is walked here. -/
import Derived.Test.YtkomghohdhengaaDoorPc22
import Derived.Test.YtkomghohdhengaaDoorMonoQk
import Derived.Test.YtkomghohdhengaaDoorPc35
import Derived.Test.YtkomghohdhengaaDoorPc23
namespace Go.Proofs.YtkomghohdhengaaDoor
open Go.RowKit Go.Deep

theorem made_q {B : Nat → Nat → Bool} {N a : Nat} (ha : a < N) (b : Nat) : Lq (madeL B N) a b = (decide (b < N) && B a b) := made_bit B ha b
theorem made_lq {B : Nat → Nat → Bool} {N a b : Nat} (hok : Ok (madeL B N)) : Lq (madeL B N) a b = true ↔ a < N ∧ b < N ∧ B a b = true := by
  constructor
  · intro h
    have h1 := hok.bit_lt h
    rw [madeL_len] at h1
    rw [made_q h1.1, Bool.and_eq_true] at h
    exact ⟨h1.1, h1.2, h.2⟩
  · rintro ⟨h1, h2, h3⟩
    rw [made_q h1, decide_eq_true h2, h3]
    rfl
theorem prod_made {rows rows' : Rows2} (h : prodOk rows rows' = true) : prodL rows rows' = madeL (prodB (gridF rows) (gridF rows') rows'.length) (rows.length * rows'.length) := by
  unfold prodL madeL
  rw [if_pos h]
  rfl
theorem prod_parts {rows rows' : Rows2} (h : prodOk rows rows' = true) : (domB rows = true ∧ domB rows' = true) ∧ rows.length * rows'.length ≤ 200 := by
  unfold prodOk at h
  rw [Bool.and_eq_true, Bool.and_eq_true, decide_eq_true_iff] at h
  exact h
theorem prod_lq {rows rows' : Rows2} (h : prodOk rows rows' = true) {a b : Nat} : Lq (prodL rows rows') a b = true ↔ Lq rows (a / rows'.length) (b / rows'.length) = true ∧ Lq rows' (a % rows'.length) (b % rows'.length) = true := by
  obtain ⟨⟨hd, hd'⟩, hl⟩ := prod_parts h
  have hok := (domB_iff.1 hd).1
  have hok' := (domB_iff.1 hd').1
  have hn := hok'.len
  rw [prod_made h, made_lq (prod_okq hok hok' hl)]
  unfold prodB
  rw [Bool.and_eq_true]
  constructor
  · exact fun hx => hx.2.2
  · rintro ⟨h1, h2⟩
    have l1 := hok.bit_lt h1
    exact ⟨(Nat.div_lt_iff_lt_mul (by omega)).1 l1.1, (Nat.div_lt_iff_lt_mul (by omega)).1 l1.2, h1, h2⟩
end Go.Proofs.YtkomghohdhengaaDoor
