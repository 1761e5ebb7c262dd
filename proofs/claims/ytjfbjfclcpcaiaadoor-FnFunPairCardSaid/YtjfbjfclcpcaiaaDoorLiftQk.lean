/- Lifts, products, sums and cuts of domains: what is below, and how high they are. Plain facts: no function is walked here. -/
import Derived.Test.YtjfbjfclcpcaiaaDoorPb23
import Derived.Test.YtjfbjfclcpcaiaaDoorMonoQk
import Derived.Test.YtjfbjfclcpcaiaaDoorPb35
import Derived.Test.YtjfbjfclcpcaiaaDoorPb24
namespace Go.Proofs.YtjfbjfclcpcaiaaDoor
open Go.RowKit Go.Deep

theorem made_q {B : Nat → Nat → Bool} {N a : Nat} (ha : a < N) (b : Nat) : Lq (madeL B N) a b = (decide (b < N) && B a b) := made_bit B ha b
theorem made_lq {B : Nat → Nat → Bool} {N a b : Nat} (hok : Ok (madeL B N)) : Lq (madeL B N) a b = true ↔ a < N ∧ b < N ∧ B a b = true := by
  constructor
  · intro h
    have h1 := hok.bit_lt h
    rw [madeL_len] at h1
    rw [made_q h1.1, Bool.and_eq_true] at h
    exact ⟨h1.1, h1.2, h.2⟩
  · rintro ⟨h1, h2, h3⟩
    rw [made_q h1, decide_eq_true h2, h3]
    rfl
theorem height_of {rows : Rows2} (h : Ok rows) : heightB rows = (heightF rows : Int) := by unfold heightB; rw [if_pos (valid_of_ok h)]
/-- Ranks are kept by what takes strictly above to strictly above. -/
theorem rank_map {rows rows' : Rows2} (h : Ok rows) (h' : Ok rows') (P : Nat → Prop) (φ : Nat → Nat) (hP : ∀ a b, P a → Lq rows a b = true → P b)
    (hφ : ∀ a b, P a → Lq rows a b = true → b ≠ a → Lq rows' (φ a) (φ b) = true ∧ φ b ≠ φ a) : ∀ (d a : Nat), rankF (gridF rows) a = d → a < rows.length → P a → φ a < rows'.length → d ≤ rankF (gridF rows') (φ a) := by
  intro d
  induction d using Nat.strongRecOn with
  | ind d ih =>
    intro a hd ha hp hl
    have hpos := rank_pos h' hl
    by_cases h1 : 1 < rankF (gridF rows) a
    · obtain ⟨k, h2, h3, h4⟩ := rank_step h ha h1
      obtain ⟨h5, h6⟩ := hφ a k hp h2 h3
      have h7 := ih _ (by omega) k rfl (h.bit_lt h2).2 (hP a k hp h2) (h'.bit_lt h5).2
      have h8 := rank_lt h' h5 h6
      omega
    · omega

theorem lift_made {rows : Rows2} (h : liftOk rows = true) : liftL rows = madeL (liftB (gridF rows)) (rows.length + 1) := by
  unfold liftL madeL
  rw [if_pos h]
  rfl
theorem lift_ok {rows : Rows2} (h : Ok rows) (hl : rows.length < 200) : Ok (madeL (liftB (gridF rows)) (rows.length + 1)) := by
  have hB : ∀ a b, liftB (gridF rows) a b = true ↔ a = 0 ∨ (0 < b ∧ Lq rows (a - 1) (b - 1) = true) := fun a b => by
    unfold liftB
    rw [Bool.or_eq_true, Bool.and_eq_true, decide_eq_true_iff, decide_eq_true_iff]
  refine made_ok (by omega) (by omega) (fun a ha => (hB a a).2 ?_) (fun a b ha hb hab hne => ?_) (fun a b c _ _ _ hab hbc => ?_)
  · by_cases e : a = 0
    · exact .inl e
    · exact .inr ⟨by omega, Lq.refl h (by omega)⟩
  · cases hq : liftB (gridF rows) b a with
    | false => rfl
    | true =>
      rcases (hB a b).1 hab with e | ⟨e1, e2⟩
      · rcases (hB b a).1 hq with f | ⟨f1, _⟩
        · omega
        · omega
      · rcases (hB b a).1 hq with f | ⟨f1, f2⟩
        · omega
        · have := Lq.anti h e2 f2
          omega
  · rw [hB] at hab hbc ⊢
    rcases hab with e | ⟨e1, e2⟩
    · exact .inl e
    · rcases hbc with f | ⟨f1, f2⟩
      · omega
      · exact .inr ⟨f1, Lq.trans h e2 f2⟩
/-- FnLift: lifts are one higher. -/
theorem fact_lift {rows : Rows2} (h : liftOk rows = true) :
    (∀ a b : Nat, a < rows.length → b < rows.length → belowB (liftL rows) ((a : Int) + 1) ((b : Int) + 1) = belowB rows a b) ∧ domB (liftL rows) = true ∧ (liftL rows).length = rows.length + 1 ∧ heightB (liftL rows) = heightB rows + 1 ∧ leastB (liftL rows) = 0 := by
  have hp := h
  unfold liftOk at hp
  rw [Bool.and_eq_true, decide_eq_true_iff] at hp
  obtain ⟨hd, hl⟩ := hp
  have hok := (domB_iff.1 hd).1
  have hn := hok.len
  rw [lift_made h]
  have hL := lift_ok hok hl
  have hq : ∀ a b, Lq (madeL (liftB (gridF rows)) (rows.length + 1)) a b = true ↔ a < rows.length + 1 ∧ b < rows.length + 1 ∧ (a = 0 ∨ (0 < b ∧ Lq rows (a - 1) (b - 1) = true)) := fun a b => by
    rw [made_lq hL]
    unfold liftB
    rw [Bool.or_eq_true, Bool.and_eq_true, decide_eq_true_iff, decide_eq_true_iff]
  have hlen : (madeL (liftB (gridF rows)) (rows.length + 1)).length = rows.length + 1 := madeL_len _ _
  have hup : ∀ a b, Lq rows a b = true → Lq (madeL (liftB (gridF rows)) (rows.length + 1)) (a + 1) (b + 1) = true := fun a b hab => by
    have := hok.bit_lt hab
    exact (hq _ _).2 ⟨by omega, by omega, .inr ⟨by omega, hab⟩⟩
  have hdn : ∀ a b, 0 < a → Lq (madeL (liftB (gridF rows)) (rows.length + 1)) a b = true → 0 < b ∧ Lq rows (a - 1) (b - 1) = true := fun a b ha hab => by
    rcases ((hq a b).1 hab).2.2 with e | e
    · omega
    · exact e
  have hleast : ∀ i, i < rows.length + 1 → Lq (madeL (liftB (gridF rows)) (rows.length + 1)) 0 i = true := fun i hi => (hq 0 i).2 ⟨by omega, hi, .inl rfl⟩
  have hdom : domB (madeL (liftB (gridF rows)) (rows.length + 1)) = true := by
    refine domB_iff.2 ⟨hL, ⟨0, by omega, ?_⟩, fun a b ha hb hne => ?_⟩
    · apply Nat.eq_of_testBit_eq
      intro i
      rw [testBit_allF, hlen, Bool.eq_iff_iff, decide_eq_true_iff]
      exact ⟨fun hi => ((hq 0 i).1 hi).2.1, hleast i⟩
    · rw [hlen] at ha hb
      have hg : ∀ (c d : Nat), Lq (madeL (liftB (gridF rows)) (rows.length + 1)) a c = true → (∀ x, Lq (madeL (liftB (gridF rows)) (rows.length + 1)) c x = true ↔ Lq (madeL (liftB (gridF rows)) (rows.length + 1)) a x = true ∧ Lq (madeL (liftB (gridF rows)) (rows.length + 1)) b x = true) → c < (madeL (liftB (gridF rows)) (rows.length + 1)).length ∧ gridF (madeL (liftB (gridF rows)) (rows.length + 1)) c = gridF (madeL (liftB (gridF rows)) (rows.length + 1)) a &&& gridF (madeL (liftB (gridF rows)) (rows.length + 1)) b := fun c _ hac hall => by
        refine ⟨(hL.bit_lt hac).2, Nat.eq_of_testBit_eq fun x => ?_⟩
        rw [Nat.testBit_and, Bool.eq_iff_iff, Bool.and_eq_true]
        exact hall x
      by_cases ha0 : a = 0
      · subst ha0
        refine ⟨b, by rw [hlen]; exact hb, Nat.eq_of_testBit_eq fun x => ?_⟩
        rw [Nat.testBit_and, Bool.eq_iff_iff, Bool.and_eq_true]
        exact ⟨fun hx => ⟨hleast x (by have := (hL.bit_lt hx).2; omega), hx⟩, fun hx => hx.2⟩
      · by_cases hb0 : b = 0
        · subst hb0
          refine ⟨a, by rw [hlen]; exact ha, Nat.eq_of_testBit_eq fun x => ?_⟩
          rw [Nat.testBit_and, Bool.eq_iff_iff, Bool.and_eq_true]
          exact ⟨fun hx => ⟨hx, hleast x (by have := (hL.bit_lt hx).2; omega)⟩, fun hx => hx.1⟩
        · have hex : ∃ x, (gridF (madeL (liftB (gridF rows)) (rows.length + 1)) a &&& gridF (madeL (liftB (gridF rows)) (rows.length + 1)) b).testBit x = true := by
            refine Classical.byContradiction fun hno => hne (Nat.eq_of_testBit_eq fun x => ?_)
            rw [Nat.zero_testBit]
            cases hx : (gridF (madeL (liftB (gridF rows)) (rows.length + 1)) a &&& gridF (madeL (liftB (gridF rows)) (rows.length + 1)) b).testBit x with
            | false => rfl
            | true => exact absurd ⟨x, hx⟩ hno
          obtain ⟨x, hx⟩ := hex
          rw [Nat.testBit_and, Bool.and_eq_true] at hx
          obtain ⟨x1, x2⟩ := hdn a x (by omega) hx.1
          obtain ⟨_, x3⟩ := hdn b x (by omega) hx.2
          obtain ⟨j, hj, _, j1, j2, j3⟩ := dom_join hd x2 x3
          have k1 := hup _ _ j1
          have k2 := hup _ _ j2
          rw [show a - 1 + 1 = a by omega] at k1
          rw [show b - 1 + 1 = b by omega] at k2
          refine ⟨j + 1, (hg (j + 1) 0 k1 fun y => ⟨fun hy => ⟨Lq.trans hL k1 hy, Lq.trans hL k2 hy⟩, fun hy => ?_⟩).1, (hg (j + 1) 0 k1 fun y => ⟨fun hy => ⟨Lq.trans hL k1 hy, Lq.trans hL k2 hy⟩, fun hy => ?_⟩).2⟩
          all_goals
            obtain ⟨y1, y2⟩ := hdn a y (by omega) hy.1
            obtain ⟨_, y3⟩ := hdn b y (by omega) hy.2
            have := hup _ _ (j3 _ y2 y3)
            rw [show y - 1 + 1 = y by omega] at this
            exact this
  refine ⟨fun a b ha hb => ?_, hdom, hlen, ?_, ?_⟩
  · have h1 := below_at hL (a := a + 1) (b := b + 1) (by omega) (by omega)
    rw [Int.natCast_add, Int.natCast_add] at h1
    rw [show ((a : Int) + 1) = (a : Int) + ((1 : Nat) : Int) from rfl, show ((b : Int) + 1) = (b : Int) + ((1 : Nat) : Int) from rfl, h1, below_at hok ha hb, Bool.eq_iff_iff]
    exact ⟨fun hx => (hdn (a + 1) (b + 1) (by omega) hx).2, hup a b⟩
  · rw [height_of hL, height_of hok]
    obtain ⟨i, hi, ei⟩ := height_at hok
    have r1 := rank_map hok hL (fun _ => True) (fun a => a + 1) (fun _ _ _ _ => trivial) (fun a b _ hab hne => ⟨hup a b hab, by omega⟩) _ i rfl hi trivial (by omega)
    have r2 := rank_lt hL (hleast (i + 1) (by omega)) (by omega)
    have r3 := height_ge hL (i := 0) (by omega)
    obtain ⟨k, hk, ek⟩ := height_at hL
    have down : ∀ q, 0 < q → q < rows.length + 1 → rankF (gridF (madeL (liftB (gridF rows)) (rows.length + 1))) q ≤ heightF rows := fun q hq0 hql => by
      have s1 := rank_map hL hok (fun a => 0 < a) (fun a => a - 1) (fun a b ha hab => (hdn a b ha hab).1) (fun a b ha hab hne => by
        obtain ⟨u1, u2⟩ := hdn a b ha hab
        exact ⟨u2, by omega⟩) _ q rfl (by omega) hq0 (by omega)
      have s2 := height_ge hok (i := q - 1) (by omega)
      exact Nat.le_trans s1 s2
    by_cases h1 : 1 < rankF (gridF (madeL (liftB (gridF rows)) (rows.length + 1))) k
    · obtain ⟨m, p1, p2, p3⟩ := rank_step hL hk h1
      have hm0 : 0 < m := by
        rcases Nat.eq_zero_or_pos m with e | e
        · subst e
          rcases ((hq k 0).1 p1).2.2 with u | ⟨u, _⟩
          · omega
          · omega
        · exact e
      have := down m hm0 (by have := (hL.bit_lt p1).2; omega)
      omega
    · omega
  · obtain ⟨m, m1, m2, m3, m4⟩ := dom_low hdom
    have e := Lq.anti hL (m4 0 (by omega)) (hleast m (by omega))
    rw [m3, e]
    rfl
theorem prod_made {rows rows' : Rows2} (h : prodOk rows rows' = true) : prodL rows rows' = madeL (prodB (gridF rows) (gridF rows') rows'.length) (rows.length * rows'.length) := by
  unfold prodL madeL
  rw [if_pos h]
  rfl
theorem prod_parts {rows rows' : Rows2} (h : prodOk rows rows' = true) : (domB rows = true ∧ domB rows' = true) ∧ rows.length * rows'.length ≤ 200 := by
  unfold prodOk at h
  rw [Bool.and_eq_true, Bool.and_eq_true, decide_eq_true_iff] at h
  exact h
theorem prod_lq {rows rows' : Rows2} (h : prodOk rows rows' = true) {a b : Nat} : Lq (prodL rows rows') a b = true ↔ Lq rows (a / rows'.length) (b / rows'.length) = true ∧ Lq rows' (a % rows'.length) (b % rows'.length) = true := by
  obtain ⟨⟨hd, hd'⟩, hl⟩ := prod_parts h
  have hok := (domB_iff.1 hd).1
  have hok' := (domB_iff.1 hd').1
  have hn := hok'.len
  rw [prod_made h, made_lq (prod_okq hok hok' hl)]
  unfold prodB
  rw [Bool.and_eq_true]
  constructor
  · exact fun hx => hx.2.2
  · rintro ⟨h1, h2⟩
    have l1 := hok.bit_lt h1
    exact ⟨(Nat.div_lt_iff_lt_mul (by omega)).1 l1.1, (Nat.div_lt_iff_lt_mul (by omega)).1 l1.2, h1, h2⟩
end Go.Proofs.YtjfbjfclcpcaiaaDoor
