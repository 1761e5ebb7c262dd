/- Sums have both side by side; cuts have all joins. Plain facts: no function is walked here. -/
import Derived.Test.YtjfbjfclcpcaiaaDoorLiftQk
namespace Go.Proofs.YtjfbjfclcpcaiaaDoor
open Go.RowKit Go.Deep

theorem least_mk {rows : Rows2} (hok : Ok rows) {m : Nat} (hm : ∀ i, i < rows.length → Lq rows m i = true) : gridF rows m = allF rows.length ∧ 0 ≤ leastI rows := by
  have e : gridF rows m = allF rows.length := by
    apply Nat.eq_of_testBit_eq
    intro i
    rw [testBit_allF, Bool.eq_iff_iff, decide_eq_true_iff]
    exact ⟨fun hi => (hok.bit_lt hi).2, hm i⟩
  refine ⟨e, ?_⟩
  rw [least_eq hok]
  have h0 := hm 0 (by have := hok.len; omega)
  exact (bottomF_pos (allF_lt (by have := hok.len; omega))).2 ⟨m, by rw [testBit_allF]; exact decide_eq_true (hok.bit_lt h0).1, e⟩
theorem dom_mk {rows : Rows2} (hok : Ok rows) {m : Nat} (hm : ∀ i, i < rows.length → Lq rows m i = true)
    (hj : ∀ a b c, Lq rows a c = true → Lq rows b c = true → ∃ j, Lq rows a j = true ∧ Lq rows b j = true ∧ ∀ d, Lq rows a d = true → Lq rows b d = true → Lq rows j d = true) : domB rows = true := by
  have h0 := hm 0 (by have := hok.len; omega)
  refine domB_iff.2 ⟨hok, ⟨m, (hok.bit_lt h0).1, (least_mk hok hm).1⟩, fun a b ha hb hne => ?_⟩
  have hex : ∃ x, (gridF rows a &&& gridF rows b).testBit x = true := by
    refine Classical.byContradiction fun hno => hne (Nat.eq_of_testBit_eq fun x => ?_)
    rw [Nat.zero_testBit]
    cases hx : (gridF rows a &&& gridF rows b).testBit x with
    | false => rfl
    | true => exact absurd ⟨x, hx⟩ hno
  obtain ⟨x, hx⟩ := hex
  rw [Nat.testBit_and, Bool.and_eq_true] at hx
  obtain ⟨j, j1, j2, j3⟩ := hj a b x hx.1 hx.2
  refine ⟨j, (hok.bit_lt j1).2, Nat.eq_of_testBit_eq fun y => ?_⟩
  rw [Nat.testBit_and, Bool.eq_iff_iff, Bool.and_eq_true]
  exact ⟨fun hy => ⟨Lq.trans hok j1 hy, Lq.trans hok j2 hy⟩, fun hy => j3 y hy.1 hy.2⟩

theorem sumB_iff (g g' : Nat → Nat) (n a b : Nat) : sumB g g' n a b = true ↔ a = 0 ∨ (0 < a ∧ a ≤ n ∧ 0 < b ∧ b ≤ n ∧ (g (a - 1)).testBit (b - 1) = true) ∨ (n < a ∧ 0 < a ∧ n < b ∧ (g' (a - 1 - n)).testBit (b - 1 - n) = true) := by
  unfold sumB
  by_cases h0 : a = 0
  · rw [if_pos h0]; exact ⟨fun _ => .inl h0, fun _ => rfl⟩
  · rw [if_neg h0]
    by_cases hb : b = 0
    · rw [if_pos hb]
      exact ⟨fun h => (by cases h), fun h => by omega⟩
    · rw [if_neg hb]
      by_cases ha : a ≤ n
      · rw [if_pos ha]
        by_cases hbn : b ≤ n
        · rw [if_pos hbn]
          exact ⟨fun h => .inr (.inl ⟨by omega, ha, by omega, hbn, h⟩), fun h => by
            rcases h with h | h | h
            · omega
            · exact h.2.2.2.2
            · omega⟩
        · rw [if_neg hbn]
          exact ⟨fun h => (by cases h), fun h => by omega⟩
      · rw [if_neg ha]
        by_cases hbn : b ≤ n
        · rw [if_pos hbn]
          exact ⟨fun h => (by cases h), fun h => by omega⟩
        · rw [if_neg hbn]
          exact ⟨fun h => .inr (.inr ⟨by omega, by omega, by omega, h⟩), fun h => by
            rcases h with h | h | h
            · omega
            · omega
            · exact h.2.2.2⟩
theorem sum_made {rows rows' : Rows2} (h : sumOk rows rows' = true) : sumL rows rows' = madeL (sumB (gridF rows) (gridF rows') rows.length) (1 + rows.length + rows'.length) := by
  unfold sumL madeL
  rw [if_pos h]
  rfl
/-- FnSum. -/
theorem fact_sum {rows rows' : Rows2} (h : sumOk rows rows' = true) :
    (∀ a b : Nat, 0 < a → a ≤ rows.length → rows.length < b → b < (sumL rows rows').length → joinB (sumL rows rows') a b = -1 ∧ meetB (sumL rows rows') a b = 0) ∧
      domB (sumL rows rows') = true ∧ (sumL rows rows').length = 1 + rows.length + rows'.length ∧ heightB (sumL rows rows') = 1 + max (heightB rows) (heightB rows') := by
  have hp := h
  unfold sumOk at hp
  rw [Bool.and_eq_true, Bool.and_eq_true, decide_eq_true_iff] at hp
  obtain ⟨⟨hd, hd'⟩, hl⟩ := hp
  have hok := (domB_iff.1 hd).1
  have hok' := (domB_iff.1 hd').1
  have n1 := hok.len
  have n2 := hok'.len
  rw [sum_made h]
  have hlen : (madeL (sumB (gridF rows) (gridF rows') rows.length) (1 + rows.length + rows'.length)).length = 1 + rows.length + rows'.length := madeL_len _ _
  have hL : Ok (madeL (sumB (gridF rows) (gridF rows') rows.length) (1 + rows.length + rows'.length)) := by
    refine made_ok (by omega) hl (fun a ha => ?_) (fun a b ha hb hab hne => ?_) (fun a b c ha hb hc hab hbc => ?_)
    · rw [sumB_iff]
      by_cases e : a = 0
      · exact .inl e
      · by_cases e2 : a ≤ rows.length
        · exact .inr (.inl ⟨by omega, e2, by omega, e2, Lq.refl hok (by omega)⟩)
        · exact .inr (.inr ⟨by omega, by omega, by omega, Lq.refl hok' (by omega)⟩)
    · cases hq : sumB (gridF rows) (gridF rows') rows.length b a with
      | false => rfl
      | true =>
        rw [sumB_iff] at hab hq
        exfalso
        rcases hab with x | x | x
        · rcases hq with y | y | y <;> omega
        · rcases hq with y | y | y
          · omega
          · have := Lq.anti hok x.2.2.2.2 y.2.2.2.2
            omega
          · omega
        · rcases hq with y | y | y
          · omega
          · omega
          · have := Lq.anti hok' x.2.2.2 y.2.2.2
            omega
    · rw [sumB_iff] at hab hbc ⊢
      rcases hab with x | x | x
      · exact .inl x
      · rcases hbc with y | y | y
        · omega
        · exact .inr (.inl ⟨x.1, x.2.1, y.2.2.1, y.2.2.2.1, Lq.trans hok x.2.2.2.2 y.2.2.2.2⟩)
        · omega
      · rcases hbc with y | y | y
        · omega
        · omega
        · exact .inr (.inr ⟨x.1, x.2.1, y.2.2.1, Lq.trans hok' x.2.2.2 y.2.2.2⟩)
  have hq : ∀ a b, Lq (madeL (sumB (gridF rows) (gridF rows') rows.length) (1 + rows.length + rows'.length)) a b = true ↔ a < 1 + rows.length + rows'.length ∧ b < 1 + rows.length + rows'.length ∧
      (a = 0 ∨ (0 < a ∧ a ≤ rows.length ∧ 0 < b ∧ b ≤ rows.length ∧ Lq rows (a - 1) (b - 1) = true) ∨ (rows.length < a ∧ 0 < a ∧ rows.length < b ∧ Lq rows' (a - 1 - rows.length) (b - 1 - rows.length) = true)) := fun a b => by
    rw [made_lq hL, sumB_iff]
  generalize madeL (sumB (gridF rows) (gridF rows') rows.length) (1 + rows.length + rows'.length) = L at hlen hL hq ⊢
  have h0 : ∀ i, i < L.length → Lq L 0 i = true := fun i hi => (hq 0 i).2 ⟨by omega, by omega, .inl rfl⟩
  have upL : ∀ a b, Lq rows a b = true → Lq L (a + 1) (b + 1) = true := fun a b hab => by
    have := hok.bit_lt hab
    exact (hq _ _).2 ⟨by omega, by omega, .inr (.inl ⟨by omega, by omega, by omega, by omega, hab⟩)⟩
  have upR : ∀ a b, Lq rows' a b = true → Lq L (a + 1 + rows.length) (b + 1 + rows.length) = true := fun a b hab => by
    have := hok'.bit_lt hab
    refine (hq _ _).2 ⟨by omega, by omega, .inr (.inr ⟨by omega, by omega, by omega, ?_⟩)⟩
    rw [show a + 1 + rows.length - 1 - rows.length = a by omega, show b + 1 + rows.length - 1 - rows.length = b by omega]
    exact hab
  have hdom : domB L = true := by
    refine dom_mk hL (m := 0) h0 fun a b c hac hbc => ?_
    have hal := (hL.bit_lt hac).1
    have hbl := (hL.bit_lt hbc).1
    by_cases ea : a = 0
    · subst ea
      exact ⟨b, h0 b hbl, Lq.refl hL hbl, fun d _ h2 => h2⟩
    · by_cases eb : b = 0
      · subst eb
        exact ⟨a, Lq.refl hL hal, h0 a hal, fun d h1 _ => h1⟩
      · rcases ((hq a c).1 hac).2.2 with x | x | x
        · omega
        · rcases ((hq b c).1 hbc).2.2 with y | y | y
          · omega
          · obtain ⟨j, _, _, j1, j2, j3⟩ := dom_join hd x.2.2.2.2 y.2.2.2.2
            have k1 := upL _ _ j1
            have k2 := upL _ _ j2
            rw [show a - 1 + 1 = a by omega] at k1
            rw [show b - 1 + 1 = b by omega] at k2
            refine ⟨j + 1, k1, k2, fun d hd1 hd2 => ?_⟩
            rcases ((hq a d).1 hd1).2.2 with u | u | u
            · omega
            · rcases ((hq b d).1 hd2).2.2 with v | v | v
              · omega
              · have := upL _ _ (j3 _ u.2.2.2.2 v.2.2.2.2)
                rw [show d - 1 + 1 = d by omega] at this
                exact this
              · omega
            · omega
          · omega
        · rcases ((hq b c).1 hbc).2.2 with y | y | y
          · omega
          · omega
          · obtain ⟨j, _, _, j1, j2, j3⟩ := dom_join hd' x.2.2.2 y.2.2.2
            have k1 := upR _ _ j1
            have k2 := upR _ _ j2
            rw [show a - 1 - rows.length + 1 + rows.length = a by omega] at k1
            rw [show b - 1 - rows.length + 1 + rows.length = b by omega] at k2
            refine ⟨j + 1 + rows.length, k1, k2, fun d hd1 hd2 => ?_⟩
            rcases ((hq a d).1 hd1).2.2 with u | u | u
            · omega
            · omega
            · rcases ((hq b d).1 hd2).2.2 with v | v | v
              · omega
              · omega
              · have := upR _ _ (j3 _ u.2.2.2 v.2.2.2)
                rw [show d - 1 - rows.length + 1 + rows.length = d by omega] at this
                exact this
  refine ⟨fun a b ha1 ha2 hb1 hb2 => ?_, hdom, hlen, ?_⟩
  · have hal : a < L.length := by omega
    constructor
    · rw [joinB_at hL hal hb2]
      rcases join_cases hL hal hb2 with e | ⟨c, _, e⟩
      · exact e
      · obtain ⟨p, q, _⟩ := (join_is hL hal hb2).1 e
        rcases ((hq a c).1 p).2.2 with x | x | x
        · omega
        · rcases ((hq b c).1 q).2.2 with y | y | y <;> omega
        · omega
    · rw [meetB_at hL hal hb2]
      refine (meet_is hL hal hb2 (c := 0)).2 ⟨h0 a hal, h0 b hb2, fun d hd1 hd2 => ?_⟩
      rcases ((hq d a).1 hd1).2.2 with x | x | x
      · subst x; exact Lq.refl hL (by omega)
      · rcases ((hq d b).1 hd2).2.2 with y | y | y
        · subst y; exact Lq.refl hL (by omega)
        · omega
        · omega
      · omega
  · rw [height_of hL, height_of hok, height_of hok']
    obtain ⟨i, hi, ei⟩ := height_at hok
    obtain ⟨j, hj, ej⟩ := height_at hok'
    have r1 := rank_map hok hL (fun _ => True) (fun a => a + 1) (fun _ _ _ _ => trivial) (fun a b _ hab hne => ⟨upL a b hab, by omega⟩) _ i rfl hi trivial (by omega)
    have r2 := rank_map hok' hL (fun _ => True) (fun a => a + 1 + rows.length) (fun _ _ _ _ => trivial) (fun a b _ hab hne => ⟨upR a b hab, by omega⟩) _ j rfl hj trivial (by omega)
    have r3 := rank_lt hL (h0 (i + 1) (by omega)) (by omega)
    have r4 := rank_lt hL (h0 (j + 1 + rows.length) (by omega)) (by omega)
    have r5 := height_ge hL (i := 0) (by omega)
    obtain ⟨k, hk, ek⟩ := height_at hL
    have down : ∀ q, 0 < q → q < L.length → rankF (gridF L) q ≤ max (heightF rows) (heightF rows') := fun q hq0 hql => by
      by_cases hs : q ≤ rows.length
      · have s1 := rank_map hL hok (fun a => 0 < a ∧ a ≤ rows.length) (fun a => a - 1) (fun a b ha hab => by
          rcases ((hq a b).1 hab).2.2 with u | u | u <;> omega) (fun a b ha hab hne => by
          rcases ((hq a b).1 hab).2.2 with u | u | u
          · omega
          · exact ⟨u.2.2.2.2, by omega⟩
          · omega) _ q rfl hql ⟨hq0, hs⟩ (by omega)
        have s2 := height_ge hok (i := q - 1) (by omega)
        omega
      · have s1 := rank_map hL hok' (fun a => rows.length < a) (fun a => a - 1 - rows.length) (fun a b ha hab => by
          rcases ((hq a b).1 hab).2.2 with u | u | u <;> omega) (fun a b ha hab hne => by
          rcases ((hq a b).1 hab).2.2 with u | u | u
          · omega
          · omega
          · exact ⟨u.2.2.2, by omega⟩) _ q rfl hql (by omega) (by omega)
        have s2 := height_ge hok' (i := q - 1 - rows.length) (by omega)
        omega
    have hf : heightF L = 1 + max (heightF rows) (heightF rows') := by
      by_cases h1 : 1 < rankF (gridF L) k
      · obtain ⟨m, p1, p2, p3⟩ := rank_step hL hk h1
        have hm0 : 0 < m := by
          rcases ((hq k m).1 p1).2.2 with u | u | u <;> omega
        have := down m hm0 (hL.bit_lt p1).2
        omega
      · omega
    omega

/-- FnCut: what is below an element has joins. -/
theorem fact_cut {rows : Rows2} {top : Int} (h : cutOk rows top = true) :
    (∀ a b : Nat, a < (cutL rows top).length → b < (cutL rows top).length → 0 ≤ joinB (cutL rows top) a b) ∧ domB (cutL rows top) = true ∧ validB (cutL rows top) = true ∧ 0 ≤ leastB (backRows (cutL rows top)) := by
  have hp := h
  unfold cutOk at hp
  rw [Bool.and_eq_true, decide_eq_true_iff] at hp
  obtain ⟨hd, h1, h2⟩ := hp
  have hok := (domB_iff.1 hd).1
  have n1 := hok.len
  obtain ⟨t, rfl⟩ : ∃ t : Nat, top = (t : Int) := ⟨top.toNat, by omega⟩
  have ht : t < rows.length := by omega
  have hmem : ∀ i, (i : Nat) ∈ (List.range rows.length).filter (fun i => upB rows i (t : Int)) ↔ Lq rows i t = true := fun i => by
    rw [List.mem_filter, List.mem_range]
    constructor
    · rintro ⟨h3, h4⟩
      rw [hok.up h3] at h4
      exact h4
    · intro h3
      have := (hok.bit_lt h3).1
      exact ⟨this, by rw [hok.up this]; exact h3⟩
  have hcut : cutL rows (t : Int) = madeL (cutB rows (cutK rows t)) (cutK rows t).length := by unfold cutL; rw [if_pos h]
  have hnd : ((List.range rows.length).filter (fun i => upB rows i (t : Int))).Nodup := List.nodup_range.filter _
  have hK : cutK rows (t : Int) = ((List.range rows.length).filter (fun i => upB rows i (t : Int))).map fun i : Nat => (i : Int) := rfl
  rw [hcut]
  generalize (List.range rows.length).filter (fun i => upB rows i (t : Int)) = E at hmem hnd hK
  rw [hK, List.length_map]
  have hget : ∀ a, a < E.length → ((E.map fun i : Nat => (i : Int)).getD a 0) = ((E.getD a 0 : Nat) : Int) := fun a ha => by
    rw [getD_lt 0 (by rw [List.length_map]; exact ha), getD_lt 0 ha, List.getElem_map]
  have heq : ∀ a, a < E.length → Lq rows (E.getD a 0) t = true := fun a ha => by
    rw [getD_lt 0 ha]
    exact (hmem _).1 (List.getElem_mem ha)
  have hinj : ∀ a b, a < E.length → b < E.length → E.getD a 0 = E.getD b 0 → a = b := fun a b ha hb e => by
    rw [getD_lt 0 ha, getD_lt 0 hb] at e
    exact (List.getElem_inj hnd).1 e
  have hsur : ∀ i, Lq rows i t = true → ∃ a, a < E.length ∧ E.getD a 0 = i := fun i hi => by
    obtain ⟨a, ha, e⟩ := List.getElem_of_mem ((hmem i).2 hi)
    exact ⟨a, ha, by rw [getD_lt 0 ha]; exact e⟩
  have hE : E.length ≤ 200 := by
    have h3 := List.Nodup.length_le_of_subset (l₁ := E) (l₂ := List.range rows.length) hnd (fun x hx => List.mem_range.2 (hok.bit_lt ((hmem x).1 hx)).1)
    rw [List.length_range] at h3
    omega
  obtain ⟨m, hm, _, _, hall⟩ := dom_low hd
  obtain ⟨am, ham, eam⟩ := hsur m (hall t ht)
  obtain ⟨at', hat, eat⟩ := hsur t (Lq.refl hok ht)
  have hB : ∀ a b, a < E.length → b < E.length → cutB rows (E.map fun i : Nat => (i : Int)) a b = Lq rows (E.getD a 0) (E.getD b 0) := fun a b ha hb => by
    unfold cutB
    rw [hget a ha, hget b hb, Int.toNat_natCast, hok.up (hok.bit_lt (heq a ha)).1]
  have hL : Ok (madeL (cutB rows (E.map fun i : Nat => (i : Int))) E.length) := by
    refine made_ok (by omega) hE (fun a ha => ?_) (fun a b ha hb hab hne => ?_) (fun a b c ha hb hc hab hbc => ?_)
    · rw [hB a a ha ha]
      exact Lq.refl hok (hok.bit_lt (heq a ha)).1
    · rw [hB a b ha hb] at hab
      rw [hB b a hb ha]
      cases hq : Lq rows (E.getD b 0) (E.getD a 0) with
      | false => rfl
      | true => exact absurd (hinj b a hb ha (Lq.anti hok hq hab)) hne
    · rw [hB a b ha hb] at hab
      rw [hB b c hb hc] at hbc
      rw [hB a c ha hc]
      exact Lq.trans hok hab hbc
  have hq : ∀ a b, Lq (madeL (cutB rows (E.map fun i : Nat => (i : Int))) E.length) a b = true ↔ a < E.length ∧ b < E.length ∧ Lq rows (E.getD a 0) (E.getD b 0) = true := fun a b => by
    rw [made_lq hL]
    refine and_congr_right fun ha => and_congr_right fun hb => ?_
    rw [hB a b ha hb]
  have hlen : (madeL (cutB rows (E.map fun i : Nat => (i : Int))) E.length).length = E.length := madeL_len _ _
  generalize madeL (cutB rows (E.map fun i : Nat => (i : Int))) E.length = L at hL hq hlen ⊢
  have hjoin : ∀ a b, a < E.length → b < E.length → ∃ j, Lq L a j = true ∧ Lq L b j = true ∧ ∀ d, Lq L a d = true → Lq L b d = true → Lq L j d = true := fun a b ha hb => by
    obtain ⟨j, _, _, j1, j2, j3⟩ := dom_join hd (heq a ha) (heq b hb)
    obtain ⟨c, hc, ec⟩ := hsur j (j3 t (heq a ha) (heq b hb))
    refine ⟨c, (hq a c).2 ⟨ha, hc, by rw [ec]; exact j1⟩, (hq b c).2 ⟨hb, hc, by rw [ec]; exact j2⟩, fun d hd1 hd2 => ?_⟩
    obtain ⟨_, hdl, u⟩ := (hq a d).1 hd1
    obtain ⟨_, _, v⟩ := (hq b d).1 hd2
    exact (hq c d).2 ⟨hc, hdl, by rw [ec]; exact j3 _ u v⟩
  have hmin : ∀ i, i < L.length → Lq L am i = true := fun i hi => by
    rw [hlen] at hi
    exact (hq am i).2 ⟨ham, hi, by rw [eam]; exact hall _ (hok.bit_lt (heq i hi)).1⟩
  refine ⟨fun a b ha hb => ?_, dom_mk hL hmin fun a b c hac hbc => hjoin a b (by rw [← hlen]; exact (hL.bit_lt hac).1) (by rw [← hlen]; exact (hL.bit_lt hbc).1), valid_of_ok hL, ?_⟩
  · obtain ⟨j, j1, j2, j3⟩ := hjoin a b (by rw [← hlen]; exact ha) (by rw [← hlen]; exact hb)
    rw [joinB_at hL ha hb, (join_is hL ha hb).2 ⟨j1, j2, j3⟩]
    omega
  · unfold leastB
    rw [if_pos (valid_of_ok hL.back)]
    refine (least_mk hL.back (m := at') fun i hi => ?_).2
    rw [backRows_len, hlen] at hi
    rw [back_q hL]
    exact (hq i at').2 ⟨hi, hat, by rw [eat]; exact heq i hi⟩
end Go.Proofs.YtjfbjfclcpcaiaaDoor
