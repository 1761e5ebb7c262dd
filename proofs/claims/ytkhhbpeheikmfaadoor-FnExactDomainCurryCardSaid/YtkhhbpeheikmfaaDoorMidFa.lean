/- Projection pairs and the greatest elements that go below, in numbers. -/
import Derived.Test.YtkhhbpeheikmfaaDoorImplFun
import Derived.Test.YtkhhbpeheikmfaaDoorMono
import Derived.Test.YtkhhbpeheikmfaaDoorRow
import Derived.IntWalk
import Derived.Test.YtkhhbpeheikmfaaDoorElems
import Derived.Test.YtkhhbpeheikmfaaDoorOwnA
import Derived.Test.YtkhhbpeheikmfaaDoorTo
import Derived.Test.YtkhhbpeheikmfaaDoorMarks
import Derived.Maps.AppendAt
import Derived.Laws.MakeOwn
import Derived.Test.YtkhhbpeheikmfaaDoorDomS
import Derived.Test.YtkhhbpeheikmfaaDoorLw
import Derived.Deep.RegionHeld3
import Derived.Deep.AppendLies
import Derived.Lib.QuietBelow
import Derived.BigQuiet
import Derived.Test.YtkhhbpeheikmfaaDoorRwAt
import Derived.Deep.MidRow
import Derived.Test.YtkhhbpeheikmfaaDoorIsMono
import Derived.Test.YtkhhbpeheikmfaaDoorBack
import Derived.Test.YtkhhbpeheikmfaaDoorHgtP
namespace Go.Proofs.YtkhhbpeheikmfaaDoor
open Go.RowKit Go.Deep

theorem dom_ok {rows : Rows2} (h : domB rows = true) : Ok rows :=
  ok_of_valid (show validB rows = true by unfold domB at h; rw [Bool.and_eq_true] at h; exact h.1)
theorem up_anti {rows : Rows2} (h : Ok rows) {a b : Nat} (ha : a < rows.length) (hb : b < rows.length) (h1 : upB rows a b = true) (h2 : upB rows b a = true) : a = b := by
  rw [← upB_grid h ha] at h1
  rw [← upB_grid h hb] at h2
  by_cases e : a = b
  · exact e
  · rw [h.anti a b ha h1 (fun h => e h.symm)] at h2
    cases h2
theorem up_trans {rows : Rows2} (h : Ok rows) {a b c : Nat} (ha : a < rows.length) (hb : b < rows.length) (h1 : upB rows a b = true) (h2 : upB rows b c = true) : upB rows a c = true := by
  rw [← upB_grid h ha] at h1 ⊢
  rw [← upB_grid h hb] at h2
  exact h.trans a b ha h1 c h2
theorem up_refl {rows : Rows2} (h : Ok rows) {a : Nat} (ha : a < rows.length) : upB rows a a = true := by
  rw [← upB_grid h ha]
  exact h.own a ha

/-- What a function has for an element. -/
def atN (f : List Int) (i : Nat) : Nat := (f.getD i 0).toNat
theorem Mono.lt {rows rows' : Rows2} {f : List Int} (h : Mono rows rows' f) {i : Nat} (hi : i < f.length) : atN f i < rows'.length ∧ f.getD i 0 = (atN f i : Int) := by
  have hm := h.2.1 (f.getD i 0) (by rw [getD_lt 0 hi]; exact List.getElem_mem _)
  unfold atN
  omega
theorem Mono.up {rows rows' : Rows2} {f : List Int} (h : Mono rows rows' f) {a b : Nat} (ha : a < rows.length) (hb : b < rows.length) (hab : upB rows a b = true) : upB rows' (atN f a) (atN f b) = true := by
  have h1 := h.2.2 a b ha hb hab
  rw [(h.lt (i := b) (by rw [h.1]; exact hb)).2] at h1
  exact h1

/-- The lists go up and down as those of a projection pair do. -/
def PairP (rows' : Rows2) (f g : List Int) : Prop :=
  (∀ i, i < f.length → atN g (atN f i) = i) ∧ ∀ k, k < g.length → upB rows' (atN f (atN g k)) k = true
open Classical in
noncomputable def pairI (rows' : Rows2) (f g : List Int) : Bool := decide (PairP rows' f g)
noncomputable def pairB (rows rows' : Rows2) (f g : List Int) : Bool := monoB rows rows' f && monoB rows' rows g && pairI rows' f g
theorem pairI_yes {rows' : Rows2} {f g : List Int} (h : PairP rows' f g) : pairI rows' f g = true := by classical exact decide_eq_true h
theorem pairI_bad1 {rows' : Rows2} {f g : List Int} {i : Nat} (hi : i < f.length) (h : atN g (atN f i) ≠ i) : pairI rows' f g = false := by classical exact decide_eq_false fun hp => h (hp.1 i hi)
theorem pairI_bad2 {rows' : Rows2} {f g : List Int} {k : Nat} (hk : k < g.length) (h : upB rows' (atN f (atN g k)) k = false) : pairI rows' f g = false := by classical exact decide_eq_false fun hp => by rw [hp.2 k hk] at h; cases h
theorem pairB_iff {rows rows' : Rows2} {f g : List Int} : pairB rows rows' f g = true ↔ domB rows = true ∧ domB rows' = true ∧ Mono rows rows' f ∧ Mono rows' rows g ∧ PairP rows' f g := by
  classical
  unfold pairB monoB monoI pairI
  simp only [Bool.and_eq_true, decide_eq_true_eq]
  constructor
  · rintro ⟨⟨⟨⟨h1, h2⟩, h3⟩, ⟨_, h4⟩⟩, h5⟩; exact ⟨h1, h2, h3, h4, h5⟩
  · rintro ⟨h1, h2, h3, h4, h5⟩; exact ⟨⟨⟨⟨h1, h2⟩, h3⟩, ⟨⟨h2, h1⟩, h4⟩⟩, h5⟩

/-- m is the greatest element that the function takes to one below k. -/
def Great (rows rows' : Rows2) (f : List Int) (k m : Nat) : Prop :=
  m < rows.length ∧ upB rows' (atN f m) k = true ∧ ∀ i, i < rows.length → upB rows' (atN f i) k = true → upB rows i m = true
theorem Great.uniq {rows rows' : Rows2} {f : List Int} {k m m' : Nat} (hok : Ok rows) (h : Great rows rows' f k m) (h' : Great rows rows' f k m') : m = m' :=
  up_anti hok h.1 h'.1 (h'.2.2 m h.1 h.2.1) (h.2.2 m' h'.1 h'.2.1)
theorem pair_great {rows rows' : Rows2} {f g : List Int} (h : pairB rows rows' f g = true) {k : Nat} (hk : k < rows'.length) : Great rows rows' f k (atN g k) := by
  obtain ⟨_, _, hf, hg, hp⟩ := pairB_iff.1 h
  have hgk := (hg.lt (i := k) (by rw [hg.1]; exact hk)).1
  refine ⟨hgk, hp.2 k (by rw [hg.1]; exact hk), fun i hi hu => ?_⟩
  have h1 := hg.up (hf.lt (i := i) (by rw [hf.1]; exact hi)).1 hk hu
  rw [hp.1 i (by rw [hf.1]; exact hi)] at h1
  exact h1
/-- A list of greatest elements is monotone. -/
theorem great_mono {rows rows' : Rows2} {f g : List Int} (hok' : Ok rows') (hf : Mono rows rows' f) (hl : g.length = rows'.length) (hr : ∀ x ∈ g, (0 : Int) ≤ x)
    (h : ∀ k, k < rows'.length → Great rows rows' f k (atN g k)) : Mono rows' rows g := by
  have hx : ∀ k, k < g.length → g.getD k 0 = (atN g k : Int) := fun k hk => by
    have := hr (g.getD k 0) (by rw [getD_lt 0 hk]; exact List.getElem_mem _)
    unfold atN
    omega
  refine ⟨hl, fun x hm => ?_, fun a b ha hb hab => ?_⟩
  · obtain ⟨k, hk, rfl⟩ := List.getElem_of_mem hm
    have h1 := (h k (by omega)).1
    have h2 := hx k hk
    rw [getD_lt 0 hk] at h2
    omega
  · rw [hx b (by omega)]
    have h1 := h a ha
    exact (h b hb).2.2 _ h1.1 (up_trans hok' (hf.lt (i := atN g a) (by rw [hf.1]; exact h1.1)).1 ha h1.2.1 hab)
theorem list_eq_atN {f g : List Int} (hl : f.length = g.length) (hf : ∀ x ∈ f, (0 : Int) ≤ x) (hg : ∀ x ∈ g, (0 : Int) ≤ x) (h : ∀ k, k < f.length → atN f k = atN g k) : f = g := by
  refine List.ext_getElem hl fun i h1 h2 => ?_
  have e := h i h1
  unfold atN at e
  rw [getD_lt 0 h1, getD_lt 0 h2] at e
  have := hf _ (List.getElem_mem h1)
  have := hg _ (List.getElem_mem h2)
  omega
/-- The other function of a pair, if there is one. -/
noncomputable def projOk (rows rows' : Rows2) (f : List Int) : Bool := by
  classical exact decide (∃ g, pairB rows rows' f g = true)
noncomputable def projL (rows rows' : Rows2) (f : List Int) : List Int := by
  classical exact if h : ∃ g, pairB rows rows' f g = true then h.choose else []
theorem Mono.nonneg {rows rows' : Rows2} {f : List Int} (h : Mono rows rows' f) : ∀ x ∈ f, (0 : Int) ≤ x := fun x hx => (h.2.1 x hx).1
theorem great_eq {rows rows' : Rows2} {f g p : List Int} (h : pairB rows rows' f g = true) (hl : p.length = rows'.length) (hr : ∀ x ∈ p, (0 : Int) ≤ x) (hp : ∀ k, k < rows'.length → Great rows rows' f k (atN p k)) : p = g := by
  obtain ⟨hd, _, _, hg, _⟩ := pairB_iff.1 h
  refine list_eq_atN (by rw [hl, hg.1]) hr hg.nonneg fun k hk => ?_
  exact Great.uniq (dom_ok hd) (hp k (by omega)) (pair_great h (by omega))
theorem proj_yes {rows rows' : Rows2} {f g : List Int} (h : pairB rows rows' f g = true) : projOk rows rows' f = true ∧ projL rows rows' f = g := by
  classical
  refine ⟨decide_eq_true ⟨g, h⟩, ?_⟩
  have he : ∃ g, pairB rows rows' f g = true := ⟨g, h⟩
  unfold projL
  rw [dif_pos he]
  have h2 := he.choose_spec
  obtain ⟨_, _, _, hg, _⟩ := pairB_iff.1 h2
  exact great_eq h hg.1 hg.nonneg fun k hk => pair_great h2 hk
theorem proj_no {rows rows' : Rows2} {f : List Int} (h : ∀ g, pairB rows rows' f g = false) : projOk rows rows' f = false ∧ projL rows rows' f = [] := by
  classical
  have he : ¬ ∃ g, pairB rows rows' f g = true := fun ⟨g, hg⟩ => by rw [h g] at hg; cases hg
  refine ⟨decide_eq_false he, ?_⟩
  unfold projL
  rw [dif_neg he]
theorem proj_ex {rows rows' : Rows2} {f : List Int} (h : projOk rows rows' f = true) : ∃ g, pairB rows rows' f g = true := by
  classical exact of_decide_eq_true h
theorem proj_nil {rows rows' : Rows2} {f : List Int} (h : projOk rows rows' f = false) : projL rows rows' f = [] := by
  classical
  have he : ¬ ∃ g, pairB rows rows' f g = true := of_decide_eq_false h
  unfold projL
  rw [dif_neg he]
theorem proj_no_mono {rows rows' : Rows2} {f : List Int} (h : monoB rows rows' f = false) : projOk rows rows' f = false ∧ projL rows rows' f = [] :=
  proj_no fun g => by unfold pairB; rw [h]; rfl
theorem proj_no_great {rows rows' : Rows2} {f : List Int} {k : Nat} (hk : k < rows'.length) (h : ∀ m, ¬ Great rows rows' f k m) : projOk rows rows' f = false ∧ projL rows rows' f = [] :=
  proj_no fun g => by cases e : pairB rows rows' f g with
    | false => rfl
    | true => exact absurd (pair_great e hk) (h _)
/-- A list of greatest elements is the other function, or there is none. -/
theorem proj_great {rows rows' : Rows2} {f p : List Int} (hm : monoB rows rows' f = true) (hl : p.length = rows'.length) (hr : ∀ x ∈ p, (0 : Int) ≤ x) (hp : ∀ k, k < rows'.length → Great rows rows' f k (atN p k)) :
    pairB rows rows' f p = pairI rows' f p ∧ projOk rows rows' f = pairI rows' f p ∧ (pairI rows' f p = true → projL rows rows' f = p) ∧ (pairI rows' f p = false → projL rows rows' f = []) := by
  classical
  have hm0 := hm
  unfold monoB at hm
  rw [Bool.and_eq_true, Bool.and_eq_true] at hm
  obtain ⟨⟨hd, hd'⟩, hmi⟩ := hm
  have hmf : Mono rows rows' f := by unfold monoI at hmi; exact of_decide_eq_true hmi
  have hg := great_mono (dom_ok hd') hmf hl hr hp
  have e : pairB rows rows' f p = pairI rows' f p := by
    unfold pairB
    rw [hm0, Bool.true_and]
    have : monoB rows' rows p = true := by
      unfold monoB monoI
      rw [hd, hd', decide_eq_true hg]; rfl
    rw [this, Bool.true_and]
  refine ⟨e, ?_, fun h => (proj_yes (by rw [e]; exact h)).2, fun h => ?_⟩
  · cases h : pairI rows' f p with
    | true => exact (proj_yes (by rw [e]; exact h)).1
    | false =>
      refine (proj_no fun g => ?_).1
      cases h2 : pairB rows rows' f g with
      | false => rfl
      | true =>
        have := great_eq h2 hl hr hp
        subst this
        rw [e, h] at h2
        cases h2
  · refine (proj_no fun g => ?_).2
    cases h2 : pairB rows rows' f g with
    | false => rfl
    | true =>
      have := great_eq h2 hl hr hp
      subst this
      rw [e, h] at h2
      cases h2

/-- The model's search for the greatest element that goes below. -/
def projN (rows rows' : Rows2) (f : List Int) (i : Nat) : Nat → Int
  | 0 => -1
  | k + 1 => if upB rows' (atN f k) i && (decide (projN rows rows' f i k < 0) || upB rows (projN rows rows' f i k).toNat k) then (k : Int) else projN rows rows' f i k
theorem projN_range {rows rows' : Rows2} {f : List Int} {i : Nat} : ∀ k, projN rows rows' f i k = -1 ∨ (0 ≤ projN rows rows' f i k ∧ projN rows rows' f i k < k ∧ upB rows' (atN f (projN rows rows' f i k).toNat) i = true)
  | 0 => .inl rfl
  | k + 1 => by
    unfold projN
    split
    next h =>
      rw [Bool.and_eq_true] at h
      exact .inr ⟨by omega, by omega, by rw [Int.toNat_natCast]; exact h.1⟩
    next h =>
      rcases projN_range (rows := rows) (rows' := rows') (f := f) (i := i) k with h | h
      · exact .inl h
      · exact .inr ⟨h.1, by omega, h.2.2⟩
theorem projN_great {rows rows' : Rows2} {f : List Int} {i m : Nat} (hok : Ok rows) (h : Great rows rows' f i m) : ∀ k, k ≤ rows.length → m < k → projN rows rows' f i k = (m : Int)
  | 0, _, hm => absurd hm (Nat.not_lt_zero _)
  | k + 1, hk, hm => by
    have ih := projN_great hok h k (by omega)
    unfold projN
    by_cases e : m = k
    · subst e
      rw [if_pos]
      rw [Bool.and_eq_true, Bool.or_eq_true, decide_eq_true_iff]
      refine ⟨h.2.1, ?_⟩
      rcases projN_range (rows := rows) (rows' := rows') (f := f) (i := i) m with h1 | h1
      · exact .inl (by omega)
      · exact .inr (h.2.2 _ (by omega) h1.2.2)
    · rw [ih (by omega), if_neg]
      rw [Bool.and_eq_true, Bool.or_eq_true, decide_eq_true_iff, Int.toNat_natCast]
      rintro ⟨h1, h2⟩
      rcases h2 with h2 | h2
      · omega
      · exact e (up_anti hok h.1 (by omega) h2 (h.2.2 k (by omega) h1))
/-- The model's list. -/
def projBest (rows rows' : Rows2) (f : List Int) (n : Nat) : List Int := (List.range n).map fun i => max 0 (projN rows rows' f i f.length)
theorem projBest_len (rows rows' : Rows2) (f : List Int) (n : Nat) : (projBest rows rows' f n).length = n := by unfold projBest; simp
theorem projBest_succ (rows rows' : Rows2) (f : List Int) (n : Nat) : projBest rows rows' f (n + 1) = projBest rows rows' f n ++ [max 0 (projN rows rows' f n f.length)] := by
  unfold projBest
  rw [List.range_succ, List.map_append]
  rfl
theorem projBest_range {rows rows' : Rows2} {f : List Int} (n : Nat) : ∀ x ∈ projBest rows rows' f n, 0 ≤ x ∧ x ≤ f.length := by
  intro x hx
  unfold projBest at hx
  obtain ⟨i, _, rfl⟩ := List.mem_map.1 hx
  rcases projN_range (rows := rows) (rows' := rows') (f := f) (i := i) f.length with h | h <;> omega
/-- The model's list is the other function, or there is none. -/
theorem proj_model (rows rows' : Rows2) (f : List Int) :
    projOk rows rows' f = pairB rows rows' f (projBest rows rows' f rows'.length) ∧ projL rows rows' f = (if pairB rows rows' f (projBest rows rows' f rows'.length) = true then projBest rows rows' f rows'.length else []) := by
  classical
  cases h : pairB rows rows' f (projBest rows rows' f rows'.length) with
  | true =>
    obtain ⟨e1, e2⟩ := proj_yes h
    exact ⟨e1, by rw [e2, if_pos rfl]⟩
  | false =>
    have hn : ∀ g, pairB rows rows' f g = false := fun g => by
      cases e : pairB rows rows' f g with
      | false => rfl
      | true =>
        obtain ⟨hd, _, hf, _, _⟩ := pairB_iff.1 e
        have he : projBest rows rows' f rows'.length = g := great_eq e (projBest_len _ _ _ _) (fun x hx => (projBest_range _ x hx).1) fun k hk => by
          have hg := pair_great e hk
          have hb := projN_great (dom_ok hd) hg f.length (by rw [hf.1]; exact Nat.le_refl _) (by rw [hf.1]; exact hg.1)
          have : atN (projBest rows rows' f rows'.length) k = atN g k := by
            show ((projBest rows rows' f rows'.length).getD k (0 : Int)).toNat = _
            rw [getD_lt 0 (by rw [projBest_len]; exact hk)]
            unfold projBest
            rw [List.getElem_map, List.getElem_range, hb]
            omega
          rw [this]
          exact hg
        rw [he, e] at h
        cases h
    obtain ⟨e1, e2⟩ := proj_no hn
    exact ⟨e1, by rw [e2, if_neg (by simp)]⟩
end Go.Proofs.YtkhhbpeheikmfaaDoor

/- All lists that go on from a list, in the order in which a search finds them. Plain facts: no function is walked here. -/
namespace Go.Proofs.YtkhhbpeheikmfaaDoor
open Go.RowKit Go.Deep

/-- All lists of f further numbers below m that keep P behind l, sorted. -/
def extL (m : Nat) (P : List Nat → Bool) : Nat → List Nat → List (List Nat)
  | 0, l => if P l then [l] else []
  | f + 1, l => (List.range m).flatMap fun k => extL m P f (l ++ [k])
theorem mem_extL {m : Nat} {P : List Nat → Bool} {x : List Nat} : ∀ (f : Nat) (l : List Nat), x ∈ extL m P f l ↔ ∃ t, t.length = f ∧ (∀ y ∈ t, y < m) ∧ x = l ++ t ∧ P x = true
  | 0, l => by
    unfold extL
    constructor
    · intro h
      by_cases hp : P l = true
      · rw [if_pos hp, List.mem_singleton] at h
        subst h
        exact ⟨[], rfl, fun y hy => (by cases hy), by simp, hp⟩
      · rw [if_neg hp] at h
        cases h
    · rintro ⟨t, ht, _, rfl, hp⟩
      obtain rfl := List.length_eq_zero_iff.1 ht
      rw [List.append_nil] at hp ⊢
      rw [if_pos hp]
      exact List.mem_singleton.2 rfl
  | f + 1, l => by
    unfold extL
    rw [List.mem_flatMap]
    constructor
    · rintro ⟨k, hk, hx⟩
      rw [List.mem_range] at hk
      obtain ⟨t, h1, h2, h3, h4⟩ := (mem_extL f (l ++ [k])).1 hx
      refine ⟨k :: t, by rw [List.length_cons, h1], fun y hy => ?_, by rw [h3, List.append_assoc]; rfl, h4⟩
      rcases List.mem_cons.1 hy with e | e
      · rw [e]; exact hk
      · exact h2 y e
    · rintro ⟨t, h1, h2, h3, h4⟩
      cases t with
      | nil => cases h1
      | cons k t =>
        refine ⟨k, List.mem_range.2 (h2 k List.mem_cons_self), (mem_extL f (l ++ [k])).2 ⟨t, by simpa using h1, fun y hy => h2 y (List.mem_cons_of_mem _ hy), by rw [h3, List.append_assoc]; rfl, h4⟩⟩
theorem extL_none {m : Nat} {P : List Nat → Bool} {f : Nat} {l : List Nat} (h : ∀ t, t.length = f → (∀ y ∈ t, y < m) → P (l ++ t) = false) : extL m P f l = [] := by
  refine List.eq_nil_iff_forall_not_mem.2 fun x hx => ?_
  obtain ⟨t, h1, h2, rfl, h4⟩ := (mem_extL f l).1 hx
  rw [h t h1 h2] at h4
  cases h4
theorem nodup_flatMap {α β : Type} {g : α → List β} : ∀ {l : List α}, l.Nodup → (∀ a ∈ l, (g a).Nodup) → (∀ a ∈ l, ∀ b ∈ l, a ≠ b → ∀ x ∈ g a, x ∉ g b) → (l.flatMap g).Nodup
  | [], _, _, _ => by simp
  | a :: l, hn, hg, hd => by
    rw [List.flatMap_cons, List.nodup_append]
    rw [List.nodup_cons] at hn
    refine ⟨hg a List.mem_cons_self, nodup_flatMap hn.2 (fun b hb => hg b (List.mem_cons_of_mem _ hb)) (fun b hb c hc => hd b (List.mem_cons_of_mem _ hb) c (List.mem_cons_of_mem _ hc)), fun x hx y hy e => ?_⟩
    subst e
    obtain ⟨b, hb, hxb⟩ := List.mem_flatMap.1 hy
    exact hd a List.mem_cons_self b (List.mem_cons_of_mem _ hb) (fun e => hn.1 (e ▸ hb)) x hx hxb
theorem nodup_extL {m : Nat} {P : List Nat → Bool} : ∀ (f : Nat) (l : List Nat), (extL m P f l).Nodup
  | 0, l => by
    unfold extL
    split
    · simp
    · simp
  | f + 1, l => by
    unfold extL
    refine nodup_flatMap List.nodup_range (fun k _ => nodup_extL f (l ++ [k])) fun a _ b _ hab x hx hy => ?_
    obtain ⟨t, _, _, rfl, _⟩ := (mem_extL f _).1 hx
    obtain ⟨t', _, _, h3, _⟩ := (mem_extL f _).1 hy
    rw [List.append_assoc, List.append_assoc] at h3
    have h4 := List.append_cancel_left h3
    rw [List.singleton_append, List.singleton_append] at h4
    injection h4 with h4 _
    exact hab h4

/-- What is found when the first j numbers have been tried. -/
def foundJ (m : Nat) (P : List Nat → Bool) (f : Nat) (l : List Nat) (j : Nat) : List (List Nat) := (List.range j).flatMap fun k => extL m P f (l ++ [k])
theorem foundJ_zero (m : Nat) (P : List Nat → Bool) (f : Nat) (l : List Nat) : foundJ m P f l 0 = [] := rfl
theorem foundJ_succ (m : Nat) (P : List Nat → Bool) (f : Nat) (l : List Nat) (j : Nat) : foundJ m P f l (j + 1) = foundJ m P f l j ++ extL m P f (l ++ [j]) := by
  unfold foundJ
  rw [List.range_succ, List.flatMap_append]
  simp
theorem foundJ_all (m : Nat) (P : List Nat → Bool) (f : Nat) (l : List Nat) : foundJ m P f l m = extL m P (f + 1) l := rfl

/-- No more than so many. -/
theorem take_more {α : Type} (c : Nat) (xs ys : List α) : (xs.take c ++ ys).take c = (xs ++ ys).take c := by
  rw [List.take_append, List.take_append, List.take_take, Nat.min_self]
  by_cases h : xs.length ≤ c
  · rw [List.take_of_length_le h]
  · rw [List.length_take, Nat.min_eq_left (by omega), Nat.sub_self, show c - xs.length = 0 by omega]
theorem take_full {α : Type} {c : Nat} {xs : List α} (ys : List α) (h : c ≤ (xs.take c).length) : (xs ++ ys).take c = xs.take c := by
  rw [List.length_take] at h
  rw [List.take_append, show c - xs.length = 0 by omega, List.take_zero, List.append_nil]

/-- As many different members as there are in another list without doubles. -/
theorem nodup_le {α : Type} [DecidableEq α] : ∀ {xs ys : List α}, xs.Nodup → (∀ x ∈ xs, x ∈ ys) → xs.length ≤ ys.length
  | [], _, _, _ => Nat.zero_le _
  | a :: xs, ys, hn, h => by
    rw [List.nodup_cons] at hn
    have h1 := h a List.mem_cons_self
    have h2 := nodup_le (ys := ys.erase a) hn.2 fun x hx => (List.mem_erase_of_ne (fun e => hn.1 (by rw [← e]; exact hx))).2 (h x (List.mem_cons_of_mem _ hx))
    rw [List.length_erase_of_mem h1] at h2
    have : 0 < ys.length := List.length_pos_of_mem h1
    rw [List.length_cons]
    omega
end Go.Proofs.YtkhhbpeheikmfaaDoor

/- All monotone functions, found element by element. Plain facts: no function is walked here. -/
namespace Go.Proofs.YtkhhbpeheikmfaaDoor
open Go.RowKit Go.Deep

/-- A list of numbers that keeps what is below what. -/
def MonN (B B' : Nat → Nat → Bool) (l : List Nat) : Prop := ∀ a b : Nat, a < l.length → b < l.length → B a b = true → B' (l.getD a 0) (l.getD b 0) = true
open Classical in
noncomputable def monN (B B' : Nat → Nat → Bool) (l : List Nat) : Bool := decide (MonN B B' l)
theorem monN_iff {B B' : Nat → Nat → Bool} {l : List Nat} : monN B B' l = true ↔ MonN B B' l := by classical exact decide_eq_true_iff
/-- The number j fits behind the list. -/
def fineN (B B' : Nat → Nat → Bool) (l : List Nat) (j : Nat) : Bool := (List.range l.length).all fun k => (!B k l.length || B' (l.getD k 0) j) && (!B l.length k || B' j (l.getD k 0))
theorem fineN_iff {B B' : Nat → Nat → Bool} {l : List Nat} {j : Nat} : fineN B B' l j = true ↔ ∀ k, k < l.length → (B k l.length = true → B' (l.getD k 0) j = true) ∧ (B l.length k = true → B' j (l.getD k 0) = true) := by
  unfold fineN
  simp only [List.all_eq_true, List.mem_range, Bool.and_eq_true, Bool.or_eq_true, Bool.not_eq_true']
  constructor
  · intro h k hk
    obtain ⟨h1, h2⟩ := h k hk
    exact ⟨fun e => by rcases h1 with h1 | h1; (rw [e] at h1; cases h1); exact h1, fun e => by rcases h2 with h2 | h2; (rw [e] at h2; cases h2); exact h2⟩
  · intro h k hk
    obtain ⟨h1, h2⟩ := h k hk
    refine ⟨?_, ?_⟩
    · cases e : B k l.length with
      | false => exact .inl rfl
      | true => exact .inr (h1 e)
    · cases e : B l.length k with
      | false => exact .inl rfl
      | true => exact .inr (h2 e)
theorem getD_app {l t : List Nat} {k : Nat} (h : k < l.length) : (l ++ t).getD k 0 = l.getD k 0 := by
  rw [List.getD_eq_getElem?_getD, List.getD_eq_getElem?_getD, List.getElem?_append_left h]
theorem getD_end (l : List Nat) (j : Nat) (t : List Nat) : (l ++ j :: t).getD l.length 0 = j := by
  rw [List.getD_eq_getElem?_getD, List.getElem?_append_right (Nat.le_refl _), Nat.sub_self]
  rfl
theorem MonN.left {B B' : Nat → Nat → Bool} {l t : List Nat} (h : MonN B B' (l ++ t)) : MonN B B' l := fun a b ha hb hab => by
  have := h a b (by rw [List.length_append]; omega) (by rw [List.length_append]; omega) hab
  rw [getD_app ha, getD_app hb] at this
  exact this
theorem MonN.fine {B B' : Nat → Nat → Bool} {l t : List Nat} {j : Nat} (h : MonN B B' (l ++ j :: t)) : fineN B B' l j = true := fineN_iff.2 fun k hk => by
  have hl : (l ++ j :: t).length = l.length + (t.length + 1) := by rw [List.length_append, List.length_cons]
  refine ⟨fun e => ?_, fun e => ?_⟩
  · have := h k l.length (by omega) (by omega) e
    rw [getD_app hk, getD_end] at this
    exact this
  · have := h l.length k (by omega) (by omega) e
    rw [getD_app hk, getD_end] at this
    exact this
theorem MonN.snoc {B B' : Nat → Nat → Bool} {l : List Nat} {j : Nat} (h : MonN B B' l) (hf : fineN B B' l j = true) (hj : B' j j = true) : MonN B B' (l ++ [j]) := fun a b ha hb hab => by
  have hl : (l ++ [j]).length = l.length + 1 := by rw [List.length_append]; rfl
  rw [hl] at ha hb
  rw [fineN_iff] at hf
  by_cases e1 : a < l.length
  · by_cases e2 : b < l.length
    · rw [getD_app e1, getD_app e2]; exact h a b e1 e2 hab
    · obtain rfl : b = l.length := by omega
      rw [getD_app e1, getD_end]
      exact (hf a e1).1 hab
  · obtain rfl : a = l.length := by omega
    by_cases e2 : b < l.length
    · rw [getD_app e2, getD_end]
      exact (hf b e2).2 hab
    · obtain rfl : b = l.length := by omega
      rw [getD_end]
      exact hj
theorem MonN.nil (B B' : Nat → Nat → Bool) : MonN B B' [] := fun _ _ h => absurd h (Nat.not_lt_zero _)
theorem ext_notfine {B B' : Nat → Nat → Bool} {m f : Nat} {l : List Nat} {j : Nat} (h : fineN B B' l j = false) : extL m (monN B B') f (l ++ [j]) = [] :=
  extL_none fun t _ _ => by
    cases e : monN B B' (l ++ [j] ++ t) with
    | false => rfl
    | true =>
      rw [List.append_assoc] at e
      rw [(monN_iff.1 e).fine] at h
      cases h
theorem ext_end {B B' : Nat → Nat → Bool} {m : Nat} {l : List Nat} (h : MonN B B' l) : extL m (monN B B') 0 l = [l] := by
  unfold extL
  rw [if_pos (monN_iff.2 h)]
/-- All monotone functions of n elements to m elements, sorted. -/
noncomputable def funsN (B B' : Nat → Nat → Bool) (n m : Nat) : List (List Nat) := extL m (monN B B') n []

/-- There is a function of its own for each element and each one but the least to which all above it may go. -/
def stepN (B : Nat → Nat → Bool) (n z i v : Nat) : List Nat := (List.range n).map fun q => if B i q then v else z
theorem stepN_at {B : Nat → Nat → Bool} {n z i v q : Nat} (h : q < n) : (stepN B n z i v).getD q 0 = if B i q then v else z := by
  unfold stepN
  rw [List.getD_eq_getElem?_getD, List.getElem?_map, List.getElem?_range h]
  rfl
theorem funs_many {B B' : Nat → Nat → Bool} {n m z : Nat} (hr : ∀ a, a < n → B a a = true) (ha : ∀ a b, a < n → b < n → B a b = true → B b a = true → a = b) (ht : ∀ a b c, a < n → b < n → c < n → B a b = true → B b c = true → B a c = true)
    (hz : z < m) (hz2 : ∀ v, v < m → B' z v = true) (hr' : ∀ v, v < m → B' v v = true) : n * (m - 1) + 1 ≤ (funsN B B' n m).length := by
  let val : Nat → Nat := fun r => if r < z then r else r + 1
  let F : Nat → List Nat := fun t => if t = 0 then stepN B n z n z else stepN B n z ((t - 1) / (m - 1)) (val ((t - 1) % (m - 1)))
  have hv : ∀ r, r < m - 1 → val r < m ∧ val r ≠ z := fun r h => by
    show (if r < z then r else r + 1) < m ∧ (if r < z then r else r + 1) ≠ z
    split <;> omega
  have hF0 : ∀ q, q < n → (F 0).getD q 0 = z := fun q hq => by
    show ((stepN B n z n z).getD q 0) = z
    rw [stepN_at hq]
    split <;> rfl
  have hFt : ∀ t, 0 < t → t < n * (m - 1) + 1 → ((t - 1) / (m - 1)) < n ∧ (t - 1) % (m - 1) < m - 1 ∧ F t = stepN B n z ((t - 1) / (m - 1)) (val ((t - 1) % (m - 1))) := fun t h1 h2 => by
    have h0 : 0 < m - 1 := Nat.pos_of_ne_zero fun e => by rw [e, Nat.mul_zero] at h2; omega
    refine ⟨(Nat.div_lt_iff_lt_mul h0).2 (by omega), Nat.mod_lt _ h0, ?_⟩
    show (if t = 0 then _ else _) = _
    rw [if_neg (by omega)]
  have hlen : ∀ t, (F t).length = n := fun t => by
    show (if t = 0 then stepN B n z n z else _).length = n
    unfold stepN
    split <;> simp
  have key : ∀ i v i' v', i < n → i' < n → v ≠ z → v' ≠ z → stepN B n z i v = stepN B n z i' v' → i = i' ∧ v = v' := fun i v i' v' hi hi' h1 h2 e => by
    have e1 := congrArg (fun l => l.getD i 0) e
    have e2 := congrArg (fun l => l.getD i' 0) e
    rw [stepN_at hi, stepN_at hi, hr i hi, if_pos rfl] at e1
    rw [stepN_at hi', stepN_at hi', hr i' hi', if_pos rfl] at e2
    by_cases b1 : B i' i = true
    · rw [if_pos b1] at e1
      by_cases b2 : B i i' = true
      · exact ⟨ha i i' hi hi' b2 b1, e1⟩
      · rw [if_neg b2] at e2; exact absurd e2.symm h2
    · rw [if_neg b1] at e1; exact absurd e1 h1
  have hinj : ∀ t t', t < n * (m - 1) + 1 → t' < n * (m - 1) + 1 → F t = F t' → t = t' := fun t t' h h' e => by
    have aux : ∀ s, 0 < s → s < n * (m - 1) + 1 → F 0 ≠ F s := fun s h1 h2 e => by
      obtain ⟨g1, g2, g3⟩ := hFt s h1 h2
      have e1 := congrArg (fun l => l.getD ((s - 1) / (m - 1)) 0) e
      rw [hF0 _ g1, g3, stepN_at g1, hr _ g1, if_pos rfl] at e1
      exact (hv _ g2).2 e1.symm
    by_cases h0 : t = 0
    · subst h0
      by_cases h0' : t' = 0
      · exact h0'.symm
      · exact absurd e (aux t' (by omega) h')
    · by_cases h0' : t' = 0
      · subst h0'
        exact absurd e.symm (aux t (by omega) h)
      · obtain ⟨g1, g2, g3⟩ := hFt t (by omega) h
        obtain ⟨k1, k2, k3⟩ := hFt t' (by omega) h'
        rw [g3, k3] at e
        obtain ⟨e1, e2⟩ := key _ _ _ _ g1 k1 (hv _ g2).2 (hv _ k2).2 e
        have e3 : (t - 1) % (m - 1) = (t' - 1) % (m - 1) := by
          have e4 : (if (t - 1) % (m - 1) < z then (t - 1) % (m - 1) else (t - 1) % (m - 1) + 1) = (if (t' - 1) % (m - 1) < z then (t' - 1) % (m - 1) else (t' - 1) % (m - 1) + 1) := e2
          split at e4 <;> split at e4 <;> omega
        have d1 := Nat.div_add_mod (t - 1) (m - 1)
        have d2 := Nat.div_add_mod (t' - 1) (m - 1)
        rw [e1, e3] at d1
        omega
  have hmem : ∀ t, t < n * (m - 1) + 1 → F t ∈ funsN B B' n m := fun t h => by
    refine (mem_extL n []).2 ⟨F t, hlen t, fun y hy => ?_, rfl, monN_iff.2 fun a b hal hbl hab => ?_⟩
    · by_cases h0 : t = 0
      · subst h0
        have : y ∈ stepN B n z n z := hy
        unfold stepN at this
        obtain ⟨q, _, rfl⟩ := List.mem_map.1 this
        split <;> exact hz
      · obtain ⟨g1, g2, g3⟩ := hFt t (by omega) h
        rw [g3] at hy
        unfold stepN at hy
        obtain ⟨q, _, rfl⟩ := List.mem_map.1 hy
        split
        · exact (hv _ g2).1
        · exact hz
    · rw [hlen] at hal hbl
      by_cases h0 : t = 0
      · subst h0
        rw [hF0 a hal, hF0 b hbl]
        exact hz2 z hz
      · obtain ⟨g1, g2, g3⟩ := hFt t (by omega) h
        rw [g3, stepN_at hal, stepN_at hbl]
        by_cases b1 : B ((t - 1) / (m - 1)) a = true
        · rw [if_pos b1, if_pos (ht _ _ _ g1 hal hbl b1 hab)]
          exact hr' _ (hv _ g2).1
        · rw [if_neg b1]
          apply hz2
          split
          · exact (hv _ g2).1
          · exact hz
  have hnd : ((List.range (n * (m - 1) + 1)).map F).Nodup := by
    rw [List.Nodup, List.pairwise_map]
    exact List.Pairwise.imp_of_mem (fun {a b} ha hb hne e => hne (hinj a b (List.mem_range.1 ha) (List.mem_range.1 hb) e)) List.nodup_range
  have hle := nodup_le hnd (ys := funsN B B' n m) fun x hx => by
    obtain ⟨t, ht, rfl⟩ := List.mem_map.1 hx
    exact hmem t (List.mem_range.1 ht)
  rw [List.length_map, List.length_range] at hle
  exact hle
end Go.Proofs.YtkhhbpeheikmfaaDoor

/- The number of bits of a word (OnesCount64): some number that is not large; what more it is, nobody asks here. -/
namespace Go.Proofs.YtkhhbpeheikmfaaDoor
open Go.RowKit Go.Deep

/-- A number that is not large, and the same world. -/
def SmallN (m : Nat) (w : World) (e : Ending) (w' : World) : Prop := (∃ c : Nat, c ≤ m ∧ e = .returned (.int .i64 (c : Nat))) ∧ w = w'

theorem and127 (y : Int) : ∃ c : Nat, c ≤ 127 ∧ Ending.returned (.int .i64 (bits BinOp.and IntKind.i64 y 127)) = .returned (.int .i64 (c : Nat)) := by
  have h1 : (BitVec.ofInt 64 (127 : Int)).toNat = 127 := by decide
  have h2 : (BitVec.ofInt 64 y &&& BitVec.ofInt 64 127).toNat = (BitVec.ofInt 64 y).toNat % 128 := by rw [BitVec.toNat_and, h1, nat_mask7]
  have h3 : bits BinOp.and IntKind.i64 y 127 = (((BitVec.ofInt 64 y).toNat % 128 : Nat) : Int) := by
    show IntKind.i64.wrap ((BitVec.ofInt 64 y &&& BitVec.ofInt 64 127).toNat : Int) = _
    rw [h2]
    exact IntWalk.i64_in _ (by omega)
  exact ⟨(BitVec.ofInt 64 y).toNat % 128, by omega, by rw [h3]⟩

set_option maxRecDepth 100000 in
set_option maxHeartbeats 4000000 in
theorem ones_any (x : Nat) (w : World) : Calls Tryd.prog 102 #[.int .u64 x] w (SmallN 127 w) := by
  go_enter Tryd.func102, Tryd.ntmps102
  go_wp2
  go_ret
  exact ⟨and127 _, rfl⟩

/-- A number that is not large; nothing that was there has turned. -/
def SmallB (m : Nat) (w : World) (e : Ending) (w' : World) : Prop := (∃ c : Nat, c ≤ m ∧ e = .returned (.int .i64 (c : Nat))) ∧ Below w.heap.size w w'

set_option maxRecDepth 100000 in
set_option maxHeartbeats 4000000 in
theorem count_any (r : Nat) (w : World) : Calls Tryd.prog 92 #[rowV r] w (SmallB 1000 w) := by
  have i0 := ix0
  have i1 := ix1
  have i2 := ix2
  have i3 := ix3
  have HB : Hid (Below w.heap.size w (w.alloc (.cells #[.int .u64 ((word r 0 : Nat) : Int), .int .u64 ((word r 1 : Nat) : Int), .int .u64 ((word r 2 : Nat) : Int), .int .u64 ((word r 3 : Nat) : Int)] 92))) := Lib.hid ((Below.refl _ w).alloc (Nat.le_refl _) _)
  go_enter Tryd.func92, Tryd.ntmps92
  go_wp2
  refine wp_loop_rounds 5 ?_
  rw [rounds_succ]
  go_wp2_with fail
  refine (ones_any _ _).mono ?_
  rintro e w' ⟨⟨a0, h0, rfl⟩, rfl⟩
  go_wp2
  rw [rounds_succ]
  go_wp2_with fail
  refine (ones_any _ _).mono ?_
  rintro e w' ⟨⟨a1, h1, rfl⟩, rfl⟩
  go_wp2
  rw [rounds_succ]
  go_wp2_with fail
  refine (ones_any _ _).mono ?_
  rintro e w' ⟨⟨a2, h2, rfl⟩, rfl⟩
  go_wp2
  rw [rounds_succ]
  go_wp2_with fail
  refine (ones_any _ _).mono ?_
  rintro e w' ⟨⟨a3, h3, rfl⟩, rfl⟩
  go_wp2
  rw [rounds_succ]
  go_wp2
  go_ret
  exact ⟨⟨a0 + a1 + a2 + a3, by omega, by simp⟩, HB.out⟩
end Go.Proofs.YtkhhbpeheikmfaaDoor

/- The program's list of the elements of a row (row.list), in memory of its own. -/
namespace Go.Proofs.YtkhhbpeheikmfaaDoor
open Go.RowKit Go.Deep Go.Shelf
attribute [local go_sem] Oper.semAt_some

/-- Numbers as integers. -/
def intsOf (l : List Nat) : List Int := l.map fun k : Nat => (k : Int)
theorem intsOf_wf {l : List Nat} (h : ∀ k ∈ l, k ≤ 1048576) : ∀ x ∈ intsOf l, (Lit.int .i64 x).wf = true := by
  intro x hx
  obtain ⟨k, hk, rfl⟩ := List.mem_map.1 hx
  have := h k hk
  have e1 : IntKind.i64.min = -9223372036854775808 := rfl
  have e2 : IntKind.i64.max = 9223372036854775807 := rfl
  simp [Lit.wf, e1, e2]
  omega
theorem elems_lt256 {r k : Nat} (h : k ∈ elems r) : k < 256 := by
  unfold elems at h
  exact List.mem_range.1 (List.mem_filter.1 h).1

/-- The numbers xs, in memory of their own. -/
def ListPost (xs : List Int) (w : World) (e : Ending) (w' : World) : Prop :=
  ∃ v, e = .returned v ∧ OwnI 3 w' v xs w.heap.size w'.heap.size ∧ Below w.heap.size w w'
theorem box_ne : (37 : TypeId) ≠ 3 := by decide

set_option maxRecDepth 100000 in
set_option maxHeartbeats 4000000 in
theorem list_any (r : Nat) (w : World) (hr : r < 2 ^ 256) (hT : Tab w) :
    Calls Tryd.prog 77 #[rowV r] w (ListPost (intsOf (elems r)) w) := by
  have htab : 0 < w.heap.size := cell_lt (hT 0 (by omega))
  obtain ⟨i0, hi, hz0, hz1, hz2⟩ := info_parts infoInt
  have hb1 : Below w.heap.size w (w.alloc (.cells #[.int .u64 ((word r 0 : Nat) : Int), .int .u64 ((word r 1 : Nat) : Int), .int .u64 ((word r 2 : Nat) : Int), .int .u64 ((word r 3 : Nat) : Int)] 92)) := (Below.refl _ w).alloc (Nat.le_refl _) _
  have R1 := Lib.hid (RowIn.alloc w hr)
  have HB1 := Lib.hid hb1
  have HT := Lib.hid hT
  clear hb1 hT
  refine (callsIn_wide (n := 8)).1 ?_
  refine callsIn_of_wp_marks Tryd.func77 rfl trivial ?_ rfl
  simp only [Tryd.ntmps77, List.size_toArray, List.length_cons, List.length_nil, Nat.reduceAdd, Nat.reduceSub, Array.replicate_succ, Array.replicate_zero, List.push_toArray, List.append_toArray, List.nil_append, List.cons_append]
  gi_wp2
  refine ⟨trivial, (callsIn_wide.2 (count_any r _)).mono ?_⟩
  rintro e w1 ⟨⟨c, hc, rfl⟩, hb1⟩
  have B1 := Lib.hid (HB1.out.trans (hb1.mono HB1.out.size))
  have hz1' : w.heap.size < w1.heap.size := Nat.lt_of_lt_of_le (by simp) hb1.size
  have RR := Lib.hid (R1.out.below hb1 R1.out.lt)
  have hmk := run_make (P := Tryd.prog) w1 37 3 i0 (.int .i64 0) Tryd.underlying37 hi hz0 .i64 .i64 0 (c : Int) (by omega) (by omega) (by rw [hz2]; omega) (by omega)
  simp only [Int.toNat_zero, Int.toNat_natCast] at hmk
  clear hb1 R1 HB1
  obtain ⟨r0, r1, r2, r3⟩ := RR.out.cells
  gi_wp2
  refine ⟨trivial, (callsIn_wide.2 (elements_any r _)).mono ?_⟩
  rintro e w3 ⟨rfl, rfl⟩
  gi_wp2
  have s1 : (w1.alloc (.cells (madeCells #[.int .i64 0] c) 3)).heap.size = w1.heap.size + 1 := World.size_alloc _ _
  have s2 : ((w1.alloc (.cells (madeCells #[.int .i64 0] c) 3)).alloc (.cells #[.slice (some ⟨w1.heap.size, 0, none⟩) 0 c] 37)).heap.size = w1.heap.size + 2 := by rw [World.size_alloc, s1]
  have hB4 : Below w1.heap.size w1 (((w1.alloc (.cells (madeCells #[.int .i64 0] c) 3)).alloc (.cells #[.slice (some ⟨w1.heap.size, 0, none⟩) 0 c] 37)).alloc (.cells #[.int .u64 ((word r 0 : Nat) : Int), .int .u64 ((word r 1 : Nat) : Int), .int .u64 ((word r 2 : Nat) : Int), .int .u64 ((word r 3 : Nat) : Int)] 92)) := (((Below.refl _ w1).alloc (Nat.le_refl _) _).alloc (by simp) _).alloc (by simp; omega) _
  have p4 : Boxed (((w1.alloc (.cells (madeCells #[.int .i64 0] c) 3)).alloc (.cells #[.slice (some ⟨w1.heap.size, 0, none⟩) 0 c] 37)).alloc (.cells #[.int .u64 ((word r 0 : Nat) : Int), .int .u64 ((word r 1 : Nat) : Int), .int .u64 ((word r 2 : Nat) : Int), .int .u64 ((word r 3 : Nat) : Int)] 92)) (w1.heap.size + 1) 37 (.slice (some ⟨w1.heap.size, 0, none⟩) 0 c) := by
    have h := Boxed.new (w1.alloc (.cells (madeCells #[.int .i64 0] c) 3)) 37 (.slice (some ⟨w1.heap.size, 0, none⟩) 0 c)
    rw [s1] at h
    exact h.alloc _
  have o4 : (((w1.alloc (.cells (madeCells #[.int .i64 0] c) 3)).alloc (.cells #[.slice (some ⟨w1.heap.size, 0, none⟩) 0 c] 37)).alloc (.cells #[.int .u64 ((word r 0 : Nat) : Int), .int .u64 ((word r 1 : Nat) : Int), .int .u64 ((word r 2 : Nat) : Int), .int .u64 ((word r 3 : Nat) : Int)] 92)).ownsRow w.heap.size 3 1 (.slice (some ⟨w1.heap.size, 0, none⟩) 0 c) 0 [] :=
    ((World.ownsRow_made w1 (madeCells #[.int .i64 0] c) c (by omega) (by unfold maxLen; omega) (by rw [size_madeCells, Nat.mul_one])).alloc _).alloc _
  have r4 : RowIn (((w1.alloc (.cells (madeCells #[.int .i64 0] c) 3)).alloc (.cells #[.slice (some ⟨w1.heap.size, 0, none⟩) 0 c] 37)).alloc (.cells #[.int .u64 ((word r 0 : Nat) : Int), .int .u64 ((word r 1 : Nat) : Int), .int .u64 ((word r 2 : Nat) : Int), .int .u64 ((word r 3 : Nat) : Int)] 92)) (w1.heap.size + 2) r := by
    have h := RowIn.alloc ((w1.alloc (.cells (madeCells #[.int .i64 0] c) 3)).alloc (.cells #[.slice (some ⟨w1.heap.size, 0, none⟩) 0 c] 37)) hr
    rw [s2] at h
    exact h
  have hz4 : (((w1.alloc (.cells (madeCells #[.int .i64 0] c) 3)).alloc (.cells #[.slice (some ⟨w1.heap.size, 0, none⟩) 0 c] 37)).alloc (.cells #[.int .u64 ((word r 0 : Nat) : Int), .int .u64 ((word r 1 : Nat) : Int), .int .u64 ((word r 2 : Nat) : Int), .int .u64 ((word r 3 : Nat) : Int)] 92)).heap.size = w1.heap.size + 3 := by rw [World.size_alloc, s2]
  revert hB4 p4 o4 r4 hz4
  clear s1 s2
  generalize (((w1.alloc (.cells (madeCells #[.int .i64 0] c) 3)).alloc (.cells #[.slice (some ⟨w1.heap.size, 0, none⟩) 0 c] 37)).alloc (.cells #[.int .u64 ((word r 0 : Nat) : Int), .int .u64 ((word r 1 : Nat) : Int), .int .u64 ((word r 2 : Nat) : Int), .int .u64 ((word r 3 : Nat) : Int)] 92)) = w4
  intro hB4 p4 o4 r4 hz4
  have T4 : Tab w4 := (HT.out.below B1.out).below hB4
  have hBw : Below w.heap.size w w4 := B1.out.trans (hB4.mono (by omega))
  clear hmk r0 r1 r2 r3
  refine wpIn_rangeFunc_ownG rfl (by omega) (gf := 96) (lb := #[.pointer (some ⟨w1.heap.size + 2, 0, none⟩)]) rfl trivial (enters_of Tryd.func96 (by kernel_rfl) rfl)
    (elements1_stops _ w.heap.size (w1.heap.size + 2) r w4 (by omega) hr r4 (by omega) htab T4) belowK_t (belowK_b (by omega)) (Below.refl _ _) (fun _ => rfl)
    (fun pre W => (∃ v, Boxed W (w1.heap.size + 1) 37 v ∧ W.ownsRow w.heap.size 3 1 v (natsOf pre).length ((natsOf pre).map fun k : Nat => Value.int .i64 (k : Int)) ∧ True) ∧ Below w.heap.size w W)
    (fun _ _ _ => False)
    (OwnFrom.and (Own.from (holdsRow_own w.heap.size (w1.heap.size + 1) 37 3 1 (fun pre : List (Bt r) => (natsOf pre).length) (fun pre => (natsOf pre).map fun k : Nat => Value.int .i64 (k : Int)) (fun _ _ => True)) _) (ownFrom_below (Nat.le_refl _) (by omega)))
    (fun _ _ _ _ _ hs _ _ => hs)
    ⟨⟨_, p4, o4, trivial⟩, hBw⟩
    (fun x => { tmps := #[rowV r, .pointer (some ⟨w.heap.size, 0, none⟩), .slice none 0 0, .pointer (some ⟨w1.heap.size + 1, 0, none⟩), .int .i64 ((x.1 : Nat) : Int), rowV r, .int .i64 c, .slice (some ⟨w1.heap.size, 0, none⟩) 0 c, rowV r, .func (.func 96) #[] #[.pointer (some ⟨w1.heap.size + 2, 0, none⟩)], .int .i64 ((x.1 : Nat) : Int), undef, undef, undef, undef, undef], defers := [] }) ?assign ?body ?done ?stop
  case assign =>
    intro l x W K hK
    unfold encBt
    gi_wp2
    exact hK
  case body =>
    rintro l pre x W ⟨⟨v, hv, hrow, _⟩, hB⟩ hlt
    obtain ⟨k, hkm⟩ := x
    dsimp only
    have hc := hv.cell
    have hpl : (natsOf pre).length ≤ 256 := by
      have h1 : (eList r).length = (elems r).length := by simp [eList]
      have h2 : (elems r).length ≤ 256 := by
        unfold elems
        have := List.length_filter_le (fun b => r.testBit b) (List.range 256)
        simpa using this
      have h3 : (natsOf pre).length = pre.length := by simp [natsOf]
      omega
    have HROW := Lib.hid hrow
    have HV := Lib.hid hv
    have HBB := Lib.hid hB
    clear hrow hv hB
    gi_wp2_with (gi_at_builtin; refine wpListIn_append_own _ rfl _ _ 37 rfl w.heap.size 3 i0 (.int .i64 0) 1 8 Tryd.underlying37 hi hz0 hz1 hz2 rfl (by decide) _ _ _ rfl (HROW.out.alloc _) ⟨W.heap.size, 0, none⟩ 1 1 [.int .i64 (k : Int)] rfl rfl (cell_one_new _ _ _) (by simp [Value.oneCell']) (by unfold maxLen; omega) (by omega) (by have := HBB.out.size; simp; omega) ?_; intro v' w1' hown' hgrow _; obtain ⟨g', cap', rfl⟩ := ownsRow_succ hown'; obtain ⟨hv1, hv2, hr2, hk2, hb2⟩ := HV.out.appended box_ne HROW.out HBB.out.size (by omega) hown' hgrow; have hc1 := hv1.cell; have hf1 := hv1.frozen)
    exact ⟨hk2.from _, hb2, ⟨_, hv2, by rw [natsOf_snoc, List.length_append, List.map_append]; exact hr2, trivial⟩, HBB.out.trans hb2⟩
  case done =>
    rintro D ys W hD rfl ⟨⟨v, hv, hrow, _⟩, hB⟩ hK
    have hc := hv.cell
    rw [natsOf_all] at hrow
    have HROW := Lib.hid hrow
    have HBB := Lib.hid hB
    clear hrow hB hv
    gi_wp2
    refine ⟨by simp, .inl ⟨_, _, rfl, run_takeDeferred hK, ?_⟩⟩
    have ho := ownsRow_putObj HROW.out (.deferred none) hK rfl
    refine ⟨_, results_tmp rfl _ _ _, v, rfl, OwnI.of_owns ?_ (intsOf_wf fun k hk => by have := elems_lt256 hk; omega) (fun b hb => (ho.lt b hb).2), HBB.out.trans (belowK_b (w := w) (Nat.le_refl _) W D _ _ (by omega) hK rfl rfl)⟩
    have e1 : (intsOf (elems r)).length = (elems r).length := by simp [intsOf]
    have e2 : cellsI (intsOf (elems r)) = (elems r).map fun k : Nat => Value.int .i64 (k : Int) := by simp [intsOf, cellsI]
    rw [e1, e2]
    exact ho
  case stop =>
    rintro D c pre W _ _ h _
    exact h.elim
end Go.Proofs.YtkhhbpeheikmfaaDoor

/- A slice of slices in memory of its own grows by a row. Plain facts on worlds: no function is walked here. -/
namespace Go.Proofs.YtkhhbpeheikmfaaDoor
open Go.RowKit Go.Deep

theorem rowIs_owns {u : TypeId} {W : World} {g C n lo : Nat} {f : Nat → Value} (h : W.rowIs g u C f) (hC : n ≤ C) (hm : C ≤ maxLen) (hlo : lo ≤ g) : W.ownsRow lo u 1 (.slice (some ⟨g, 0, none⟩) n C) n ((List.range n).map f) := by
  obtain ⟨c, h5, h6, h7⟩ := h
  refine ⟨by simp, .inr ⟨g, C, c, rfl, hlo, h5, hC, hm, by omega, ?_⟩⟩
  apply List.ext_getElem?
  intro i
  rw [List.getElem?_take, Nat.mul_one]
  by_cases hi : i < n
  · rw [if_pos hi, Array.getElem?_toList, h7 i (by omega)]
    simp [hi]
  · rw [if_neg hi]
    rw [List.getElem?_eq_none (by simp; omega)]
theorem owns_rowIs {u : TypeId} {W : World} {v : Value} {n lo : Nat} {f : Nat → Value} (h : W.ownsRow lo u 1 v n ((List.range n).map f)) (hn : 0 < n) :
    ∃ g C f', v = .slice (some ⟨g, 0, none⟩) n C ∧ n ≤ C ∧ C ≤ maxLen ∧ lo ≤ g ∧ g < W.heap.size ∧ W.rowIs g u C f' ∧ ∀ i, i < n → f' i = f i := by
  obtain ⟨_, ⟨rfl, h0⟩ | ⟨g, C, c, rfl, h3, h5, h1, h2, h6, h7⟩⟩ := h
  · omega
  · refine ⟨g, C, fun i => c[i]?.getD (.int .i64 0), rfl, h1, h2, h3, (Array.getElem?_eq_some_iff.1 h5).1, ⟨c, h5, by omega, fun i hi => ?_⟩, fun i hi => ?_⟩
    · dsimp only
      rw [Array.getElem?_eq_getElem (by omega)]
      rfl
    · have h8 := congrArg (fun l => l[i]?) h7
      rw [List.getElem?_take, Nat.mul_one, if_pos hi, Array.getElem?_toList] at h8
      dsimp only
      rw [h8]
      simp [hi]

/-- What is known of rows, their cells named. -/
theorem OwnR.owns {t u : TypeId} {W : World} {v : Value} {n : Nat} {R : Nat → List Int} {lo hi : Nat} (h : OwnR t u W v n R lo hi) :
    ∃ f, W.ownsRow lo u 1 v n ((List.range n).map f) ∧ (∀ j, j < n → OwnI t W (f j) (R j) lo hi) ∧ (∀ i j, i < j → j < n → (f i).ownBlock = none ∨ (f i).ownBlock ≠ (f j).ownBlock) := by
  obtain ⟨rfl, rfl⟩ | ⟨g, C, f, rfl, h1, h2, h3, h4, h5, h6, h7⟩ := h
  · exact ⟨fun _ => .slice none 0 0, World.ownsRow_nil _ _ _ _, fun j hj => absurd hj (Nat.not_lt_zero _), fun i j _ hj => absurd hj (Nat.not_lt_zero _)⟩
  · exact ⟨f, rowIs_owns h5 h1 h2 h3, h6, h7⟩

/-- A row is added behind. -/
theorem OwnR.pushed {t u : TypeId} {W W1 W2 : World} {v v' v2 : Value} {n lo mid : Nat} {R : Nat → List Int} {f : Nat → Value} {xs : List Int} (htu : t ≠ u)
    (h0 : W.ownsRow lo u 1 v n ((List.range n).map f)) (h1 : ∀ j, j < n → OwnI t W (f j) (R j) lo mid) (h2 : ∀ i j, i < j → j < n → (f i).ownBlock = none ∨ (f i).ownBlock ≠ (f j).ownBlock)
    (hlo : lo ≤ mid) (hmid : mid ≤ W.heap.size) (hn : OwnI t W v' xs mid W.heap.size) (hb1 : Below W.heap.size W W1)
    (hown : W2.ownsRow lo u 1 v2 (n + 1) ((List.range n).map f ++ [v'])) (hgrow : W1.grownBy W2 v.ownBlock) :
    OwnR t u W2 v2 (n + 1) (fun q => if q = n then xs else R q) lo W2.heap.size := by
  have hz : W.heap.size ≤ W2.heap.size := Nat.le_trans hb1.size hgrow.size
  have hvt : ∀ b, v.ownBlock = some b → ∃ c, W.heap[b]? = some (.cells c u (0, 0)) := fun b hb => by
    obtain ⟨_, ⟨rfl, _⟩ | ⟨g, C, c, rfl, _, h5, _⟩⟩ := h0
    · simp [Value.ownBlock] at hb
    · simp [Value.ownBlock] at hb; subst hb; exact ⟨c, h5⟩
  have hkeep : ∀ (b : Nat) (c : Array Value), W.heap[b]? = some (Obj.cells c t (0, 0)) → W2.heap[b]? = W.heap[b]? := fun b c hb => by
    have hlt : b < W.heap.size := (Array.getElem?_eq_some_iff.1 hb).1
    refine (hgrow.block b (Nat.lt_of_lt_of_le hlt hb1.size) (fun e => ?_)).trans (hb1.block b hlt)
    obtain ⟨c', hc'⟩ := hvt b e.symm
    rw [hb] at hc'
    injection hc' with hc'
    injection hc' with _ h5
    exact htu h5
  have hf : (List.range (n + 1)).map (fun q => if q = n then v' else f q) = (List.range n).map f ++ [v'] := by
    rw [List.range_succ, List.map_append]
    congr 1
    · apply List.map_congr_left
      intro q hq
      have : q ≠ n := by have := List.mem_range.1 hq; omega
      rw [if_neg this]
    · simp
  rw [← hf] at hown
  obtain ⟨g, C, f', rfl, k1, k2, k3, k4, k5, k6⟩ := owns_rowIs hown (Nat.succ_pos n)
  refine .inr ⟨g, C, f', rfl, k1, k2, k3, k4, k5, fun q hq => ?_, fun p q hpq hq => ?_⟩
  · rw [k6 q hq]
    dsimp only
    by_cases e : q = n
    · subst e
      rw [if_pos rfl, if_pos rfl]
      refine (hn.wider hlo hz).kept fun b hb => ?_
      obtain ⟨_, _, c, hc⟩ := hn.block b hb
      exact hkeep b c hc
    · rw [if_neg e, if_neg e]
      have hq' : q < n := by omega
      refine ((h1 q hq').wider (Nat.le_refl _) (by omega)).kept fun b hb => ?_
      obtain ⟨_, _, c, hc⟩ := (h1 q hq').block b hb
      exact hkeep b c hc
  · rw [k6 p (by omega), k6 q hq]
    have hp' : p ≠ n := by omega
    rw [if_neg hp']
    by_cases e : q = n
    · rw [if_pos e]
      cases hb : (f p).ownBlock with
      | none => exact .inl rfl
      | some b =>
        right
        intro e2
        have := ((h1 p (by omega)).block b hb).2.1
        have := (hn.block b e2.symm).1
        omega
    · rw [if_neg e]
      exact h2 p q hpq (by omega)

theorem owns_below {t : TypeId} {W W' : World} {lo n : Nat} {v : Value} {xs : List Value} (h : W.ownsRow lo t 1 v n xs) (hb : Below W.heap.size W W') : W'.ownsRow lo t 1 v n xs := by
  refine h.kept (row := none) ⟨hb.os, hb.tape, hb.output, hb.size, fun k hk _ => hb.block k hk⟩ ?_
  cases hv : v.ownBlock with
  | none => exact .inl rfl
  | some b => exact .inr (by simp)
theorem wf_int {y : Int} (h0 : 0 ≤ y) (h1 : y ≤ 1048576) : (Lit.int .i64 y).wf = true := by
  have e1 : IntKind.i64.min = -9223372036854775808 := rfl
  have e2 : IntKind.i64.max = 9223372036854775807 := rfl
  simp [Lit.wf, e1, e2]
  omega
end Go.Proofs.YtkhhbpeheikmfaaDoor

/- The model's search for monotone functions (l2Funs). -/
namespace Go.Proofs.YtkhhbpeheikmfaaDoor
open Go.RowKit Go.Deep

/-- What is below what, of an order by its lists. -/
abbrev Bf (rows : Rows2) : Nat → Nat → Bool := fun a b => upB rows a (b : Int)
/-- Lists of numbers as rows. -/
def I2 (L : List (List Nat)) : Rows2 := L.map intsOf
theorem I2_len (L : List (List Nat)) : (I2 L).length = L.length := by unfold I2; simp
theorem I2_snoc (L : List (List Nat)) (l : List Nat) (j : Nat) (hj : j < L.length + 1) : (if j = L.length then intsOf l else rowsF (I2 L) j) = rowsF (I2 (L ++ [l])) j := by
  unfold rowsF I2
  rw [List.map_append, List.getD_eq_getElem?_getD, List.getD_eq_getElem?_getD]
  by_cases e : j = L.length
  · rw [if_pos e, List.getElem?_append_right (by simp [e])]
    simp [e]
  · rw [if_neg e, List.getElem?_append_left (by simp; omega)]
theorem intsOf_len (l : List Nat) : (intsOf l).length = l.length := by unfold intsOf; simp
theorem intsOf_snoc (l : List Nat) (j : Nat) : intsOf (l ++ [j]) = intsOf l ++ [(j : Int)] := by unfold intsOf; rw [List.map_append]; rfl
theorem intsOf_at {l : List Nat} {k : Nat} (h : k < (intsOf l).length) : (intsOf l)[k] = ((l.getD k 0 : Nat) : Int) := by
  have h' : k < l.length := by rw [intsOf_len] at h; exact h
  rw [List.getD_eq_getElem?_getD, List.getElem?_eq_getElem h']
  exact List.getElem_map (fun k : Nat => (k : Int))
theorem owns_form {W : World} {base size n : Nat} {t : TypeId} {v : Value} {xs : List Value} (h : W.ownsRow base t size v n xs) : ∃ a C, v = .slice a n C := by
  rcases h.2 with ⟨rfl, rfl⟩ | ⟨g, cap, cur, rfl, _⟩
  · exact ⟨none, 0, rfl⟩
  · exact ⟨_, _, rfl⟩
theorem owns_list {W : World} {base : Nat} {a : Option Addr} {C : Nat} {l : List Nat} (h : W.ownsRow base 3 1 (.slice a l.length C) l.length (cellsI (intsOf l))) (hx : ∀ k ∈ l, k ≤ 1048576) : OwnI 3 W (.slice a l.length C) (intsOf l) base W.heap.size :=
  OwnI.of_owns (by rw [intsOf_len]; exact h) (intsOf_wf hx) (fun b hb => (h.lt b hb).2)
theorem grown_then {a b c : World} {row : Option Nat} (h : a.grownBy b row) (k : b.grownBy c row) : a.grownBy c row :=
  ⟨k.os.trans h.os, k.tape.trans h.tape, k.output.trans h.output, Nat.le_trans h.size k.size, fun i hi hr => (k.block i (Nat.lt_of_lt_of_le hi h.size) hr).trans (h.block i hi hr)⟩
theorem grown_below {a b : World} (h : Below a.heap.size a b) (row : Option Nat) : a.grownBy b row := ⟨h.os, h.tape, h.output, h.size, fun k hk _ => h.block k hk⟩
/-- Grown in one row, and then in this one or one that is new. -/
theorem grown_next {a b c : World} {row row' : Option Nat} (h : a.grownBy b row) (k : b.grownBy c row') (hr : row' = row ∨ ∀ g, row' = some g → a.heap.size ≤ g) : a.grownBy c row :=
  ⟨k.os.trans h.os, k.tape.trans h.tape, k.output.trans h.output, Nat.le_trans h.size k.size, fun i hi hne => (k.block i (Nat.lt_of_lt_of_le hi h.size) (fun e => by
    rcases hr with hr | hr
    · exact hne (hr ▸ e)
    · have := hr i e.symm; omega)).trans (h.block i hi hne)⟩
theorem OwnR.rowType {t u : TypeId} {W : World} {v : Value} {n : Nat} {R : Nat → List Int} {lo hi : Nat} (h : OwnR t u W v n R lo hi) : ∀ b, v.ownBlock = some b → lo ≤ b ∧ b < hi ∧ ∃ c, W.heap[b]? = some (.cells c u (0, 0)) := by
  intro b hb
  obtain ⟨rfl, _⟩ | ⟨g, C, f, rfl, _, _, h3, h4, ⟨c, h5, _⟩, _⟩ := h
  · simp [Value.ownBlock] at hb
  · simp [Value.ownBlock] at hb; subst hb; exact ⟨h3, h4, c, h5⟩

/-- A list of numbers in memory of its own that is not nil. -/
structure ListAt (W : World) (vl : Value) (l : List Nat) (lo : Nat) : Prop where
  form : ∃ lb C, vl = .slice (some ⟨lb, 0, none⟩) l.length C
  own : OwnI 3 W vl (intsOf l) lo W.heap.size
theorem ListAt.step {W W' : World} {vl : Value} {l : List Nat} {lo : Nat} (h : ListAt W vl l lo) (hb : Below W.heap.size W W') : ListAt W' vl l lo :=
  ⟨h.form, (h.own.kept fun b e => hb.block b (h.own.block b e).2.1).wider (Nat.le_refl _) hb.size⟩
theorem ListAt.grown {W W' : World} {vl vo : Value} {l : List Nat} {lo lo' n : Nat} {R : Nat → List Int} (h : ListAt W vl l lo) (ho : OwnR 3 37 W vo n R lo' W.heap.size) (hg : W.grownBy W' vo.ownBlock) : ListAt W' vl l lo :=
  ⟨h.form, (h.own.kept fun b e => hg.block b (h.own.block b e).2.1 (fun e2 => by
    obtain ⟨_, _, c, hc⟩ := h.own.block b e
    obtain ⟨_, _, c', hc'⟩ := ho.rowType b e2.symm
    rw [hc] at hc'
    injection hc' with hc'
    injection hc' with _ h5
    exact int_ne h5)).wider (Nat.le_refl _) hg.size⟩
/-- The cells of the list. -/
theorem ListAt.cell {W : World} {lb C : Nat} {l : List Nat} {lo : Nat} (h : ListAt W (.slice (some ⟨lb, 0, none⟩) l.length C) l lo) {k : Nat} (hk : k < l.length) : W.cell? ⟨lb, k, none⟩ = some (.int .i64 ((l.getD k 0 : Nat) : Int)) := by
  obtain ⟨_, _, e, _, _, _, hy⟩ := h.own.at
  injection e with e1
  subst e1
  obtain ⟨b, o, ea, hc⟩ := hy k (by rw [intsOf_len]; exact hk)
  cases ea
  rw [intsOf_at, Nat.zero_add] at hc
  exact hc
theorem cellsI_at {xs : List Int} {j : Nat} {u : Value} (h : (cellsI xs)[j]? = some u) : ∃ hj : j < xs.length, u = .int .i64 xs[j] := by
  rw [List.getElem?_eq_some_iff] at h
  obtain ⟨hj, e⟩ := h
  have hj' : j < xs.length := by simpa [cellsI] using hj
  exact ⟨hj', by rw [← e]; simp [cellsI]⟩
theorem ListAt.news {W : World} {lb C : Nat} {l : List Nat} {lo : Nat} (h : ListAt W (.slice (some ⟨lb, 0, none⟩) l.length C) l lo) : ∀ j u, (cellsI (intsOf l))[j]? = some u → W.cell? ((⟨lb, 0, none⟩ : Addr).add j) = some u := fun j u hj => by
  obtain ⟨h1, rfl⟩ := cellsI_at hj
  rw [intsOf_at]
  have := h.cell (k := j) (by rw [intsOf_len] at h1; exact h1)
  rw [Addr.add_lit, Nat.zero_add]
  exact this

/-- What the search answers. -/
def FunsP (RES : List (List Nat)) (vo : Value) (lo : Nat) (w : World) (e : Ending) (w' : World) : Prop :=
  ∃ vo', e = .returned vo' ∧ OwnR 3 37 w' vo' RES.length (rowsF (I2 RES)) lo w'.heap.size ∧ w.grownBy w' vo.ownBlock ∧ (vo'.ownBlock = vo.ownBlock ∨ ∀ b, vo'.ownBlock = some b → w.heap.size ≤ b)

/-- While the search runs. -/
structure LF (w0 w : World) (v v' vl vo0 vo : Value) (l : List Nat) (OUT : List (List Nat)) (lo : Nat) (W : World) : Prop where
  c0 : W.cell? ⟨w.heap.size, 0, none⟩ = some v
  c1 : W.cell? ⟨w.heap.size + 1, 0, none⟩ = some v'
  list : ListAt W vl l w0.heap.size
  out : OwnR 3 37 W vo OUT.length (rowsF (I2 OUT)) lo W.heap.size
  below : Below w0.heap.size w0 W
  grown : w.grownBy W vo0.ownBlock
  fresh : vo.ownBlock = vo0.ownBlock ∨ ∀ b, vo.ownBlock = some b → w.heap.size + 2 ≤ b
  size : w.heap.size + 2 ≤ W.heap.size
theorem LF.step {w0 w : World} {v v' vl vo0 vo : Value} {l : List Nat} {OUT : List (List Nat)} {lo : Nat} {W W' : World} (h : LF w0 w v v' vl vo0 vo l OUT lo W) (hb : Below W.heap.size W W') : LF w0 w v v' vl vo0 vo l OUT lo W' :=
  ⟨(hb.cell (p := ⟨w.heap.size, 0, none⟩) (cell_lt h.c0)).trans h.c0, (hb.cell (p := ⟨w.heap.size + 1, 0, none⟩) (cell_lt h.c1)).trans h.c1, h.list.step hb, (h.out.below hb (Nat.le_refl _)).wider (Nat.le_refl _) hb.size,
    h.below.trans (hb.mono h.below.size), grown_then h.grown (grown_below hb _), h.fresh, Nat.le_trans h.size hb.size⟩
theorem LF.start {w0 w : World} {v v' vl vo : Value} {l : List Nat} {OUT : List (List Nat)} {lo : Nat} (hB : Below w0.heap.size w0 w) (hl : ListAt w vl l w0.heap.size) (ho : OwnR 3 37 w vo OUT.length (rowsF (I2 OUT)) lo w.heap.size) :
    LF w0 w v v' vl vo vo l OUT lo ((w.alloc (.cells #[v] 26)).alloc (.cells #[v'] 26)) := by
  have s1 : (w.alloc (.cells #[v] 26)).heap.size = w.heap.size + 1 := World.size_alloc _ _
  have s2 : ((w.alloc (.cells #[v] 26)).alloc (.cells #[v'] 26)).heap.size = w.heap.size + 2 := by rw [World.size_alloc, s1]
  have b2 : Below w.heap.size w ((w.alloc (.cells #[v] 26)).alloc (.cells #[v'] 26)) := ((Below.refl _ w).alloc (Nat.le_refl _) _).alloc (by rw [s1]; omega) _
  have c0 : (w.alloc (.cells #[v] 26)).cell? ⟨w.heap.size, 0, none⟩ = some v := (World.rowIs_alloc w #[v] 26 (fun _ => v) (fun i hi => by simp at hi; subst hi; rfl)).cell (by simp)
  have c1 := (World.rowIs_alloc (w.alloc (.cells #[v] 26)) #[v'] 26 (fun _ => v') (fun i hi => by simp at hi; subst hi; rfl)).cell (i := 0) (by simp)
  rw [s1] at c1
  exact ⟨cell_alloc_any c0 _, c1, hl.step b2, (ho.below b2 (Nat.le_refl _)).wider (Nat.le_refl _) b2.size, hB.trans (b2.mono hB.size), grown_below b2 _, .inl rfl, by rw [s2]; exact Nat.le_refl _⟩
/-- Behind a search for what goes on from the list. -/
theorem LF.called {w0 w : World} {v v' vl vo0 vo vo' : Value} {l : List Nat} {OUT RES : List (List Nat)} {lo : Nat} {W W' : World} (h : LF w0 w v v' vl vo0 vo l OUT lo W) (h0 : ∀ b, vo0.ownBlock = some b → b < w.heap.size) (hlo : w0.heap.size ≤ lo)
    (ho : OwnR 3 37 W' vo' RES.length (rowsF (I2 RES)) lo W'.heap.size) (hg : W.grownBy W' vo.ownBlock) (hf : vo'.ownBlock = vo.ownBlock ∨ ∀ b, vo'.ownBlock = some b → W.heap.size ≤ b) : LF w0 w v v' vl vo0 vo' l RES lo W' := by
  have hsz := h.size
  have hne : ∀ b, b < w.heap.size + 2 → w.heap.size ≤ b → some b ≠ vo.ownBlock := fun b hb hb2 e => by
    rcases h.fresh with k | k
    · have := h0 b (k ▸ e.symm); omega
    · have := k b e.symm; omega
  have k0 : W'.heap[w.heap.size]? = W.heap[w.heap.size]? := hg.block _ (by omega) (hne _ (by omega) (Nat.le_refl _))
  have k1 : W'.heap[w.heap.size + 1]? = W.heap[w.heap.size + 1]? := hg.block _ (by omega) (hne _ (by omega) (by omega))
  refine ⟨(World.cell?_of_block k0).trans h.c0, (World.cell?_of_block k1).trans h.c1, h.list.grown h.out hg, ho, h.below.grown hg h.below.size (fun b e => Nat.le_trans hlo (h.out.rowType b e).1), grown_next h.grown hg ?_, ?_, Nat.le_trans hsz hg.size⟩
  · rcases h.fresh with k | k
    · exact .inl k
    · exact .inr fun b e => by have := k b e; omega
  · rcases hf with k | k
    · rw [k]; exact h.fresh
    · exact .inr fun b e => by have := k b e; omega

/-- Does the number j fit behind the first k of the list's? -/
def fineTo (B B' : Nat → Nat → Bool) (l : List Nat) (j k : Nat) : Bool := (List.range k).all fun q => (!B q l.length || B' (l.getD q 0) j) && (!B l.length q || B' j (l.getD q 0))
theorem fineTo_zero (B B' : Nat → Nat → Bool) (l : List Nat) (j : Nat) : fineTo B B' l j 0 = true := rfl
theorem fineTo_succ (B B' : Nat → Nat → Bool) (l : List Nat) (j k : Nat) : fineTo B B' l j (k + 1) = (fineTo B B' l j k && ((!B k l.length || B' (l.getD k 0) j) && (!B l.length k || B' j (l.getD k 0)))) := by
  unfold fineTo
  rw [List.range_succ, List.all_append]
  simp
theorem fineTo_all (B B' : Nat → Nat → Bool) (l : List Nat) (j : Nat) : fineTo B B' l j l.length = fineN B B' l j := rfl
theorem fineTo_no {B B' : Nat → Nat → Bool} {l : List Nat} {j k : Nat} (h : fineTo B B' l j k = false) (hk : k ≤ l.length) : fineN B B' l j = false := by
  rw [← fineTo_all]
  unfold fineTo at h ⊢
  rw [List.all_eq_false] at h ⊢
  obtain ⟨q, hq, hn⟩ := h
  exact ⟨q, List.mem_range.2 (by rw [List.mem_range] at hq; omega), hn⟩
theorem step_append_own {P : Program} {ops : Array Oper} {o : Oper} {a : Act} {w : World} {K : Act → World → Prop} {Q : Exit → Act → World → Prop} {E : Prop} (hgd : o.guard = none) (s x : Operand) (t : TypeId)
    (ho : o.op = .call { callee := .builtin .append, args := #[s, x], argTypes := #[t, t] })
    (base : Nat) (e : TypeId) (i : TypeInfo) (z : Value) (size bytes : Nat) (ht : P.underlying t = some (.slice e)) (hi : P.info? e = some i) (hz : i.zero = some z)
    (hsize : i.size = size) (hby : i.bytes = bytes) (hzs : z.cells.size = size) (hsz : 0 < size)
    (v : Value) (n : Nat) (xs : List Value) (hs : a.eval s = v) (hown : w.ownsRow base e size v n xs)
    (ad : Addr) (m c : Nat) (news : List Value) (hx : a.eval x = .slice (some ad) m c) (hl : news.length = m * size) (hnews : ∀ j u, news[j]? = some u → w.cell? (ad.add j) = some u) (h1 : ∀ u ∈ news, u.oneCell' = true)
    (h63 : n + m ≤ maxLen) (hbytes : (n + m) * bytes ≤ 140737488355328) (hbase : base ≤ w.heap.size)
    (h : ∀ v' w', w'.ownsRow base e size v' (n + m) (xs ++ news) → w.grownBy w' v.ownBlock → (v' = .slice none 0 0 ↔ v = .slice none 0 0 ∧ m = 0) → K (a.put o.dst v') w') :
    if Region.wanted o (yielded ops a.tmps) = true then Oper.wp P o a w K Q else E := by
  have hw : Region.wanted o (yielded ops a.tmps) = true := by simp [Region.wanted, hgd]
  rw [if_pos hw]
  exact wp_append_own w s x t ho base e i z size bytes ht hi hz hsize hby hzs hsz v n xs hs hown ad m c news hx hl hnews h1 h63 hbytes hbase h

theorem cellsI_one {xs : List Int} : ∀ u ∈ cellsI xs, u.oneCell' = true := by
  intro u hu
  simp [cellsI] at hu
  obtain ⟨_, _, rfl⟩ := hu
  rfl
theorem news_one {W : World} {h : Nat} {u : Value} (hc : W.cell? ⟨h, 0, none⟩ = some u) : ∀ k u', [u][k]? = some u' → W.cell? ((⟨h, 0, none⟩ : Addr).add k) = some u' := fun k u' hk => by
  cases k with
  | zero =>
    obtain rfl : u = u' := by simpa using hk
    rw [Addr.add_lit, Nat.zero_add]
    exact hc
  | succ k => simp at hk
theorem list_snoc {W : World} {g C base lo : Nat} {l : List Nat} {j : Nat} (h : W.ownsRow base 3 1 (.slice (some ⟨g, 0, none⟩) (l.length + 1) C) (l.length + 1) (cellsI (intsOf l) ++ [.int .i64 (j : Int)])) (hx : ∀ k ∈ l ++ [j], k ≤ 1048576) (hlo : lo ≤ base) :
    ListAt W (.slice (some ⟨g, 0, none⟩) (l.length + 1) C) (l ++ [j]) lo := by
  have hl : (l ++ [j]).length = l.length + 1 := by rw [List.length_append, List.length_singleton]
  refine ⟨⟨g, C, by rw [hl]⟩, ?_⟩
  have h2 : W.ownsRow base 3 1 (.slice (some ⟨g, 0, none⟩) (l ++ [j]).length C) (l ++ [j]).length (cellsI (intsOf (l ++ [j]))) := by
    rw [intsOf_snoc, hl, show cellsI (intsOf l ++ [(j : Int)]) = cellsI (intsOf l) ++ [.int .i64 (j : Int)] by simp [cellsI]]
    exact h
  have h3 := owns_list h2 hx
  rw [hl] at h3
  exact h3.wider hlo (Nat.le_refl _)

set_option maxRecDepth 100000 in
set_option maxHeartbeats 16000000 in
theorem l2Funs_any (v v' : Value) (rows rows' : Rows2) (w0 : World) (hv : RowsAt w0 v rows) (hv' : RowsAt w0 v' rows') (hd : domB rows = true) (hd' : domB rows' = true) (most : Nat) (hmost : most ≤ 5000) :
    ∀ (f : Nat) (l : List Nat) (vl vo : Value) (OUT : List (List Nat)) (w : World) (lo : Nat), l.length + f = rows.length → (∀ x ∈ l, x < rows'.length) → MonN (Bf rows) (Bf rows') l → OUT.length ≤ most + 1 → Below w0.heap.size w0 w → w0.heap.size ≤ lo →
      ListAt w vl l w0.heap.size → OwnR 3 37 w vo OUT.length (rowsF (I2 OUT)) lo w.heap.size → lo ≤ w.heap.size →
      Calls Tryd.prog 50 #[.agg #[v], .agg #[v'], vl, .int .i64 (most : Int), vo] w (FunsP ((OUT ++ extL rows'.length (monN (Bf rows) (Bf rows')) f l).take (most + 1)) vo lo w) := by
  have hok := dom_ok hd
  have hok' := dom_ok hd'
  have hn := hok.bulk
  have hn' := hok'.bulk
  have hl := valid_lists (show validB rows = true by unfold domB at hd; rw [Bool.and_eq_true] at hd; exact hd.1)
  have hl' := valid_lists (show validB rows' = true by unfold domB at hd'; rw [Bool.and_eq_true] at hd'; exact hd'.1)
  have HLE := Lib.hid (fun W (hB : Below w0.heap.size w0 W) (a b : Nat) (ha : a < rows.length) => le_call (hv.below hB) hl hn (a : Int) (b : Int) (by omega) (by omega) rfl)
  have HLE' := Lib.hid (fun W (hB : Below w0.heap.size w0 W) (a b : Nat) (ha : a < rows'.length) => le_call (hv'.below hB) hl' hn' (a : Int) (b : Int) (by omega) (by omega) rfl)
  have hlen := hok.len
  have hlen' := hok'.len
  have HRF := Lib.hid (fun j (hj : j < rows'.length) => up_refl hok' hj)
  obtain ⟨A, C, rfl, _⟩ := hv
  obtain ⟨A', C', rfl, _⟩ := hv'
  obtain ⟨i0, hi0, hz0, hz1, hz2⟩ := info_parts infoInt
  obtain ⟨j0, hj0, hy0, hy1, hy2⟩ := info_parts infoInts
  clear hn hn' hl hl' hok hok' hd hd'
  intro f
  induction f with
  | zero =>
    intro l vl vo OUT w lo hlf hlx hmon hout hB hlo hL hO hloz
    have hLF := LF.start (v := .slice A rows.length C) (v' := .slice A' rows'.length C') hB hL hO
    have hc0 := hLF.c0
    have H0 := Lib.hid hLF
    obtain ⟨lb, CL, rfl⟩ := hL.form
    obtain ⟨ao, CO, rfl⟩ := hO.form
    clear hL hO hLF
    by_cases hfull : most < OUT.length
    · have HE := Lib.hid (show (OUT ++ extL rows'.length (monN (Bf rows) (Bf rows')) 0 l).take (most + 1) = OUT by
        have e := take_full (c := most + 1) (xs := OUT) (extL rows'.length (monN (Bf rows) (Bf rows')) 0 l) (by rw [List.take_of_length_le hout]; omega)
        rw [e, List.take_of_length_le hout])
      have hgt : (most : Int) < (OUT.length : Int) := by omega
      clear hout
      go_enter Tryd.func50, Tryd.ntmps50
      go_wp2
      go_ret
      exact ⟨_, rfl, by rw [HE.out]; exact H0.out.out, H0.out.grown, .inl rfl⟩
    · have hgt : ¬ (most : Int) < (OUT.length : Int) := by omega
      have hln : ((l.length : Int) == (rows.length : Int)) = true := by rw [beq_iff_eq]; omega
      have hln2 : (l.length == rows.length) = true := by rw [beq_iff_eq]; omega
      have HE := Lib.hid (show (OUT ++ extL rows'.length (monN (Bf rows) (Bf rows')) 0 l).take (most + 1) = OUT ++ [l] by
        rw [ext_end hmon, List.take_of_length_le (by rw [List.length_append]; simp; omega)])
      have hLn := H0.out.list.news
      have hs2 : ((w.alloc (.cells #[.slice A rows.length C] 26)).alloc (.cells #[.slice A' rows'.length C'] 26)).heap.size = w.heap.size + 2 := by rw [World.size_alloc, World.size_alloc]
      obtain ⟨W2, hW2⟩ : ∃ W2, W2 = (w.alloc (.cells #[.slice A rows.length C] 26)).alloc (.cells #[.slice A' rows'.length C'] 26) := ⟨_, rfl⟩
      rw [← hW2] at H0 hLn hs2 hc0
      have hbA := (Below.refl W2.heap.size W2).alloc (Nat.le_refl _) (.cells #[] 3)
      have HMADE := Lib.hid (World.ownsRow_made (e := 3) (size := 1) W2 #[] 0 (base := W2.heap.size) (Nat.le_refl _) (Nat.zero_le _) (by simp))
      have HNEWS := Lib.hid ((H0.out.list.step hbA).news)
      have HBA := Lib.hid hbA
      have HS2 := Lib.hid hs2
      clear hs2
      have hl200 : l.length ≤ 200 := by omega
      have HLX := Lib.hid hlx
      clear hbA hLn hfull
      go_enter Tryd.func50, Tryd.ntmps50
      go_upto_region 1 with fail
      rw [← hW2]
      have HW2 := Lib.hid hW2
      clear hW2
      obtain ⟨fv, hf0, hf1, hf2⟩ := H0.out.out.owns
      have HF0 := Lib.hid hf0
      have HF1 := Lib.hid hf1
      have HF2 := Lib.hid hf2
      clear hf0 hf1 hf2
      go_wp2_with (first | (at_builtin; refine wpList_append_own _ rfl _ _ 37 rfl W2.heap.size 3 i0 (.int .i64 0) 1 8 Tryd.underlying37 hi0 hz0 hz1 hz2 rfl (by decide) _ _ _ rfl HMADE.out ⟨lb, 0, none⟩ l.length CL (cellsI (intsOf l)) rfl (by simp [cellsI, intsOf]) HNEWS.out (by intro u hu; simp [cellsI] at hu; obtain ⟨_, _, rfl⟩ := hu; rfl) (by unfold maxLen; omega) (by omega) (by simp) ?_; intro v1 w3 hown1 hgrow1 _; rw [List.nil_append, Nat.zero_add] at hown1; obtain ⟨a1, C1, rfl⟩ := owns_form hown1; have HOWN1 := Lib.hid hown1; have HB3 : Hid (Below W2.heap.size W2 w3) := Lib.hid (HBA.out.grown hgrow1 HBA.out.size (fun b e => (HMADE.out.lt b e).1)); clear hown1 hgrow1) | (at_builtin; refine wpList_append_lies _ rfl _ _ 22 rfl lo 37 j0 (.slice none 0 0) 1 24 Tryd.underlying22 hj0 hy0 hy1 hy2 rfl (by decide) (.slice ao OUT.length CO) OUT.length ((List.range OUT.length).map fv) (by rfl) ((owns_below HF0.out HB3.out).alloc _) ⟨w3.heap.size, 0, none⟩ 1 1 [.slice a1 l.length C1] (by rfl) rfl (World.news_of_block (heap_alloc_new w3 _)) (by simp [Value.oneCell']) (by omega) (by unfold maxLen; omega) (by omega) (by have := HB3.out.size; have := HS2.out; simp; omega) (w3.heap.size + 1) (by simp) ?_; intro g2 cap2 w4 hown2 hgrow2 hat2 hlt2))
      go_ret
      have hp := OwnR.pushed (W := w3) (mid := W2.heap.size) (lo := lo) int_ne (owns_below HF0.out HB3.out) (fun j hj => (HF1.out j hj).kept fun b hb => HB3.out.block b ((HF1.out j hj).block b hb).2.1) HF2.out (by have := HS2.out; omega) HB3.out.size (owns_list HOWN1.out (fun k hk => by have := HLX.out k hk; omega)) ((Below.refl _ w3).alloc (Nat.le_refl _) _) hown2 ⟨hgrow2.os, hgrow2.tape, hgrow2.output, hgrow2.size, hgrow2.block⟩
      refine ⟨_, rfl, ?_, ?_, ?_⟩
      · rw [HE.out, List.length_append]
        exact hp.congr fun j hj => I2_snoc OUT l j hj
      · refine grown_then H0.out.grown (grown_then (grown_below HB3.out _) (grown_then (grown_below ((Below.refl _ w3).alloc (Nat.le_refl _) _) _) hgrow2))
      · rcases hat2 with h | h
        · exact .inl h.symm
        · refine .inr fun b e => ?_
          have h1 := HB3.out.size
          have h2 := HS2.out
          have h3 : g2 = b := by simpa [Value.ownBlock] using e
          omega
  | succ f ih =>
    intro l vl vo OUT w lo hlf hlx hmon hout hB hlo hL hO hloz
    have hLF := LF.start (v := .slice A rows.length C) (v' := .slice A' rows'.length C') hB hL hO
    have hc0 := hLF.c0
    have H0 := Lib.hid hLF
    have HVB := Lib.hid (fun b (e : vo.ownBlock = some b) => (hO.rowType b e).2.1)
    have hW0 := hB.size
    obtain ⟨lb, CL, rfl⟩ := hL.form
    obtain ⟨ao, CO, rfl⟩ := hO.form
    have HRZ := Lib.hid hlx
    have HMJ := Lib.hid (fun (j : Nat) (hf : j < rows'.length ∧ fineN (Bf rows) (Bf rows') l j = true) => hmon.snoc hf.2 (HRF.out j hf.1))
    clear hL hO hLF
    by_cases hfull : most < OUT.length
    · have HE := Lib.hid (show (OUT ++ extL rows'.length (monN (Bf rows) (Bf rows')) (f + 1) l).take (most + 1) = OUT by
        have e := take_full (c := most + 1) (xs := OUT) (extL rows'.length (monN (Bf rows) (Bf rows')) (f + 1) l) (by rw [List.take_of_length_le hout]; omega)
        rw [e, List.take_of_length_le hout])
      have hgt : (most : Int) < (OUT.length : Int) := by omega
      clear hout
      go_enter Tryd.func50, Tryd.ntmps50
      go_wp2
      go_ret
      exact ⟨_, rfl, by rw [HE.out]; exact H0.out.out, H0.out.grown, .inl rfl⟩
    · have hgt : ¬ (most : Int) < (OUT.length : Int) := by omega
      have hln : ((l.length : Int) == (rows.length : Int)) = false := by rw [beq_eq_false_iff_ne]; omega
      have hln2 : (l.length == rows.length) = false := by rw [beq_eq_false_iff_ne]; omega
      have hln3 : l.length < rows.length := by omega
      have hl200 : l.length ≤ 200 := by omega
      have HIH := Lib.hid ih
      have HOUT := Lib.hid hout
      clear ih hfull
      go_enter Tryd.func50, Tryd.ntmps50
      go_wp2
      clear hc0
      go_loopw [4, 12, 13] (fun ov jv _ wr => ∃ (j : Nat) (R : List (List Nat)), j ≤ rows'.length ∧ jv = .int .i64 j ∧ R = (OUT ++ foundJ rows'.length (monN (Bf rows) (Bf rows')) f l j).take (most + 1) ∧ LF w0 w (.slice A rows.length C) (.slice A' rows'.length C') (.slice (some ⟨lb, 0, none⟩) l.length CL) (.slice ao OUT.length CO) ov l R lo wr) (fun _ jv _ _ => rows'.length - (intOf jv).toNat)
      case atStart => exact ⟨0, OUT, Nat.zero_le _, rfl, by rw [foundJ_zero, List.append_nil, List.take_of_length_le HOUT.out], H0.out⟩
      case round =>
        obtain ⟨j, R, hj, rfl, hR, hh⟩ := hrel
        obtain ⟨ar, CR, rfl⟩ := hh.out.form
        have HJ := Lib.hid hh
        have HRR := Lib.hid hR
        have hcell1 := hh.c1
        clear hh hR H0
        by_cases hjl : j < rows'.length
        · have HRL := Lib.hid (show R.length ≤ most + 1 by rw [HRR.out, List.length_take]; omega)
          go_wp2
          clear hcell1
          go_loopw [13, 14] (fun fv kv wr => ∃ k : Nat, k ≤ l.length ∧ kv = .int .i64 k ∧ fv = .bool (fineTo (Bf rows) (Bf rows') l j k) ∧ LF w0 w (.slice A rows.length C) (.slice A' rows'.length C') (.slice (some ⟨lb, 0, none⟩) l.length CL) (.slice ao OUT.length CO) (.slice ar R.length CR) l R lo wr) (fun _ kv _ => l.length - (intOf kv).toNat)
          case atStart => exact ⟨0, Nat.zero_le _, rfl, rfl, HJ.out⟩
          case round =>
          obtain ⟨k, hk, rfl, rfl, hh⟩ := hrel
          have HK := Lib.hid hh
          clear hh HJ
          by_cases hgo : k < l.length ∧ fineTo (Bf rows) (Bf rows') l j k = true
          · obtain ⟨hkl, hft⟩ := hgo
            rw [hft]
            have hlk := HK.out.list.cell hkl
            have hkl2 : (k : Int) < (l.length : Int) := by omega
            have hlkl : l.getD k 0 < rows'.length := HRZ.out _ (by rw [List.getD_eq_getElem?_getD, List.getElem?_eq_getElem hkl]; exact List.getElem_mem hkl)
            obtain ⟨lk, hlkd⟩ : ∃ lk, l.getD k 0 = lk := ⟨_, rfl⟩
            rw [hlkd] at hlk hlkl
            have hc1 := fun d os => Calls.regrown_of (d := d) (os := os) (HLE.out _ (HK.out.step (below_regrown wr d os)).below k l.length (by omega))
            have hc2 := fun d os => Calls.regrown_of (d := d) (os := os) (HLE'.out _ (HK.out.step (below_regrown wr d os)).below lk j hlkl)
            have hc3 := fun d os => Calls.regrown_of (d := d) (os := os) (HLE.out _ (HK.out.step (below_regrown wr d os)).below l.length k hln3)
            have hc4 := fun d os => Calls.regrown_of (d := d) (os := os) (HLE'.out _ (HK.out.step (below_regrown wr d os)).below j lk hjl)
            rw [Int.toNat_natCast] at hc1 hc2 hc3 hc4
            have hq0 := fun d os => cell_regrown HK.out.c0 d os
            have hq1 := fun d os => cell_regrown HK.out.c1 d os
            have hq2 := fun d os => cell_regrown hlk d os
            have hfs := fineTo_succ (Bf rows) (Bf rows') l j k
            rw [hft, Bool.true_and, hlkd] at hfs
            clear hlkd
            obtain ⟨b1, hb1⟩ : ∃ b1, upB rows k (l.length : Int) = b1 := ⟨_, rfl⟩
            simp only [hb1] at hc1
            rw [show Bf rows k l.length = b1 from hb1] at hfs
            clear hb1
            obtain ⟨b2, hb2⟩ : ∃ b2, upB rows' lk (j : Int) = b2 := ⟨_, rfl⟩
            simp only [hb2] at hc2
            rw [show Bf rows' lk j = b2 from hb2] at hfs
            clear hb2
            obtain ⟨b3, hb3⟩ : ∃ b3, upB rows l.length (k : Int) = b3 := ⟨_, rfl⟩
            simp only [hb3] at hc3
            rw [show Bf rows l.length k = b3 from hb3] at hfs
            clear hb3
            obtain ⟨b4, hb4⟩ : ∃ b4, upB rows' j (lk : Int) = b4 := ⟨_, rfl⟩
            simp only [hb4] at hc4
            rw [show Bf rows' j lk = b4 from hb4] at hfs
            clear hb4
            have HFS := Lib.hid hfs
            clear hfs hft
            cases b1 <;> cases b2 <;> cases b3 <;> cases b4
            all_goals
              go_wp2
              refine wp_region_quiet_below (by kernel_rfl) (by kernel_rfl) ?_
              repeat (first | rw [Bool.not_true] | rw [Bool.not_false] | go_big_quiet_step (first | (go_at_call_of 54 (#[Value.agg #[Value.slice A rows.length C], Value.int .i64 (k : Int), Value.int .i64 (l.length : Int)]); exact hc1 _ _) | (go_at_call_of 54 (#[Value.agg #[Value.slice A' rows'.length C'], Value.int .i64 (lk : Int), Value.int .i64 (j : Int)]); exact hc2 _ _) | (go_at_call_of 54 (#[Value.agg #[Value.slice A rows.length C], Value.int .i64 (l.length : Int), Value.int .i64 (k : Int)]); exact hc3 _ _) | (go_at_call_of 54 (#[Value.agg #[Value.slice A' rows'.length C'], Value.int .i64 (j : Int), Value.int .i64 (lk : Int)]); exact hc4 _ _)))
              refine wpQuiet_nil ?_
              intro _ hw'
              obtain ⟨⟨dq, osq⟩, hw''⟩ := hw'
              subst hw''
              clear hc1 hc2 hc3 hc4 hq0 hq1 hq2
              go_wp2
              go_roundw
              case rel => exact ⟨k + 1, by omega, by go_num, by rw [HFS.out]; rfl, HK.out.step (below_regrown wr dq osq)⟩
              case measure => simp [intOf]; omega
          · have hfin : (k = l.length ∧ fineTo (Bf rows) (Bf rows') l j k = fineN (Bf rows) (Bf rows') l j) ∨ (fineTo (Bf rows) (Bf rows') l j k = false ∧ fineN (Bf rows) (Bf rows') l j = false) := by
              by_cases e : k < l.length
              · have h : fineTo (Bf rows) (Bf rows') l j k = false := by
                  cases h : fineTo (Bf rows) (Bf rows') l j k with
                  | false => rfl
                  | true => exact absurd ⟨e, h⟩ hgo
                exact .inr ⟨h, fineTo_no h (by omega)⟩
              · obtain rfl : k = l.length := by omega
                exact .inl ⟨rfl, fineTo_all _ _ _ _⟩
            have hex : fineTo (Bf rows) (Bf rows') l j k = fineN (Bf rows) (Bf rows') l j := by
              rcases hfin with h | h
              · exact h.2
              · rw [h.1, h.2]
            have hst : decide ((k : Int) < (l.length : Int)) = true → fineN (Bf rows) (Bf rows') l j = false := fun e => by
              rcases hfin with h | h
              · have := of_decide_eq_true e; omega
              · exact h.2
            rw [hex]
            clear hfin hgo hex
            cases hfn : fineN (Bf rows) (Bf rows') l j with
            | false =>
              have HNEXT := Lib.hid (show R = (OUT ++ foundJ rows'.length (monN (Bf rows) (Bf rows')) f l (j + 1)).take (most + 1) by rw [HRR.out, foundJ_succ, ext_notfine hfn, List.append_nil])
              clear hfn hst
              rcases Nat.lt_or_ge k l.length with hkl | hkl
              · have hkl2 : (k : Int) < (l.length : Int) := by omega
                go_wp2
                go_roundw
                case rel => exact ⟨j + 1, R, by omega, by go_num, HNEXT.out, HK.out⟩
                case measure => simp [intOf]; omega
              · have hkl2 : ¬ (k : Int) < (l.length : Int) := by omega
                have hkl3 : ¬ k < l.length := by omega
                go_wp2
                go_roundw
                case rel => exact ⟨j + 1, R, by omega, by go_num, HNEXT.out, HK.out⟩
                case measure => simp [intOf]; omega
            | true =>
              have hkk : decide ((k : Int) < (l.length : Int)) = false := by
                cases h : decide ((k : Int) < (l.length : Int)) with
                | false => rfl
                | true => rw [hst h] at hfn; cases hfn
              have HFJ := Lib.hid (And.intro hjl hfn)
              have hmonj := fun h => HMJ.out j h
              have HJL2 := Lib.hid (show ∀ x ∈ l ++ [j], x < rows'.length from fun x hx => by
                rcases List.mem_append.1 hx with h | h
                · exact HRZ.out x h
                · rw [List.mem_singleton.1 h]; exact hjl)
              have HJL := Lib.hid (show ∀ x ∈ l ++ [j], x ≤ 1048576 from fun x hx => by have := HJL2.out x hx; omega)
              obtain ⟨RR, hRR⟩ : ∃ RR, (R ++ extL rows'.length (monN (Bf rows) (Bf rows')) f (l ++ [j])).take (most + 1) = RR := ⟨_, rfl⟩
              have HRRQ := Lib.hid hRR
              have HNEXT := Lib.hid (show RR = (OUT ++ foundJ rows'.length (monN (Bf rows) (Bf rows')) f l (j + 1)).take (most + 1) by
                rw [← hRR, foundJ_succ, ← List.append_assoc, HRR.out, take_more])
              clear hRR
              clear hfn hst
              have hkn : ¬ (k : Int) < (l.length : Int) := of_decide_eq_false hkk
              have hkn2 : ¬ k < l.length := by omega
              clear hkk
              go_wp2
              refine wp_region_held_drew (S := fun W' : World => W'.cell? ⟨w.heap.size, 0, none⟩ = some (.slice A rows.length C) ∧ W'.cell? ⟨w.heap.size + 1, 0, none⟩ = some (.slice A' rows'.length C')) (by kernel_rfl) ⟨HK.out.c0, HK.out.c1⟩ (fun hHeld => ?_)
              have E0 := Lib.hid (HK.out.step (below_drew wr _))
              generalize wr.drew = W0 at E0 hHeld ⊢
              have B0 := Lib.hid (Below.refl W0.heap.size W0)
              have W0Z := Lib.hid (E0.out.below.size)
              refine wpAnyH_take (i := 0) (v := .agg #[.slice A rows.length C]) rfl (by kernel_rfl) (by kernel_rfl) (by kernel_rfl) (fun _ _ _ h => h) (Or.inl ⟨by rfl, ?_⟩) (by assumption) ?_
              · (intro W hSw; obtain ⟨hS0, hS1⟩ := hSw; go_simp)
              try dsimp only [Act.put]
              refine wpAnyH_take (i := 1) (v := .agg #[.slice A' rows'.length C']) rfl (by kernel_rfl) (by kernel_rfl) (by kernel_rfl) (fun _ _ _ h => h) (Or.inl ⟨by rfl, ?_⟩) (by assumption) ?_
              · (intro W hSw; obtain ⟨hS0, hS1⟩ := hSw; go_simp)
              try dsimp only [Act.put]
              refine wpAnyH_take (i := 3) (v := .slice (some ⟨lb, 0, none⟩) l.length CL) rfl (by kernel_rfl) (by kernel_rfl) (by kernel_rfl) (fun _ _ _ h => h) (Or.inl ⟨by rfl, ?_⟩) (by assumption) ?_
              · (intro W hSw; obtain ⟨hS0, hS1⟩ := hSw; go_simp)
              try dsimp only [Act.put]
              refine wpAnyH_take (i := 5) (v := .int .i64 (j : Int)) rfl (by kernel_rfl) (by kernel_rfl) (by kernel_rfl) (fun _ _ _ h => h) (Or.inl ⟨by rfl, ?_⟩) (by assumption) ?_
              · (intro W hSw; obtain ⟨hS0, hS1⟩ := hSw; go_simp)
              try dsimp only [Act.put]
              refine wpAnyH_take (i := 8) (v := .int .i64 (most : Int)) rfl (by kernel_rfl) (by kernel_rfl) (by kernel_rfl) (fun _ _ _ h => h) (Or.inl ⟨by rfl, ?_⟩) (by assumption) ?_
              · (intro W hSw; obtain ⟨hS0, hS1⟩ := hSw; go_simp)
              try dsimp only [Act.put]
              refine wpAnyH_take (i := 9) (v := .slice ar R.length CR) rfl (by kernel_rfl) (by kernel_rfl) (by kernel_rfl) (fun _ _ _ h => h) (Or.inl ⟨by rfl, ?_⟩) (by assumption) ?_
              · (intro W hSw; obtain ⟨hS0, hS1⟩ := hSw; go_simp)
              try dsimp only [Act.put]
              refine wpAnyH_ready (rs := [2, 6]) (by kernel_rfl) (by simp) ?_
              refine AllReadyH.cons rfl (fun K hK => ?_) ?_
              · go_simp
                have hb := (Below.refl W0.heap.size W0).alloc (Nat.le_refl _) (.cells #[] 3)
                have B1 := Lib.hid (B0.out.trans (hb.mono B0.out.size))
                clear hb
                have HO1 := Lib.hid (World.ownsRow_made (e := 3) (size := 1) W0 #[] 0 (base := W0.heap.size) B0.out.size (Nat.zero_le _) (by simp))
                generalize (W0.alloc (.cells #[] 3)) = w1 at B1 HO1 ⊢
                refine hK.out _ _ (⟨(E0.out.step B1.out).c0, (E0.out.step B1.out).c1⟩) (fun hHeld => ?_)
                clear hK K
                try dsimp only [Act.put]
                refine wpAnyH_ready (rs := [4, 6]) (by kernel_rfl) (by simp) ?_
                refine AllReadyH.cons rfl (fun K hK => ?_) ?_
                · refine step_append_own (by rfl) _ _ 37 (by rfl) W0.heap.size 3 i0 (.int .i64 0) 1 8 Tryd.underlying37 hi0 hz0 hz1 hz2 rfl (by decide) (.slice (some ⟨W0.heap.size, 0, none⟩) 0 0) 0 [] (by rfl) HO1.out ⟨lb, 0, none⟩ l.length CL (cellsI (intsOf l)) (by rfl) (by simp [cellsI, intsOf]) (E0.out.step B1.out).list.news cellsI_one (by unfold maxLen; omega) (by omega) B1.out.size ?_
                  intro v1 w2 hown1 hgrow1 _
                  rw [List.nil_append, Nat.zero_add] at hown1
                  obtain ⟨a1, C1, rfl⟩ := owns_form hown1
                  have HV2 := Lib.hid hown1
                  have B2 := Lib.hid (B1.out.grown hgrow1 B1.out.size (fun b e => (HO1.out.lt b e).1))
                  clear hown1 hgrow1
                  refine hK.out _ _ (⟨(E0.out.step B2.out).c0, (E0.out.step B2.out).c1⟩) (fun hHeld => ?_)
                  clear hK K
                  try dsimp only [Act.put]
                  refine wpAnyH_ready (rs := [6]) (by kernel_rfl) (by simp) ?_
                  refine AllReadyH.cons rfl (fun K hK => ?_) ?_
                  · go_simp
                    have hb := (Below.refl w2.heap.size w2).alloc (Nat.le_refl _) (.cells #[.int .i64 (j : Int)] 3)
                    have B3 := Lib.hid (B2.out.trans (hb.mono B2.out.size))
                    clear hb
                    have HC3 := Lib.hid (show (w2.alloc (.cells #[.int .i64 (j : Int)] 3)).cell? ⟨w2.heap.size, 0, none⟩ = some (.int .i64 (j : Int)) by rw [cell_of_row _ w2.heap.size 0 _ _ _ (heap_alloc_new _ _)]; rfl)
                    have HV3 := Lib.hid (HV2.out.alloc (.cells #[.int .i64 (j : Int)] 3))
                    generalize (w2.alloc (.cells #[.int .i64 (j : Int)] 3)) = w3 at B3 HC3 HV3 ⊢
                    refine hK.out _ _ (⟨(E0.out.step B3.out).c0, (E0.out.step B3.out).c1⟩) (fun hHeld => ?_)
                    clear hK K
                    try dsimp only [Act.put]
                    refine wpAnyH_ready (rs := [7]) (by kernel_rfl) (by simp) ?_
                    refine AllReadyH.cons rfl (fun K hK => ?_) ?_
                    · refine step_append_lies _ (by rfl) _ _ 37 (by rfl) W0.heap.size 3 i0 (.int .i64 0) 1 8 Tryd.underlying37 hi0 hz0 hz1 hz2 rfl (by decide) (.slice a1 l.length C1) l.length (cellsI (intsOf l)) (by rfl) HV3.out ⟨w2.heap.size, 0, none⟩ 1 1 [.int .i64 (j : Int)] (by rfl) rfl (news_one HC3.out) (by simp [Value.oneCell']) (by omega) (by unfold maxLen; omega) (by omega) B3.out.size w3.heap.size rfl ?_
                      intro g2 C2 w4 hown2 hgrow2 _ _
                      have B4 := Lib.hid (B3.out.grown hgrow2 B3.out.size (fun b e => (HV3.out.lt b e).1))
                      have HL2 := Lib.hid (list_snoc hown2 HJL.out W0Z.out)
                      clear hown2 hgrow2
                      refine hK.out _ _ (⟨(E0.out.step B4.out).c0, (E0.out.step B4.out).c1⟩) (fun hHeld => ?_)
                      clear hK K
                      try dsimp only [Act.put]
                      refine wpAnyH_ready (rs := [10]) (by kernel_rfl) (by simp) ?_
                      refine AllReadyH.cons rfl (fun K hK => ?_) ?_
                      · go_simp
                        have EC := Lib.hid (E0.out.step B4.out)
                        have hih := HIH.out (l ++ [j]) (.slice (some ⟨g2, 0, none⟩) (l.length + 1) C2) (.slice ar R.length CR) R w4 lo (by rw [List.length_append, List.length_singleton]; omega) HJL2.out (hmonj HFJ.out) HRL.out EC.out.below hlo HL2.out EC.out.out (Nat.le_trans hloz (Nat.le_trans (Nat.le_trans (Nat.le_add_right _ 2) E0.out.size) B4.out.size))
                        rw [HRRQ.out] at hih
                        refine hih.mono ?_
                        clear hih
                        rintro e w5 ⟨vo', rfl, ho, hg, hf⟩
                        have ED := Lib.hid (EC.out.called HVB.out hlo ho hg hf)
                        obtain ⟨ad, CD, rfl⟩ := ho.form
                        clear ho hg hf
                        go_wp2_with fail
                        refine hK.out _ _ (⟨ED.out.c0, ED.out.c1⟩) (fun hHeld => ?_)
                        clear hK K
                        try dsimp only [Act.put]
                        refine wpAnyH_ready (rs := [11]) (by kernel_rfl) (by simp) ?_
                        refine AllReadyH.cons rfl (fun K hK => ?_) ?_
                        · go_simp
                          refine hK.out _ _ (⟨ED.out.c0, ED.out.c1⟩) (fun hHeld => ?_)
                          clear hK K
                          try dsimp only [Act.put]
                          refine wpAnyH_done (by kernel_rfl) ?_ _
                          go_wp2_with fail
                          go_roundw
                          case rel => exact ⟨j + 1, _, by omega, by go_num, HNEXT.out, ED.out⟩
                          case measure => simp [intOf]; omega
                        exact AllReadyH.nil
                      exact AllReadyH.nil
                    exact AllReadyH.nil
                  exact AllReadyH.nil
                refine AllReadyH.cons rfl (fun K hK => ?_) ?_
                · go_simp
                  have hb := (Below.refl w1.heap.size w1).alloc (Nat.le_refl _) (.cells #[.int .i64 (j : Int)] 3)
                  have B2 := Lib.hid (B1.out.trans (hb.mono B1.out.size))
                  clear hb
                  have HC2 := Lib.hid (show (w1.alloc (.cells #[.int .i64 (j : Int)] 3)).cell? ⟨w1.heap.size, 0, none⟩ = some (.int .i64 (j : Int)) by rw [cell_of_row _ w1.heap.size 0 _ _ _ (heap_alloc_new _ _)]; rfl)
                  have HO2 := Lib.hid (HO1.out.alloc (.cells #[.int .i64 (j : Int)] 3))
                  have HNE := Lib.hid (show w1.heap.size ≠ W0.heap.size from fun e => by have := (HO1.out.lt W0.heap.size rfl).2; omega)
                  generalize (w1.alloc (.cells #[.int .i64 (j : Int)] 3)) = w2 at B2 HC2 HO2 ⊢
                  refine hK.out _ _ (⟨(E0.out.step B2.out).c0, (E0.out.step B2.out).c1⟩) (fun hHeld => ?_)
                  clear hK K
                  try dsimp only [Act.put]
                  refine wpAnyH_ready (rs := [4]) (by kernel_rfl) (by simp) ?_
                  refine AllReadyH.cons rfl (fun K hK => ?_) ?_
                  · refine step_append_own (by rfl) _ _ 37 (by rfl) W0.heap.size 3 i0 (.int .i64 0) 1 8 Tryd.underlying37 hi0 hz0 hz1 hz2 rfl (by decide) (.slice (some ⟨W0.heap.size, 0, none⟩) 0 0) 0 [] (by rfl) HO2.out ⟨lb, 0, none⟩ l.length CL (cellsI (intsOf l)) (by rfl) (by simp [cellsI, intsOf]) (E0.out.step B2.out).list.news cellsI_one (by unfold maxLen; omega) (by omega) B2.out.size ?_
                    intro v1 w3 hown1 hgrow1 _
                    rw [List.nil_append, Nat.zero_add] at hown1
                    obtain ⟨a1, C1, rfl⟩ := owns_form hown1
                    have HV3 := Lib.hid hown1
                    have B3 := Lib.hid (B2.out.grown hgrow1 B2.out.size (fun b e => (HO2.out.lt b e).1))
                    have HC3 := Lib.hid ((World.cell?_of_block (hgrow1.block w1.heap.size (cell_lt HC2.out) (fun e => by injection e with e; exact HNE.out e))).trans HC2.out)
                    clear hown1 hgrow1
                    refine hK.out _ _ (⟨(E0.out.step B3.out).c0, (E0.out.step B3.out).c1⟩) (fun hHeld => ?_)
                    clear hK K
                    try dsimp only [Act.put]
                    refine wpAnyH_ready (rs := [7]) (by kernel_rfl) (by simp) ?_
                    refine AllReadyH.cons rfl (fun K hK => ?_) ?_
                    · refine step_append_lies _ (by rfl) _ _ 37 (by rfl) W0.heap.size 3 i0 (.int .i64 0) 1 8 Tryd.underlying37 hi0 hz0 hz1 hz2 rfl (by decide) (.slice a1 l.length C1) l.length (cellsI (intsOf l)) (by rfl) HV3.out ⟨w1.heap.size, 0, none⟩ 1 1 [.int .i64 (j : Int)] (by rfl) rfl (news_one HC3.out) (by simp [Value.oneCell']) (by omega) (by unfold maxLen; omega) (by omega) B3.out.size w3.heap.size rfl ?_
                      intro g2 C2 w4 hown2 hgrow2 _ _
                      have B4 := Lib.hid (B3.out.grown hgrow2 B3.out.size (fun b e => (HV3.out.lt b e).1))
                      have HL2 := Lib.hid (list_snoc hown2 HJL.out W0Z.out)
                      clear hown2 hgrow2
                      refine hK.out _ _ (⟨(E0.out.step B4.out).c0, (E0.out.step B4.out).c1⟩) (fun hHeld => ?_)
                      clear hK K
                      try dsimp only [Act.put]
                      refine wpAnyH_ready (rs := [10]) (by kernel_rfl) (by simp) ?_
                      refine AllReadyH.cons rfl (fun K hK => ?_) ?_
                      · go_simp
                        have EC := Lib.hid (E0.out.step B4.out)
                        have hih := HIH.out (l ++ [j]) (.slice (some ⟨g2, 0, none⟩) (l.length + 1) C2) (.slice ar R.length CR) R w4 lo (by rw [List.length_append, List.length_singleton]; omega) HJL2.out (hmonj HFJ.out) HRL.out EC.out.below hlo HL2.out EC.out.out (Nat.le_trans hloz (Nat.le_trans (Nat.le_trans (Nat.le_add_right _ 2) E0.out.size) B4.out.size))
                        rw [HRRQ.out] at hih
                        refine hih.mono ?_
                        clear hih
                        rintro e w5 ⟨vo', rfl, ho, hg, hf⟩
                        have ED := Lib.hid (EC.out.called HVB.out hlo ho hg hf)
                        obtain ⟨ad, CD, rfl⟩ := ho.form
                        clear ho hg hf
                        go_wp2_with fail
                        refine hK.out _ _ (⟨ED.out.c0, ED.out.c1⟩) (fun hHeld => ?_)
                        clear hK K
                        try dsimp only [Act.put]
                        refine wpAnyH_ready (rs := [11]) (by kernel_rfl) (by simp) ?_
                        refine AllReadyH.cons rfl (fun K hK => ?_) ?_
                        · go_simp
                          refine hK.out _ _ (⟨ED.out.c0, ED.out.c1⟩) (fun hHeld => ?_)
                          clear hK K
                          try dsimp only [Act.put]
                          refine wpAnyH_done (by kernel_rfl) ?_ _
                          go_wp2_with fail
                          go_roundw
                          case rel => exact ⟨j + 1, _, by omega, by go_num, HNEXT.out, ED.out⟩
                          case measure => simp [intOf]; omega
                        exact AllReadyH.nil
                      exact AllReadyH.nil
                    exact AllReadyH.nil
                  exact AllReadyH.nil
                exact AllReadyH.nil
              refine AllReadyH.cons rfl (fun K hK => ?_) ?_
              · go_simp
                have hb := (Below.refl W0.heap.size W0).alloc (Nat.le_refl _) (.cells #[.int .i64 (j : Int)] 3)
                have B1 := Lib.hid (B0.out.trans (hb.mono B0.out.size))
                clear hb
                have HC1 := Lib.hid (show (W0.alloc (.cells #[.int .i64 (j : Int)] 3)).cell? ⟨W0.heap.size, 0, none⟩ = some (.int .i64 (j : Int)) by rw [cell_of_row _ W0.heap.size 0 _ _ _ (heap_alloc_new _ _)]; rfl)
                generalize (W0.alloc (.cells #[.int .i64 (j : Int)] 3)) = w1 at B1 HC1 ⊢
                refine hK.out _ _ (⟨(E0.out.step B1.out).c0, (E0.out.step B1.out).c1⟩) (fun hHeld => ?_)
                clear hK K
                try dsimp only [Act.put]
                refine wpAnyH_ready (rs := [2]) (by kernel_rfl) (by simp) ?_
                refine AllReadyH.cons rfl (fun K hK => ?_) ?_
                · go_simp
                  have hb := (Below.refl w1.heap.size w1).alloc (Nat.le_refl _) (.cells #[] 3)
                  have B2 := Lib.hid (B1.out.trans (hb.mono B1.out.size))
                  clear hb
                  have HO2 := Lib.hid (World.ownsRow_made (e := 3) (size := 1) w1 #[] 0 (base := W0.heap.size) B1.out.size (Nat.zero_le _) (by simp))
                  have HC2 := Lib.hid (cell_alloc_any HC1.out (.cells #[] 3))
                  have HNE := Lib.hid (show W0.heap.size ≠ w1.heap.size from fun e => by have : W0.heap.size < w1.heap.size := cell_lt HC1.out; omega)
                  generalize (w1.alloc (.cells #[] 3)) = w2 at B2 HO2 HC2 ⊢
                  refine hK.out _ _ (⟨(E0.out.step B2.out).c0, (E0.out.step B2.out).c1⟩) (fun hHeld => ?_)
                  clear hK K
                  try dsimp only [Act.put]
                  refine wpAnyH_ready (rs := [4]) (by kernel_rfl) (by simp) ?_
                  refine AllReadyH.cons rfl (fun K hK => ?_) ?_
                  · refine step_append_own (by rfl) _ _ 37 (by rfl) W0.heap.size 3 i0 (.int .i64 0) 1 8 Tryd.underlying37 hi0 hz0 hz1 hz2 rfl (by decide) (.slice (some ⟨w1.heap.size, 0, none⟩) 0 0) 0 [] (by rfl) HO2.out ⟨lb, 0, none⟩ l.length CL (cellsI (intsOf l)) (by rfl) (by simp [cellsI, intsOf]) (E0.out.step B2.out).list.news cellsI_one (by unfold maxLen; omega) (by omega) B2.out.size ?_
                    intro v1 w3 hown1 hgrow1 _
                    rw [List.nil_append, Nat.zero_add] at hown1
                    obtain ⟨a1, C1, rfl⟩ := owns_form hown1
                    have HV3 := Lib.hid hown1
                    have B3 := Lib.hid (B2.out.grown hgrow1 B2.out.size (fun b e => (HO2.out.lt b e).1))
                    have HC3 := Lib.hid ((World.cell?_of_block (hgrow1.block W0.heap.size (cell_lt HC2.out) (fun e => by injection e with e; exact HNE.out e))).trans HC2.out)
                    clear hown1 hgrow1
                    refine hK.out _ _ (⟨(E0.out.step B3.out).c0, (E0.out.step B3.out).c1⟩) (fun hHeld => ?_)
                    clear hK K
                    try dsimp only [Act.put]
                    refine wpAnyH_ready (rs := [7]) (by kernel_rfl) (by simp) ?_
                    refine AllReadyH.cons rfl (fun K hK => ?_) ?_
                    · refine step_append_lies _ (by rfl) _ _ 37 (by rfl) W0.heap.size 3 i0 (.int .i64 0) 1 8 Tryd.underlying37 hi0 hz0 hz1 hz2 rfl (by decide) (.slice a1 l.length C1) l.length (cellsI (intsOf l)) (by rfl) HV3.out ⟨W0.heap.size, 0, none⟩ 1 1 [.int .i64 (j : Int)] (by rfl) rfl (news_one HC3.out) (by simp [Value.oneCell']) (by omega) (by unfold maxLen; omega) (by omega) B3.out.size w3.heap.size rfl ?_
                      intro g2 C2 w4 hown2 hgrow2 _ _
                      have B4 := Lib.hid (B3.out.grown hgrow2 B3.out.size (fun b e => (HV3.out.lt b e).1))
                      have HL2 := Lib.hid (list_snoc hown2 HJL.out W0Z.out)
                      clear hown2 hgrow2
                      refine hK.out _ _ (⟨(E0.out.step B4.out).c0, (E0.out.step B4.out).c1⟩) (fun hHeld => ?_)
                      clear hK K
                      try dsimp only [Act.put]
                      refine wpAnyH_ready (rs := [10]) (by kernel_rfl) (by simp) ?_
                      refine AllReadyH.cons rfl (fun K hK => ?_) ?_
                      · go_simp
                        have EC := Lib.hid (E0.out.step B4.out)
                        have hih := HIH.out (l ++ [j]) (.slice (some ⟨g2, 0, none⟩) (l.length + 1) C2) (.slice ar R.length CR) R w4 lo (by rw [List.length_append, List.length_singleton]; omega) HJL2.out (hmonj HFJ.out) HRL.out EC.out.below hlo HL2.out EC.out.out (Nat.le_trans hloz (Nat.le_trans (Nat.le_trans (Nat.le_add_right _ 2) E0.out.size) B4.out.size))
                        rw [HRRQ.out] at hih
                        refine hih.mono ?_
                        clear hih
                        rintro e w5 ⟨vo', rfl, ho, hg, hf⟩
                        have ED := Lib.hid (EC.out.called HVB.out hlo ho hg hf)
                        obtain ⟨ad, CD, rfl⟩ := ho.form
                        clear ho hg hf
                        go_wp2_with fail
                        refine hK.out _ _ (⟨ED.out.c0, ED.out.c1⟩) (fun hHeld => ?_)
                        clear hK K
                        try dsimp only [Act.put]
                        refine wpAnyH_ready (rs := [11]) (by kernel_rfl) (by simp) ?_
                        refine AllReadyH.cons rfl (fun K hK => ?_) ?_
                        · go_simp
                          refine hK.out _ _ (⟨ED.out.c0, ED.out.c1⟩) (fun hHeld => ?_)
                          clear hK K
                          try dsimp only [Act.put]
                          refine wpAnyH_done (by kernel_rfl) ?_ _
                          go_wp2_with fail
                          go_roundw
                          case rel => exact ⟨j + 1, _, by omega, by go_num, HNEXT.out, ED.out⟩
                          case measure => simp [intOf]; omega
                        exact AllReadyH.nil
                      exact AllReadyH.nil
                    exact AllReadyH.nil
                  exact AllReadyH.nil
                exact AllReadyH.nil
              exact AllReadyH.nil
        · obtain rfl : j = rows'.length := by omega
          have HE := Lib.hid (show (OUT ++ extL rows'.length (monN (Bf rows) (Bf rows')) (f + 1) l).take (most + 1) = R by rw [HRR.out, foundJ_all])
          go_wp2
          go_ret
          refine ⟨_, rfl, by rw [HE.out]; exact HJ.out.out, HJ.out.grown, ?_⟩
          rcases HJ.out.fresh with h | h
          · exact .inl h
          · exact .inr fun b e => by have := h b e; omega
end Go.Proofs.YtkhhbpeheikmfaaDoor

/- The program's narrowing of choices (funSearch.narrowed). -/
namespace Go.Proofs.YtkhhbpeheikmfaaDoor
open Go.RowKit Go.Deep Go.Shelf

/-- The four words of a row. -/
def rowL (r : Nat) : List Value := [.int .u64 ((word r 0 : Nat) : Int), .int .u64 ((word r 1 : Nat) : Int), .int .u64 ((word r 2 : Nat) : Int), .int .u64 ((word r 3 : Nat) : Int)]
theorem range4 {W : World} {b o : Nat} {r : Nat} (h : W.cell? ⟨b, o, none⟩ = some (.int .u64 ((word r 0 : Nat) : Int)) ∧ W.cell? ⟨b, o + 1, none⟩ = some (.int .u64 ((word r 1 : Nat) : Int)) ∧ W.cell? ⟨b, o + 2, none⟩ = some (.int .u64 ((word r 2 : Nat) : Int)) ∧ W.cell? ⟨b, o + 3, none⟩ = some (.int .u64 ((word r 3 : Nat) : Int))) : W.rangeAt b o (rowL r) := fun j v hv => by
  obtain ⟨h0, h1, h2, h3⟩ := h
  match j with
  | 0 => obtain rfl : _ = v := by simpa [rowL] using hv
         exact h0
  | 1 => obtain rfl : _ = v := by simpa [rowL] using hv
         exact h1
  | 2 => obtain rfl : _ = v := by simpa [rowL] using hv
         exact h2
  | 3 => obtain rfl : _ = v := by simpa [rowL] using hv
         exact h3
  | j + 4 => simp [rowL] at hv
theorem GridAt.range {W : World} {b : Nat} {g : Nat → Nat} (h : GridAt W b g) {k : Nat} (hk : k < 200) : W.rangeAt b (k * 4) (rowL (g k)) := by
  obtain ⟨c0, c1, c2, c3⟩ := h.row k hk
  exact range4 ⟨by simpa [Nat.mul_comm] using c0, by simpa [Nat.mul_comm] using c1, by simpa [Nat.mul_comm] using c2, by simpa [Nat.mul_comm] using c3⟩

/-- What is left to m when i goes to k. -/
def narR (rows rows' : Rows2) (i k m r : Nat) : Nat := if upB rows i (m : Int) = true then r &&& gridF rows' k else if upB rows m (i : Int) = true then r &&& gridF (backRows rows') k else r
def narO (rows rows' : Rows2) (i k : Nat) (O : Nat → Nat) (m : Nat) : Nat := if i < m then narR rows rows' i k m (O m) else O m
theorem narR_le (rows rows' : Rows2) (i k m r : Nat) : narR rows rows' i k m r ≤ r := by
  unfold narR
  split
  · exact Nat.and_le_left
  · split
    · exact Nat.and_le_left
    · exact Nat.le_refl _
def narT (rows rows' : Rows2) (i k : Nat) (O : Nat → Nat) (m q : Nat) : Nat := if q < m then narO rows rows' i k O q else O q
theorem narT_self (rows rows' : Rows2) (i k : Nat) (O : Nat → Nat) (m : Nat) : narT rows rows' i k O m m = O m := if_neg (Nat.lt_irrefl m)
theorem narT_lt {rows rows' : Rows2} {i k : Nat} {O : Nat → Nat} {m q : Nat} (h : q < m) : narT rows rows' i k O m q = narO rows rows' i k O q := if_pos h
theorem narT_start (rows rows' : Rows2) (i k : Nat) (O : Nat → Nat) (q : Nat) : narT rows rows' i k O (i + 1) q = O q := by
  unfold narT
  by_cases e : q < i + 1
  · rw [if_pos e]; unfold narO; rw [if_neg (by omega)]
  · rw [if_neg e]
theorem narT_next {rows rows' : Rows2} {i k : Nat} {O : Nat → Nat} {m X : Nat} (hi : i < m) (hX : narR rows rows' i k m (O m) = X) (q : Nat) : (if q = m then X else narT rows rows' i k O m q) = narT rows rows' i k O (m + 1) q := by
  unfold narT
  by_cases e : q = m
  · subst e
    rw [if_pos rfl, if_pos (Nat.lt_succ_self q)]
    unfold narO
    rw [if_pos hi, hX]
  · rw [if_neg e]
    by_cases e2 : q < m
    · rw [if_pos e2, if_pos (by omega)]
    · rw [if_neg e2, if_neg (by omega)]
theorem narT_same {rows rows' : Rows2} {i k : Nat} {O : Nat → Nat} {m : Nat} (hi : i < m) (hX : narR rows rows' i k m (O m) = O m) (q : Nat) : narT rows rows' i k O m q = narT rows rows' i k O (m + 1) q := by
  rw [← narT_next hi hX]
  split
  next e => subst e; exact narT_self _ _ _ _ _ _
  next => rfl
/-- Has each one behind i some choice? -/
def narOk (rows rows' : Rows2) (i k : Nat) (O : Nat → Nat) (n : Nat) : Bool := (List.range n).all fun m => !decide (i < m) || !decide (narO rows rows' i k O m = 0)
theorem narOk_no {rows rows' : Rows2} {i k n m : Nat} {O : Nat → Nat} (hm : m < n) (hi : i < m) (h : narR rows rows' i k m (O m) = 0) : narOk rows rows' i k O n = false := by
  unfold narOk
  rw [List.all_eq_false]
  refine ⟨m, List.mem_range.2 hm, ?_⟩
  unfold narO
  rw [if_pos hi, decide_eq_true hi, decide_eq_true h]
  simp
theorem narOk_yes {rows rows' : Rows2} {i k n : Nat} {O : Nat → Nat} (h : ∀ m, i < m → m < n → narR rows rows' i k m (O m) ≠ 0) : narOk rows rows' i k O n = true := by
  unfold narOk
  rw [List.all_eq_true]
  intro m hm
  rw [List.mem_range] at hm
  by_cases hi : i < m
  · unfold narO
    rw [if_pos hi, decide_eq_false (h m hi hm)]
    simp
  · rw [decide_eq_false hi]
    rfl
/-- The search's own variable: the grids, the limit, the list, what has been found. -/
structure Srch (sb p p' G lb n : Nat) (lim : Int) (vf : Value) (W : World) : Prop where
  from_ : W.cell? ⟨sb, 0, none⟩ = some (.pointer (some ⟨p, 0, none⟩))
  up : W.cell? ⟨sb, 1, none⟩ = some (.pointer (some ⟨p', 0, none⟩))
  low : W.cell? ⟨sb, 2, none⟩ = some (.pointer (some ⟨G, 0, none⟩))
  limit : W.cell? ⟨sb, 3, none⟩ = some (.int .i64 lim)
  list : W.cell? ⟨sb, 4, none⟩ = some (.slice (some ⟨lb, 0, none⟩) n n)
  found : W.cell? ⟨sb, 5, none⟩ = some vf
theorem Srch.block {sb p p' G lb n : Nat} {lim : Int} {vf : Value} {W W' : World} (h : Srch sb p p' G lb n lim vf W) (e : W'.heap[sb]? = W.heap[sb]?) : Srch sb p p' G lb n lim vf W' :=
  ⟨(World.cell?_of_block e).trans h.from_, (World.cell?_of_block e).trans h.up, (World.cell?_of_block e).trans h.low, (World.cell?_of_block e).trans h.limit, (World.cell?_of_block e).trans h.list, (World.cell?_of_block e).trans h.found⟩
/-- The three grids. -/
structure Grids (p p' G : Nat) (rows rows' : Rows2) (W : World) : Prop where
  from_ : GridAt W p (gridF rows)
  up : GridAt W p' (gridF rows')
  low : GridAt W G (gridF (backRows rows'))
theorem Grids.below {p p' G : Nat} {rows rows' : Rows2} {W W' : World} {B : Nat} (h : Grids p p' G rows rows' W) (hb : Below B W W') (h1 : p < B) (h2 : p' < B) (h3 : G < B) : Grids p p' G rows rows' W' := ⟨h.from_.below hb h1, h.up.below hb h2, h.low.below hb h3⟩
theorem Grids.step {p p' G : Nat} {rows rows' : Rows2} {W W' : World} (h : Grids p p' G rows rows' W) (hb : Below W.heap.size W W') : Grids p p' G rows rows' W' := h.below hb h.from_.lt h.up.lt h.low.lt

/-- While choices are narrowed. -/
structure NW (w : World) (sb p p' G lb n : Nat) (lim : Int) (vf : Value) (rows rows' : Rows2) (g : Nat) (O : Nat → Nat) (W : World) : Prop where
  srch : Srch sb p p' G lb n lim vf W
  grids : Grids p p' G rows rows' W
  next : RwAt W g n O
  hg : w.heap.size ≤ g
  below : Below w.heap.size w W
theorem NW.step {w : World} {sb p p' G lb n : Nat} {lim : Int} {vf : Value} {rows rows' : Rows2} {g : Nat} {O : Nat → Nat} {W W' : World} (h : NW w sb p p' G lb n lim vf rows rows' g O W) (hb : Below W.heap.size W W') : NW w sb p p' G lb n lim vf rows rows' g O W' :=
  ⟨h.srch.block (hb.block _ (cell_lt h.srch.from_)), h.grids.step hb, h.next.below hb h.next.lt, h.hg, h.below.trans (hb.mono h.below.size)⟩
theorem NW.congr {w : World} {sb p p' G lb n : Nat} {lim : Int} {vf : Value} {rows rows' : Rows2} {g : Nat} {O O' : Nat → Nat} {W : World} (h : NW w sb p p' G lb n lim vf rows rows' g O W) (e : ∀ j, j < n → O j = O' j) : NW w sb p p' G lb n lim vf rows rows' g O' W :=
  ⟨h.srch, h.grids, h.next.congr e, h.hg, h.below⟩
theorem NW.store {w : World} {sb p p' G lb n : Nat} {lim : Int} {vf : Value} {rows rows' : Rows2} {g : Nat} {O : Nat → Nat} {W : World} (h : NW w sb p p' G lb n lim vf rows rows' g O W) (hs : sb < w.heap.size) (h1 : p < w.heap.size) (h2 : p' < w.heap.size) (h3 : G < w.heap.size) {m X : Nat} (hX : X < 2 ^ 256) :
    NW w sb p p' G lb n lim vf rows rows' g (fun q => if q = m then X else O q) ((((W.setCell ⟨g, m * 4, none⟩ (.int .u64 ((word X 0 : Nat) : Int))).setCell ⟨g, m * 4 + 1, none⟩ (.int .u64 ((word X 1 : Nat) : Int))).setCell ⟨g, m * 4 + 2, none⟩ (.int .u64 ((word X 2 : Nat) : Int))).setCell ⟨g, m * 4 + 3, none⟩ (.int .u64 ((word X 3 : Nat) : Int))) := by
  have hg := h.hg
  have hb : Below w.heap.size W ((((W.setCell ⟨g, m * 4, none⟩ (.int .u64 ((word X 0 : Nat) : Int))).setCell ⟨g, m * 4 + 1, none⟩ (.int .u64 ((word X 1 : Nat) : Int))).setCell ⟨g, m * 4 + 2, none⟩ (.int .u64 ((word X 2 : Nat) : Int))).setCell ⟨g, m * 4 + 3, none⟩ (.int .u64 ((word X 3 : Nat) : Int))) :=
    ((((Below.refl _ W).setCell (p := ⟨g, m * 4, none⟩) hg _).setCell (p := ⟨g, m * 4 + 1, none⟩) hg _).setCell (p := ⟨g, m * 4 + 2, none⟩) hg _).setCell (p := ⟨g, m * 4 + 3, none⟩) hg _
  exact ⟨h.srch.block (hb.block _ hs), h.grids.below hb h1 h2 h3, h.next.store hX, hg, h.below.trans hb⟩

/-- What narrowed answers. -/
def NarP (rows rows' : Rows2) (i k n : Nat) (O : Nat → Nat) (w : World) (e : Ending) (w' : World) : Prop :=
  ((narOk rows rows' i k O n = true ∧ ∃ g C, e = .returned (.tuple #[.slice (some ⟨g, 0, none⟩) n C, .bool true]) ∧ w.heap.size ≤ g ∧ RwAt w' g n (narO rows rows' i k O)) ∨ (narOk rows rows' i k O n = false ∧ e = .returned (.tuple #[.slice none 0 0, .bool false]))) ∧ Below w.heap.size w w'

set_option maxRecDepth 100000 in
set_option maxHeartbeats 16000000 in
theorem narrowed_any (sb p p' G lb : Nat) (lim : Int) (vf : Value) (rows rows' : Rows2) (b C i k : Nat) (O : Nat → Nat) (w : World) (hs : Srch sb p p' G lb rows.length lim vf w) (hg : Grids p p' G rows rows' w) (ho : RwAt w b rows.length O) (hok : Ok rows) (hok' : Ok rows') (hi : i < rows.length) (hk : k < rows'.length) :
    Calls Tryd.prog 90 #[.pointer (some ⟨sb, 0, none⟩), .slice (some ⟨b, 0, none⟩) rows.length C, .int .i64 (i : Int), .int .i64 (k : Int)] w (NarP rows rows' i k rows.length O w) := by
  have hl := hok.len
  have hl' := hok'.len
  have hcl := cloneRows_any b rows.length C O w ho hl.1 hl.2
  have HS := Lib.hid hs
  have HG := Lib.hid hg
  have HO := Lib.hid (fun j (hj : j < rows.length) => ho.bits hj)
  have HBIT := Lib.hid (fun a c (ha : a < rows.length) => upB_grid hok (b := c) ha)
  have hsz := cell_lt hs.from_
  have hpz := hg.from_.lt
  have hpz' := hg.up.lt
  have hGz := hg.low.lt
  have HUL := Lib.hid (And.intro (hok'.lt k) (hok'.back.lt k))
  have hpl : ∀ x : Nat, x < 200 → (x : Int) < 200 := fun x h => by omega
  have hk200 : k < 200 := by omega
  have hkz := hpl k hk200
  have hk0 : (0 : Int) ≤ (k : Int) := by omega
  clear hs hg ho hok hok' hpl
  go_enter Tryd.func90, Tryd.ntmps90
  go_wp2_with (go_at_call 98; refine hcl.mono ?_; clear hcl; rintro e w1 ⟨g, C', rfl, hgg, hrw, hb1⟩; have H1 : Hid (NW w sb p p' G lb rows.length lim vf rows rows' g O w1) := Lib.hid ⟨HS.out.block (hb1.block _ hsz), HG.out.step hb1, hrw, hgg, hb1⟩; clear hgg hrw hb1)
  go_loopw [11] (fun mv wr => ∃ m : Nat, i + 1 ≤ m ∧ m ≤ rows.length ∧ mv = .int .i64 m ∧ (∀ q, i < q → q < m → narR rows rows' i k q (O q) ≠ 0) ∧ NW w sb p p' G lb rows.length lim vf rows rows' g (narT rows rows' i k O m) wr) (fun mv _ => rows.length - (intOf mv).toNat)
  case atStart =>
    refine ⟨i + 1, Nat.le_refl _, by omega, by go_num, fun q h1 h2 => by omega, H1.out.congr fun j _ => (narT_start rows rows' i k O j).symm⟩
  case round =>
    obtain ⟨m, hm1, hm2, rfl, hp, hh⟩ := hrel
    have HP := Lib.hid hp
    have HK := Lib.hid hh
    clear hp hh H1
    by_cases hml : m < rows.length
    · have hOm : (if m < m then narO rows rows' i k O m else O m) = O m := if_neg (Nat.lt_irrefl m)
      have e0 := HK.out.srch.from_
      have e1 := HK.out.srch.up
      have e2 := HK.out.srch.low
      have hmz : (m : Int) < (rows.length : Int) := by omega
      have hm200 : m < 256 := by omega
      have HC1 := Lib.hid (fun W (h : NW w sb p p' G lb rows.length lim vf rows rows' g (narT rows rows' i k O m) W) => gbelow_any p (gridF rows) (i : Int) (m : Int) i m W h.grids.from_ rfl (by omega) rfl hm200)
      have HC2 := Lib.hid (fun W (h : NW w sb p p' G lb rows.length lim vf rows rows' g (narT rows rows' i k O m) W) => gbelow_any p (gridF rows) (m : Int) (i : Int) m i W h.grids.from_ rfl (by omega) rfl (by omega))
      rw [HBIT.out i m hi] at HC1
      rw [HBIT.out m i hml] at HC2
      have HOm := Lib.hid (HO.out m hml)
      cases h1 : upB rows i (m : Int) with
      | true =>
        rw [h1] at HC1
        have HN := Lib.hid (show narR rows rows' i k m (O m) = O m &&& gridF rows' k by unfold narR; rw [if_pos h1])
        clear h1 HC2
        go_wp2_with (go_at_call 99; refine (HC1.out _ HK.out).mono ?_; clear HC1; rintro e w2 ⟨rfl, hb2⟩; have E0 := Lib.hid (HK.out.step hb2); clear hb2)
        obtain ⟨U, hU⟩ : ∃ U, gridF rows' k = U := ⟨_, rfl⟩
        have HUQ := Lib.hid hU
        rw [hU] at HN
        obtain ⟨X, hXd⟩ : ∃ X, O m &&& U = X := ⟨_, rfl⟩
        have HXD := Lib.hid hXd
        clear e0 e1 e2
        have HXL := Lib.hid (show X < 2 ^ 256 by rw [← hXd]; exact Nat.lt_of_le_of_lt Nat.and_le_left HOm.out)
        clear hXd hU
        have HAND := Lib.hid (show ∀ W, Calls Tryd.prog 84 #[rowV (O m), rowV U] W (SaysR X W) from fun W => by rw [← HXD.out]; exact and_any (O m) U W)
        have HN2 := Lib.hid (HN.out.trans HXD.out)
        have HCH := Lib.hid (fun W {F : Nat → Nat} (h : NW w sb p p' G lb rows.length lim vf rows rows' g F W) => (by rw [← HUQ.out]; exact h.grids.up.row k hk200 : W.cell? ⟨p', k * 4, none⟩ = some (.int .u64 ((word U 0 : Nat) : Int)) ∧ W.cell? ⟨p', k * 4 + 1, none⟩ = some (.int .u64 ((word U 1 : Nat) : Int)) ∧ W.cell? ⟨p', k * 4 + 2, none⟩ = some (.int .u64 ((word U 2 : Nat) : Int)) ∧ W.cell? ⟨p', k * 4 + 3, none⟩ = some (.int .u64 ((word U 3 : Nat) : Int))))
        have E1 := Lib.hid (E0.out.step (below_drew w2 _))
        have s := E1.out.next.cells hml
        rw [narT_self] at s
        obtain ⟨s0, s1, s2, s3⟩ := s
        clear HN
        refine wp_region_held_drew (S := (fun W' : World => W'.cell? ⟨sb, 1, none⟩ = some (.pointer (some ⟨p', 0, none⟩)) ∧ W'.cell? ⟨p', k * 4, none⟩ = some (.int .u64 ((word U 0 : Nat) : Int)) ∧ W'.cell? ⟨p', k * 4 + 1, none⟩ = some (.int .u64 ((word U 1 : Nat) : Int)) ∧ W'.cell? ⟨p', k * 4 + 2, none⟩ = some (.int .u64 ((word U 2 : Nat) : Int)) ∧ W'.cell? ⟨p', k * 4 + 3, none⟩ = some (.int .u64 ((word U 3 : Nat) : Int)))) (by kernel_rfl) ⟨E1.out.srch.up, HCH.out _ E1.out⟩ (fun hHeld => ?_)
        refine' wpAnyH_take (i := 0) (oi := ?oou0) (v := ?vvu0) ?hiu0 (by kernel_rfl) (by kernel_rfl) (by kernel_rfl) ?hqu0 (Or.inl ⟨?hwu0, ?hyu0⟩) hHeld ?restu0
        case hiu0 => simp only [List.getElem?_toArray, List.getElem?_cons_zero]; rfl
        case hqu0 => exact fun _ _ _ h => h
        case hwu0 => rfl
        case hyu0 => intro w hSw; (try dsimp only at hSw); go_simp; try (with_reducible rfl)
        try simp only [Act.put, List.setIfInBounds_toArray, List.set_cons_zero, List.set_cons_succ]
        refine' wpAnyH_take (i := 1) (oi := ?oou1) (v := ?vvu1) ?hiu1 (by kernel_rfl) (by kernel_rfl) (by kernel_rfl) ?hqu1 (Or.inl ⟨?hwu1, ?hyu1⟩) hHeld ?restu1
        case hiu1 => simp only [List.getElem?_toArray, List.getElem?_cons_succ, List.getElem?_cons_zero]; rfl
        case hqu1 => exact fun _ _ _ h => h
        case hwu1 => rfl
        case hyu1 => intro w hSw; (try dsimp only at hSw); go_simp; try (with_reducible rfl)
        try simp only [Act.put, List.setIfInBounds_toArray, List.set_cons_zero, List.set_cons_succ]
        refine' wpAnyH_take (i := 2) (oi := ?oou2) (v := ?vvu2) ?hiu2 (by kernel_rfl) (by kernel_rfl) (by kernel_rfl) ?hqu2 (Or.inl ⟨?hwu2, ?hyu2⟩) hHeld ?restu2
        case hiu2 => simp only [List.getElem?_toArray, List.getElem?_cons_succ, List.getElem?_cons_zero]; rfl
        case hqu2 => exact fun _ _ _ h => h
        case hwu2 => rfl
        case hyu2 => intro w hSw; (try dsimp only at hSw); go_simp; try (with_reducible rfl)
        try simp only [Act.put, List.setIfInBounds_toArray, List.set_cons_zero, List.set_cons_succ]
        refine' wpAnyH_take (i := 3) (oi := ?oou3) (v := ?vvu3) ?hiu3 (by kernel_rfl) (by kernel_rfl) (by kernel_rfl) ?hqu3 (Or.inl ⟨?hwu3, ?hyu3⟩) hHeld ?restu3
        case hiu3 => simp only [List.getElem?_toArray, List.getElem?_cons_succ, List.getElem?_cons_zero]; rfl
        case hqu3 => exact fun _ _ _ h => h
        case hwu3 => rfl
        case hyu3 => intro w hSw; (try dsimp only at hSw); go_simp; try (with_reducible rfl)
        try simp only [Act.put, List.setIfInBounds_toArray, List.set_cons_zero, List.set_cons_succ]
        refine' wpAnyH_take (i := 4) (oi := ?oou4) (v := ?vvu4) ?hiu4 (by kernel_rfl) (by kernel_rfl) (by kernel_rfl) ?hqu4 (Or.inl ⟨?hwu4, ?hyu4⟩) hHeld ?restu4
        case hiu4 => simp only [List.getElem?_toArray, List.getElem?_cons_succ, List.getElem?_cons_zero]; rfl
        case hqu4 => exact fun _ _ _ h => h
        case hwu4 => rfl
        case hyu4 => intro w hSw; (try dsimp only at hSw); go_simp; try (with_reducible rfl)
        try simp only [Act.put, List.setIfInBounds_toArray, List.set_cons_zero, List.set_cons_succ]
        refine' wpAnyH_take (i := 6) (oi := ?oou6) (v := ?vvu6) ?hiu6 (by kernel_rfl) (by kernel_rfl) (by kernel_rfl) ?hqu6 (Or.inl ⟨?hwu6, ?hyu6⟩) hHeld ?restu6
        case hiu6 => simp only [List.getElem?_toArray, List.getElem?_cons_succ, List.getElem?_cons_zero]; rfl
        case hqu6 => exact fun _ _ _ h => h
        case hwu6 => rfl
        case hyu6 => intro w hSw; (try dsimp only at hSw); go_simp; try (with_reducible rfl)
        try simp only [Act.put, List.setIfInBounds_toArray, List.set_cons_zero, List.set_cons_succ]
        refine' wpAnyH_take (i := 7) (oi := ?oou7) (v := ?vvu7) ?hiu7 (by kernel_rfl) (by kernel_rfl) (by kernel_rfl) ?hqu7 (Or.inl ⟨?hwu7, ?hyu7⟩) hHeld ?restu7
        case hiu7 => simp only [List.getElem?_toArray, List.getElem?_cons_succ, List.getElem?_cons_zero]; rfl
        case hqu7 => exact fun _ _ _ h => h
        case hwu7 => rfl
        case hyu7 => intro w hSw; (try dsimp only at hSw); go_simp; try (with_reducible rfl)
        try simp only [Act.put, List.setIfInBounds_toArray, List.set_cons_zero, List.set_cons_succ]
        refine' wpAnyH_take (i := 8) (oi := ?oou8) (v := ?vvu8) ?hiu8 (by kernel_rfl) (by kernel_rfl) (by kernel_rfl) ?hqu8 (Or.inl ⟨?hwu8, ?hyu8⟩) hHeld ?restu8
        case hiu8 => simp only [List.getElem?_toArray, List.getElem?_cons_succ, List.getElem?_cons_zero]; rfl
        case hqu8 => exact fun _ _ _ h => h
        case hwu8 => rfl
        case hyu8 => intro w hSw; (try dsimp only at hSw); go_simp; try (with_reducible rfl)
        try simp only [Act.put, List.setIfInBounds_toArray, List.set_cons_zero, List.set_cons_succ]
        refine' wpAnyH_take (i := 9) (oi := ?oou9) (v := ?vvu9) ?hiu9 (by kernel_rfl) (by kernel_rfl) (by kernel_rfl) ?hqu9 (Or.inl ⟨?hwu9, ?hyu9⟩) hHeld ?restu9
        case hiu9 => simp only [List.getElem?_toArray, List.getElem?_cons_succ, List.getElem?_cons_zero]; rfl
        case hqu9 => exact fun _ _ _ h => h
        case hwu9 => rfl
        case hyu9 => intro w hSw; (try dsimp only at hSw); go_simp; try (with_reducible rfl)
        try simp only [Act.put, List.setIfInBounds_toArray, List.set_cons_zero, List.set_cons_succ]
        refine' wpAnyH_take (i := 10) (oi := ?oou10) (v := ?vvu10) ?hiu10 (by kernel_rfl) (by kernel_rfl) (by kernel_rfl) ?hqu10 (Or.inl ⟨?hwu10, ?hyu10⟩) hHeld ?restu10
        case hiu10 => simp only [List.getElem?_toArray, List.getElem?_cons_succ, List.getElem?_cons_zero]; rfl
        case hqu10 => exact fun _ _ _ h => h
        case hwu10 => rfl
        case hyu10 => intro w hSw; (try dsimp only at hSw); go_simp; try (with_reducible rfl)
        try simp only [Act.put, List.setIfInBounds_toArray, List.set_cons_zero, List.set_cons_succ]
        refine' wpAnyH_take (i := 11) (oi := ?oou11) (v := ?vvu11) ?hiu11 (by kernel_rfl) (by kernel_rfl) (by kernel_rfl) ?hqu11 (Or.inl ⟨?hwu11, ?hyu11⟩) hHeld ?restu11
        case hiu11 => simp only [List.getElem?_toArray, List.getElem?_cons_succ, List.getElem?_cons_zero]; rfl
        case hqu11 => exact fun _ _ _ h => h
        case hwu11 => rfl
        case hyu11 => intro w hSw; (try dsimp only at hSw); go_simp; try (with_reducible rfl)
        try simp only [Act.put, List.setIfInBounds_toArray, List.set_cons_zero, List.set_cons_succ]
        refine' wpAnyH_take (i := 12) (oi := ?oou12) (v := ?vvu12) ?hiu12 (by kernel_rfl) (by kernel_rfl) (by kernel_rfl) ?hqu12 (Or.inl ⟨?hwu12, ?hyu12⟩) hHeld ?restu12
        case hiu12 => simp only [List.getElem?_toArray, List.getElem?_cons_succ, List.getElem?_cons_zero]; rfl
        case hqu12 => exact fun _ _ _ h => h
        case hwu12 => rfl
        case hyu12 => intro w hSw; (try dsimp only at hSw); go_simp; try (with_reducible rfl)
        try simp only [Act.put, List.setIfInBounds_toArray, List.set_cons_zero, List.set_cons_succ]
        refine' wpAnyH_take (i := 13) (oi := ?oou13) (v := ?vvu13) ?hiu13 (by kernel_rfl) (by kernel_rfl) (by kernel_rfl) ?hqu13 (Or.inl ⟨?hwu13, ?hyu13⟩) hHeld ?restu13
        case hiu13 => simp only [List.getElem?_toArray, List.getElem?_cons_succ, List.getElem?_cons_zero]; rfl
        case hqu13 => exact fun _ _ _ h => h
        case hwu13 => rfl
        case hyu13 => intro w hSw; (try dsimp only at hSw); go_simp; try (with_reducible rfl)
        try simp only [Act.put, List.setIfInBounds_toArray, List.set_cons_zero, List.set_cons_succ]
        refine wpAnyH_ready (rs := [5]) (by kernel_rfl) (by simp) ?_
        refine' AllReadyH.cons (o := ?oou5) ?hiu5 (fun K hK => ?restu5) AllReadyH.nil
        case hiu5 => simp only [List.getElem?_toArray, List.getElem?_cons_succ, List.getElem?_cons_zero]; rfl
        go_simp
        refine hK.out _ _ (by assumption) (fun hHeld => ?_)
        clear hK K
        try simp only [Act.put, List.setIfInBounds_toArray, List.set_cons_zero, List.set_cons_succ]
        refine wpAnyH_ready (rs := [14]) (by kernel_rfl) (by simp) ?_
        refine' AllReadyH.cons (o := ?oou14) ?hiu14 (fun K hK => ?restu14) AllReadyH.nil
        case hiu14 => simp only [List.getElem?_toArray, List.getElem?_cons_succ, List.getElem?_cons_zero]; rfl
        go_simp
        go_at_call 84
        refine (HAND.out _).mono ?_
        rintro e w4 ⟨rfl, hb4⟩
        have E4 := Lib.hid (E1.out.step hb4)
        have hfz := E4.out.next.frozen
        obtain ⟨t0, t1, t2, t3⟩ := E4.out.next.cells hml
        rw [narT_self] at t0 t1 t2 t3
        have E5 := Lib.hid (E4.out.store hsz hpz hpz' hGz HXL.out (m := m))
        have K5 := Lib.hid (And.intro E5.out.srch.up (HCH.out _ E5.out))
        clear hb4
        go_wp2_with fail
        refine hK.out _ _ (⟨E4.out.srch.up, HCH.out _ E4.out⟩) (fun hHeld => ?_)
        clear hK K
        try simp only [Act.put, List.setIfInBounds_toArray, List.set_cons_zero, List.set_cons_succ]
        refine' wpAnyH_take (i := 15) (oi := ?oou15) (v := ?vvu15) ?hiu15 (by kernel_rfl) (by kernel_rfl) (by kernel_rfl) ?hqu15 (Or.inl ⟨?hwu15, ?hyu15⟩) hHeld ?restu15
        case hiu15 => simp only [List.getElem?_toArray, List.getElem?_cons_succ, List.getElem?_cons_zero]; rfl
        case hqu15 => exact fun _ _ _ h => h
        case hwu15 => rfl
        case hyu15 => intro w hSw; (try dsimp only at hSw); go_simp; try (with_reducible rfl)
        try simp only [Act.put, List.setIfInBounds_toArray, List.set_cons_zero, List.set_cons_succ]
        refine wpAnyH_ready (rs := [16]) (by kernel_rfl) (by simp) ?_
        refine' AllReadyH.cons (o := ?oou16) ?hiu16 (fun K hK => ?restu16) AllReadyH.nil
        case hiu16 => simp only [List.getElem?_toArray, List.getElem?_cons_succ, List.getElem?_cons_zero]; rfl
        go_simp
        refine hK.out _ _ (K5.out) (fun hHeld => ?_)
        clear hK K
        try simp only [Act.put, List.setIfInBounds_toArray, List.set_cons_zero, List.set_cons_succ]
        refine wpAnyH_done (by kernel_rfl) ?_ _
        have E6 := Lib.hid (E5.out.congr (fun q _ => narT_next hm1 HN2.out q))
        clear s0 s1 s2 s3 t0 t1 t2 t3 hfz E5 K5 E4 E1
        generalize ((((w4.setCell _ _).setCell _ _).setCell _ _).setCell _ _) = wq at E6 ⊢
        simp only [Exit.then]
        have hv := E6.out.next.cells hml
        rw [show narT rows rows' i k O (m + 1) m = X by rw [narT_lt (Nat.lt_succ_self m)]; unfold narO; rw [if_pos (show i < m from hm1), HN2.out]] at hv
        obtain ⟨v0, v1, v2, v3⟩ := hv
        have hce := empty_any X wq HXL.out
        by_cases hx0 : X = 0
        · rw [decide_eq_true hx0] at hce
          have HE := Lib.hid (narOk_no (n := rows.length) hml hm1 (HN2.out.trans hx0))
          clear hx0
          go_wp2_with (go_at_call 70; refine hce.mono ?_; clear hce; rintro e w6 ⟨rfl, hb6⟩; have E7 := Lib.hid (E6.out.step hb6); clear hb6)
          go_ret2
          exact ⟨.inr ⟨HE.out, rfl⟩, E7.out.below⟩
        · rw [decide_eq_false hx0] at hce
          have HX0 := Lib.hid (show narR rows rows' i k m (O m) ≠ 0 by rw [HN2.out]; exact hx0)
          clear hx0
          go_wp2_with (go_at_call 70; refine hce.mono ?_; clear hce; rintro e w6 ⟨rfl, hb6⟩; have E7 := Lib.hid (E6.out.step hb6); clear hb6)
          go_roundw
          case rel =>
            refine ⟨m + 1, by omega, by omega, by go_num, fun q h1 h2 => ?_, E7.out⟩
            by_cases e : q = m
            · subst e; exact HX0.out
            · exact HP.out q h1 (by omega)
          case measure => simp [intOf]; omega
      | false =>
        rw [h1] at HC1
        cases h2 : upB rows m (i : Int) with
        | true =>
          rw [h2] at HC2
          have HN := Lib.hid (show narR rows rows' i k m (O m) = O m &&& gridF (backRows rows') k by unfold narR; rw [if_neg (by rw [h1]; simp), if_pos h2])
          clear h1 h2
          go_wp2_with (first | (go_at_call_of 99 (#[Value.pointer (some ⟨p, 0, none⟩), Value.int .i64 (i : Int), Value.int .i64 (m : Int)]); refine (HC1.out _ HK.out).mono ?_; clear HC1; rintro e w2 ⟨rfl, hb2⟩; have EA := Lib.hid (HK.out.step hb2); have ea := EA.out.srch.from_; clear hb2) | (go_at_call_of 99 (#[Value.pointer (some ⟨p, 0, none⟩), Value.int .i64 (m : Int), Value.int .i64 (i : Int)]); refine (HC2.out _ EA.out).mono ?_; clear HC2; rintro e w3 ⟨rfl, hb3⟩; have E0 := Lib.hid (EA.out.step hb3); clear hb3))
          clear ea
          obtain ⟨U, hU⟩ : ∃ U, gridF (backRows rows') k = U := ⟨_, rfl⟩
          have HUQ := Lib.hid hU
          rw [hU] at HN
          obtain ⟨X, hXd⟩ : ∃ X, O m &&& U = X := ⟨_, rfl⟩
          have HXD := Lib.hid hXd
          clear e0 e1 e2
          have HXL := Lib.hid (show X < 2 ^ 256 by rw [← hXd]; exact Nat.lt_of_le_of_lt Nat.and_le_left HOm.out)
          clear hXd hU
          have HAND := Lib.hid (show ∀ W, Calls Tryd.prog 84 #[rowV (O m), rowV U] W (SaysR X W) from fun W => by rw [← HXD.out]; exact and_any (O m) U W)
          have HN2 := Lib.hid (HN.out.trans HXD.out)
          have HCH := Lib.hid (fun W {F : Nat → Nat} (h : NW w sb p p' G lb rows.length lim vf rows rows' g F W) => (by rw [← HUQ.out]; exact h.grids.low.row k hk200 : W.cell? ⟨G, k * 4, none⟩ = some (.int .u64 ((word U 0 : Nat) : Int)) ∧ W.cell? ⟨G, k * 4 + 1, none⟩ = some (.int .u64 ((word U 1 : Nat) : Int)) ∧ W.cell? ⟨G, k * 4 + 2, none⟩ = some (.int .u64 ((word U 2 : Nat) : Int)) ∧ W.cell? ⟨G, k * 4 + 3, none⟩ = some (.int .u64 ((word U 3 : Nat) : Int))))
          have E1 := Lib.hid (E0.out.step (below_drew w3 _))
          have s := E1.out.next.cells hml
          rw [narT_self] at s
          obtain ⟨s0, s1, s2, s3⟩ := s
          clear HN
          refine wp_region_held_drew (S := (fun W' : World => W'.cell? ⟨sb, 2, none⟩ = some (.pointer (some ⟨G, 0, none⟩)) ∧ W'.cell? ⟨G, k * 4, none⟩ = some (.int .u64 ((word U 0 : Nat) : Int)) ∧ W'.cell? ⟨G, k * 4 + 1, none⟩ = some (.int .u64 ((word U 1 : Nat) : Int)) ∧ W'.cell? ⟨G, k * 4 + 2, none⟩ = some (.int .u64 ((word U 2 : Nat) : Int)) ∧ W'.cell? ⟨G, k * 4 + 3, none⟩ = some (.int .u64 ((word U 3 : Nat) : Int)))) (by kernel_rfl) ⟨E1.out.srch.low, HCH.out _ E1.out⟩ (fun hHeld => ?_)
          refine' wpAnyH_take (i := 0) (oi := ?ool0) (v := ?vvl0) ?hil0 (by kernel_rfl) (by kernel_rfl) (by kernel_rfl) ?hql0 (Or.inl ⟨?hwl0, ?hyl0⟩) hHeld ?restl0
          case hil0 => simp only [List.getElem?_toArray, List.getElem?_cons_zero]; rfl
          case hql0 => exact fun _ _ _ h => h
          case hwl0 => rfl
          case hyl0 => intro w hSw; (try dsimp only at hSw); go_simp; try (with_reducible rfl)
          try simp only [Act.put, List.setIfInBounds_toArray, List.set_cons_zero, List.set_cons_succ]
          refine' wpAnyH_take (i := 1) (oi := ?ool1) (v := ?vvl1) ?hil1 (by kernel_rfl) (by kernel_rfl) (by kernel_rfl) ?hql1 (Or.inl ⟨?hwl1, ?hyl1⟩) hHeld ?restl1
          case hil1 => simp only [List.getElem?_toArray, List.getElem?_cons_succ, List.getElem?_cons_zero]; rfl
          case hql1 => exact fun _ _ _ h => h
          case hwl1 => rfl
          case hyl1 => intro w hSw; (try dsimp only at hSw); go_simp; try (with_reducible rfl)
          try simp only [Act.put, List.setIfInBounds_toArray, List.set_cons_zero, List.set_cons_succ]
          refine' wpAnyH_take (i := 2) (oi := ?ool2) (v := ?vvl2) ?hil2 (by kernel_rfl) (by kernel_rfl) (by kernel_rfl) ?hql2 (Or.inl ⟨?hwl2, ?hyl2⟩) hHeld ?restl2
          case hil2 => simp only [List.getElem?_toArray, List.getElem?_cons_succ, List.getElem?_cons_zero]; rfl
          case hql2 => exact fun _ _ _ h => h
          case hwl2 => rfl
          case hyl2 => intro w hSw; (try dsimp only at hSw); go_simp; try (with_reducible rfl)
          try simp only [Act.put, List.setIfInBounds_toArray, List.set_cons_zero, List.set_cons_succ]
          refine' wpAnyH_take (i := 3) (oi := ?ool3) (v := ?vvl3) ?hil3 (by kernel_rfl) (by kernel_rfl) (by kernel_rfl) ?hql3 (Or.inl ⟨?hwl3, ?hyl3⟩) hHeld ?restl3
          case hil3 => simp only [List.getElem?_toArray, List.getElem?_cons_succ, List.getElem?_cons_zero]; rfl
          case hql3 => exact fun _ _ _ h => h
          case hwl3 => rfl
          case hyl3 => intro w hSw; (try dsimp only at hSw); go_simp; try (with_reducible rfl)
          try simp only [Act.put, List.setIfInBounds_toArray, List.set_cons_zero, List.set_cons_succ]
          refine' wpAnyH_take (i := 4) (oi := ?ool4) (v := ?vvl4) ?hil4 (by kernel_rfl) (by kernel_rfl) (by kernel_rfl) ?hql4 (Or.inl ⟨?hwl4, ?hyl4⟩) hHeld ?restl4
          case hil4 => simp only [List.getElem?_toArray, List.getElem?_cons_succ, List.getElem?_cons_zero]; rfl
          case hql4 => exact fun _ _ _ h => h
          case hwl4 => rfl
          case hyl4 => intro w hSw; (try dsimp only at hSw); go_simp; try (with_reducible rfl)
          try simp only [Act.put, List.setIfInBounds_toArray, List.set_cons_zero, List.set_cons_succ]
          refine' wpAnyH_take (i := 6) (oi := ?ool6) (v := ?vvl6) ?hil6 (by kernel_rfl) (by kernel_rfl) (by kernel_rfl) ?hql6 (Or.inl ⟨?hwl6, ?hyl6⟩) hHeld ?restl6
          case hil6 => simp only [List.getElem?_toArray, List.getElem?_cons_succ, List.getElem?_cons_zero]; rfl
          case hql6 => exact fun _ _ _ h => h
          case hwl6 => rfl
          case hyl6 => intro w hSw; (try dsimp only at hSw); go_simp; try (with_reducible rfl)
          try simp only [Act.put, List.setIfInBounds_toArray, List.set_cons_zero, List.set_cons_succ]
          refine' wpAnyH_take (i := 7) (oi := ?ool7) (v := ?vvl7) ?hil7 (by kernel_rfl) (by kernel_rfl) (by kernel_rfl) ?hql7 (Or.inl ⟨?hwl7, ?hyl7⟩) hHeld ?restl7
          case hil7 => simp only [List.getElem?_toArray, List.getElem?_cons_succ, List.getElem?_cons_zero]; rfl
          case hql7 => exact fun _ _ _ h => h
          case hwl7 => rfl
          case hyl7 => intro w hSw; (try dsimp only at hSw); go_simp; try (with_reducible rfl)
          try simp only [Act.put, List.setIfInBounds_toArray, List.set_cons_zero, List.set_cons_succ]
          refine' wpAnyH_take (i := 8) (oi := ?ool8) (v := ?vvl8) ?hil8 (by kernel_rfl) (by kernel_rfl) (by kernel_rfl) ?hql8 (Or.inl ⟨?hwl8, ?hyl8⟩) hHeld ?restl8
          case hil8 => simp only [List.getElem?_toArray, List.getElem?_cons_succ, List.getElem?_cons_zero]; rfl
          case hql8 => exact fun _ _ _ h => h
          case hwl8 => rfl
          case hyl8 => intro w hSw; (try dsimp only at hSw); go_simp; try (with_reducible rfl)
          try simp only [Act.put, List.setIfInBounds_toArray, List.set_cons_zero, List.set_cons_succ]
          refine' wpAnyH_take (i := 9) (oi := ?ool9) (v := ?vvl9) ?hil9 (by kernel_rfl) (by kernel_rfl) (by kernel_rfl) ?hql9 (Or.inl ⟨?hwl9, ?hyl9⟩) hHeld ?restl9
          case hil9 => simp only [List.getElem?_toArray, List.getElem?_cons_succ, List.getElem?_cons_zero]; rfl
          case hql9 => exact fun _ _ _ h => h
          case hwl9 => rfl
          case hyl9 => intro w hSw; (try dsimp only at hSw); go_simp; try (with_reducible rfl)
          try simp only [Act.put, List.setIfInBounds_toArray, List.set_cons_zero, List.set_cons_succ]
          refine' wpAnyH_take (i := 10) (oi := ?ool10) (v := ?vvl10) ?hil10 (by kernel_rfl) (by kernel_rfl) (by kernel_rfl) ?hql10 (Or.inl ⟨?hwl10, ?hyl10⟩) hHeld ?restl10
          case hil10 => simp only [List.getElem?_toArray, List.getElem?_cons_succ, List.getElem?_cons_zero]; rfl
          case hql10 => exact fun _ _ _ h => h
          case hwl10 => rfl
          case hyl10 => intro w hSw; (try dsimp only at hSw); go_simp; try (with_reducible rfl)
          try simp only [Act.put, List.setIfInBounds_toArray, List.set_cons_zero, List.set_cons_succ]
          refine' wpAnyH_take (i := 11) (oi := ?ool11) (v := ?vvl11) ?hil11 (by kernel_rfl) (by kernel_rfl) (by kernel_rfl) ?hql11 (Or.inl ⟨?hwl11, ?hyl11⟩) hHeld ?restl11
          case hil11 => simp only [List.getElem?_toArray, List.getElem?_cons_succ, List.getElem?_cons_zero]; rfl
          case hql11 => exact fun _ _ _ h => h
          case hwl11 => rfl
          case hyl11 => intro w hSw; (try dsimp only at hSw); go_simp; try (with_reducible rfl)
          try simp only [Act.put, List.setIfInBounds_toArray, List.set_cons_zero, List.set_cons_succ]
          refine' wpAnyH_take (i := 12) (oi := ?ool12) (v := ?vvl12) ?hil12 (by kernel_rfl) (by kernel_rfl) (by kernel_rfl) ?hql12 (Or.inl ⟨?hwl12, ?hyl12⟩) hHeld ?restl12
          case hil12 => simp only [List.getElem?_toArray, List.getElem?_cons_succ, List.getElem?_cons_zero]; rfl
          case hql12 => exact fun _ _ _ h => h
          case hwl12 => rfl
          case hyl12 => intro w hSw; (try dsimp only at hSw); go_simp; try (with_reducible rfl)
          try simp only [Act.put, List.setIfInBounds_toArray, List.set_cons_zero, List.set_cons_succ]
          refine' wpAnyH_take (i := 13) (oi := ?ool13) (v := ?vvl13) ?hil13 (by kernel_rfl) (by kernel_rfl) (by kernel_rfl) ?hql13 (Or.inl ⟨?hwl13, ?hyl13⟩) hHeld ?restl13
          case hil13 => simp only [List.getElem?_toArray, List.getElem?_cons_succ, List.getElem?_cons_zero]; rfl
          case hql13 => exact fun _ _ _ h => h
          case hwl13 => rfl
          case hyl13 => intro w hSw; (try dsimp only at hSw); go_simp; try (with_reducible rfl)
          try simp only [Act.put, List.setIfInBounds_toArray, List.set_cons_zero, List.set_cons_succ]
          refine wpAnyH_ready (rs := [5]) (by kernel_rfl) (by simp) ?_
          refine' AllReadyH.cons (o := ?ool5) ?hil5 (fun K hK => ?restl5) AllReadyH.nil
          case hil5 => simp only [List.getElem?_toArray, List.getElem?_cons_succ, List.getElem?_cons_zero]; rfl
          go_simp
          refine hK.out _ _ (by assumption) (fun hHeld => ?_)
          clear hK K
          try simp only [Act.put, List.setIfInBounds_toArray, List.set_cons_zero, List.set_cons_succ]
          refine wpAnyH_ready (rs := [14]) (by kernel_rfl) (by simp) ?_
          refine' AllReadyH.cons (o := ?ool14) ?hil14 (fun K hK => ?restl14) AllReadyH.nil
          case hil14 => simp only [List.getElem?_toArray, List.getElem?_cons_succ, List.getElem?_cons_zero]; rfl
          go_simp
          go_at_call 84
          refine (HAND.out _).mono ?_
          rintro e w4 ⟨rfl, hb4⟩
          have E4 := Lib.hid (E1.out.step hb4)
          have hfz := E4.out.next.frozen
          obtain ⟨t0, t1, t2, t3⟩ := E4.out.next.cells hml
          rw [narT_self] at t0 t1 t2 t3
          have E5 := Lib.hid (E4.out.store hsz hpz hpz' hGz HXL.out (m := m))
          have K5 := Lib.hid (And.intro E5.out.srch.low (HCH.out _ E5.out))
          clear hb4
          go_wp2_with fail
          refine hK.out _ _ (⟨E4.out.srch.low, HCH.out _ E4.out⟩) (fun hHeld => ?_)
          clear hK K
          try simp only [Act.put, List.setIfInBounds_toArray, List.set_cons_zero, List.set_cons_succ]
          refine' wpAnyH_take (i := 15) (oi := ?ool15) (v := ?vvl15) ?hil15 (by kernel_rfl) (by kernel_rfl) (by kernel_rfl) ?hql15 (Or.inl ⟨?hwl15, ?hyl15⟩) hHeld ?restl15
          case hil15 => simp only [List.getElem?_toArray, List.getElem?_cons_succ, List.getElem?_cons_zero]; rfl
          case hql15 => exact fun _ _ _ h => h
          case hwl15 => rfl
          case hyl15 => intro w hSw; (try dsimp only at hSw); go_simp; try (with_reducible rfl)
          try simp only [Act.put, List.setIfInBounds_toArray, List.set_cons_zero, List.set_cons_succ]
          refine wpAnyH_ready (rs := [16]) (by kernel_rfl) (by simp) ?_
          refine' AllReadyH.cons (o := ?ool16) ?hil16 (fun K hK => ?restl16) AllReadyH.nil
          case hil16 => simp only [List.getElem?_toArray, List.getElem?_cons_succ, List.getElem?_cons_zero]; rfl
          go_simp
          refine hK.out _ _ (K5.out) (fun hHeld => ?_)
          clear hK K
          try simp only [Act.put, List.setIfInBounds_toArray, List.set_cons_zero, List.set_cons_succ]
          refine wpAnyH_done (by kernel_rfl) ?_ _
          have E6 := Lib.hid (E5.out.congr (fun q _ => narT_next hm1 HN2.out q))
          clear s0 s1 s2 s3 t0 t1 t2 t3 hfz E5 K5 E4 E1
          generalize ((((w4.setCell _ _).setCell _ _).setCell _ _).setCell _ _) = wq at E6 ⊢
          simp only [Exit.then]
          have hv := E6.out.next.cells hml
          rw [show narT rows rows' i k O (m + 1) m = X by rw [narT_lt (Nat.lt_succ_self m)]; unfold narO; rw [if_pos (show i < m from hm1), HN2.out]] at hv
          obtain ⟨v0, v1, v2, v3⟩ := hv
          have hce := empty_any X wq HXL.out
          by_cases hx0 : X = 0
          · rw [decide_eq_true hx0] at hce
            have HE := Lib.hid (narOk_no (n := rows.length) hml hm1 (HN2.out.trans hx0))
            clear hx0
            go_wp2_with (go_at_call 70; refine hce.mono ?_; clear hce; rintro e w6 ⟨rfl, hb6⟩; have E7 := Lib.hid (E6.out.step hb6); clear hb6)
            go_ret2
            exact ⟨.inr ⟨HE.out, rfl⟩, E7.out.below⟩
          · rw [decide_eq_false hx0] at hce
            have HX0 := Lib.hid (show narR rows rows' i k m (O m) ≠ 0 by rw [HN2.out]; exact hx0)
            clear hx0
            go_wp2_with (go_at_call 70; refine hce.mono ?_; clear hce; rintro e w6 ⟨rfl, hb6⟩; have E7 := Lib.hid (E6.out.step hb6); clear hb6)
            go_roundw
            case rel =>
              refine ⟨m + 1, by omega, by omega, by go_num, fun q h1 h2 => ?_, E7.out⟩
              by_cases e : q = m
              · subst e; exact HX0.out
              · exact HP.out q h1 (by omega)
            case measure => simp [intOf]; omega
        | false =>
          rw [h2] at HC2
          have HN := Lib.hid (show narR rows rows' i k m (O m) = O m by unfold narR; rw [if_neg (by rw [h1]; simp), if_neg (by rw [h2]; simp)])
          clear h1 h2
          obtain ⟨X, hXd⟩ : ∃ X, O m = X := ⟨_, rfl⟩
          have HXL := Lib.hid (show X < 2 ^ 256 by rw [← hXd]; exact HOm.out)
          have HN2 := Lib.hid (show narR rows rows' i k m (O m) = X by rw [HN.out, hXd])
          clear hXd e1 e2
          have HVX := Lib.hid (show narT rows rows' i k O (m + 1) m = X by rw [narT_lt (Nat.lt_succ_self m)]; unfold narO; rw [if_pos (show i < m from hm1), HN2.out])
          have hce := fun W => empty_any X W HXL.out
          by_cases hx0 : X = 0
          · rw [decide_eq_true hx0] at hce
            have HCE := Lib.hid hce
            have HE := Lib.hid (narOk_no (n := rows.length) hml hm1 (HN2.out.trans hx0))
            clear hx0 hce
            go_wp2_with (first | (go_at_call_of 99 (#[Value.pointer (some ⟨p, 0, none⟩), Value.int .i64 (i : Int), Value.int .i64 (m : Int)]); refine (HC1.out _ HK.out).mono ?_; clear HC1; rintro e w2 ⟨rfl, hb2⟩; have EA := Lib.hid (HK.out.step hb2); have ea := EA.out.srch.from_; clear hb2) | (go_at_call_of 99 (#[Value.pointer (some ⟨p, 0, none⟩), Value.int .i64 (m : Int), Value.int .i64 (i : Int)]); refine (HC2.out _ EA.out).mono ?_; clear HC2; rintro e wq ⟨rfl, hb3⟩; have E6 := Lib.hid ((EA.out.step hb3).congr (fun q _ => narT_same hm1 HN.out q)); have hv := E6.out.next.cells hml; rw [HVX.out] at hv; obtain ⟨v0, v1, v2, v3⟩ := hv; clear hb3) | (go_at_call 70; refine (HCE.out _).mono ?_; rintro e w6 ⟨rfl, hb6⟩; have E7 := Lib.hid (E6.out.step hb6); clear hb6))
            go_ret2
            exact ⟨.inr ⟨HE.out, rfl⟩, E7.out.below⟩
          · rw [decide_eq_false hx0] at hce
            have HCE := Lib.hid hce
            have HX0 := Lib.hid (show narR rows rows' i k m (O m) ≠ 0 by rw [HN2.out]; exact hx0)
            clear hx0 hce
            go_wp2_with (first | (go_at_call_of 99 (#[Value.pointer (some ⟨p, 0, none⟩), Value.int .i64 (i : Int), Value.int .i64 (m : Int)]); refine (HC1.out _ HK.out).mono ?_; clear HC1; rintro e w2 ⟨rfl, hb2⟩; have EA := Lib.hid (HK.out.step hb2); have ea := EA.out.srch.from_; clear hb2) | (go_at_call_of 99 (#[Value.pointer (some ⟨p, 0, none⟩), Value.int .i64 (m : Int), Value.int .i64 (i : Int)]); refine (HC2.out _ EA.out).mono ?_; clear HC2; rintro e wq ⟨rfl, hb3⟩; have E6 := Lib.hid ((EA.out.step hb3).congr (fun q _ => narT_same hm1 HN.out q)); have hv := E6.out.next.cells hml; rw [HVX.out] at hv; obtain ⟨v0, v1, v2, v3⟩ := hv; clear hb3) | (go_at_call 70; refine (HCE.out _).mono ?_; rintro e w6 ⟨rfl, hb6⟩; have E7 := Lib.hid (E6.out.step hb6); clear hb6))
            go_roundw
            case rel =>
              refine ⟨m + 1, by omega, by omega, by go_num, fun q h1 h2 => ?_, E7.out⟩
              by_cases e : q = m
              · subst e; exact HX0.out
              · exact HP.out q h1 (by omega)
            case measure => simp [intOf]; omega
    · obtain rfl : m = rows.length := by omega
      have HE := Lib.hid (narOk_yes (n := rows.length) HP.out)
      go_wp2
      go_ret2
      refine ⟨.inl ⟨HE.out, g, C', rfl, HK.out.hg, HK.out.next.congr fun j hj => narT_lt hj⟩, HK.out.below⟩
end Go.Proofs.YtkhhbpeheikmfaaDoor

/- What the choices of the program's search for monotone functions mean: just those numbers are left to an element that fit with all that is chosen. Plain facts: no function is walked here. -/
namespace Go.Proofs.YtkhhbpeheikmfaaDoor
open Go.RowKit Go.Deep

/-- The choices behind a list are those that fit with it. -/
def Cho (rows rows' : Rows2) (l : List Nat) (O : Nat → Nat) : Prop :=
  ∀ m, l.length ≤ m → m < rows.length → ∀ c, (O m).testBit c = true ↔ c < rows'.length ∧ ∀ q, q < l.length → (upB rows q (m : Int) = true → upB rows' (l.getD q 0) (c : Int) = true) ∧ (upB rows m (q : Int) = true → upB rows' c ((l.getD q 0 : Nat) : Int) = true)
theorem Cho.fine {rows rows' : Rows2} {l : List Nat} {O : Nat → Nat} (h : Cho rows rows' l O) (hl : l.length < rows.length) {c : Nat} :
    (O l.length).testBit c = true ↔ c < rows'.length ∧ fineN (Bf rows) (Bf rows') l c = true := by
  rw [h _ (Nat.le_refl _) hl c, fineN_iff]
theorem Cho.next {rows rows' : Rows2} {l : List Nat} {O : Nat → Nat} (hok : Ok rows) (hok' : Ok rows') (h : Cho rows rows' l O) (hl : l.length < rows.length) {k : Nat} (hk : k < rows'.length) :
    Cho rows rows' (l ++ [k]) (narO rows rows' l.length k O) := by
  intro m hm hmn c
  rw [List.length_append, List.length_singleton] at hm
  have hlm : l.length < m := by omega
  have ho := h m (by omega) hmn c
  have hup : (gridF rows' k).testBit c = upB rows' k (c : Int) := upB_grid hok' hk
  have hlo : c < rows'.length → (gridF (backRows rows') k).testBit c = upB rows' c (k : Int) := fun hc => by rw [back_bit hok' k c]; exact upB_grid hok' hc
  have hsplit : (∀ q, q < (l ++ [k]).length → (upB rows q (m : Int) = true → upB rows' ((l ++ [k]).getD q 0) (c : Int) = true) ∧ (upB rows m (q : Int) = true → upB rows' c (((l ++ [k]).getD q 0 : Nat) : Int) = true)) ↔
      (∀ q, q < l.length → (upB rows q (m : Int) = true → upB rows' (l.getD q 0) (c : Int) = true) ∧ (upB rows m (q : Int) = true → upB rows' c ((l.getD q 0 : Nat) : Int) = true)) ∧
      (upB rows l.length (m : Int) = true → upB rows' k (c : Int) = true) ∧ (upB rows m (l.length : Int) = true → upB rows' c (k : Int) = true) := by
    constructor
    · intro H
      refine ⟨fun q hq => ?_, ?_⟩
      · have := H q (by rw [List.length_append]; omega)
        rw [getD_app hq] at this
        exact this
      · have := H l.length (by rw [List.length_append, List.length_singleton]; omega)
        rw [getD_end l k []] at this
        exact this
    · rintro ⟨H1, H2⟩ q hq
      rw [List.length_append, List.length_singleton] at hq
      by_cases e : q = l.length
      · subst e
        rw [getD_end l k []]
        exact H2
      · rw [getD_app (show q < l.length by omega)]
        exact H1 q (by omega)
  rw [hsplit]
  unfold narO
  rw [if_pos hlm]
  unfold narR
  by_cases h1 : upB rows l.length (m : Int) = true
  · rw [if_pos h1, Nat.testBit_and, Bool.and_eq_true, ho, hup]
    have hno : ¬ upB rows m (l.length : Int) = true := fun h2 => by
      have := up_anti hok hl hmn h1 h2
      omega
    constructor
    · rintro ⟨⟨a1, a2⟩, a3⟩
      exact ⟨a1, a2, fun _ => a3, fun h2 => absurd h2 hno⟩
    · rintro ⟨a1, a2, a3, _⟩
      exact ⟨⟨a1, a2⟩, a3 h1⟩
  · rw [if_neg h1]
    by_cases h2 : upB rows m (l.length : Int) = true
    · rw [if_pos h2, Nat.testBit_and, Bool.and_eq_true, ho]
      constructor
      · rintro ⟨⟨a1, a2⟩, a3⟩
        rw [hlo a1] at a3
        exact ⟨a1, a2, fun h => absurd h h1, fun _ => a3⟩
      · rintro ⟨a1, a2, _, a3⟩
        exact ⟨⟨a1, a2⟩, by rw [hlo a1]; exact a3 h2⟩
    · rw [if_neg h2, ho]
      constructor
      · rintro ⟨a1, a2⟩
        exact ⟨a1, a2, fun h => absurd h h1, fun h => absurd h h2⟩
      · rintro ⟨a1, a2, _, _⟩
        exact ⟨a1, a2⟩
/-- Where some later element has no choice, no monotone function goes on. -/
theorem Cho.none {rows rows' : Rows2} {l : List Nat} {O : Nat → Nat} (hok : Ok rows) (hok' : Ok rows') (h : Cho rows rows' l O) {f k : Nat} (hl : l.length + f + 1 = rows.length) (hk : k < rows'.length) (hn : narOk rows rows' l.length k O rows.length = false) :
    extL rows'.length (monN (Bf rows) (Bf rows')) f (l ++ [k]) = [] := by
  have hc := h.next hok hok' (by omega) hk
  unfold narOk at hn
  rw [List.all_eq_false] at hn
  obtain ⟨m, hm, hz⟩ := hn
  rw [List.mem_range] at hm
  simp only [Bool.not_eq_true, Bool.or_eq_false_iff, Bool.not_eq_false', decide_eq_true_eq] at hz
  obtain ⟨him, hz0⟩ := hz
  refine extL_none fun t ht hy => ?_
  cases e : monN (Bf rows) (Bf rows') (l ++ [k] ++ t) with
  | false => rfl
  | true =>
    have hM := monN_iff.1 e
    have hlen : (l ++ [k] ++ t).length = rows.length := by simp; omega
    have hmm : m - (l ++ [k]).length < t.length := by simp; omega
    have hcm : (l ++ [k] ++ t).getD m 0 < rows'.length := by
      rw [List.getD_eq_getElem?_getD, List.getElem?_append_right (by simp; omega), List.getElem?_eq_getElem hmm]
      exact hy _ (List.getElem_mem hmm)
    have hb := (hc m (by simp; omega) hm ((l ++ [k] ++ t).getD m 0)).2 ⟨hcm, fun q hq => by
      have hq2 : q < (l ++ [k] ++ t).length := by rw [List.length_append]; omega
      have e1 := hM q m hq2 (by rw [hlen]; exact hm)
      have e2 := hM m q (by rw [hlen]; exact hm) hq2
      rw [getD_app hq] at e1 e2
      exact ⟨e1, e2⟩⟩
    rw [hz0, Nat.zero_testBit] at hb
    cases hb
/-- At the beginning every element is a choice. -/
theorem Cho.start {rows rows' : Rows2} {O : Nat → Nat} (h : ∀ m, m < rows.length → ∀ c, (O m).testBit c = decide (c < rows'.length)) : Cho rows rows' [] O := fun m _ hm c => by
  rw [h m hm c, decide_eq_true_iff]
  exact ⟨fun h => ⟨h, fun q hq => absurd hq (Nat.not_lt_zero _)⟩, fun h => h.1⟩
end Go.Proofs.YtkhhbpeheikmfaaDoor

/- A copy of a list of numbers (slices.Clone at []int). -/
namespace Go.Proofs.YtkhhbpeheikmfaaDoor
open Go.RowKit Go.Deep Go.Shelf

set_option maxRecDepth 100000 in
set_option maxHeartbeats 4000000 in
theorem cloneInts_any (b C : Nat) (xs : List Int) (w : World) (hx : ∀ q (h : q < xs.length), w.cell? ⟨b, q, none⟩ = some (.int .i64 xs[q])) (hn : 0 < xs.length) (hn2 : xs.length ≤ 200) (hwf : ∀ x ∈ xs, (Lit.int .i64 x).wf = true) :
    Calls Tryd.prog 89 #[.slice (some ⟨b, 0, none⟩) xs.length C] w fun e w' => ∃ v, e = .returned v ∧ OwnI 3 w' v xs w.heap.size w'.heap.size ∧ Below w.heap.size w w' := by
  have hbA := (Below.refl w.heap.size w).alloc (Nat.le_refl _) (.cells #[] 3)
  have HNEWS := Lib.hid (show ∀ j u, (cellsI xs)[j]? = some u → (w.alloc (.cells #[] 3)).cell? ((⟨b, 0, none⟩ : Addr).add j) = some u from fun j u hj => by
    unfold cellsI at hj
    rw [List.getElem?_map] at hj
    by_cases h : j < xs.length
    · rw [List.getElem?_eq_getElem h] at hj
      cases hj
      rw [Addr.add_lit, Nat.zero_add]
      exact (hbA.cell (p := ⟨b, j, none⟩) (cell_lt (hx j h))).trans (hx j h)
    · rw [List.getElem?_eq_none (by omega)] at hj
      cases hj)
  have HMADE := Lib.hid (World.ownsRow_made (e := 3) (size := 1) w #[] 0 (base := w.heap.size) (Nat.le_refl _) (Nat.zero_le _) (by simp))
  have HBA := Lib.hid hbA
  obtain ⟨i0, hi0, hz0, hz1, hz2⟩ := info_parts infoInt
  have hq := fun w => Lib.run_eql_slice_nil (P := Tryd.prog) w 37 3 (some ⟨b, 0, none⟩) xs.length C 0 0 Tryd.underlying37
  have HWF := Lib.hid hwf
  clear hx hbA hwf
  go_enter Tryd.func89, Tryd.ntmps89
  go_wp2_with (at_builtin; refine wpList_append_own _ rfl _ _ 37 rfl w.heap.size 3 i0 (.int .i64 0) 1 8 Tryd.underlying37 hi0 hz0 hz1 hz2 rfl (by decide) _ _ _ rfl HMADE.out ⟨b, 0, none⟩ xs.length C (cellsI xs) rfl (by simp) HNEWS.out (fun u hu => by obtain ⟨x, _, rfl⟩ := List.mem_map.1 hu; rfl) (by unfold maxLen; omega) (by omega) (by simp) ?_; intro v1 w3 hown1 hgrow1 _; rw [List.nil_append, Nat.zero_add] at hown1; have HB3 : Hid (Below w.heap.size w w3) := Lib.hid (HBA.out.grown hgrow1 HBA.out.size (fun b e => (HMADE.out.lt b e).1)); have HO3 := Lib.hid (OwnI.of_owns hown1 HWF.out (fun b hb => (hown1.lt b hb).2)); clear hown1 hgrow1)
  go_ret
  exact ⟨v1, rfl, HO3.out, HB3.out⟩
end Go.Proofs.YtkhhbpeheikmfaaDoor

/- The program's lift of a domain, unbuilt: how many elements it has, and what is below what. -/
namespace Go.Proofs.YtkhhbpeheikmfaaDoor
open Go.RowKit Go.Deep Go.Shelf

theorem one_new (W : World) (a : Value) (t : TypeId) : (W.alloc (.cells #[a] t)).cell? ⟨W.heap.size, 0, none⟩ = some a := by
  rw [cell_of_row _ W.heap.size 0 _ _ _ (heap_alloc_new _ _)]; rfl

/-- Is a below b in the lift? -/
def liftB (g : Nat → Nat) (a b : Nat) : Bool := decide (a = 0) || (decide (0 < b) && (g (a - 1)).testBit (b - 1))

end Go.Proofs.YtkhhbpeheikmfaaDoor

/- The search's end: a list that is whole is kept (funSearch.place). -/
namespace Go.Proofs.YtkhhbpeheikmfaaDoor
open Go.RowKit Go.Deep Go.Shelf

/-- What a search may change: its own variable, its list, and the row of what it has found. -/
structure Spared (sb lb : Nat) (vf : Value) (w w' : World) : Prop where
  os : w'.os = w.os
  tape : w'.tape = w.tape
  output : w'.output = w.output
  size : w.heap.size ≤ w'.heap.size
  block : ∀ b, b < w.heap.size → b ≠ sb → b ≠ lb → vf.ownBlock ≠ some b → w'.heap[b]? = w.heap[b]?
/-- The world of a search: its variable, the grids, the numbers chosen, the lists found. -/
structure PW (sb p p' G lb lo lim : Nat) (rows rows' : Rows2) (l : List Nat) (R : List (List Nat)) (vf : Value) (W : World) : Prop where
  srch : Srch sb p p' G lb rows.length (lim : Int) vf W
  open_ : W.frozen? ⟨sb, 5, none⟩ = false
  grids : Grids p p' G rows rows' W
  list : ∃ C f, W.rowIs lb 3 C f ∧ rows.length ≤ C ∧ ∀ q, q < l.length → f q = .int .i64 ((l.getD q 0 : Nat) : Int)
  found : OwnR 3 37 W vf R.length (rowsF (I2 R)) lo W.heap.size
theorem PW.step {sb p p' G lb lo lim : Nat} {rows rows' : Rows2} {l : List Nat} {R : List (List Nat)} {vf : Value} {W W' : World} (h : PW sb p p' G lb lo lim rows rows' l R vf W) (hb : Below W.heap.size W W') : PW sb p p' G lb lo lim rows rows' l R vf W' := by
  have hs := cell_lt h.srch.from_
  obtain ⟨C, f, h1, h2, h3⟩ := h.list
  have hl : lb < W.heap.size := by
    obtain ⟨c, hc, _⟩ := h1
    exact (Array.getElem?_eq_some_iff.1 hc).1
  refine ⟨h.srch.block (hb.block _ hs), ?_, h.grids.step hb, ⟨C, f, ?_, h2, h3⟩, ?_⟩
  · exact (hb.frozen (p := ⟨sb, 5, none⟩) hs).trans h.open_
  · obtain ⟨c, hc, hr⟩ := h1
    exact ⟨c, (hb.block _ hl).trans hc, hr⟩
  · exact (h.found.kept fun b _ hbl => hb.block b hbl).wider (Nat.le_refl _) hb.size

theorem GridAt.block {W W' : World} {b : Nat} {g : Nat → Nat} (h : GridAt W b g) (e : W'.heap[b]? = W.heap[b]?) : GridAt W' b g := ⟨e.trans h.1, h.2⟩
theorem PW.put {sb p p' G lb lo lim : Nat} {rows rows' : Rows2} {l : List Nat} {R R' : List (List Nat)} {vf v' : Value} {W W' : World} (h : PW sb p p' G lb lo lim rows rows' l R vf W) (hb : ∀ b, b < lo → W'.heap[b]? = W.heap[b]?)
    (hs : sb < lo) (hl : lb < lo ∧ lb ≠ sb) (h1 : p < lo ∧ p ≠ sb) (h2 : p' < lo ∧ p' ≠ sb) (h3 : G < lo ∧ G ≠ sb) (hf : OwnR 3 37 W' v' R'.length (rowsF (I2 R')) lo W'.heap.size) :
    PW sb p p' G lb lo lim rows rows' l R' v' (W'.setCell ⟨sb, 5, none⟩ v') := by
  have hs5 := h.srch.block (hb sb hs)
  have hk : ∀ b, b ≠ sb → b < lo → (W'.setCell ⟨sb, 5, none⟩ v').heap[b]? = W.heap[b]? := fun b hne hlt => (Below.heap_setCell W' ⟨sb, 5, none⟩ v' b hne).trans (hb b hlt)
  have ho : ∀ o, o ≠ 5 → (W'.setCell ⟨sb, 5, none⟩ v').cell? ⟨sb, o, none⟩ = W'.cell? ⟨sb, o, none⟩ := fun o ho => World.cell?_setCell_other _ _ _ _ (fun e => ho (by injection e with _ e; exact e.symm))
  obtain ⟨C, f, ⟨c, hc, hr⟩, l2, l3⟩ := h.list
  refine ⟨⟨(ho 0 (by decide)).trans hs5.from_, (ho 1 (by decide)).trans hs5.up, (ho 2 (by decide)).trans hs5.low, (ho 3 (by decide)).trans hs5.limit, (ho 4 (by decide)).trans hs5.list, World.cell?_setCell_same _ _ _ hs5.found⟩, ?_, ⟨h.grids.from_.block (hk p h1.2 h1.1), h.grids.up.block (hk p' h2.2 h2.1), h.grids.low.block (hk G h3.2 h3.1)⟩, ⟨C, f, ⟨c, (hk lb hl.2 hl.1).trans hc, hr⟩, l2, l3⟩, ?_⟩
  · rw [World.frozen?_setCell]
    exact (World.frozen?_of_block (hb sb hs)).trans h.open_
  · rw [size_setCell]
    exact hf.kept fun b h4 _ => Below.heap_setCell _ _ _ b (show b ≠ sb by omega)
theorem Spared.of {sb lb : Nat} {vf v : Value} {w W W' : World} {o : Nat} (hb : Below w.heap.size w W) (hg : W.grownBy W' vf.ownBlock) : Spared sb lb vf w (W'.setCell ⟨sb, o, none⟩ v) :=
  have hs := Below.setCell (Below.refl 0 W') (p := ⟨sb, o, none⟩) (Nat.zero_le _) v
  ⟨hs.os.trans (hg.os.trans hb.os), hs.tape.trans (hg.tape.trans hb.tape), hs.output.trans (hg.output.trans hb.output), Nat.le_trans hb.size (Nat.le_trans hg.size hs.size), fun b h1 h2 _ h4 =>
    (Below.heap_setCell W' ⟨sb, o, none⟩ v b h2).trans ((hg.block b (Nat.lt_of_lt_of_le h1 hb.size) (fun e => h4 e.symm)).trans (hb.block b h1))⟩
theorem PW.clone {sb p p' G lb lo lim : Nat} {rows rows' : Rows2} {l : List Nat} {R : List (List Nat)} {vf : Value} {W : World} (h : PW sb p p' G lb lo lim rows rows' l R vf W) (hl : l.length = rows.length) (hn : 0 < rows.length ∧ rows.length ≤ 200 ∧ ∀ x ∈ l, x < 200) :
    Calls Tryd.prog 89 #[.slice (some ⟨lb, 0, none⟩) rows.length rows.length] W (fun e w' => ∃ u, e = .returned u ∧ OwnI 3 w' u (intsOf l) W.heap.size w'.heap.size ∧ Below W.heap.size W w') := by
  obtain ⟨C, f, h1, h2, h3⟩ := h.list
  have := cloneInts_any lb rows.length (intsOf l) W (fun q hq => by
    have hq' : q < l.length := by rw [intsOf_len] at hq; exact hq
    rw [h1.cell (by omega), h3 q hq', intsOf_at hq]) (by rw [intsOf_len]; omega) (by rw [intsOf_len]; omega) (intsOf_wf fun k hk => by have := hn.2.2 k hk; omega)
  rw [intsOf_len, hl] at this
  exact this

set_option maxRecDepth 100000 in
set_option maxHeartbeats 4000000 in
theorem place_end (sb p p' G lb lo lim ob oC : Nat) (rows rows' : Rows2) (l : List Nat) (R : List (List Nat)) (vf : Value) (w : World) (hw : PW sb p p' G lb lo lim rows rows' l R vf w) (hl : l.length = rows.length) (hn : 0 < rows.length ∧ rows.length ≤ 200 ∧ ∀ x ∈ l, x < 200) (hR : R.length ≤ 5001) (hlo : lo ≤ w.heap.size)
    (hs : sb < lo) (hlb : lb < lo ∧ lb ≠ sb) (hp1 : p < lo ∧ p ≠ sb) (hp2 : p' < lo ∧ p' ≠ sb) (hp3 : G < lo ∧ G ≠ sb) :
    Calls Tryd.prog 73 #[.pointer (some ⟨sb, 0, none⟩), .int .i64 (l.length : Int), .slice (some ⟨ob, 0, none⟩) rows.length oC] w fun e w' => e = .returned (.tuple #[]) ∧ ∃ vf', PW sb p p' G lb lo lim rows rows' l (R ++ [l]) vf' w' ∧ Spared sb lb vf w w' ∧ (vf'.ownBlock = vf.ownBlock ∨ ∀ b, vf'.ownBlock = some b → w.heap.size ≤ b) := by
  obtain ⟨ao, CO, rfl⟩ := hw.found.form
  have HVB := Lib.hid (fun b (e : (Value.slice ao R.length CO).ownBlock = some b) => hw.found.rowType b e)
  obtain ⟨j0, hj0, hy0, hy1, hy2⟩ := info_parts infoInts
  have hb0 := (((Below.refl w.heap.size w).alloc (Nat.le_refl _) (.cells #[.pointer (some ⟨sb, 0, none⟩)] 119)).alloc (by simp) (.cells #[.int .i64 (rows.length : Int)] 3)).alloc (by simp; omega) (.cells #[.slice (some ⟨ob, 0, none⟩) rows.length oC] 105)
  have hc0 := cell_alloc_any (cell_alloc_any (one_new w (.pointer (some ⟨sb, 0, none⟩)) 119) (.cells #[.int .i64 (rows.length : Int)] 3)) (.cells #[.slice (some ⟨ob, 0, none⟩) rows.length oC] 105)
  have hc1 := cell_alloc_any (one_new (w.alloc (.cells #[.pointer (some ⟨sb, 0, none⟩)] 119)) (.int .i64 (rows.length : Int)) 3) (.cells #[.slice (some ⟨ob, 0, none⟩) rows.length oC] 105)
  rw [World.size_alloc] at hc1
  have H := Lib.hid (hw.step hb0)
  obtain ⟨W2, hW2⟩ : ∃ W2, W2 = ((w.alloc (.cells #[.pointer (some ⟨sb, 0, none⟩)] 119)).alloc (.cells #[.int .i64 (rows.length : Int)] 3)).alloc (.cells #[.slice (some ⟨ob, 0, none⟩) rows.length oC] 105) := ⟨_, rfl⟩
  rw [← hW2] at H hc0 hc1 hb0
  have HLZ := Lib.hid hl
  have HN := Lib.hid hn
  have HB0 := Lib.hid hb0
  have heq : ((rows.length : Int) == (rows.length : Int)) = true := beq_self_eq_true _
  rw [hl]
  clear hl hn hw hb0
  go_enter Tryd.func73, Tryd.ntmps73
  go_upto_region 1 with fail
  rw [← hW2]
  clear hW2
  have hd := fun (W : World) => below_drew W W.heap.size
  have H1 := Lib.hid (H.out.step (hd W2))
  have hk0 := ((hd W2).cell (p := ⟨w.heap.size, 0, none⟩) (cell_lt hc0)).trans hc0
  have hk1 := ((hd W2).cell (p := ⟨w.heap.size + 1, 0, none⟩) (cell_lt hc1)).trans hc1
  first | (go_region_held3 (fun W' : World => W'.cell? ⟨w.heap.size, 0, none⟩ = some (.pointer (some ⟨sb, 0, none⟩)) ∧ W'.cell? ⟨w.heap.size + 1, 0, none⟩ = some (.int .i64 (rows.length : Int)) ∧ W'.cell? ⟨sb, 4, none⟩ = some (.slice (some ⟨lb, 0, none⟩) rows.length rows.length)) (exact ⟨hk0, hk1, H1.out.srch.list⟩) (fail)) | fail
  obtain ⟨W3, hW3⟩ : ∃ W3, W3 = W2.drew := ⟨_, rfl⟩
  have HB3 := Lib.hid (show Below w.heap.size w W3 from by rw [hW3]; exact HB0.out.trans ((hd W2).mono HB0.out.size))
  rw [← hW3] at H1 hk0 hk1 ⊢
  clear hW3
  go_wp2
  have E3 := Lib.hid (H1.out.step (hd W3))
  have hk2 := ((hd W3).cell (p := ⟨w.heap.size, 0, none⟩) (cell_lt hk0)).trans hk0
  have SKEEP : Hid (∀ W, Below W3.drew.heap.size W3.drew W → W.cell? ⟨w.heap.size, 0, none⟩ = some (.pointer (some ⟨sb, 0, none⟩)) ∧ W.cell? ⟨sb, 4, none⟩ = some (.slice (some ⟨lb, 0, none⟩) rows.length rows.length)) := Lib.hid (fun W hb => ⟨(hb.cell (p := ⟨w.heap.size, 0, none⟩) (cell_lt hk2)).trans hk2, (E3.out.step hb).srch.list⟩)
  have HCL := Lib.hid (show Calls Tryd.prog 89 #[.slice (some ⟨lb, 0, none⟩) rows.length rows.length] W3.drew (fun e w' => ∃ u, e = .returned u ∧ OwnI 3 w' u (intsOf l) W3.drew.heap.size w'.heap.size ∧ Below W3.drew.heap.size W3.drew w') from E3.out.clone HLZ.out HN.out)
  clear hk0 hk1
  obtain ⟨fv, hf0, hf1, hf2⟩ := E3.out.found.owns
  have HF0 := Lib.hid hf0
  have HF1 := Lib.hid hf1
  have HF2 := Lib.hid hf2
  clear hf0 hf1 hf2
  have hz3 : w.heap.size ≤ W3.drew.heap.size := HB3.out.size
  refine wp_region_held_drew (S := fun W' : World => W'.cell? ⟨w.heap.size, 0, none⟩ = some (.pointer (some ⟨sb, 0, none⟩)) ∧ W'.cell? ⟨sb, 4, none⟩ = some (.slice (some ⟨lb, 0, none⟩) rows.length rows.length)) (by kernel_rfl) ⟨hk2, E3.out.srch.list⟩ (fun hHeld => ?_)
  refine' wpAnyH_take (i := 0) (oi := ?oo1_0) (v := ?vv1_0) ?hi1_0 (by kernel_rfl) (by kernel_rfl) (by kernel_rfl) ?hq1_0 (Or.inl ⟨?hw1_0, ?hy1_0⟩) hHeld ?rest1_0
  case hi1_0 => simp only [List.getElem?_toArray, List.getElem?_cons_zero]; rfl
  case hq1_0 => exact fun _ _ _ h => h
  case hw1_0 => rfl
  case hy1_0 => intro w hSw; (try dsimp only at hSw); go_simp; try (with_reducible rfl)
  try simp only [Act.put, List.setIfInBounds_toArray, List.set_cons_zero, List.set_cons_succ]
  refine' wpAnyH_take (i := 1) (oi := ?oo2_1) (v := ?vv2_1) ?hi2_1 (by kernel_rfl) (by kernel_rfl) (by kernel_rfl) ?hq2_1 (Or.inl ⟨?hw2_1, ?hy2_1⟩) hHeld ?rest2_1
  case hi2_1 => simp only [List.getElem?_toArray, List.getElem?_cons_succ, List.getElem?_cons_zero]; rfl
  case hq2_1 => exact fun _ _ _ h => h
  case hw2_1 => rfl
  case hy2_1 => intro w hSw; (try dsimp only at hSw); go_simp; try (with_reducible rfl)
  try simp only [Act.put, List.setIfInBounds_toArray, List.set_cons_zero, List.set_cons_succ]
  refine' wpAnyH_take (i := 2) (oi := ?oo3_2) (v := ?vv3_2) ?hi3_2 (by kernel_rfl) (by kernel_rfl) (by kernel_rfl) ?hq3_2 (Or.inl ⟨?hw3_2, ?hy3_2⟩) hHeld ?rest3_2
  case hi3_2 => simp only [List.getElem?_toArray, List.getElem?_cons_succ, List.getElem?_cons_zero]; rfl
  case hq3_2 => exact fun _ _ _ h => h
  case hw3_2 => rfl
  case hy3_2 => intro w hSw; (try dsimp only at hSw); go_simp; try (with_reducible rfl)
  try simp only [Act.put, List.setIfInBounds_toArray, List.set_cons_zero, List.set_cons_succ]
  refine' wpAnyH_take (i := 3) (oi := ?oo4_3) (v := ?vv4_3) ?hi4_3 (by kernel_rfl) (by kernel_rfl) (by kernel_rfl) ?hq4_3 (Or.inl ⟨?hw4_3, ?hy4_3⟩) hHeld ?rest4_3
  case hi4_3 => simp only [List.getElem?_toArray, List.getElem?_cons_succ, List.getElem?_cons_zero]; rfl
  case hq4_3 => exact fun _ _ _ h => h
  case hw4_3 => rfl
  case hy4_3 => intro w hSw; (try dsimp only at hSw); go_simp; try (with_reducible rfl)
  try simp only [Act.put, List.setIfInBounds_toArray, List.set_cons_zero, List.set_cons_succ]
  refine' wpAnyH_take (i := 5) (oi := ?oo5_5) (v := ?vv5_5) ?hi5_5 (by kernel_rfl) (by kernel_rfl) (by kernel_rfl) ?hq5_5 (Or.inl ⟨?hw5_5, ?hy5_5⟩) hHeld ?rest5_5
  case hi5_5 => simp only [List.getElem?_toArray, List.getElem?_cons_succ, List.getElem?_cons_zero]; rfl
  case hq5_5 => exact fun _ _ _ h => h
  case hw5_5 => rfl
  case hy5_5 => intro w hSw; (try dsimp only at hSw); go_simp; try (with_reducible rfl)
  try simp only [Act.put, List.setIfInBounds_toArray, List.set_cons_zero, List.set_cons_succ]
  refine' wpAnyH_take (i := 6) (oi := ?oo6_6) (v := ?vv6_6) ?hi6_6 (by kernel_rfl) (by kernel_rfl) (by kernel_rfl) ?hq6_6 (Or.inl ⟨?hw6_6, ?hy6_6⟩) hHeld ?rest6_6
  case hi6_6 => simp only [List.getElem?_toArray, List.getElem?_cons_succ, List.getElem?_cons_zero]; rfl
  case hq6_6 => exact fun _ _ _ h => h
  case hw6_6 => rfl
  case hy6_6 => intro w hSw; (try dsimp only at hSw); go_simp; try (with_reducible rfl)
  try simp only [Act.put, List.setIfInBounds_toArray, List.set_cons_zero, List.set_cons_succ]
  refine' wpAnyH_take (i := 7) (oi := ?oo7_7) (v := ?vv7_7) ?hi7_7 (by kernel_rfl) (by kernel_rfl) (by kernel_rfl) ?hq7_7 (Or.inl ⟨?hw7_7, ?hy7_7⟩) hHeld ?rest7_7
  case hi7_7 => simp only [List.getElem?_toArray, List.getElem?_cons_succ, List.getElem?_cons_zero]; rfl
  case hq7_7 => exact fun _ _ _ h => h
  case hw7_7 => rfl
  case hy7_7 => intro w hSw; (try dsimp only at hSw); go_simp; try (with_reducible rfl)
  try simp only [Act.put, List.setIfInBounds_toArray, List.set_cons_zero, List.set_cons_succ]
  refine' wpAnyH_take (i := 8) (oi := ?oo8_8) (v := ?vv8_8) ?hi8_8 (by kernel_rfl) (by kernel_rfl) (by kernel_rfl) ?hq8_8 (Or.inl ⟨?hw8_8, ?hy8_8⟩) hHeld ?rest8_8
  case hi8_8 => simp only [List.getElem?_toArray, List.getElem?_cons_succ, List.getElem?_cons_zero]; rfl
  case hq8_8 => exact fun _ _ _ h => h
  case hw8_8 => rfl
  case hy8_8 => intro w hSw; (try dsimp only at hSw); go_simp; try (with_reducible rfl)
  try simp only [Act.put, List.setIfInBounds_toArray, List.set_cons_zero, List.set_cons_succ]
  refine wpAnyH_ready (rs := [4, 9]) (by kernel_rfl) (by simp) ?_
  refine' (AllReadyH.cons (o := ?ok9_4) ?hk9_4 (fun K hK => ?st9_4) (AllReadyH.cons (o := ?ok9_9) ?hk9_9 (fun K hK => ?st9_9) AllReadyH.nil))
  case hk9_4 => simp only [List.getElem?_toArray, List.getElem?_cons_succ, List.getElem?_cons_zero]; rfl
  case hk9_9 => simp only [List.getElem?_toArray, List.getElem?_cons_succ, List.getElem?_cons_zero]; rfl
  case st9_4 =>
    have hfF := E3.out.srch.found
    go_simp
    clear hfF
    refine hK.out _ _ (hHeld) (fun hHeld => ?_)
    clear hK K
    try simp only [Act.put, List.setIfInBounds_toArray, List.set_cons_zero, List.set_cons_succ]
    refine wpAnyH_ready (rs := [9]) (by kernel_rfl) (by simp) ?_
    refine' (AllReadyH.cons (o := ?ok10_9) ?hk10_9 (fun K hK => ?st10_9) AllReadyH.nil)
    case hk10_9 => simp only [List.getElem?_toArray, List.getElem?_cons_succ, List.getElem?_cons_zero]; rfl
    case st10_9 =>
      go_simp
      go_at_call 89
      refine HCL.out.mono ?_
      rintro e w4 ⟨u, rfl, hu, hb4⟩
      obtain ⟨a1, C1, rfl⟩ := hu.form
      have E4 := Lib.hid (E3.out.step hb4)
      have HU := Lib.hid hu
      have HB4 := Lib.hid hb4
      have hS4 := SKEEP.out _ hb4
      clear hu hb4
      go_wp2_with fail
      refine hK.out _ _ (hS4) (fun hHeld => ?_)
      clear hK K
      try simp only [Act.put, List.setIfInBounds_toArray, List.set_cons_zero, List.set_cons_succ]
      refine wpAnyH_ready (rs := [10]) (by kernel_rfl) (by simp) ?_
      refine' (AllReadyH.cons (o := ?ok11_10) ?hk11_10 (fun K hK => ?st11_10) AllReadyH.nil)
      case hk11_10 => simp only [List.getElem?_toArray, List.getElem?_cons_succ, List.getElem?_cons_zero]; rfl
      case st11_10 =>
        go_simp
        have hb5 := (Below.refl w4.heap.size w4).alloc (Nat.le_refl _) (.cells #[.slice a1 (intsOf l).length C1] 37)
        have E5 := Lib.hid (E4.out.step hb5)
        have HB5 := Lib.hid (HB4.out.trans (hb5.mono HB4.out.size))
        have hS5 := SKEEP.out _ HB5.out
        clear hb5
        refine hK.out _ _ (hS5) (fun hHeld => ?_)
        clear hK K
        try simp only [Act.put, List.setIfInBounds_toArray, List.set_cons_zero, List.set_cons_succ]
        refine wpAnyH_ready (rs := [11]) (by kernel_rfl) (by simp) ?_
        refine' (AllReadyH.cons (o := ?ok12_11) ?hk12_11 (fun K hK => ?st12_11) AllReadyH.nil)
        case hk12_11 => simp only [List.getElem?_toArray, List.getElem?_cons_succ, List.getElem?_cons_zero]; rfl
        case st12_11 =>
          refine step_append_lies _ (by rfl) _ _ 22 (by rfl) lo 37 j0 (.slice none 0 0) 1 24 Tryd.underlying22 hj0 hy0 hy1 hy2 rfl (by decide) (.slice ao R.length CO) R.length ((List.range R.length).map fv) (by rfl) ((owns_below HF0.out HB4.out).alloc _) ⟨w4.heap.size, 0, none⟩ 1 1 [.slice a1 (intsOf l).length C1] (by rfl) rfl (World.news_of_block (heap_alloc_new w4 _)) (by simp [Value.oneCell']) (by omega) (by unfold maxLen; omega) (by omega) (by have := HB4.out.size; simp; omega) (w4.heap.size + 1) (by simp) ?_
          intro g2 cap2 w6 hown2 hgrow2 hat2 hlt2
          have hst : ∀ b, b < lo → w6.heap[b]? = (w4.alloc (.cells #[.slice a1 (intsOf l).length C1] 37)).heap[b]? := fun b hb => hgrow2.block b (by have := HB4.out.size; rw [World.size_alloc]; omega) (fun e => by have := (HVB.out b e.symm).1; omega)
          have hbx : w6.heap[w.heap.size]? = (w4.alloc (.cells #[.slice a1 (intsOf l).length C1] 37)).heap[w.heap.size]? := hgrow2.block _ (cell_lt hS5.1) (fun e => by have := (HVB.out _ e.symm).2.1; omega)
          have hS6 := And.intro ((World.cell?_of_block (a := ⟨w.heap.size, 0, none⟩) hbx).trans hS5.1) ((World.cell?_of_block (a := ⟨sb, 4, none⟩) (hst sb hs)).trans hS5.2)
          have hf5 := (World.cell?_of_block (a := ⟨sb, 5, none⟩) (hst sb hs)).trans E5.out.srch.found
          have hfz := (World.frozen?_of_block (a := ⟨sb, 5, none⟩) (hst sb hs)).trans E5.out.open_
          have hpu := OwnR.pushed (W := w4) (mid := W3.drew.heap.size) (lo := lo) int_ne (owns_below HF0.out HB4.out) (fun j hj => (HF1.out j hj).kept fun b hb => HB4.out.block b ((HF1.out j hj).block b hb).2.1) HF2.out (by omega) HB4.out.size HU.out ((Below.refl _ w4).alloc (Nat.le_refl _) _) hown2 ⟨hgrow2.os, hgrow2.tape, hgrow2.output, hgrow2.size, hgrow2.block⟩
          have HF6 := Lib.hid (show OwnR 3 37 w6 (.slice (some ⟨g2, 0, none⟩) (R.length + 1) cap2) (R ++ [l]).length (rowsF (I2 (R ++ [l]))) lo w6.heap.size from by rw [List.length_append]; exact hpu.congr fun j hj => I2_snoc R l j hj)
          have HST := Lib.hid hst
          have HG2 := Lib.hid hgrow2
          have HAT := Lib.hid hat2
          clear hst hbx hpu hown2 hgrow2 hat2 hlt2
          refine hK.out _ _ (hS6) (fun hHeld => ?_)
          clear hK K
          try simp only [Act.put, List.setIfInBounds_toArray, List.set_cons_zero, List.set_cons_succ]
          refine' wpAnyH_take (i := 12) (oi := ?oo13_12) (v := ?vv13_12) ?hi13_12 (by kernel_rfl) (by kernel_rfl) (by kernel_rfl) ?hq13_12 (Or.inl ⟨?hw13_12, ?hy13_12⟩) hHeld ?rest13_12
          case hi13_12 => simp only [List.getElem?_toArray, List.getElem?_cons_succ, List.getElem?_cons_zero]; rfl
          case hq13_12 => exact fun _ _ _ h => h
          case hw13_12 => rfl
          case hy13_12 => intro w hSw; (try dsimp only at hSw); go_simp; try (with_reducible rfl)
          try simp only [Act.put, List.setIfInBounds_toArray, List.set_cons_zero, List.set_cons_succ]
          refine' wpAnyH_take (i := 13) (oi := ?oo14_13) (v := ?vv14_13) ?hi14_13 (by kernel_rfl) (by kernel_rfl) (by kernel_rfl) ?hq14_13 (Or.inl ⟨?hw14_13, ?hy14_13⟩) hHeld ?rest14_13
          case hi14_13 => simp only [List.getElem?_toArray, List.getElem?_cons_succ, List.getElem?_cons_zero]; rfl
          case hq14_13 => exact fun _ _ _ h => h
          case hw14_13 => rfl
          case hy14_13 => intro w hSw; (try dsimp only at hSw); go_simp; try (with_reducible rfl)
          try simp only [Act.put, List.setIfInBounds_toArray, List.set_cons_zero, List.set_cons_succ]
          refine wpAnyH_ready (rs := [14]) (by kernel_rfl) (by simp) ?_
          refine' (AllReadyH.cons (o := ?ok15_14) ?hk15_14 (fun K hK => ?st15_14) AllReadyH.nil)
          case hk15_14 => simp only [List.getElem?_toArray, List.getElem?_cons_succ, List.getElem?_cons_zero]; rfl
          case st15_14 =>
            go_simp
            have HPW := Lib.hid (E5.out.put HST.out hs hlb hp1 hp2 hp3 HF6.out)
            have hS7 := And.intro ((World.cell?_setCell_other w6 ⟨sb, 5, none⟩ ⟨w.heap.size, 0, none⟩ (.slice (some ⟨g2, 0, none⟩) (R.length + 1) cap2) (fun e => by injection e with e; omega)).trans hS6.1) HPW.out.srch.list
            refine hK.out _ _ (hS7) (fun hHeld => ?_)
            clear hK K
            try simp only [Act.put, List.setIfInBounds_toArray, List.set_cons_zero, List.set_cons_succ]
            refine wpAnyH_done (by kernel_rfl) ?_ _
            go_wp2
            refine bodyPost_ret (v := .tuple #[]) (by simp [results, Tryd.results73, go_sem]) rfl ?_
            refine ⟨rfl, _, HPW.out, ?_, ?_⟩
            · exact Spared.of (HB3.out.trans (((hd W3).mono HB3.out.size).trans (HB5.out.mono hz3))) HG2.out
            · rcases HAT.out with h | h
              · exact .inl h.symm
              · refine .inr fun b e => ?_
                have h1 := HB4.out.size
                have h3 : g2 = b := by simpa [Value.ownBlock] using e
                omega
  case st9_9 =>
    go_simp
    go_at_call 89
    refine HCL.out.mono ?_
    rintro e w4 ⟨u, rfl, hu, hb4⟩
    obtain ⟨a1, C1, rfl⟩ := hu.form
    have E4 := Lib.hid (E3.out.step hb4)
    have HU := Lib.hid hu
    have HB4 := Lib.hid hb4
    have hS4 := SKEEP.out _ hb4
    clear hu hb4
    go_wp2_with fail
    refine hK.out _ _ (hS4) (fun hHeld => ?_)
    clear hK K
    try simp only [Act.put, List.setIfInBounds_toArray, List.set_cons_zero, List.set_cons_succ]
    refine wpAnyH_ready (rs := [4, 10]) (by kernel_rfl) (by simp) ?_
    refine' (AllReadyH.cons (o := ?ok16_4) ?hk16_4 (fun K hK => ?st16_4) (AllReadyH.cons (o := ?ok16_10) ?hk16_10 (fun K hK => ?st16_10) AllReadyH.nil))
    case hk16_4 => simp only [List.getElem?_toArray, List.getElem?_cons_succ, List.getElem?_cons_zero]; rfl
    case hk16_10 => simp only [List.getElem?_toArray, List.getElem?_cons_succ, List.getElem?_cons_zero]; rfl
    case st16_4 =>
      have hfF := E4.out.srch.found
      go_simp
      clear hfF
      refine hK.out _ _ (hHeld) (fun hHeld => ?_)
      clear hK K
      try simp only [Act.put, List.setIfInBounds_toArray, List.set_cons_zero, List.set_cons_succ]
      refine wpAnyH_ready (rs := [10]) (by kernel_rfl) (by simp) ?_
      refine' (AllReadyH.cons (o := ?ok17_10) ?hk17_10 (fun K hK => ?st17_10) AllReadyH.nil)
      case hk17_10 => simp only [List.getElem?_toArray, List.getElem?_cons_succ, List.getElem?_cons_zero]; rfl
      case st17_10 =>
        go_simp
        have hb5 := (Below.refl w4.heap.size w4).alloc (Nat.le_refl _) (.cells #[.slice a1 (intsOf l).length C1] 37)
        have E5 := Lib.hid (E4.out.step hb5)
        have HB5 := Lib.hid (HB4.out.trans (hb5.mono HB4.out.size))
        have hS5 := SKEEP.out _ HB5.out
        clear hb5
        refine hK.out _ _ (hS5) (fun hHeld => ?_)
        clear hK K
        try simp only [Act.put, List.setIfInBounds_toArray, List.set_cons_zero, List.set_cons_succ]
        refine wpAnyH_ready (rs := [11]) (by kernel_rfl) (by simp) ?_
        refine' (AllReadyH.cons (o := ?ok18_11) ?hk18_11 (fun K hK => ?st18_11) AllReadyH.nil)
        case hk18_11 => simp only [List.getElem?_toArray, List.getElem?_cons_succ, List.getElem?_cons_zero]; rfl
        case st18_11 =>
          refine step_append_lies _ (by rfl) _ _ 22 (by rfl) lo 37 j0 (.slice none 0 0) 1 24 Tryd.underlying22 hj0 hy0 hy1 hy2 rfl (by decide) (.slice ao R.length CO) R.length ((List.range R.length).map fv) (by rfl) ((owns_below HF0.out HB4.out).alloc _) ⟨w4.heap.size, 0, none⟩ 1 1 [.slice a1 (intsOf l).length C1] (by rfl) rfl (World.news_of_block (heap_alloc_new w4 _)) (by simp [Value.oneCell']) (by omega) (by unfold maxLen; omega) (by omega) (by have := HB4.out.size; simp; omega) (w4.heap.size + 1) (by simp) ?_
          intro g2 cap2 w6 hown2 hgrow2 hat2 hlt2
          have hst : ∀ b, b < lo → w6.heap[b]? = (w4.alloc (.cells #[.slice a1 (intsOf l).length C1] 37)).heap[b]? := fun b hb => hgrow2.block b (by have := HB4.out.size; rw [World.size_alloc]; omega) (fun e => by have := (HVB.out b e.symm).1; omega)
          have hbx : w6.heap[w.heap.size]? = (w4.alloc (.cells #[.slice a1 (intsOf l).length C1] 37)).heap[w.heap.size]? := hgrow2.block _ (cell_lt hS5.1) (fun e => by have := (HVB.out _ e.symm).2.1; omega)
          have hS6 := And.intro ((World.cell?_of_block (a := ⟨w.heap.size, 0, none⟩) hbx).trans hS5.1) ((World.cell?_of_block (a := ⟨sb, 4, none⟩) (hst sb hs)).trans hS5.2)
          have hf5 := (World.cell?_of_block (a := ⟨sb, 5, none⟩) (hst sb hs)).trans E5.out.srch.found
          have hfz := (World.frozen?_of_block (a := ⟨sb, 5, none⟩) (hst sb hs)).trans E5.out.open_
          have hpu := OwnR.pushed (W := w4) (mid := W3.drew.heap.size) (lo := lo) int_ne (owns_below HF0.out HB4.out) (fun j hj => (HF1.out j hj).kept fun b hb => HB4.out.block b ((HF1.out j hj).block b hb).2.1) HF2.out (by omega) HB4.out.size HU.out ((Below.refl _ w4).alloc (Nat.le_refl _) _) hown2 ⟨hgrow2.os, hgrow2.tape, hgrow2.output, hgrow2.size, hgrow2.block⟩
          have HF6 := Lib.hid (show OwnR 3 37 w6 (.slice (some ⟨g2, 0, none⟩) (R.length + 1) cap2) (R ++ [l]).length (rowsF (I2 (R ++ [l]))) lo w6.heap.size from by rw [List.length_append]; exact hpu.congr fun j hj => I2_snoc R l j hj)
          have HST := Lib.hid hst
          have HG2 := Lib.hid hgrow2
          have HAT := Lib.hid hat2
          clear hst hbx hpu hown2 hgrow2 hat2 hlt2
          refine hK.out _ _ (hS6) (fun hHeld => ?_)
          clear hK K
          try simp only [Act.put, List.setIfInBounds_toArray, List.set_cons_zero, List.set_cons_succ]
          refine' wpAnyH_take (i := 12) (oi := ?oo19_12) (v := ?vv19_12) ?hi19_12 (by kernel_rfl) (by kernel_rfl) (by kernel_rfl) ?hq19_12 (Or.inl ⟨?hw19_12, ?hy19_12⟩) hHeld ?rest19_12
          case hi19_12 => simp only [List.getElem?_toArray, List.getElem?_cons_succ, List.getElem?_cons_zero]; rfl
          case hq19_12 => exact fun _ _ _ h => h
          case hw19_12 => rfl
          case hy19_12 => intro w hSw; (try dsimp only at hSw); go_simp; try (with_reducible rfl)
          try simp only [Act.put, List.setIfInBounds_toArray, List.set_cons_zero, List.set_cons_succ]
          refine' wpAnyH_take (i := 13) (oi := ?oo20_13) (v := ?vv20_13) ?hi20_13 (by kernel_rfl) (by kernel_rfl) (by kernel_rfl) ?hq20_13 (Or.inl ⟨?hw20_13, ?hy20_13⟩) hHeld ?rest20_13
          case hi20_13 => simp only [List.getElem?_toArray, List.getElem?_cons_succ, List.getElem?_cons_zero]; rfl
          case hq20_13 => exact fun _ _ _ h => h
          case hw20_13 => rfl
          case hy20_13 => intro w hSw; (try dsimp only at hSw); go_simp; try (with_reducible rfl)
          try simp only [Act.put, List.setIfInBounds_toArray, List.set_cons_zero, List.set_cons_succ]
          refine wpAnyH_ready (rs := [14]) (by kernel_rfl) (by simp) ?_
          refine' (AllReadyH.cons (o := ?ok21_14) ?hk21_14 (fun K hK => ?st21_14) AllReadyH.nil)
          case hk21_14 => simp only [List.getElem?_toArray, List.getElem?_cons_succ, List.getElem?_cons_zero]; rfl
          case st21_14 =>
            go_simp
            have HPW := Lib.hid (E5.out.put HST.out hs hlb hp1 hp2 hp3 HF6.out)
            have hS7 := And.intro ((World.cell?_setCell_other w6 ⟨sb, 5, none⟩ ⟨w.heap.size, 0, none⟩ (.slice (some ⟨g2, 0, none⟩) (R.length + 1) cap2) (fun e => by injection e with e; omega)).trans hS6.1) HPW.out.srch.list
            refine hK.out _ _ (hS7) (fun hHeld => ?_)
            clear hK K
            try simp only [Act.put, List.setIfInBounds_toArray, List.set_cons_zero, List.set_cons_succ]
            refine wpAnyH_done (by kernel_rfl) ?_ _
            go_wp2
            refine bodyPost_ret (v := .tuple #[]) (by simp [results, Tryd.results73, go_sem]) rfl ?_
            refine ⟨rfl, _, HPW.out, ?_, ?_⟩
            · exact Spared.of (HB3.out.trans (((hd W3).mono HB3.out.size).trans (HB5.out.mono hz3))) HG2.out
            · rcases HAT.out with h | h
              · exact .inl h.symm
              · refine .inr fun b e => ?_
                have h1 := HB4.out.size
                have h3 : g2 = b := by simpa [Value.ownBlock] using e
                omega
    case st16_10 =>
      go_simp
      have hb5 := (Below.refl w4.heap.size w4).alloc (Nat.le_refl _) (.cells #[.slice a1 (intsOf l).length C1] 37)
      have E5 := Lib.hid (E4.out.step hb5)
      have HB5 := Lib.hid (HB4.out.trans (hb5.mono HB4.out.size))
      have hS5 := SKEEP.out _ HB5.out
      clear hb5
      refine hK.out _ _ (hS5) (fun hHeld => ?_)
      clear hK K
      try simp only [Act.put, List.setIfInBounds_toArray, List.set_cons_zero, List.set_cons_succ]
      refine wpAnyH_ready (rs := [4]) (by kernel_rfl) (by simp) ?_
      refine' (AllReadyH.cons (o := ?ok22_4) ?hk22_4 (fun K hK => ?st22_4) AllReadyH.nil)
      case hk22_4 => simp only [List.getElem?_toArray, List.getElem?_cons_succ, List.getElem?_cons_zero]; rfl
      case st22_4 =>
        have hfF := E5.out.srch.found
        go_simp
        clear hfF
        refine hK.out _ _ (hHeld) (fun hHeld => ?_)
        clear hK K
        try simp only [Act.put, List.setIfInBounds_toArray, List.set_cons_zero, List.set_cons_succ]
        refine wpAnyH_ready (rs := [11]) (by kernel_rfl) (by simp) ?_
        refine' (AllReadyH.cons (o := ?ok23_11) ?hk23_11 (fun K hK => ?st23_11) AllReadyH.nil)
        case hk23_11 => simp only [List.getElem?_toArray, List.getElem?_cons_succ, List.getElem?_cons_zero]; rfl
        case st23_11 =>
          refine step_append_lies _ (by rfl) _ _ 22 (by rfl) lo 37 j0 (.slice none 0 0) 1 24 Tryd.underlying22 hj0 hy0 hy1 hy2 rfl (by decide) (.slice ao R.length CO) R.length ((List.range R.length).map fv) (by rfl) ((owns_below HF0.out HB4.out).alloc _) ⟨w4.heap.size, 0, none⟩ 1 1 [.slice a1 (intsOf l).length C1] (by rfl) rfl (World.news_of_block (heap_alloc_new w4 _)) (by simp [Value.oneCell']) (by omega) (by unfold maxLen; omega) (by omega) (by have := HB4.out.size; simp; omega) (w4.heap.size + 1) (by simp) ?_
          intro g2 cap2 w6 hown2 hgrow2 hat2 hlt2
          have hst : ∀ b, b < lo → w6.heap[b]? = (w4.alloc (.cells #[.slice a1 (intsOf l).length C1] 37)).heap[b]? := fun b hb => hgrow2.block b (by have := HB4.out.size; rw [World.size_alloc]; omega) (fun e => by have := (HVB.out b e.symm).1; omega)
          have hbx : w6.heap[w.heap.size]? = (w4.alloc (.cells #[.slice a1 (intsOf l).length C1] 37)).heap[w.heap.size]? := hgrow2.block _ (cell_lt hS5.1) (fun e => by have := (HVB.out _ e.symm).2.1; omega)
          have hS6 := And.intro ((World.cell?_of_block (a := ⟨w.heap.size, 0, none⟩) hbx).trans hS5.1) ((World.cell?_of_block (a := ⟨sb, 4, none⟩) (hst sb hs)).trans hS5.2)
          have hf5 := (World.cell?_of_block (a := ⟨sb, 5, none⟩) (hst sb hs)).trans E5.out.srch.found
          have hfz := (World.frozen?_of_block (a := ⟨sb, 5, none⟩) (hst sb hs)).trans E5.out.open_
          have hpu := OwnR.pushed (W := w4) (mid := W3.drew.heap.size) (lo := lo) int_ne (owns_below HF0.out HB4.out) (fun j hj => (HF1.out j hj).kept fun b hb => HB4.out.block b ((HF1.out j hj).block b hb).2.1) HF2.out (by omega) HB4.out.size HU.out ((Below.refl _ w4).alloc (Nat.le_refl _) _) hown2 ⟨hgrow2.os, hgrow2.tape, hgrow2.output, hgrow2.size, hgrow2.block⟩
          have HF6 := Lib.hid (show OwnR 3 37 w6 (.slice (some ⟨g2, 0, none⟩) (R.length + 1) cap2) (R ++ [l]).length (rowsF (I2 (R ++ [l]))) lo w6.heap.size from by rw [List.length_append]; exact hpu.congr fun j hj => I2_snoc R l j hj)
          have HST := Lib.hid hst
          have HG2 := Lib.hid hgrow2
          have HAT := Lib.hid hat2
          clear hst hbx hpu hown2 hgrow2 hat2 hlt2
          refine hK.out _ _ (hS6) (fun hHeld => ?_)
          clear hK K
          try simp only [Act.put, List.setIfInBounds_toArray, List.set_cons_zero, List.set_cons_succ]
          refine' wpAnyH_take (i := 12) (oi := ?oo24_12) (v := ?vv24_12) ?hi24_12 (by kernel_rfl) (by kernel_rfl) (by kernel_rfl) ?hq24_12 (Or.inl ⟨?hw24_12, ?hy24_12⟩) hHeld ?rest24_12
          case hi24_12 => simp only [List.getElem?_toArray, List.getElem?_cons_succ, List.getElem?_cons_zero]; rfl
          case hq24_12 => exact fun _ _ _ h => h
          case hw24_12 => rfl
          case hy24_12 => intro w hSw; (try dsimp only at hSw); go_simp; try (with_reducible rfl)
          try simp only [Act.put, List.setIfInBounds_toArray, List.set_cons_zero, List.set_cons_succ]
          refine' wpAnyH_take (i := 13) (oi := ?oo25_13) (v := ?vv25_13) ?hi25_13 (by kernel_rfl) (by kernel_rfl) (by kernel_rfl) ?hq25_13 (Or.inl ⟨?hw25_13, ?hy25_13⟩) hHeld ?rest25_13
          case hi25_13 => simp only [List.getElem?_toArray, List.getElem?_cons_succ, List.getElem?_cons_zero]; rfl
          case hq25_13 => exact fun _ _ _ h => h
          case hw25_13 => rfl
          case hy25_13 => intro w hSw; (try dsimp only at hSw); go_simp; try (with_reducible rfl)
          try simp only [Act.put, List.setIfInBounds_toArray, List.set_cons_zero, List.set_cons_succ]
          refine wpAnyH_ready (rs := [14]) (by kernel_rfl) (by simp) ?_
          refine' (AllReadyH.cons (o := ?ok26_14) ?hk26_14 (fun K hK => ?st26_14) AllReadyH.nil)
          case hk26_14 => simp only [List.getElem?_toArray, List.getElem?_cons_succ, List.getElem?_cons_zero]; rfl
          case st26_14 =>
            go_simp
            have HPW := Lib.hid (E5.out.put HST.out hs hlb hp1 hp2 hp3 HF6.out)
            have hS7 := And.intro ((World.cell?_setCell_other w6 ⟨sb, 5, none⟩ ⟨w.heap.size, 0, none⟩ (.slice (some ⟨g2, 0, none⟩) (R.length + 1) cap2) (fun e => by injection e with e; omega)).trans hS6.1) HPW.out.srch.list
            refine hK.out _ _ (hS7) (fun hHeld => ?_)
            clear hK K
            try simp only [Act.put, List.setIfInBounds_toArray, List.set_cons_zero, List.set_cons_succ]
            refine wpAnyH_done (by kernel_rfl) ?_ _
            go_wp2
            refine bodyPost_ret (v := .tuple #[]) (by simp [results, Tryd.results73, go_sem]) rfl ?_
            refine ⟨rfl, _, HPW.out, ?_, ?_⟩
            · exact Spared.of (HB3.out.trans (((hd W3).mono HB3.out.size).trans (HB5.out.mono hz3))) HG2.out
            · rcases HAT.out with h | h
              · exact .inl h.symm
              · refine .inr fun b e => ?_
                have h1 := HB4.out.size
                have h3 : g2 = b := by simpa [Value.ownBlock] using e
                omega
end Go.Proofs.YtkhhbpeheikmfaaDoor

/- The search for monotone functions (funSearch.place): what its rounds keep. Plain facts on worlds: no function is walked here. -/
namespace Go.Proofs.YtkhhbpeheikmfaaDoor
open Go.RowKit Go.Deep Go.Shelf

/-- Rows in memory of their own stay where blocks that are no cells turn. -/
theorem keptG_block {W W' : World} {row : Option Nat} {b : Nat} {c : Array Value} {t : TypeId} {fz : Nat × Nat} (h : W.heap[b]? = some (.cells c t fz)) (hg : W.grownBy W' row) (hr : ∀ r, row = some r → ∃ o : Obj, W.heap[r]? = some o ∧ o.isCells = false) : W'.heap[b]? = W.heap[b]? :=
  (blk_kept h hg hr).trans h.symm
theorem OwnR.keptG {t u : TypeId} {W W' : World} {v : Value} {n : Nat} {R : Nat → List Int} {lo : Nat} {row : Option Nat} (h : OwnR t u W v n R lo W.heap.size) (hg : W.grownBy W' row) (hr : ∀ r, row = some r → ∃ o : Obj, W.heap[r]? = some o ∧ o.isCells = false) : OwnR t u W' v n R lo W'.heap.size := by
  refine OwnR.wider (hi := W.heap.size) ?_ (Nat.le_refl _) hg.size
  obtain h | ⟨g, C, f, rfl, h1, h2, h3, h4, h5, h6, h7⟩ := h
  · exact .inl h
  · refine .inr ⟨g, C, f, rfl, h1, h2, h3, h4, ?_, fun j hj => (h6 j hj).kept fun b hb => ?_, h7⟩
    · obtain ⟨c, hc, hd⟩ := h5
      exact ⟨c, (keptG_block hc hg hr).trans hc, hd⟩
    · obtain ⟨_, _, c, hc⟩ := (h6 j hj).block b hb
      exact keptG_block hc hg hr
theorem RwAt.keptG {W W' : World} {row : Option Nat} {b n : Nat} {O : Nat → Nat} (h : RwAt W b n O) (hg : W.grownBy W' row) (hr : ∀ r, row = some r → ∃ o : Obj, W.heap[r]? = some o ∧ o.isCells = false) : RwAt W' b n O := by
  obtain ⟨c, hc, h2⟩ := h
  exact ⟨c, (keptG_block hc hg hr).trans hc, h2⟩
theorem PW.keptG {sb p p' G lb lo lim : Nat} {rows rows' : Rows2} {l : List Nat} {R : List (List Nat)} {vf : Value} {W W' : World} {row : Option Nat} (h : PW sb p p' G lb lo lim rows rows' l R vf W) (hg : W.grownBy W' row) (hr : ∀ r, row = some r → ∃ o : Obj, W.heap[r]? = some o ∧ o.isCells = false) : PW sb p p' G lb lo lim rows rows' l R vf W' := by
  have hs : W'.heap[sb]? = W.heap[sb]? := by
    obtain ⟨o, ho, hc⟩ := cells_of_cell h.srch.from_
    exact grownBy_keeps_cells hg hr ho hc
  obtain ⟨C, f, ⟨c, hc, hd⟩, h2, h3⟩ := h.list
  exact ⟨h.srch.block hs, (World.frozen?_of_block (a := ⟨sb, 5, none⟩) hs).trans h.open_, ⟨h.grids.from_.kept hg hr, h.grids.up.kept hg hr, h.grids.low.kept hg hr⟩, ⟨C, f, ⟨c, (keptG_block hc hg hr).trans hc, hd⟩, h2, h3⟩, h.found.keptG hg hr⟩

/-- Where the row of what was found lies: where it lay, or behind all that was there. -/
def Fresh (vf0 vf : Value) (w : World) : Prop := vf.ownBlock = vf0.ownBlock ∨ ∀ b, vf.ownBlock = some b → w.heap.size ≤ b
theorem Spared.refl (sb lb : Nat) (vf : Value) (w : World) : Spared sb lb vf w w := ⟨rfl, rfl, rfl, Nat.le_refl _, fun _ _ _ _ _ => rfl⟩
theorem Spared.call {sb lb : Nat} {vf0 vf : Value} {w W W' : World} (h : Spared sb lb vf0 w W) (hf : Fresh vf0 vf w) (k : Spared sb lb vf W W') : Spared sb lb vf0 w W' :=
  ⟨k.os.trans h.os, k.tape.trans h.tape, k.output.trans h.output, Nat.le_trans h.size k.size, fun b h1 h2 h3 h4 => (k.block b (Nat.lt_of_lt_of_le h1 h.size) h2 h3 (fun e => by
    rcases hf with f | f
    · exact h4 (f ▸ e)
    · have := f b e; omega)).trans (h.block b h1 h2 h3 h4)⟩
theorem Fresh.call {vf0 vf vf' : Value} {w W : World} (hf : Fresh vf0 vf w) (hz : w.heap.size ≤ W.heap.size) (k : Fresh vf vf' W) : Fresh vf0 vf' w := by
  rcases k with k | k
  · rcases hf with f | f
    · exact .inl (k.trans f)
    · exact .inr fun b e => f b (k ▸ e)
  · exact .inr fun b e => Nat.le_trans hz (k b e)
theorem Spared.below {sb lb : Nat} {vf0 : Value} {w W W' : World} {B : Nat} (h : Spared sb lb vf0 w W) (hb : Below B W W') (hB : w.heap.size ≤ B) : Spared sb lb vf0 w W' :=
  ⟨hb.os.trans h.os, hb.tape.trans h.tape, hb.output.trans h.output, Nat.le_trans h.size hb.size, fun b h1 h2 h3 h4 => (hb.block b (by omega)).trans (h.block b h1 h2 h3 h4)⟩
theorem Spared.of_below {sb lb : Nat} {vf0 : Value} {w W : World} (hb : Below w.heap.size w W) : Spared sb lb vf0 w W :=
  (Spared.refl sb lb vf0 w).below hb (Nat.le_refl _)
theorem Spared.grown {sb lb : Nat} {vf0 : Value} {w W W' : World} {row : Option Nat} (h : Spared sb lb vf0 w W) (hg : W.grownBy W' row) (hr : ∀ r, row = some r → w.heap.size ≤ r) : Spared sb lb vf0 w W' :=
  ⟨hg.os.trans h.os, hg.tape.trans h.tape, hg.output.trans h.output, Nat.le_trans h.size hg.size, fun b h1 h2 h3 h4 => (hg.block b (Nat.lt_of_lt_of_le h1 h.size) (fun e => by have := hr b e.symm; omega)).trans (h.block b h1 h2 h3 h4)⟩
/-- What lay below the search's own things is as it was. -/
theorem Spared.under {sb lb n₀ : Nat} {vf : Value} {W W' : World} (h : Spared sb lb vf W W') (h1 : n₀ ≤ sb) (h2 : n₀ ≤ lb) (h3 : ∀ b, vf.ownBlock = some b → n₀ ≤ b) (hz : n₀ ≤ W.heap.size) : Below n₀ W W' :=
  ⟨h.os, h.tape, h.output, h.size, fun b hb => h.block b (by omega) (by omega) (by omega) (fun e => by have := h3 b e; omega)⟩

/-- The worlds of a search's rounds: what is found so far, and the choices from which the rounds go on. -/
structure PR (sb p p' G lb lo lim ob : Nat) (rows rows' : Rows2) (l : List Nat) (O : Nat → Nat) (oC : Nat) (vf0 : Value) (w : World) (R : List (List Nat)) (W : World) : Prop where
  main : ∃ vf, PW sb p p' G lb lo lim rows rows' l R vf W ∧ Fresh vf0 vf w
  spared : Spared sb lb vf0 w W
  choices : RwAt W ob rows.length O
  b0 : Boxed W w.heap.size 119 (.pointer (some ⟨sb, 0, none⟩))
  b1 : Boxed W (w.heap.size + 1) 3 (.int .i64 (l.length : Int))
  b2 : Boxed W (w.heap.size + 2) 105 (.slice (some ⟨ob, 0, none⟩) rows.length oC)
theorem PR.keptG {sb p p' G lb lo lim ob : Nat} {rows rows' : Rows2} {l : List Nat} {O : Nat → Nat} {oC : Nat} {vf0 : Value} {w : World} {R : List (List Nat)} {W W' : World} {row : Option Nat} (h : PR sb p p' G lb lo lim ob rows rows' l O oC vf0 w R W) (hg : W.grownBy W' row)
    (hr : ∀ r, row = some r → w.heap.size ≤ r ∧ ∃ o : Obj, W.heap[r]? = some o ∧ o.isCells = false) : PR sb p p' G lb lo lim ob rows rows' l O oC vf0 w R W' := by
  have hr2 : ∀ r, row = some r → ∃ o : Obj, W.heap[r]? = some o ∧ o.isCells = false := fun r e => (hr r e).2
  obtain ⟨vf, h1, h2⟩ := h.main
  exact ⟨⟨vf, h1.keptG hg hr2, h2⟩, h.spared.grown hg (fun r e => (hr r e).1), h.choices.keptG hg hr2, blk_kept h.b0 hg hr2, blk_kept h.b1 hg hr2, blk_kept h.b2 hg hr2⟩
theorem PR.own {β : Type} {sb p p' G lb lo lim ob : Nat} {rows rows' : Rows2} {l : List Nat} {O : Nat → Nat} {oC : Nat} {vf0 : Value} {w : World} {R : β → List (List Nat)} {B : Nat} (hB : w.heap.size ≤ B) : OwnFrom B (fun (s : β) W => PR sb p p' G lb lo lim ob rows rows' l O oC vf0 w (R s) W) :=
  fun _ _ _ _ hs hg hr => hs.keptG hg fun r e => ⟨Nat.le_trans hB (hr r e).1, (hr r e).2⟩
theorem PR.step {sb p p' G lb lo lim ob : Nat} {rows rows' : Rows2} {l : List Nat} {O : Nat → Nat} {oC : Nat} {vf0 : Value} {w : World} {R : List (List Nat)} {W W' : World} (h : PR sb p p' G lb lo lim ob rows rows' l O oC vf0 w R W) (hb : Below W.heap.size W W') : PR sb p p' G lb lo lim ob rows rows' l O oC vf0 w R W' := by
  obtain ⟨vf, h1, h2⟩ := h.main
  exact ⟨⟨vf, h1.step hb, h2⟩, h.spared.below hb h.spared.size, h.choices.below hb h.choices.lt, (hb.block _ h.b0.lt).trans h.b0, (hb.block _ h.b1.lt).trans h.b1, (hb.block _ h.b2.lt).trans h.b2⟩
theorem PW.shorter {sb p p' G lb lo lim : Nat} {rows rows' : Rows2} {l : List Nat} {k : Nat} {R : List (List Nat)} {vf : Value} {W : World} (h : PW sb p p' G lb lo lim rows rows' (l ++ [k]) R vf W) : PW sb p p' G lb lo lim rows rows' l R vf W := by
  obtain ⟨C, f, h1, h2, h3⟩ := h.list
  exact ⟨h.srch, h.open_, h.grids, ⟨C, f, h1, h2, fun q hq => by
    have := h3 q (by rw [List.length_append]; omega)
    rw [getD_app hq] at this
    exact this⟩, h.found⟩
/-- A number is put behind those chosen. -/
theorem PW.chosen {sb p p' G lb lo lim : Nat} {rows rows' : Rows2} {l : List Nat} {R : List (List Nat)} {vf : Value} {W : World} (h : PW sb p p' G lb lo lim rows rows' l R vf W) (k : Nat) (hs : lb ≠ sb) (h1 : p ≠ lb) (h2 : p' ≠ lb) (h3 : G ≠ lb) (hl : lb < lo) :
    PW sb p p' G lb lo lim rows rows' (l ++ [k]) R vf (W.setCell ⟨lb, l.length, none⟩ (.int .i64 (k : Int))) := by
  have hk : ∀ b, b ≠ lb → (W.setCell ⟨lb, l.length, none⟩ (.int .i64 (k : Int))).heap[b]? = W.heap[b]? := fun b hne => Below.heap_setCell W ⟨lb, l.length, none⟩ _ b hne
  obtain ⟨C, f, hr, l2, l3⟩ := h.list
  have hr2 := hr.set l.length (.int .i64 (k : Int))
  refine ⟨h.srch.block (hk sb (fun e => hs e.symm)), ?_, ⟨h.grids.from_.block (hk p h1), h.grids.up.block (hk p' h2), h.grids.low.block (hk G h3)⟩, ⟨C, _, hr2, l2, fun q hq => ?_⟩, ?_⟩
  · rw [World.frozen?_setCell]
    exact h.open_
  · rw [List.length_append, List.length_singleton] at hq
    by_cases e : q = l.length
    · subst e
      rw [if_pos rfl, getD_end l k []]
    · rw [if_neg e, getD_app (show q < l.length by omega)]
      exact l3 q (by omega)
  · rw [size_setCell]
    exact h.found.kept fun b h4 _ => hk b (show b ≠ lb by omega)
theorem fun_ne : (119 : TypeId) ≠ 37 := by decide
theorem row_ne : (92 : TypeId) ≠ 37 := by decide
theorem rws_ne : (105 : TypeId) ≠ 37 := by decide
theorem PW.apart {sb p p' G lb lo lim : Nat} {rows rows' : Rows2} {l : List Nat} {R : List (List Nat)} {vf : Value} {W : World} (h : PW sb p p' G lb lo lim rows rows' l R vf W) {b : Nat} {c : Array Value} {t : TypeId} {fz : Nat × Nat} (hb : W.heap[b]? = some (.cells c t fz)) (ht : t ≠ 37) : vf.ownBlock ≠ some b := fun e => by
  obtain ⟨_, _, c2, h2⟩ := h.found.rowType b e
  rw [hb] at h2
  injection h2 with h2
  injection h2 with _ h2
  exact ht h2
/-- Behind a call for one number more. -/
theorem PR.called {sb p p' G lb lo lim ob : Nat} {rows rows' : Rows2} {l : List Nat} {O : Nat → Nat} {oC : Nat} {vf0 vf vf' : Value} {w : World} {R R' : List (List Nat)} {W W' : World} {k : Nat} (h : PR sb p p' G lb lo lim ob rows rows' l O oC vf0 w R W)
    (hv : PW sb p p' G lb lo lim rows rows' l R vf W) (hf : Fresh vf0 vf w) (hp : PW sb p p' G lb lo lim rows rows' (l ++ [k]) R' vf' W') (hsp : Spared sb lb vf (W.setCell ⟨lb, l.length, none⟩ (.int .i64 (k : Int))) W') (hf' : Fresh vf vf' (W.setCell ⟨lb, l.length, none⟩ (.int .i64 (k : Int))))
    (hs : sb < w.heap.size) (hl : lb < w.heap.size) (ho : ob ≠ sb ∧ ob ≠ lb) : PR sb p p' G lb lo lim ob rows rows' l O oC vf0 w R' W' := by
  have hz : (W.setCell ⟨lb, l.length, none⟩ (.int .i64 (k : Int))).heap.size = W.heap.size := size_setCell _ _ _
  have hset : ∀ b, b ≠ lb → (W.setCell ⟨lb, l.length, none⟩ (.int .i64 (k : Int))).heap[b]? = W.heap[b]? := fun b hne => Below.heap_setCell W ⟨lb, l.length, none⟩ _ b hne
  have hk : ∀ b (c : Array Value) (t : TypeId) (fz : Nat × Nat), b ≠ sb → b ≠ lb → W.heap[b]? = some (.cells c t fz) → t ≠ 37 → W'.heap[b]? = W.heap[b]? := fun b c t fz h1 h2 hb ht =>
    (hsp.block b (by rw [hz]; exact (Array.getElem?_eq_some_iff.1 hb).1) h1 h2 (hv.apart hb ht)).trans (hset b h2)
  have hsz := h.spared.size
  refine ⟨⟨vf', hp.shorter, hf.call (by rw [hz]; exact hsz) hf'⟩, ?_, ?_, ?_, ?_, ?_⟩
  · have h1 : Spared sb lb vf0 w (W.setCell ⟨lb, l.length, none⟩ (.int .i64 (k : Int))) :=
      ⟨h.spared.os, h.spared.tape, h.spared.output, by rw [hz]; exact hsz, fun b b1 b2 b3 b4 => (hset b b3).trans (h.spared.block b b1 b2 b3 b4)⟩
    exact h1.call hf hsp
  · obtain ⟨c, hc, hd⟩ := h.choices
    exact ⟨c, (hk ob _ _ _ ho.1 ho.2 hc row_ne).trans hc, hd⟩
  · exact (hk _ _ _ _ (by omega) (by omega) h.b0 fun_ne).trans h.b0
  · exact (hk _ _ _ _ (by omega) (by omega) h.b1 int_ne).trans h.b1
  · exact (hk _ _ _ _ (by omega) (by omega) h.b2 rws_ne).trans h.b2
/-- What a round keeps of what is no variable. -/
theorem PW.keeps {sb p p' G lb lo lim : Nat} {rows rows' : Rows2} {l : List Nat} {R : List (List Nat)} {vf : Value} {W W' : World} {k B : Nat} (hv : PW sb p p' G lb lo lim rows rows' l R vf W) (hs : sb < B) (hl : lb < B) (hsp : Spared sb lb vf (W.setCell ⟨lb, l.length, none⟩ (.int .i64 (k : Int))) W') : KeepsFrom B W W' := by
  have hz : (W.setCell ⟨lb, l.length, none⟩ (.int .i64 (k : Int))).heap.size = W.heap.size := size_setCell _ _ _
  refine ⟨by rw [← hz]; exact hsp.size, fun b o hb ho hc => ?_⟩
  have hne : vf.ownBlock ≠ some b := fun e => by
    obtain ⟨_, _, c2, h2⟩ := hv.found.rowType b e
    rw [ho] at h2
    injection h2 with h2
    subst h2
    cases hc
  exact ((hsp.block b (by rw [hz]; exact (Array.getElem?_eq_some_iff.1 ho).1) (by omega) (by omega) hne).trans (Below.heap_setCell W ⟨lb, l.length, none⟩ _ b (show b ≠ lb by omega))).trans ho
end Go.Proofs.YtkhhbpeheikmfaaDoor

/- What the walks of heights and covers share: boxes, a row in a block, what a call keeps. -/
namespace Go.Proofs.YtkhhbpeheikmfaaDoor
open Go.RowKit Go.Deep Go.Shelf
attribute [local go_sem] Oper.semAt_some

theorem keeps_below {W W' : World} (h : Below W.heap.size W W') : KeepsOthers W W' :=
  ⟨h.size, fun k _ hk _ => (h.block k (Array.getElem?_eq_some_iff.1 hk).1).trans hk⟩
theorem topsOf_nil (g : Nat → Nat) (s : Nat) : topsOf g s [] = 0 := rfl
theorem rowIn_zero (W : World) : RowIn (W.alloc (.cells #[.int .u64 0, .int .u64 0, .int .u64 0, .int .u64 0] 92)) W.heap.size 0 := by
  refine ⟨?_, Nat.two_pow_pos 256⟩
  have h := heap_alloc_new W (.cells #[.int .u64 0, .int .u64 0, .int .u64 0, .int .u64 0] 92)
  simpa [word] using h

theorem boxed_other {W : World} {p q : Nat} {t : TypeId} {u : Value} (h : Boxed W p t u) (hq : p ≠ q) (o : Nat) (v : Value) : Boxed (W.setCell ⟨q, o, none⟩ v) p t u := by
  show (W.setCell ⟨q, o, none⟩ v).heap[p]? = _
  rw [heap_setCell_other _ ⟨q, o, none⟩ p v hq]
  exact h
theorem rowAdd_any (p s k : Nat) (a : Int) (W : World) (ha : a = k) (h : RowIn W p s) (hk : k < 256) :
    Calls Tryd.prog 76 #[.pointer (some ⟨p, 0, none⟩), .int .i64 a] W (Puts ⟨p, k / 64, none⟩ (.int .u64 ((word s (k / 64) ||| 2 ^ (k % 64) : Nat) : Int)) W) := by
  have hcall := add_any p 0 a k (word s (k / 64)) W ha hk (word_lt _ _) (by rw [Nat.zero_add]; exact h.cellAt (by omega)) (h.frozen _)
  rw [Nat.zero_add] at hcall
  exact hcall
end Go.Proofs.YtkhhbpeheikmfaaDoor

/- Inside a round, a region without a defer is walked as outside it. -/
namespace Go.Proofs.YtkhhbpeheikmfaaDoor
open Go.RowKit Go.Deep Go.Shelf

theorem uponIn_round_eq (F : Fence) (l n : Nat) (P : Program) (o : Oper) (a : Act) (next : Act → World → Prop) (Q : Exit → Act → World → Prop) (r : Result Next) :
    o.uponIn F n P a next Q r → o.uponIn (F.inRound l) n P a next Q r := by
  intro h
  cases r with
  | ok x w' => cases x <;> exact h
  | halt x w' => cases x <;> exact h

theorem wpAnyIn_round {F : Fence} {l n : Nat} {P : Program} {md : Region.Mode} {ops : Array Oper} {Q : Exit → Act → World → Prop} (hnd : ∀ (i : Nat) (o : Oper), ops[i]? = some o → ∀ c, o.op ≠ .defer c) :
    ∀ (fuel : Nat) (listed : Array Bool) (a : Act) (w : World), wpAnyIn F n P md ops Q fuel listed a w → wpAnyIn (F.inRound l) n P md ops Q fuel listed a w
  | 0, _, _, _, h => h
  | fuel + 1, listed, a, w, h => by
    refine ⟨h.1, fun i hi => ?_⟩
    have h2 := h.2 i hi
    unfold wpOpIn at h2 ⊢
    cases ho : ops[i]? with
    | none => rw [ho] at h2; exact wpAnyIn_round hnd fuel _ _ _ h2
    | some o =>
      rw [ho] at h2
      dsimp only at h2 ⊢
      split
      · rename_i hw
        rw [if_pos hw] at h2
        have h3 := Oper.wpIn_mono (K' := wpAnyIn (F.inRound l) n P md ops Q fuel (listed.setIfInBounds i true)) (fun a' w' => wpAnyIn_round hnd fuel (listed.setIfInBounds i true) a' w') h2
        unfold Oper.wpIn at h3 ⊢
        rw [Oper.semAt_eq _ _ _ (hnd i o ho)] at h3 ⊢
        exact ⟨h3.1, uponIn_round_eq F l n P o a _ Q _ h3.2⟩
      · rename_i hw
        rw [if_neg hw] at h2
        exact ⟨h2.1, wpAnyIn_round hnd fuel _ _ _ h2.2⟩
theorem noDefer {ops : Array Oper} (h : ops.all (fun o => match o.op with | .defer _ => false | _ => true) = true) (i : Nat) (o : Oper) (ho : ops[i]? = some o) (c : Call) : o.op ≠ .defer c := by
  intro e
  have hm := Array.all_eq_true_iff_forall_mem.1 h o (Array.mem_of_getElem? ho)
  rw [e] at hm
  cases hm
end Go.Proofs.YtkhhbpeheikmfaaDoor

/- The program's search for all monotone functions that go on from a list (funSearch.place). -/
namespace Go.Proofs.YtkhhbpeheikmfaaDoor
open Go.RowKit Go.Deep Go.Shelf
attribute [local go_sem] Oper.semAt_some

/-- A region that only reads, inside a round: one walk in the text's order. -/
theorem quiet_round {F : Fence} {l n : Nat} {P : Program} {id : Nat} {Q : Exit → Act → World → Prop} {a : Act} {w : World} {ops : List Oper} (hro : F.round = none) (hm : P.follows .mixedOrders = true) (hB : Region.lexB .any ops.toArray = true) (hnd : ops.toArray.all (fun o => match o.op with | .defer _ => false | _ => true) = true)
    (h : wpQuietIn F n P ops.toArray (fun w' => ∃ n, w' = w.drewN n) (fun a' => ∀ w', (∃ n, w' = w.drewN n) → Q .normal a' w') ops a) : (Code.region id ops.toArray true).wpIn (F.inRound l) n P Q a w := by
  simp only [Region.lexB, Bool.and_eq_true] at hB
  refine wpIn_region_any hm (wpAnyIn_round (noDefer hnd) _ _ _ _ (wpAnyIn_of_quiet (C := fun w' => ∃ n, w' = w.drewN n) (Q := fun a' => ∀ w', (∃ n, w' = w.drewN n) → Q .normal a' w') hro (fun _ w' hw' h => h w' hw') _ _ _ _ ⟨1, rfl⟩ ?_))
  have := wpAnyQIn_lex (F := F) (n := n) (C := fun w' => ∃ n, w' = w.drewN n) (md := .any) hB.1 ops 0 (Array.replicate ops.toArray.size false) a (by simp) (by simpa using hB.2) h
  simpa using this
/-- What the choices of a row lead to. -/
theorem flat_filter {α β : Type} (p : α → Bool) (g : α → List β) : ∀ l : List α, (l.filter p).flatMap g = l.flatMap fun k => if p k then g k else []
  | [] => rfl
  | a :: l => by
    rw [List.flatMap_cons, ← flat_filter p g l]
    by_cases h : p a = true
    · rw [List.filter_cons_of_pos h, List.flatMap_cons, if_pos h]
    · rw [List.filter_cons_of_neg h, if_neg h, List.nil_append]
theorem flat_elems {β : Type} {r m : Nat} (g : Nat → List β) (hm : m ≤ 256) (hb : ∀ c, r.testBit c = true → c < m) (hn : ∀ c, c < m → r.testBit c = false → g c = []) : (elems r).flatMap g = (List.range m).flatMap g := by
  unfold elems
  rw [flat_filter]
  obtain ⟨d, hd⟩ := Nat.le.dest hm
  rw [← hd, List.range_add, List.flatMap_append]
  rw [show ((List.range d).map (m + ·)).flatMap (fun k => if r.testBit k = true then g k else []) = [] from List.flatMap_eq_nil_iff.2 fun k hk => by
    obtain ⟨q, _, rfl⟩ := List.mem_map.1 hk
    rw [if_neg (fun h => by have := hb _ h; omega)], List.append_nil]
  refine congrArg List.flatten (List.map_congr_left fun k hk => ?_)
  rw [List.mem_range] at hk
  by_cases h : r.testBit k = true
  · rw [if_pos h]
  · rw [if_neg h, hn k hk (Bool.not_eq_true _ ▸ h)]

/-- What place leaves. -/
def PlaceP (sb p p' G lb lo lim : Nat) (rows rows' : Rows2) (l : List Nat) (RES : List (List Nat)) (vf : Value) (w : World) (e : Ending) (w' : World) : Prop :=
  e = .returned (.tuple #[]) ∧ ∃ vf', PW sb p p' G lb lo lim rows rows' l RES vf' w' ∧ Spared sb lb vf w w' ∧ Fresh vf vf' w

/-- What has been found when some choices have been tried. -/
noncomputable def fnd (rows rows' : Rows2) (lim f : Nat) (l : List Nat) (R : List (List Nat)) (ks : List Nat) : List (List Nat) := (R ++ ks.flatMap fun k => extL rows'.length (monN (Bf rows) (Bf rows')) f (l ++ [k])).take (lim + 1)

set_option maxRecDepth 100000 in
set_option maxHeartbeats 4000000 in
theorem place_round (sb p p' G lb lo lim n₀ : Nat) (rows rows' : Rows2) (hok : Ok rows) (hok' : Ok rows') (hs : n₀ ≤ sb ∧ sb < lo) (hlb : n₀ ≤ lb ∧ lb < lo ∧ lb ≠ sb) (hp1 : p < lo ∧ p ≠ sb ∧ p ≠ lb) (hp2 : p' < lo ∧ p' ≠ sb ∧ p' ≠ lb) (hp3 : G < lo ∧ G ≠ sb ∧ G ≠ lb) (htab : 0 < n₀)
    (f : Nat) (IH : ∀ (l : List Nat) (R : List (List Nat)) (vf : Value) (ob oC : Nat) (O : Nat → Nat) (w : World), PW sb p p' G lb lo lim rows rows' l R vf w → l.length + f = rows.length → (∀ x ∈ l, x < rows'.length) → MonN (Bf rows) (Bf rows') l → Cho rows rows' l O → RwAt w ob rows.length O → ob ≠ sb → ob ≠ lb → R.length ≤ lim → lo ≤ w.heap.size → Tab w →
      Calls Tryd.prog 73 #[.pointer (some ⟨sb, 0, none⟩), .int .i64 (l.length : Int), .slice (some ⟨ob, 0, none⟩) rows.length oC] w (PlaceP sb p p' G lb lo lim rows rows' l ((R ++ extL rows'.length (monN (Bf rows) (Bf rows')) f l).take (lim + 1)) vf w))
    (l : List Nat) (R : List (List Nat)) (vf : Value) (ob oC : Nat) (O : Nat → Nat) (w : World) (hw : PW sb p p' G lb lo lim rows rows' l R vf w) (hlf : l.length + (f + 1) = rows.length) (hx : ∀ x ∈ l, x < rows'.length) (hM : MonN (Bf rows) (Bf rows') l) (hC : Cho rows rows' l O) (hO : RwAt w ob rows.length O) (ho : ob ≠ sb ∧ ob ≠ lb) (hR : R.length ≤ lim) (hlo : lo ≤ w.heap.size) (hT : Tab w) :
    Calls Tryd.prog 73 #[.pointer (some ⟨sb, 0, none⟩), .int .i64 (l.length : Int), .slice (some ⟨ob, 0, none⟩) rows.length oC] w (PlaceP sb p p' G lb lo lim rows rows' l ((R ++ extL rows'.length (monN (Bf rows) (Bf rows')) (f + 1) l).take (lim + 1)) vf w) := by
  have hmx : Tryd.prog.follows .mixedOrders = true := by kernel_rfl
  have hb0 := (((Below.refl w.heap.size w).alloc (Nat.le_refl _) (.cells #[.pointer (some ⟨sb, 0, none⟩)] 119)).alloc (by simp) (.cells #[.int .i64 (l.length : Int)] 3)).alloc (by simp; omega) (.cells #[.slice (some ⟨ob, 0, none⟩) rows.length oC] 105)
  have hx0 := ((Boxed.new w 119 (.pointer (some ⟨sb, 0, none⟩))).alloc (.cells #[.int .i64 (l.length : Int)] 3)).alloc (.cells #[.slice (some ⟨ob, 0, none⟩) rows.length oC] 105)
  have hx1 := (Boxed.new (w.alloc (.cells #[.pointer (some ⟨sb, 0, none⟩)] 119)) 3 (.int .i64 (l.length : Int))).alloc (.cells #[.slice (some ⟨ob, 0, none⟩) rows.length oC] 105)
  have hx2 := Boxed.new ((w.alloc (.cells #[.pointer (some ⟨sb, 0, none⟩)] 119)).alloc (.cells #[.int .i64 (l.length : Int)] 3)) 105 (.slice (some ⟨ob, 0, none⟩) rows.length oC)
  simp only [World.size_alloc, Nat.add_assoc, Nat.reduceAdd] at hx1 hx2
  obtain ⟨W2, hW2⟩ : ∃ W2, W2 = ((w.alloc (.cells #[.pointer (some ⟨sb, 0, none⟩)] 119)).alloc (.cells #[.int .i64 (l.length : Int)] 3)).alloc (.cells #[.slice (some ⟨ob, 0, none⟩) rows.length oC] 105) := ⟨_, rfl⟩
  rw [← hW2] at hb0 hx0 hx1 hx2
  have hPR : PR sb p p' G lb lo lim ob rows rows' l O oC vf w R W2 := ⟨⟨vf, hw.step hb0, .inl rfl⟩, Spared.of_below hb0, hO.below hb0 hO.lt, hx0, hx1, hx2⟩
  have hT2 := hT.below hb0
  have HPR := Lib.hid hPR
  have HT := Lib.hid hT2
  have hcells := hPR.choices.cells (show l.length < rows.length by omega)
  have hlist := (hw.step hb0).srch.list
  have hne : ((l.length : Int) == (rows.length : Int)) = false := by
    rw [beq_eq_false_iff_ne]; omega
  have hn200 := hok.len
  have hil : (l.length : Int) < (rows.length : Int) := by omega
  have hi0 : (0 : Int) ≤ (l.length : Int) := by omega
  have HLF := Lib.hid hlf
  have HT0 := Lib.hid hT
  have HVB := Lib.hid (show ∀ b, vf.ownBlock = some b → n₀ ≤ b from fun b e => by have := (hw.found.rowType b e).1; omega)
  clear hlf hPR hT hT2 hb0
  refine (callsIn_wide (n := 8)).1 ?_
  refine callsIn_of_wp_marks Tryd.func73 rfl trivial ?_ rfl
  simp only [Tryd.ntmps73, List.size_toArray, List.length_cons, List.length_nil, Nat.reduceAdd, Nat.reduceSub, Array.replicate_succ, Array.replicate_zero, List.push_toArray, List.append_toArray, List.nil_append, List.cons_append]
  gi_wp2
  simp only [Nat.add_assoc, Nat.reduceAdd]
  rw [← hW2]
  have hb0c := hx0.cell
  have hb1c := hx1.cell
  have hb2c := hx2.cell
  clear hW2
  gi_big_quiet_th_o (fail)
  have hbq := below_drewN' W2 nq W2.heap.size
  have P3 := Lib.hid (HPR.out.step hbq)
  have T3 := Lib.hid (HT.out.below hbq)
  obtain ⟨W3, hW3⟩ : ∃ W3, W3 = W2.drewN nq := ⟨_, rfl⟩
  rw [← hW3] at P3 T3 ⊢
  clear hbq hb0c hb1c hb2c hcells hlist HPR HT hx0 hx1 hx2 hW3
  have hb1c := P3.out.b1.cell
  have hb2c := P3.out.b2.cell
  obtain ⟨c0, c1, c2, c3⟩ := P3.out.choices.cells (show l.length < rows.length by omega)
  gi_wp2
  refine ⟨trivial, (callsIn_wide.2 (elements_any (O l.length) _)).mono ?_⟩
  rintro e w1 ⟨rfl, rfl⟩
  gi_wp2
  have hr4 := RowIn.alloc W3 (P3.out.choices.bits (show l.length < rows.length by omega))
  have hb4 := (Below.refl W3.heap.size W3).alloc (Nat.le_refl _) (.cells #[.int .u64 ((word (O l.length) 0 : Nat) : Int), .int .u64 ((word (O l.length) 1 : Nat) : Int), .int .u64 ((word (O l.length) 2 : Nat) : Int), .int .u64 ((word (O l.length) 3 : Nat) : Int)] 92)
  have P4 := Lib.hid (P3.out.step hb4)
  have T4 := Lib.hid (T3.out.below hb4)
  have hz3 := P3.out.spared.size
  have hrb := P3.out.choices.bits (show l.length < rows.length by omega)
  have hz4 : W3.heap.size + 1 = (W3.alloc (.cells #[.int .u64 ((word (O l.length) 0 : Nat) : Int), .int .u64 ((word (O l.length) 1 : Nat) : Int), .int .u64 ((word (O l.length) 2 : Nat) : Int), .int .u64 ((word (O l.length) 3 : Nat) : Int)] 92)).heap.size := (World.size_alloc _ _).symm
  revert hr4 P4 T4 hz4
  generalize W3.alloc (.cells #[.int .u64 ((word (O l.length) 0 : Nat) : Int), .int .u64 ((word (O l.length) 1 : Nat) : Int), .int .u64 ((word (O l.length) 2 : Nat) : Int), .int .u64 ((word (O l.length) 3 : Nat) : Int)] 92) = W4
  intro hr4 P4 T4 hz4
  clear hb4 hb1c hb2c c0 c1 c2 c3
  have hnil : fnd rows rows' lim f l R [] = R := by
    unfold fnd
    rw [List.flatMap_nil, List.append_nil, List.take_of_length_le (by omega)]
  have hnl := hs.2
  have hbsz : w.heap.size ≤ W4.heap.size := by omega
  have HEND : Hid (∀ W, PR sb p p' G lb lo lim ob rows rows' l O oC vf w (fnd rows rows' lim f l R (elems (O l.length))) W → ∃ vf', PW sb p p' G lb lo lim rows rows' l ((R ++ extL rows'.length (monN (Bf rows) (Bf rows')) (f + 1) l).take (lim + 1)) vf' W ∧ Spared sb lb vf w W ∧ Fresh vf vf' w) := Lib.hid (fun W h => by
    obtain ⟨vf', h1, h2⟩ := h.main
    have hll : l.length < rows.length := by have := HLF.out; omega
    refine ⟨vf', ?_, h.spared, h2⟩
    unfold fnd at h1
    rw [flat_elems (m := rows'.length) _ (by have := hok'.len; omega) (fun c hc => ((hC.fine hll).1 hc).1) (fun c hc hn => ext_notfine (by
      cases e : fineN (Bf rows) (Bf rows') l c with
      | false => rfl
      | true => rw [(hC.fine hll).2 ⟨hc, e⟩] at hn; cases hn))] at h1
    exact h1)
  refine wpIn_rangeFunc_ownG rfl (by omega) (gf := 96) (lb := #[.pointer (some ⟨W3.heap.size, 0, none⟩)]) rfl trivial (enters_of Tryd.func96 (by kernel_rfl) rfl)
    (elements1_stops _ n₀ W3.heap.size (O l.length) W4 (by omega) hrb hr4 (by omega) htab T4.out) belowK_t (belowK_b (by omega)) (Below.refl _ _) (fun _ => rfl)
    (fun pre W => PR sb p p' G lb lo lim ob rows rows' l O oC vf w (fnd rows rows' lim f l R (natsOf pre)) W)
    (fun c pre W => c = .ret ∧ ∃ ini last, pre = ini ++ [last] ∧ lim < (fnd rows rows' lim f l R (natsOf ini)).length ∧ PR sb p p' G lb lo lim ob rows rows' l O oC vf w (fnd rows rows' lim f l R (natsOf ini)) W)
    (PR.own hbsz) (fun c _ _ _ _ hs hg hr => by obtain ⟨e0, ini, last, e1, e2, e3⟩ := hs; exact ⟨e0, ini, last, e1, e2, e3.keptG hg fun r e => ⟨Nat.le_trans hbsz (hr r e).1, (hr r e).2⟩⟩)
    (by rw [show natsOf ([] : List (Bt (O l.length))) = [] from rfl, hnil]; exact P4.out)
    ?a1 ?assign ?body ?done ?stop
  case assign =>
    intro ll x W K hK
    unfold encBt
    gi_wp2
    exact hK
  case body =>
    rintro ll pre x W hP hlen
    obtain ⟨k, hkm⟩ := x
    dsimp only
    obtain ⟨vc, hv, hf⟩ := hP.main
    have hkl : k < rows'.length ∧ fineN (Bf rows) (Bf rows') l k = true := (hC.fine (by omega)).1 ((mem_elems hrb).1 hkm)
    obtain ⟨Rp, hRp⟩ : ∃ Rp, Rp = fnd rows rows' lim f l R (natsOf pre) := ⟨_, rfl⟩
    have hRl : Rp.length ≤ lim + 1 := by rw [hRp]; unfold fnd; rw [List.length_take]; omega
    rw [← hRp] at hP hv
    obtain ⟨ao, CO, rfl⟩ := hv.found.form
    have hc0 := hP.b0.cell
    have hc3 := hv.srch.limit
    have hc5 := hv.srch.found
    have HP := Lib.hid hP
    have HV := Lib.hid hv
    have HF := Lib.hid hf
    have HRP := Lib.hid hRp
    clear hP hv hf hRp hlen
    by_cases hfull : lim < Rp.length
    · have hgt : (lim : Int) < (Rp.length : Int) := by omega
      gi_wp2
      refine quiet_round rfl (by assumption) (by kernel_rfl) (by kernel_rfl) ?_
      repeat (gi_big_quiet_step (fail))
      refine wpQuietIn_nil ?_
      intro _ hw'
      obtain ⟨nq, hw''⟩ := hw'
      subst hw''
      have hbq := below_drewN' W nq W.heap.size
      have PQ := Lib.hid (HP.out.step hbq)
      have VQ := Lib.hid (HV.out.step hbq)
      have hbk := Lib.hid (keeps_below hbq)
      have hbn := Lib.hid (below_drewN' W nq n₀)
      obtain ⟨Wq, hWq⟩ : ∃ Wq, Wq = W.drewN nq := ⟨_, rfl⟩
      rw [← hWq] at PQ VQ hbk hbn ⊢
      clear hbq hWq hc0 hc3 hc5 HP HV
      gi_wp2
      exact ⟨hbk.out.from _, rfl, pre, _, rfl, by rw [← HRP.out]; exact hfull, by rw [← HRP.out]; exact PQ.out⟩
    · have hgt : ¬ (lim : Int) < (Rp.length : Int) := by omega
      gi_wp2
      refine quiet_round rfl (by assumption) (by kernel_rfl) (by kernel_rfl) ?_
      repeat (gi_big_quiet_step (fail))
      refine wpQuietIn_nil ?_
      intro _ hw'
      obtain ⟨nq, hw''⟩ := hw'
      subst hw''
      have hbq := below_drewN' W nq W.heap.size
      have PQ := Lib.hid (HP.out.step hbq)
      have VQ := Lib.hid (HV.out.step hbq)
      have hbk := Lib.hid (keeps_below hbq)
      have hbn := Lib.hid (below_drewN' W nq n₀)
      obtain ⟨Wq, hWq⟩ : ∃ Wq, Wq = W.drewN nq := ⟨_, rfl⟩
      rw [← hWq] at PQ VQ hbk hbn ⊢
      clear hbq hWq hc0 hc3 hc5 HP HV
      have hc0 := PQ.out.b0.cell
      have hc1 := PQ.out.b1.cell
      have hc2 := PQ.out.b2.cell
      have HNA := Lib.hid (narrowed_any sb p p' G lb lim (.slice ao Rp.length CO) rows rows' ob oC l.length k O Wq VQ.out.srch VQ.out.grids PQ.out.choices hok hok' (by omega) hkl.1)
      gi_wp2
      refine ⟨trivial, (CallsIn.inRound ll (callsIn_wide.2 HNA.out)).mono ?_⟩
      clear HNA
      rintro e W5 ⟨hres, hb5⟩
      have P5 := Lib.hid (PQ.out.step hb5)
      have V5 := Lib.hid (VQ.out.step hb5)
      have K5 := Lib.hid (hbk.out.trans (keeps_below hb5))
      have hq5 := PQ.out.spared.size
      have N5 := Lib.hid (hbn.out.trans (hb5.mono (show n₀ ≤ Wq.heap.size by omega)))
      clear hb5 hbk hbn hc0 hc1 hc2 PQ VQ
      rcases hres with ⟨hyes, g, C5, rfl, hg5, hr5⟩ | ⟨hno, rfl⟩
      · obtain ⟨C, fl, hrow, hCn, _⟩ := V5.out.list
        have hd5 := below_drewN' W5 1 W5.heap.size
        have P6 := Lib.hid (P5.out.step hd5)
        have V6 := Lib.hid (V5.out.step hd5)
        have R6 := Lib.hid (hr5.below hd5 hr5.lt)
        have K6 := Lib.hid (K5.out.trans (keeps_below hd5))
        have N6 := Lib.hid (N5.out.trans (below_drewN' W5 1 n₀))
        have hz5 := P5.out.spared.size
        have hlc := hrow.cell (show l.length < C by omega)
        have hlf := hrow.frozen l.length
        have hc0 := P5.out.b0.cell
        have hc1 := P5.out.b1.cell
        have hc4 := V5.out.srch.list
        have hglb : g ≠ lb := by omega
        have HIH := Lib.hid (show Calls Tryd.prog 73 #[.pointer (some ⟨sb, 0, none⟩), .int .i64 ((l.length : Int) + 1), .slice (some ⟨g, 0, none⟩) rows.length C5] (W5.drew.setCell ⟨lb, l.length, none⟩ (.int .i64 (k : Int))) (PlaceP sb p p' G lb lo lim rows rows' (l ++ [k]) ((Rp ++ extL rows'.length (monN (Bf rows) (Bf rows')) f (l ++ [k])).take (lim + 1)) (.slice ao Rp.length CO) (W5.drew.setCell ⟨lb, l.length, none⟩ (.int .i64 (k : Int)))) from by
          have hIH := IH (l ++ [k]) Rp (.slice ao Rp.length CO) g C5 (narO rows rows' l.length k O) (W5.drew.setCell ⟨lb, l.length, none⟩ (.int .i64 (k : Int))) (V6.out.chosen k hlb.2.2 hp1.2.2 hp2.2.2 hp3.2.2 hlb.2.1) (by rw [List.length_append, List.length_singleton]; have := HLF.out; omega)
            (fun x h => (List.mem_append.1 h).elim (hx x) (fun e => by rw [List.mem_singleton] at e; rw [e]; exact hkl.1)) (hM.snoc hkl.2 (up_refl hok' hkl.1)) (hC.next hok hok' (by omega) hkl.1) (R6.out.block (Below.heap_setCell _ _ _ g hglb)) (by omega) hglb (by omega) (by rw [size_setCell]; exact Nat.le_trans hlo (P6.out.spared.size)) (tab_keep HT0.out ((P6.out.spared.under hs.1 hlb.1 HVB.out (by omega)).setCell (p := ⟨lb, l.length, none⟩) hlb.1 _) htab)
          rw [show (((l ++ [k]).length : Nat) : Int) = (l.length : Int) + 1 by rw [List.length_append, List.length_singleton]; rfl] at hIH
          exact hIH)
        have HFIN : Hid (∀ W7 vf', PW sb p p' G lb lo lim rows rows' (l ++ [k]) ((Rp ++ extL rows'.length (monN (Bf rows) (Bf rows')) f (l ++ [k])).take (lim + 1)) vf' W7 → Spared sb lb (.slice ao Rp.length CO) (W5.drew.setCell ⟨lb, l.length, none⟩ (.int .i64 (k : Int))) W7 → Fresh (.slice ao Rp.length CO) vf' (W5.drew.setCell ⟨lb, l.length, none⟩ (.int .i64 (k : Int))) →
            KeepsFrom W4.heap.size W W7 ∧ Below n₀ W W7 ∧ PR sb p p' G lb lo lim ob rows rows' l O oC vf w (fnd rows rows' lim f l R (natsOf (pre ++ [⟨k, hkm⟩]))) W7) := Lib.hid (fun W7 vf' h7 s7 f7 => by
          refine ⟨(K6.out.from _).trans (V6.out.keeps (by omega) (by omega) s7), ?_, ?_⟩
          · refine N6.out.trans (Below.trans (Below.setCell (Below.refl _ _) (p := ⟨lb, l.length, none⟩) hlb.1 _) (s7.under hs.1 hlb.1 (fun b e => ?_) ?_))
            · have := (V6.out.found.rowType b e).1; omega
            · rw [size_setCell]; exact Nat.le_trans (by omega) P6.out.spared.size
          · have := P6.out.called V6.out HF.out h7 s7 f7 (by omega) (by omega) ho
            rw [natsOf_snoc]
            rw [HRP.out] at this
            unfold fnd at this ⊢
            rw [take_more, List.append_assoc] at this
            rw [List.flatMap_append, List.flatMap_singleton]
            exact this)
        clear hrow hd5 hr5 P6 V6 R6 K6 N6 K5 N5
        gi_wp2
        refine wpIn_region_any hmx (wpAnyIn_round (F := Fence.wide) (noDefer (by kernel_rfl)) _ _ _ _ ?_)
        try (change wpAnyIn _ _ _ _ _ _ _ _ _ (World.drew _))
        refine wpAnyIn_take (i := 5) (v := .int .i64 (k : Int)) rfl rfl (by kernel_rfl) (by kernel_rfl) (by kernel_rfl) (fun _ _ _ h => h) ⟨Or.inl ⟨by rfl, (by intro w; go_simp)⟩, fun _ => rfl⟩ ?_
        refine wpAnyIn_ready (rs := [0, 4]) (by kernel_rfl) (by simp) ?_
        refine AllReadyIn.cons rfl (fun K hK => ?_) ?_
        · go_simp
          try (refine hK _ _ ?_; clear hK K)
          refine wpAnyIn_take (i := 1) (v := .pointer (some ⟨sb, 0, none⟩)) rfl rfl (by kernel_rfl) (by kernel_rfl) (by kernel_rfl) (fun _ _ _ h => h) ⟨Or.inl ⟨by rfl, (by intro w; go_simp)⟩, fun _ => rfl⟩ ?_
          refine wpAnyIn_take (i := 2) (v := .pointer (some ⟨sb, 4, none⟩)) rfl rfl (by kernel_rfl) (by kernel_rfl) (by kernel_rfl) (fun _ _ _ h => h) ⟨Or.inl ⟨by rfl, (by intro w; go_simp)⟩, fun _ => rfl⟩ ?_
          refine wpAnyIn_ready (rs := [3, 4]) (by kernel_rfl) (by simp) ?_
          refine AllReadyIn.cons rfl (fun K hK => ?_) ?_
          · go_simp
            try (refine hK _ _ ?_; clear hK K)
            refine wpAnyIn_ready (rs := [4]) (by kernel_rfl) (by simp) ?_
            refine AllReadyIn.cons rfl (fun K hK => ?_) ?_
            · go_simp
              try (refine hK _ _ ?_; clear hK K)
              refine wpAnyIn_ready (rs := [6]) (by kernel_rfl) (by simp) ?_
              refine AllReadyIn.cons rfl (fun K hK => ?_) ?_
              · go_simp
                try (refine hK _ _ ?_; clear hK K)
                refine wpAnyIn_ready (rs := [7]) (by kernel_rfl) (by simp) ?_
                refine AllReadyIn.cons rfl (fun K hK => ?_) ?_
                · go_simp
                  try (refine hK _ _ ?_; clear hK K)
                  refine wpAnyIn_done (by kernel_rfl) ?_ _
                  gi_wp2
                  refine ⟨trivial, (CallsIn.inRound ll (callsIn_wide.2 HIH.out)).mono ?_⟩
                  rintro e W7 ⟨rfl, vf', hp7, hs7, hf7⟩
                  gi_wp2
                  exact HFIN.out W7 vf' hp7 hs7 hf7
                exact AllReadyIn.nil
              exact AllReadyIn.nil
            exact AllReadyIn.nil
          refine AllReadyIn.cons rfl (fun K hK => ?_) ?_
          · go_simp
            try (refine hK _ _ ?_; clear hK K)
            refine wpAnyIn_ready (rs := [3]) (by kernel_rfl) (by simp) ?_
            refine AllReadyIn.cons rfl (fun K hK => ?_) ?_
            · go_simp
              try (refine hK _ _ ?_; clear hK K)
              refine wpAnyIn_ready (rs := [6]) (by kernel_rfl) (by simp) ?_
              refine AllReadyIn.cons rfl (fun K hK => ?_) ?_
              · go_simp
                try (refine hK _ _ ?_; clear hK K)
                refine wpAnyIn_ready (rs := [7]) (by kernel_rfl) (by simp) ?_
                refine AllReadyIn.cons rfl (fun K hK => ?_) ?_
                · go_simp
                  try (refine hK _ _ ?_; clear hK K)
                  refine wpAnyIn_done (by kernel_rfl) ?_ _
                  gi_wp2
                  refine ⟨trivial, (CallsIn.inRound ll (callsIn_wide.2 HIH.out)).mono ?_⟩
                  rintro e W7 ⟨rfl, vf', hp7, hs7, hf7⟩
                  gi_wp2
                  exact HFIN.out W7 vf' hp7 hs7 hf7
                exact AllReadyIn.nil
              exact AllReadyIn.nil
            exact AllReadyIn.nil
          exact AllReadyIn.nil
        refine AllReadyIn.cons rfl (fun K hK => ?_) ?_
        · go_simp
          try (refine hK _ _ ?_; clear hK K)
          refine wpAnyIn_ready (rs := [0]) (by kernel_rfl) (by simp) ?_
          refine AllReadyIn.cons rfl (fun K hK => ?_) ?_
          · go_simp
            try (refine hK _ _ ?_; clear hK K)
            refine wpAnyIn_take (i := 1) (v := .pointer (some ⟨sb, 0, none⟩)) rfl rfl (by kernel_rfl) (by kernel_rfl) (by kernel_rfl) (fun _ _ _ h => h) ⟨Or.inl ⟨by rfl, (by intro w; go_simp)⟩, fun _ => rfl⟩ ?_
            refine wpAnyIn_take (i := 2) (v := .pointer (some ⟨sb, 4, none⟩)) rfl rfl (by kernel_rfl) (by kernel_rfl) (by kernel_rfl) (fun _ _ _ h => h) ⟨Or.inl ⟨by rfl, (by intro w; go_simp)⟩, fun _ => rfl⟩ ?_
            refine wpAnyIn_ready (rs := [3]) (by kernel_rfl) (by simp) ?_
            refine AllReadyIn.cons rfl (fun K hK => ?_) ?_
            · go_simp
              try (refine hK _ _ ?_; clear hK K)
              refine wpAnyIn_ready (rs := [6]) (by kernel_rfl) (by simp) ?_
              refine AllReadyIn.cons rfl (fun K hK => ?_) ?_
              · go_simp
                try (refine hK _ _ ?_; clear hK K)
                refine wpAnyIn_ready (rs := [7]) (by kernel_rfl) (by simp) ?_
                refine AllReadyIn.cons rfl (fun K hK => ?_) ?_
                · go_simp
                  try (refine hK _ _ ?_; clear hK K)
                  refine wpAnyIn_done (by kernel_rfl) ?_ _
                  gi_wp2
                  refine ⟨trivial, (CallsIn.inRound ll (callsIn_wide.2 HIH.out)).mono ?_⟩
                  rintro e W7 ⟨rfl, vf', hp7, hs7, hf7⟩
                  gi_wp2
                  exact HFIN.out W7 vf' hp7 hs7 hf7
                exact AllReadyIn.nil
              exact AllReadyIn.nil
            exact AllReadyIn.nil
          exact AllReadyIn.nil
        exact AllReadyIn.nil
      · have hnone := hC.none hok hok' (f := f) (by have := HLF.out; omega) hkl.1 hno
        gi_wp2
        refine ⟨K5.out.from _, N5.out, ?_⟩
        show PR sb p p' G lb lo lim ob rows rows' l O oC vf w (fnd rows rows' lim f l R (natsOf (pre ++ [⟨k, hkm⟩]))) W5
        rw [natsOf_snoc]
        have := P5.out
        rw [HRP.out] at this
        unfold fnd at this ⊢
        rw [List.flatMap_append, List.flatMap_singleton, hnone, List.append_nil]
        exact this
  case done =>
    rintro D ys W hD rfl hP hK
    rw [natsOf_all] at hP
    have HP := Lib.hid (hP.keptG (grownBy_putObj' W D (.deferred none)) (fun r e => by cases e; exact ⟨by omega, _, hK, rfl⟩))
    clear hP
    gi_wp2
    refine ⟨by simp, .inl ⟨_, _, rfl, run_takeDeferred hK, ?_⟩⟩
    exact ⟨.tuple #[], results_none rfl _ _ _, rfl, HEND.out _ HP.out⟩
  case stop =>
    rintro D c pre W hD hpre ⟨rfl, ini, last, e1, e2, hP⟩ hK
    obtain ⟨rest, hrest⟩ := hpre
    have hall : fnd rows rows' lim f l R (natsOf ini) = fnd rows rows' lim f l R (elems (O l.length)) := by
      rw [← natsOf_all, ← hrest, e1]
      unfold fnd at e2 ⊢
      rw [show natsOf (ini ++ [last] ++ rest) = natsOf ini ++ natsOf (last :: rest) by simp [natsOf], List.flatMap_append, ← List.append_assoc, take_full _ e2]
    rw [hall] at hP
    have HP := Lib.hid (hP.keptG (grownBy_putObj' W D (.deferred none)) (fun r e => by cases e; exact ⟨by omega, _, hK, rfl⟩))
    clear hP
    gi_wp2
    refine ⟨by simp, .inl ⟨_, _, rfl, run_takeDeferred hK, ?_⟩⟩
    exact ⟨.tuple #[], results_none rfl _ _ _, rfl, HEND.out _ HP.out⟩
theorem place_any (sb p p' G lb lo lim n₀ : Nat) (rows rows' : Rows2) (hok : Ok rows) (hok' : Ok rows') (hlim : lim ≤ 5000) (hs : n₀ ≤ sb ∧ sb < lo) (hlb : n₀ ≤ lb ∧ lb < lo ∧ lb ≠ sb) (hp1 : p < lo ∧ p ≠ sb ∧ p ≠ lb) (hp2 : p' < lo ∧ p' ≠ sb ∧ p' ≠ lb) (hp3 : G < lo ∧ G ≠ sb ∧ G ≠ lb) (htab : 0 < n₀) :
    ∀ (f : Nat) (l : List Nat) (R : List (List Nat)) (vf : Value) (ob oC : Nat) (O : Nat → Nat) (w : World), PW sb p p' G lb lo lim rows rows' l R vf w → l.length + f = rows.length → (∀ x ∈ l, x < rows'.length) → MonN (Bf rows) (Bf rows') l → Cho rows rows' l O → RwAt w ob rows.length O → ob ≠ sb → ob ≠ lb → R.length ≤ lim → lo ≤ w.heap.size → Tab w →
      Calls Tryd.prog 73 #[.pointer (some ⟨sb, 0, none⟩), .int .i64 (l.length : Int), .slice (some ⟨ob, 0, none⟩) rows.length oC] w (PlaceP sb p p' G lb lo lim rows rows' l ((R ++ extL rows'.length (monN (Bf rows) (Bf rows')) f l).take (lim + 1)) vf w)
  | 0, l, R, vf, ob, oC, O, w, hw, hl, hx, hM, _, _, _, _, hR, hlo, _ => by
    have hn := hok.len
    have hn' := hok'.len
    have := place_end sb p p' G lb lo lim ob oC rows rows' l R vf w hw (by omega) ⟨by omega, by omega, fun x h => by have := hx x h; omega⟩ (by omega) hlo hs.2 ⟨hlb.2.1, hlb.2.2⟩ ⟨hp1.1, hp1.2.1⟩ ⟨hp2.1, hp2.2.1⟩ ⟨hp3.1, hp3.2.1⟩
    refine this.mono ?_
    rintro e w' ⟨rfl, vf', h1, h2, h3⟩
    refine ⟨rfl, vf', ?_, h2, h3⟩
    rw [ext_end hM, List.take_of_length_le (by rw [List.length_append, List.length_singleton]; omega)]
    exact h1
  | f + 1, l, R, vf, ob, oC, O, w, hw, hl, hx, hM, hC, hO, ho1, ho2, hR, hlo, hT =>
    place_round sb p p' G lb lo lim n₀ rows rows' hok hok' hs hlb hp1 hp2 hp3 htab f (place_any sb p p' G lb lo lim n₀ rows rows' hok hok' hlim hs hlb hp1 hp2 hp3 htab f) l R vf ob oC O w hw hl hx hM hC hO ⟨ho1, ho2⟩ hR hlo hT
end Go.Proofs.YtkhhbpeheikmfaaDoor
