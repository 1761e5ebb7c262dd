/- Projection pairs and the greatest elements that go below, in numbers. -/
import Derived.Test.YtpjkmiinpjhdnaaDoorImplFun
namespace Go.Proofs.YtpjkmiinpjhdnaaDoor
open Go.RowKit Go.Deep

theorem dom_ok {rows : Rows2} (h : domB rows = true) : Ok rows :=
  ok_of_valid (show validB rows = true by unfold domB at h; rw [Bool.and_eq_true] at h; exact h.1)
theorem up_anti {rows : Rows2} (h : Ok rows) {a b : Nat} (ha : a < rows.length) (hb : b < rows.length) (h1 : upB rows a b = true) (h2 : upB rows b a = true) : a = b := by
  rw [← upB_grid h ha] at h1
  rw [← upB_grid h hb] at h2
  by_cases e : a = b
  · exact e
  · rw [h.anti a b ha h1 (fun h => e h.symm)] at h2
    cases h2
theorem up_trans {rows : Rows2} (h : Ok rows) {a b c : Nat} (ha : a < rows.length) (hb : b < rows.length) (h1 : upB rows a b = true) (h2 : upB rows b c = true) : upB rows a c = true := by
  rw [← upB_grid h ha] at h1 ⊢
  rw [← upB_grid h hb] at h2
  exact h.trans a b ha h1 c h2
theorem up_refl {rows : Rows2} (h : Ok rows) {a : Nat} (ha : a < rows.length) : upB rows a a = true := by
  rw [← upB_grid h ha]
  exact h.own a ha

/-- What a function has for an element. -/
def atN (f : List Int) (i : Nat) : Nat := (f.getD i 0).toNat
theorem Mono.lt {rows rows' : Rows2} {f : List Int} (h : Mono rows rows' f) {i : Nat} (hi : i < f.length) : atN f i < rows'.length ∧ f.getD i 0 = (atN f i : Int) := by
  have hm := h.2.1 (f.getD i 0) (by rw [getD_lt 0 hi]; exact List.getElem_mem _)
  unfold atN
  omega
theorem Mono.up {rows rows' : Rows2} {f : List Int} (h : Mono rows rows' f) {a b : Nat} (ha : a < rows.length) (hb : b < rows.length) (hab : upB rows a b = true) : upB rows' (atN f a) (atN f b) = true := by
  have h1 := h.2.2 a b ha hb hab
  rw [(h.lt (i := b) (by rw [h.1]; exact hb)).2] at h1
  exact h1

/-- The lists go up and down as those of a projection pair do. -/
def PairP (rows' : Rows2) (f g : List Int) : Prop :=
  (∀ i, i < f.length → atN g (atN f i) = i) ∧ ∀ k, k < g.length → upB rows' (atN f (atN g k)) k = true
open Classical in
noncomputable def pairI (rows' : Rows2) (f g : List Int) : Bool := decide (PairP rows' f g)
noncomputable def pairB (rows rows' : Rows2) (f g : List Int) : Bool := monoB rows rows' f && monoB rows' rows g && pairI rows' f g
theorem pairI_yes {rows' : Rows2} {f g : List Int} (h : PairP rows' f g) : pairI rows' f g = true := by classical exact decide_eq_true h
theorem pairI_bad1 {rows' : Rows2} {f g : List Int} {i : Nat} (hi : i < f.length) (h : atN g (atN f i) ≠ i) : pairI rows' f g = false := by classical exact decide_eq_false fun hp => h (hp.1 i hi)
theorem pairI_bad2 {rows' : Rows2} {f g : List Int} {k : Nat} (hk : k < g.length) (h : upB rows' (atN f (atN g k)) k = false) : pairI rows' f g = false := by classical exact decide_eq_false fun hp => by rw [hp.2 k hk] at h; cases h
theorem pairB_iff {rows rows' : Rows2} {f g : List Int} : pairB rows rows' f g = true ↔ domB rows = true ∧ domB rows' = true ∧ Mono rows rows' f ∧ Mono rows' rows g ∧ PairP rows' f g := by
  classical
  unfold pairB monoB monoI pairI
  simp only [Bool.and_eq_true, decide_eq_true_eq]
  constructor
  · rintro ⟨⟨⟨⟨h1, h2⟩, h3⟩, ⟨_, h4⟩⟩, h5⟩; exact ⟨h1, h2, h3, h4, h5⟩
  · rintro ⟨h1, h2, h3, h4, h5⟩; exact ⟨⟨⟨⟨h1, h2⟩, h3⟩, ⟨⟨h2, h1⟩, h4⟩⟩, h5⟩

/-- m is the greatest element that the function takes to one below k. -/
def Great (rows rows' : Rows2) (f : List Int) (k m : Nat) : Prop :=
  m < rows.length ∧ upB rows' (atN f m) k = true ∧ ∀ i, i < rows.length → upB rows' (atN f i) k = true → upB rows i m = true
theorem Great.uniq {rows rows' : Rows2} {f : List Int} {k m m' : Nat} (hok : Ok rows) (h : Great rows rows' f k m) (h' : Great rows rows' f k m') : m = m' :=
  up_anti hok h.1 h'.1 (h'.2.2 m h.1 h.2.1) (h.2.2 m' h'.1 h'.2.1)
theorem pair_great {rows rows' : Rows2} {f g : List Int} (h : pairB rows rows' f g = true) {k : Nat} (hk : k < rows'.length) : Great rows rows' f k (atN g k) := by
  obtain ⟨_, _, hf, hg, hp⟩ := pairB_iff.1 h
  have hgk := (hg.lt (i := k) (by rw [hg.1]; exact hk)).1
  refine ⟨hgk, hp.2 k (by rw [hg.1]; exact hk), fun i hi hu => ?_⟩
  have h1 := hg.up (hf.lt (i := i) (by rw [hf.1]; exact hi)).1 hk hu
  rw [hp.1 i (by rw [hf.1]; exact hi)] at h1
  exact h1
/-- A list of greatest elements is monotone. -/
theorem great_mono {rows rows' : Rows2} {f g : List Int} (hok' : Ok rows') (hf : Mono rows rows' f) (hl : g.length = rows'.length) (hr : ∀ x ∈ g, (0 : Int) ≤ x)
    (h : ∀ k, k < rows'.length → Great rows rows' f k (atN g k)) : Mono rows' rows g := by
  have hx : ∀ k, k < g.length → g.getD k 0 = (atN g k : Int) := fun k hk => by
    have := hr (g.getD k 0) (by rw [getD_lt 0 hk]; exact List.getElem_mem _)
    unfold atN
    omega
  refine ⟨hl, fun x hm => ?_, fun a b ha hb hab => ?_⟩
  · obtain ⟨k, hk, rfl⟩ := List.getElem_of_mem hm
    have h1 := (h k (by omega)).1
    have h2 := hx k hk
    rw [getD_lt 0 hk] at h2
    omega
  · rw [hx b (by omega)]
    have h1 := h a ha
    exact (h b hb).2.2 _ h1.1 (up_trans hok' (hf.lt (i := atN g a) (by rw [hf.1]; exact h1.1)).1 ha h1.2.1 hab)
theorem list_eq_atN {f g : List Int} (hl : f.length = g.length) (hf : ∀ x ∈ f, (0 : Int) ≤ x) (hg : ∀ x ∈ g, (0 : Int) ≤ x) (h : ∀ k, k < f.length → atN f k = atN g k) : f = g := by
  refine List.ext_getElem hl fun i h1 h2 => ?_
  have e := h i h1
  unfold atN at e
  rw [getD_lt 0 h1, getD_lt 0 h2] at e
  have := hf _ (List.getElem_mem h1)
  have := hg _ (List.getElem_mem h2)
  omega
/-- The other function of a pair, if there is one. -/
noncomputable def projOk (rows rows' : Rows2) (f : List Int) : Bool := by
  classical exact decide (∃ g, pairB rows rows' f g = true)
noncomputable def projL (rows rows' : Rows2) (f : List Int) : List Int := by
  classical exact if h : ∃ g, pairB rows rows' f g = true then h.choose else []
theorem Mono.nonneg {rows rows' : Rows2} {f : List Int} (h : Mono rows rows' f) : ∀ x ∈ f, (0 : Int) ≤ x := fun x hx => (h.2.1 x hx).1
theorem great_eq {rows rows' : Rows2} {f g p : List Int} (h : pairB rows rows' f g = true) (hl : p.length = rows'.length) (hr : ∀ x ∈ p, (0 : Int) ≤ x) (hp : ∀ k, k < rows'.length → Great rows rows' f k (atN p k)) : p = g := by
  obtain ⟨hd, _, _, hg, _⟩ := pairB_iff.1 h
  refine list_eq_atN (by rw [hl, hg.1]) hr hg.nonneg fun k hk => ?_
  exact Great.uniq (dom_ok hd) (hp k (by omega)) (pair_great h (by omega))
theorem proj_yes {rows rows' : Rows2} {f g : List Int} (h : pairB rows rows' f g = true) : projOk rows rows' f = true ∧ projL rows rows' f = g := by
  classical
  refine ⟨decide_eq_true ⟨g, h⟩, ?_⟩
  have he : ∃ g, pairB rows rows' f g = true := ⟨g, h⟩
  unfold projL
  rw [dif_pos he]
  have h2 := he.choose_spec
  obtain ⟨_, _, _, hg, _⟩ := pairB_iff.1 h2
  exact great_eq h hg.1 hg.nonneg fun k hk => pair_great h2 hk
theorem proj_no {rows rows' : Rows2} {f : List Int} (h : ∀ g, pairB rows rows' f g = false) : projOk rows rows' f = false ∧ projL rows rows' f = [] := by
  classical
  have he : ¬ ∃ g, pairB rows rows' f g = true := fun ⟨g, hg⟩ => by rw [h g] at hg; cases hg
  refine ⟨decide_eq_false he, ?_⟩
  unfold projL
  rw [dif_neg he]
theorem proj_ex {rows rows' : Rows2} {f : List Int} (h : projOk rows rows' f = true) : ∃ g, pairB rows rows' f g = true := by
  classical exact of_decide_eq_true h
theorem proj_nil {rows rows' : Rows2} {f : List Int} (h : projOk rows rows' f = false) : projL rows rows' f = [] := by
  classical
  have he : ¬ ∃ g, pairB rows rows' f g = true := of_decide_eq_false h
  unfold projL
  rw [dif_neg he]
theorem proj_no_mono {rows rows' : Rows2} {f : List Int} (h : monoB rows rows' f = false) : projOk rows rows' f = false ∧ projL rows rows' f = [] :=
  proj_no fun g => by unfold pairB; rw [h]; rfl
theorem proj_no_great {rows rows' : Rows2} {f : List Int} {k : Nat} (hk : k < rows'.length) (h : ∀ m, ¬ Great rows rows' f k m) : projOk rows rows' f = false ∧ projL rows rows' f = [] :=
  proj_no fun g => by cases e : pairB rows rows' f g with
    | false => rfl
    | true => exact absurd (pair_great e hk) (h _)
/-- A list of greatest elements is the other function, or there is none. -/
theorem proj_great {rows rows' : Rows2} {f p : List Int} (hm : monoB rows rows' f = true) (hl : p.length = rows'.length) (hr : ∀ x ∈ p, (0 : Int) ≤ x) (hp : ∀ k, k < rows'.length → Great rows rows' f k (atN p k)) :
    pairB rows rows' f p = pairI rows' f p ∧ projOk rows rows' f = pairI rows' f p ∧ (pairI rows' f p = true → projL rows rows' f = p) ∧ (pairI rows' f p = false → projL rows rows' f = []) := by
  classical
  have hm0 := hm
  unfold monoB at hm
  rw [Bool.and_eq_true, Bool.and_eq_true] at hm
  obtain ⟨⟨hd, hd'⟩, hmi⟩ := hm
  have hmf : Mono rows rows' f := by unfold monoI at hmi; exact of_decide_eq_true hmi
  have hg := great_mono (dom_ok hd') hmf hl hr hp
  have e : pairB rows rows' f p = pairI rows' f p := by
    unfold pairB
    rw [hm0, Bool.true_and]
    have : monoB rows' rows p = true := by
      unfold monoB monoI
      rw [hd, hd', decide_eq_true hg]; rfl
    rw [this, Bool.true_and]
  refine ⟨e, ?_, fun h => (proj_yes (by rw [e]; exact h)).2, fun h => ?_⟩
  · cases h : pairI rows' f p with
    | true => exact (proj_yes (by rw [e]; exact h)).1
    | false =>
      refine (proj_no fun g => ?_).1
      cases h2 : pairB rows rows' f g with
      | false => rfl
      | true =>
        have := great_eq h2 hl hr hp
        subst this
        rw [e, h] at h2
        cases h2
  · refine (proj_no fun g => ?_).2
    cases h2 : pairB rows rows' f g with
    | false => rfl
    | true =>
      have := great_eq h2 hl hr hp
      subst this
      rw [e, h] at h2
      cases h2

/-- The model's search for the greatest element that goes below. -/
def projN (rows rows' : Rows2) (f : List Int) (i : Nat) : Nat → Int
  | 0 => -1
  | k + 1 => if upB rows' (atN f k) i && (decide (projN rows rows' f i k < 0) || upB rows (projN rows rows' f i k).toNat k) then (k : Int) else projN rows rows' f i k
theorem projN_range {rows rows' : Rows2} {f : List Int} {i : Nat} : ∀ k, projN rows rows' f i k = -1 ∨ (0 ≤ projN rows rows' f i k ∧ projN rows rows' f i k < k ∧ upB rows' (atN f (projN rows rows' f i k).toNat) i = true)
  | 0 => .inl rfl
  | k + 1 => by
    unfold projN
    split
    next h =>
      rw [Bool.and_eq_true] at h
      exact .inr ⟨by omega, by omega, by rw [Int.toNat_natCast]; exact h.1⟩
    next h =>
      rcases projN_range (rows := rows) (rows' := rows') (f := f) (i := i) k with h | h
      · exact .inl h
      · exact .inr ⟨h.1, by omega, h.2.2⟩
theorem projN_great {rows rows' : Rows2} {f : List Int} {i m : Nat} (hok : Ok rows) (h : Great rows rows' f i m) : ∀ k, k ≤ rows.length → m < k → projN rows rows' f i k = (m : Int)
  | 0, _, hm => absurd hm (Nat.not_lt_zero _)
  | k + 1, hk, hm => by
    have ih := projN_great hok h k (by omega)
    unfold projN
    by_cases e : m = k
    · subst e
      rw [if_pos]
      rw [Bool.and_eq_true, Bool.or_eq_true, decide_eq_true_iff]
      refine ⟨h.2.1, ?_⟩
      rcases projN_range (rows := rows) (rows' := rows') (f := f) (i := i) m with h1 | h1
      · exact .inl (by omega)
      · exact .inr (h.2.2 _ (by omega) h1.2.2)
    · rw [ih (by omega), if_neg]
      rw [Bool.and_eq_true, Bool.or_eq_true, decide_eq_true_iff, Int.toNat_natCast]
      rintro ⟨h1, h2⟩
      rcases h2 with h2 | h2
      · omega
      · exact e (up_anti hok h.1 (by omega) h2 (h.2.2 k (by omega) h1))
/-- The model's list. -/
def projBest (rows rows' : Rows2) (f : List Int) (n : Nat) : List Int := (List.range n).map fun i => max 0 (projN rows rows' f i f.length)
theorem projBest_len (rows rows' : Rows2) (f : List Int) (n : Nat) : (projBest rows rows' f n).length = n := by unfold projBest; simp
theorem projBest_succ (rows rows' : Rows2) (f : List Int) (n : Nat) : projBest rows rows' f (n + 1) = projBest rows rows' f n ++ [max 0 (projN rows rows' f n f.length)] := by
  unfold projBest
  rw [List.range_succ, List.map_append]
  rfl
theorem projBest_range {rows rows' : Rows2} {f : List Int} (n : Nat) : ∀ x ∈ projBest rows rows' f n, 0 ≤ x ∧ x ≤ f.length := by
  intro x hx
  unfold projBest at hx
  obtain ⟨i, _, rfl⟩ := List.mem_map.1 hx
  rcases projN_range (rows := rows) (rows' := rows') (f := f) (i := i) f.length with h | h <;> omega
/-- The model's list is the other function, or there is none. -/
theorem proj_model (rows rows' : Rows2) (f : List Int) :
    projOk rows rows' f = pairB rows rows' f (projBest rows rows' f rows'.length) ∧ projL rows rows' f = (if pairB rows rows' f (projBest rows rows' f rows'.length) = true then projBest rows rows' f rows'.length else []) := by
  classical
  cases h : pairB rows rows' f (projBest rows rows' f rows'.length) with
  | true =>
    obtain ⟨e1, e2⟩ := proj_yes h
    exact ⟨e1, by rw [e2, if_pos rfl]⟩
  | false =>
    have hn : ∀ g, pairB rows rows' f g = false := fun g => by
      cases e : pairB rows rows' f g with
      | false => rfl
      | true =>
        obtain ⟨hd, _, hf, _, _⟩ := pairB_iff.1 e
        have he : projBest rows rows' f rows'.length = g := great_eq e (projBest_len _ _ _ _) (fun x hx => (projBest_range _ x hx).1) fun k hk => by
          have hg := pair_great e hk
          have hb := projN_great (dom_ok hd) hg f.length (by rw [hf.1]; exact Nat.le_refl _) (by rw [hf.1]; exact hg.1)
          have : atN (projBest rows rows' f rows'.length) k = atN g k := by
            show ((projBest rows rows' f rows'.length).getD k (0 : Int)).toNat = _
            rw [getD_lt 0 (by rw [projBest_len]; exact hk)]
            unfold projBest
            rw [List.getElem_map, List.getElem_range, hb]
            omega
          rw [this]
          exact hg
        rw [he, e] at h
        cases h
    obtain ⟨e1, e2⟩ := proj_no hn
    exact ⟨e1, by rw [e2, if_neg (by simp)]⟩
end Go.Proofs.YtpjkmiinpjhdnaaDoor
