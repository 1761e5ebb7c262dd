/- Projection pairs and the greatest elements that go below, in numbers. -/
import Derived.Test.YtpjkmiinpjhdnaaDoorImplFun
import Derived.Test.YtpjkmiinpjhdnaaDoorMonoS
import Derived.Lib.QuietBelow
import Derived.BigQuiet
import Derived.Deep.RegionHeld3
import Derived.Test.YtpjkmiinpjhdnaaDoorJoinS
import Derived.Test.YtpjkmiinpjhdnaaDoorOwnB
import Derived.Test.YtpjkmiinpjhdnaaDoorTo
import Derived.Test.YtpjkmiinpjhdnaaDoorLw
import Derived.Maps.AppendAt
import Derived.Test.YtpjkmiinpjhdnaaDoorElemP
import Derived.Test.YtpjkmiinpjhdnaaDoorBack
import Derived.Laws.MakeOwn
namespace Go.Proofs.YtpjkmiinpjhdnaaDoor
open Go.RowKit Go.Deep

theorem dom_ok {rows : Rows2} (h : domB rows = true) : Ok rows :=
  ok_of_valid (show validB rows = true by unfold domB at h; rw [Bool.and_eq_true] at h; exact h.1)
theorem up_anti {rows : Rows2} (h : Ok rows) {a b : Nat} (ha : a < rows.length) (hb : b < rows.length) (h1 : upB rows a b = true) (h2 : upB rows b a = true) : a = b := by
  rw [← upB_grid h ha] at h1
  rw [← upB_grid h hb] at h2
  by_cases e : a = b
  · exact e
  · rw [h.anti a b ha h1 (fun h => e h.symm)] at h2
    cases h2
theorem up_trans {rows : Rows2} (h : Ok rows) {a b c : Nat} (ha : a < rows.length) (hb : b < rows.length) (h1 : upB rows a b = true) (h2 : upB rows b c = true) : upB rows a c = true := by
  rw [← upB_grid h ha] at h1 ⊢
  rw [← upB_grid h hb] at h2
  exact h.trans a b ha h1 c h2
theorem up_refl {rows : Rows2} (h : Ok rows) {a : Nat} (ha : a < rows.length) : upB rows a a = true := by
  rw [← upB_grid h ha]
  exact h.own a ha

/-- What a function has for an element. -/
def atN (f : List Int) (i : Nat) : Nat := (f.getD i 0).toNat
theorem Mono.lt {rows rows' : Rows2} {f : List Int} (h : Mono rows rows' f) {i : Nat} (hi : i < f.length) : atN f i < rows'.length ∧ f.getD i 0 = (atN f i : Int) := by
  have hm := h.2.1 (f.getD i 0) (by rw [getD_lt 0 hi]; exact List.getElem_mem _)
  unfold atN
  omega
theorem Mono.up {rows rows' : Rows2} {f : List Int} (h : Mono rows rows' f) {a b : Nat} (ha : a < rows.length) (hb : b < rows.length) (hab : upB rows a b = true) : upB rows' (atN f a) (atN f b) = true := by
  have h1 := h.2.2 a b ha hb hab
  rw [(h.lt (i := b) (by rw [h.1]; exact hb)).2] at h1
  exact h1

/-- The lists go up and down as those of a projection pair do. -/
def PairP (rows' : Rows2) (f g : List Int) : Prop :=
  (∀ i, i < f.length → atN g (atN f i) = i) ∧ ∀ k, k < g.length → upB rows' (atN f (atN g k)) k = true
open Classical in
noncomputable def pairI (rows' : Rows2) (f g : List Int) : Bool := decide (PairP rows' f g)
noncomputable def pairB (rows rows' : Rows2) (f g : List Int) : Bool := monoB rows rows' f && monoB rows' rows g && pairI rows' f g
theorem pairI_yes {rows' : Rows2} {f g : List Int} (h : PairP rows' f g) : pairI rows' f g = true := by classical exact decide_eq_true h
theorem pairI_bad1 {rows' : Rows2} {f g : List Int} {i : Nat} (hi : i < f.length) (h : atN g (atN f i) ≠ i) : pairI rows' f g = false := by classical exact decide_eq_false fun hp => h (hp.1 i hi)
theorem pairI_bad2 {rows' : Rows2} {f g : List Int} {k : Nat} (hk : k < g.length) (h : upB rows' (atN f (atN g k)) k = false) : pairI rows' f g = false := by classical exact decide_eq_false fun hp => by rw [hp.2 k hk] at h; cases h
theorem pairB_iff {rows rows' : Rows2} {f g : List Int} : pairB rows rows' f g = true ↔ domB rows = true ∧ domB rows' = true ∧ Mono rows rows' f ∧ Mono rows' rows g ∧ PairP rows' f g := by
  classical
  unfold pairB monoB monoI pairI
  simp only [Bool.and_eq_true, decide_eq_true_eq]
  constructor
  · rintro ⟨⟨⟨⟨h1, h2⟩, h3⟩, ⟨_, h4⟩⟩, h5⟩; exact ⟨h1, h2, h3, h4, h5⟩
  · rintro ⟨h1, h2, h3, h4, h5⟩; exact ⟨⟨⟨⟨h1, h2⟩, h3⟩, ⟨⟨h2, h1⟩, h4⟩⟩, h5⟩

/-- m is the greatest element that the function takes to one below k. -/
def Great (rows rows' : Rows2) (f : List Int) (k m : Nat) : Prop :=
  m < rows.length ∧ upB rows' (atN f m) k = true ∧ ∀ i, i < rows.length → upB rows' (atN f i) k = true → upB rows i m = true
theorem Great.uniq {rows rows' : Rows2} {f : List Int} {k m m' : Nat} (hok : Ok rows) (h : Great rows rows' f k m) (h' : Great rows rows' f k m') : m = m' :=
  up_anti hok h.1 h'.1 (h'.2.2 m h.1 h.2.1) (h.2.2 m' h'.1 h'.2.1)
theorem pair_great {rows rows' : Rows2} {f g : List Int} (h : pairB rows rows' f g = true) {k : Nat} (hk : k < rows'.length) : Great rows rows' f k (atN g k) := by
  obtain ⟨_, _, hf, hg, hp⟩ := pairB_iff.1 h
  have hgk := (hg.lt (i := k) (by rw [hg.1]; exact hk)).1
  refine ⟨hgk, hp.2 k (by rw [hg.1]; exact hk), fun i hi hu => ?_⟩
  have h1 := hg.up (hf.lt (i := i) (by rw [hf.1]; exact hi)).1 hk hu
  rw [hp.1 i (by rw [hf.1]; exact hi)] at h1
  exact h1
/-- A list of greatest elements is monotone. -/
theorem great_mono {rows rows' : Rows2} {f g : List Int} (hok' : Ok rows') (hf : Mono rows rows' f) (hl : g.length = rows'.length) (hr : ∀ x ∈ g, (0 : Int) ≤ x)
    (h : ∀ k, k < rows'.length → Great rows rows' f k (atN g k)) : Mono rows' rows g := by
  have hx : ∀ k, k < g.length → g.getD k 0 = (atN g k : Int) := fun k hk => by
    have := hr (g.getD k 0) (by rw [getD_lt 0 hk]; exact List.getElem_mem _)
    unfold atN
    omega
  refine ⟨hl, fun x hm => ?_, fun a b ha hb hab => ?_⟩
  · obtain ⟨k, hk, rfl⟩ := List.getElem_of_mem hm
    have h1 := (h k (by omega)).1
    have h2 := hx k hk
    rw [getD_lt 0 hk] at h2
    omega
  · rw [hx b (by omega)]
    have h1 := h a ha
    exact (h b hb).2.2 _ h1.1 (up_trans hok' (hf.lt (i := atN g a) (by rw [hf.1]; exact h1.1)).1 ha h1.2.1 hab)
theorem list_eq_atN {f g : List Int} (hl : f.length = g.length) (hf : ∀ x ∈ f, (0 : Int) ≤ x) (hg : ∀ x ∈ g, (0 : Int) ≤ x) (h : ∀ k, k < f.length → atN f k = atN g k) : f = g := by
  refine List.ext_getElem hl fun i h1 h2 => ?_
  have e := h i h1
  unfold atN at e
  rw [getD_lt 0 h1, getD_lt 0 h2] at e
  have := hf _ (List.getElem_mem h1)
  have := hg _ (List.getElem_mem h2)
  omega
/-- The other function of a pair, if there is one. -/
noncomputable def projOk (rows rows' : Rows2) (f : List Int) : Bool := by
  classical exact decide (∃ g, pairB rows rows' f g = true)
noncomputable def projL (rows rows' : Rows2) (f : List Int) : List Int := by
  classical exact if h : ∃ g, pairB rows rows' f g = true then h.choose else []
theorem Mono.nonneg {rows rows' : Rows2} {f : List Int} (h : Mono rows rows' f) : ∀ x ∈ f, (0 : Int) ≤ x := fun x hx => (h.2.1 x hx).1
theorem great_eq {rows rows' : Rows2} {f g p : List Int} (h : pairB rows rows' f g = true) (hl : p.length = rows'.length) (hr : ∀ x ∈ p, (0 : Int) ≤ x) (hp : ∀ k, k < rows'.length → Great rows rows' f k (atN p k)) : p = g := by
  obtain ⟨hd, _, _, hg, _⟩ := pairB_iff.1 h
  refine list_eq_atN (by rw [hl, hg.1]) hr hg.nonneg fun k hk => ?_
  exact Great.uniq (dom_ok hd) (hp k (by omega)) (pair_great h (by omega))
theorem proj_yes {rows rows' : Rows2} {f g : List Int} (h : pairB rows rows' f g = true) : projOk rows rows' f = true ∧ projL rows rows' f = g := by
  classical
  refine ⟨decide_eq_true ⟨g, h⟩, ?_⟩
  have he : ∃ g, pairB rows rows' f g = true := ⟨g, h⟩
  unfold projL
  rw [dif_pos he]
  have h2 := he.choose_spec
  obtain ⟨_, _, _, hg, _⟩ := pairB_iff.1 h2
  exact great_eq h hg.1 hg.nonneg fun k hk => pair_great h2 hk
theorem proj_no {rows rows' : Rows2} {f : List Int} (h : ∀ g, pairB rows rows' f g = false) : projOk rows rows' f = false ∧ projL rows rows' f = [] := by
  classical
  have he : ¬ ∃ g, pairB rows rows' f g = true := fun ⟨g, hg⟩ => by rw [h g] at hg; cases hg
  refine ⟨decide_eq_false he, ?_⟩
  unfold projL
  rw [dif_neg he]
theorem proj_ex {rows rows' : Rows2} {f : List Int} (h : projOk rows rows' f = true) : ∃ g, pairB rows rows' f g = true := by
  classical exact of_decide_eq_true h
theorem proj_nil {rows rows' : Rows2} {f : List Int} (h : projOk rows rows' f = false) : projL rows rows' f = [] := by
  classical
  have he : ¬ ∃ g, pairB rows rows' f g = true := of_decide_eq_false h
  unfold projL
  rw [dif_neg he]
theorem proj_no_mono {rows rows' : Rows2} {f : List Int} (h : monoB rows rows' f = false) : projOk rows rows' f = false ∧ projL rows rows' f = [] :=
  proj_no fun g => by unfold pairB; rw [h]; rfl
theorem proj_no_great {rows rows' : Rows2} {f : List Int} {k : Nat} (hk : k < rows'.length) (h : ∀ m, ¬ Great rows rows' f k m) : projOk rows rows' f = false ∧ projL rows rows' f = [] :=
  proj_no fun g => by cases e : pairB rows rows' f g with
    | false => rfl
    | true => exact absurd (pair_great e hk) (h _)
/-- A list of greatest elements is the other function, or there is none. -/
theorem proj_great {rows rows' : Rows2} {f p : List Int} (hm : monoB rows rows' f = true) (hl : p.length = rows'.length) (hr : ∀ x ∈ p, (0 : Int) ≤ x) (hp : ∀ k, k < rows'.length → Great rows rows' f k (atN p k)) :
    pairB rows rows' f p = pairI rows' f p ∧ projOk rows rows' f = pairI rows' f p ∧ (pairI rows' f p = true → projL rows rows' f = p) ∧ (pairI rows' f p = false → projL rows rows' f = []) := by
  classical
  have hm0 := hm
  unfold monoB at hm
  rw [Bool.and_eq_true, Bool.and_eq_true] at hm
  obtain ⟨⟨hd, hd'⟩, hmi⟩ := hm
  have hmf : Mono rows rows' f := by unfold monoI at hmi; exact of_decide_eq_true hmi
  have hg := great_mono (dom_ok hd') hmf hl hr hp
  have e : pairB rows rows' f p = pairI rows' f p := by
    unfold pairB
    rw [hm0, Bool.true_and]
    have : monoB rows' rows p = true := by
      unfold monoB monoI
      rw [hd, hd', decide_eq_true hg]; rfl
    rw [this, Bool.true_and]
  refine ⟨e, ?_, fun h => (proj_yes (by rw [e]; exact h)).2, fun h => ?_⟩
  · cases h : pairI rows' f p with
    | true => exact (proj_yes (by rw [e]; exact h)).1
    | false =>
      refine (proj_no fun g => ?_).1
      cases h2 : pairB rows rows' f g with
      | false => rfl
      | true =>
        have := great_eq h2 hl hr hp
        subst this
        rw [e, h] at h2
        cases h2
  · refine (proj_no fun g => ?_).2
    cases h2 : pairB rows rows' f g with
    | false => rfl
    | true =>
      have := great_eq h2 hl hr hp
      subst this
      rw [e, h] at h2
      cases h2

/-- The model's search for the greatest element that goes below. -/
def projN (rows rows' : Rows2) (f : List Int) (i : Nat) : Nat → Int
  | 0 => -1
  | k + 1 => if upB rows' (atN f k) i && (decide (projN rows rows' f i k < 0) || upB rows (projN rows rows' f i k).toNat k) then (k : Int) else projN rows rows' f i k
theorem projN_range {rows rows' : Rows2} {f : List Int} {i : Nat} : ∀ k, projN rows rows' f i k = -1 ∨ (0 ≤ projN rows rows' f i k ∧ projN rows rows' f i k < k ∧ upB rows' (atN f (projN rows rows' f i k).toNat) i = true)
  | 0 => .inl rfl
  | k + 1 => by
    unfold projN
    split
    next h =>
      rw [Bool.and_eq_true] at h
      exact .inr ⟨by omega, by omega, by rw [Int.toNat_natCast]; exact h.1⟩
    next h =>
      rcases projN_range (rows := rows) (rows' := rows') (f := f) (i := i) k with h | h
      · exact .inl h
      · exact .inr ⟨h.1, by omega, h.2.2⟩
theorem projN_great {rows rows' : Rows2} {f : List Int} {i m : Nat} (hok : Ok rows) (h : Great rows rows' f i m) : ∀ k, k ≤ rows.length → m < k → projN rows rows' f i k = (m : Int)
  | 0, _, hm => absurd hm (Nat.not_lt_zero _)
  | k + 1, hk, hm => by
    have ih := projN_great hok h k (by omega)
    unfold projN
    by_cases e : m = k
    · subst e
      rw [if_pos]
      rw [Bool.and_eq_true, Bool.or_eq_true, decide_eq_true_iff]
      refine ⟨h.2.1, ?_⟩
      rcases projN_range (rows := rows) (rows' := rows') (f := f) (i := i) m with h1 | h1
      · exact .inl (by omega)
      · exact .inr (h.2.2 _ (by omega) h1.2.2)
    · rw [ih (by omega), if_neg]
      rw [Bool.and_eq_true, Bool.or_eq_true, decide_eq_true_iff, Int.toNat_natCast]
      rintro ⟨h1, h2⟩
      rcases h2 with h2 | h2
      · omega
      · exact e (up_anti hok h.1 (by omega) h2 (h.2.2 k (by omega) h1))
/-- The model's list. -/
def projBest (rows rows' : Rows2) (f : List Int) (n : Nat) : List Int := (List.range n).map fun i => max 0 (projN rows rows' f i f.length)
theorem projBest_len (rows rows' : Rows2) (f : List Int) (n : Nat) : (projBest rows rows' f n).length = n := by unfold projBest; simp
theorem projBest_succ (rows rows' : Rows2) (f : List Int) (n : Nat) : projBest rows rows' f (n + 1) = projBest rows rows' f n ++ [max 0 (projN rows rows' f n f.length)] := by
  unfold projBest
  rw [List.range_succ, List.map_append]
  rfl
theorem projBest_range {rows rows' : Rows2} {f : List Int} (n : Nat) : ∀ x ∈ projBest rows rows' f n, 0 ≤ x ∧ x ≤ f.length := by
  intro x hx
  unfold projBest at hx
  obtain ⟨i, _, rfl⟩ := List.mem_map.1 hx
  rcases projN_range (rows := rows) (rows' := rows') (f := f) (i := i) f.length with h | h <;> omega
/-- The model's list is the other function, or there is none. -/
theorem proj_model (rows rows' : Rows2) (f : List Int) :
    projOk rows rows' f = pairB rows rows' f (projBest rows rows' f rows'.length) ∧ projL rows rows' f = (if pairB rows rows' f (projBest rows rows' f rows'.length) = true then projBest rows rows' f rows'.length else []) := by
  classical
  cases h : pairB rows rows' f (projBest rows rows' f rows'.length) with
  | true =>
    obtain ⟨e1, e2⟩ := proj_yes h
    exact ⟨e1, by rw [e2, if_pos rfl]⟩
  | false =>
    have hn : ∀ g, pairB rows rows' f g = false := fun g => by
      cases e : pairB rows rows' f g with
      | false => rfl
      | true =>
        obtain ⟨hd, _, hf, _, _⟩ := pairB_iff.1 e
        have he : projBest rows rows' f rows'.length = g := great_eq e (projBest_len _ _ _ _) (fun x hx => (projBest_range _ x hx).1) fun k hk => by
          have hg := pair_great e hk
          have hb := projN_great (dom_ok hd) hg f.length (by rw [hf.1]; exact Nat.le_refl _) (by rw [hf.1]; exact hg.1)
          have : atN (projBest rows rows' f rows'.length) k = atN g k := by
            show ((projBest rows rows' f rows'.length).getD k (0 : Int)).toNat = _
            rw [getD_lt 0 (by rw [projBest_len]; exact hk)]
            unfold projBest
            rw [List.getElem_map, List.getElem_range, hb]
            omega
          rw [this]
          exact hg
        rw [he, e] at h
        cases h
    obtain ⟨e1, e2⟩ := proj_no hn
    exact ⟨e1, by rw [e2, if_neg (by simp)]⟩
end Go.Proofs.YtpjkmiinpjhdnaaDoor

/- The model's FunStrict. -/
namespace Go.Proofs.YtpjkmiinpjhdnaaDoor
open Go.RowKit Go.Deep

theorem leastI_nat {rows : Rows2} (h : 0 ≤ leastI rows) : ∃ m : Nat, m < rows.length ∧ leastI rows = m := by
  unfold leastI at h ⊢
  cases e : (List.range rows.length).find? (fun i => (rows.getD i []).length == rows.length) with
  | none => rw [e] at h; exact absurd h (by decide)
  | some m => exact ⟨m, List.mem_range.1 (List.mem_of_find?_eq_some e), rfl⟩
theorem dom_least {rows : Rows2} (h : domB rows = true) : ∃ m : Nat, m < rows.length ∧ leastI rows = m := by
  unfold domB domI at h
  rw [Bool.and_eq_true, Bool.and_eq_true, decide_eq_true_iff] at h
  exact leastI_nat h.2.1
theorem monoB_parts {rows rows' : Rows2} {f : List Int} (h : monoB rows rows' f = true) : domB rows = true ∧ domB rows' = true ∧ Mono rows rows' f := by
  classical
  unfold monoB monoI at h
  rw [Bool.and_eq_true, Bool.and_eq_true, decide_eq_true_iff] at h
  exact ⟨h.1.1, h.1.2, h.2⟩

/-- A monotone function that has the least element for the least one. -/
noncomputable def strictB (rows rows' : Rows2) (f : List Int) : Bool := monoB rows rows' f && decide (f.getD (leastI rows).toNat 0 = leastI rows')

end Go.Proofs.YtpjkmiinpjhdnaaDoor

/- The model's PairIs. -/
namespace Go.Proofs.YtpjkmiinpjhdnaaDoor
open Go.RowKit Go.Deep

/-- Two orders in their variables, and two lists. -/
def TwoFG (w : World) (v v' vf vg : Value) (rows rows' : Rows2) (f g : List Int) (W : World) : Prop := TwoF w v v' vf rows rows' f W ∧ IntsAt W vg g
theorem TwoFG.step {w : World} {v v' vf vg : Value} {rows rows' : Rows2} {f g : List Int} {W W' : World} (h : TwoFG w v v' vf vg rows rows' f g W) (hb : Below W.heap.size W W') : TwoFG w v v' vf vg rows rows' f g W' := ⟨h.1.step hb, h.2.below hb⟩
theorem TwoFG.drew {w : World} {v v' vf vg : Value} {rows rows' : Rows2} {f g : List Int} {W : World} (h : TwoFG w v v' vf vg rows rows' f g W) : TwoFG w v v' vf vg rows rows' f g W.drew := h.step ⟨rfl, rfl, rfl, Nat.le_refl _, fun _ _ => rfl⟩
theorem TwoFG.start (w : World) {v v' vf vg : Value} {rows rows' : Rows2} {f g : List Int} (t t' : TypeId) (hv : RowsAt w v rows) (hv' : RowsAt w v' rows') (hf : IntsAt w vf f) (hg : IntsAt w vg g) : TwoFG w v v' vf vg rows rows' f g ((w.alloc (.cells #[v] t)).alloc (.cells #[v'] t')) :=
  ⟨TwoF.start w t t' hv hv' hf, hg.below (Two.start w t t' hv hv').below⟩
theorem pairB_no1 {rows rows' : Rows2} {f g : List Int} (h : monoB rows rows' f = false) : pairB rows rows' f g = false := by unfold pairB; rw [h]; rfl
theorem pairB_no2 {rows rows' : Rows2} {f g : List Int} (h : monoB rows' rows g = false) : pairB rows rows' f g = false := by unfold pairB; rw [h]; simp
theorem pairB_both {rows rows' : Rows2} {f g : List Int} (h : monoB rows rows' f = true) (h2 : monoB rows' rows g = true) : pairB rows rows' f g = pairI rows' f g := by unfold pairB; rw [h, h2]; simp

set_option maxRecDepth 100000 in
set_option maxHeartbeats 8000000 in
theorem specPairIs_any (v v' vf vg : Value) (rows rows' : Rows2) (f g : List Int) (w : World) (hv : RowsAt w v rows) (hv' : RowsAt w v' rows') (hf : IntsAt w vf f) (hg : IntsAt w vg g)
    (hn : bulk rows ≤ 1048576) (hn' : bulk rows' ≤ 1048576) :
    Calls Tryd.prog 17 #[.agg #[v], .agg #[v'], vf, vg] w (SaysN (pairB rows rows' f g) w) := by
  have hT := TwoFG.start w 25 25 hv hv' hf hg
  obtain ⟨A, C, rfl, _⟩ := hv
  obtain ⟨A', C', rfl, _⟩ := hv'
  obtain ⟨Af, Cf, rfl, hCf, hmf, _⟩ := hf
  obtain ⟨Ag, Cg, rfl, hCg, hmg, _⟩ := hg
  have H0 := Lib.hid hT
  have hc0 := hT.1.1.c0
  have hc1 := hT.1.1.c1
  have hd1 := specMono_any _ _ _ rows rows' f _ hT.1.1.r0 hT.1.1.r1 hT.1.2 hn hn'
  clear hT
  cases h1 : monoB rows rows' f with
  | false =>
    rw [h1] at hd1
    have HE := Lib.hid (pairB_no1 (g := g) h1)
    go_enter Tryd.func17, Tryd.ntmps17
    go_wp2_with (go_at_call 37; refine hd1.mono ?_; clear hd1; rintro e w1 ⟨rfl, hb1⟩; have H1 := Lib.hid (H0.out.step hb1); clear hb1)
    go_ret
    exact ⟨by rw [HE.out]; rfl, H1.out.1.1.below⟩
  | true =>
    rw [h1] at hd1
    cases h2 : monoB rows' rows g with
    | false =>
      have HE := Lib.hid (pairB_no2 (f := f) h2)
      go_enter Tryd.func17, Tryd.ntmps17
      go_wp2_with (first | (go_at_call 37; refine hd1.mono ?_; clear hd1; rintro e w1 ⟨rfl, hb1⟩; have H1 := Lib.hid (H0.out.step hb1); have he0 := H1.out.1.1.c0; have he1 := H1.out.1.1.c1; have hd2 := specMono_any _ _ _ rows' rows g _ H1.out.1.1.r1 H1.out.1.1.r0 H1.out.2 hn' hn; rw [h2] at hd2; clear hb1) | (go_at_call 37; refine hd2.mono ?_; clear hd2; rintro e w2 ⟨rfl, hb2⟩; have H2 := Lib.hid (H1.out.step hb2); clear hb2))
      go_ret
      exact ⟨by rw [HE.out]; rfl, H2.out.1.1.below⟩
    | true =>
      obtain ⟨hdd, hdd', hm1⟩ := monoB_parts h1
      obtain ⟨_, _, hm2⟩ := monoB_parts h2
      have hl' := valid_lists (show validB rows' = true by unfold domB at hdd'; rw [Bool.and_eq_true] at hdd'; exact hdd'.1)
      have hf200 : f.length ≤ 200 := by rw [hm1.1]; exact (dom_ok hdd).len.2
      have hg200 : g.length ≤ 200 := by rw [hm2.1]; exact (dom_ok hdd').len.2
      have HM1 := Lib.hid hm1
      have HM2 := Lib.hid hm2
      have HE := Lib.hid (pairB_both h1 h2)
      clear hm1 hm2 hdd hdd' hmf hmg
      go_enter Tryd.func17, Tryd.ntmps17
      go_wp2_with (first | (go_at_call 37; refine hd1.mono ?_; clear hd1; rintro e w1 ⟨rfl, hb1⟩; have H1 := Lib.hid (H0.out.step hb1); have he0 := H1.out.1.1.c0; have he1 := H1.out.1.1.c1; have hd2 := specMono_any _ _ _ rows' rows g _ H1.out.1.1.r1 H1.out.1.1.r0 H1.out.2 hn' hn; rw [h2] at hd2; clear hb1) | (go_at_call 37; refine hd2.mono ?_; clear hd2; rintro e w2 ⟨rfl, hb2⟩; have H2 := Lib.hid (H1.out.step hb2); clear hb2))
      clear hc0 hc1 he0 he1
      go_loopw [9] (fun iv wr => ∃ i : Nat, i ≤ f.length ∧ iv = .int .i64 i ∧ (∀ q, q < i → atN g (atN f q) = q) ∧ TwoFG w (.slice A rows.length C) (.slice A' rows'.length C') (.slice Af f.length Cf) (.slice Ag g.length Cg) rows rows' f g wr) (fun iv _ => f.length - (intOf iv).toNat)
      case atStart => exact ⟨0, Nat.zero_le _, rfl, fun _ h => absurd h (Nat.not_lt_zero _), H2.out⟩
      case round =>
        obtain ⟨i, hi, rfl, hp, hh⟩ := hrel
        have HP := Lib.hid hp
        have HK := Lib.hid hh
        clear hp H2
        by_cases hlt : i < f.length
        · obtain ⟨bf, o_f, rfl, hcf⟩ := hh.1.2.get hlt
          have hfa := HM1.out.lt hlt
          obtain ⟨a, ha⟩ : ∃ a : Nat, atN f i = a := ⟨_, rfl⟩
          rw [ha] at hfa
          rw [getD_lt 0 hlt] at hfa
          rw [hfa.2] at hcf
          have hal : a < g.length := by rw [HM2.out.1]; exact hfa.1
          have hal2 : (a : Int) < (g.length : Int) := by omega
          obtain ⟨bg, o_g, rfl, hcg⟩ := hh.2.get hal
          have hgb := HM2.out.lt hal
          obtain ⟨b, hb⟩ : ∃ b : Nat, atN g a = b := ⟨_, rfl⟩
          rw [hb] at hgb
          rw [getD_lt 0 hal] at hgb
          rw [hgb.2] at hcg
          have hge : atN g (atN f i) = b := by rw [ha, hb]
          clear hh hfa hgb ha hb
          by_cases hbi : b = i
          · have hb1 : ((b : Int) == (i : Int)) = true := by rw [beq_iff_eq]; omega
            have hb2 : (b == i) = true := by rw [beq_iff_eq]; exact hbi
            have hb3 : ((b : Int) != (i : Int)) = false := by unfold bne; rw [hb1]; rfl
            have hb4 : (b != i) = false := by unfold bne; rw [hb2]; rfl
            have HQ := Lib.hid (hge.trans hbi)
            clear hge hbi
            go_wp2
            go_roundw
            case rel =>
              refine ⟨i + 1, by omega, by go_num, fun q hq => ?_, HK.out⟩
              by_cases e : q = i
              · subst e; exact HQ.out
              · exact HP.out q (by omega)
            case measure => simp [intOf]; omega
          · have hb1 : ((b : Int) == (i : Int)) = false := by rw [beq_eq_false_iff_ne]; omega
            have hb2 : (b == i) = false := by rw [beq_eq_false_iff_ne]; exact hbi
            have hb3 : ((b : Int) != (i : Int)) = true := by unfold bne; rw [hb1]; rfl
            have hb4 : (b != i) = true := by unfold bne; rw [hb2]; rfl
            have HQ := Lib.hid (pairI_bad1 (rows' := rows') (g := g) hlt (by rw [hge]; exact hbi))
            clear hge hbi
            go_wp2
            go_ret
            exact ⟨by rw [HE.out, HQ.out]; rfl, HK.out.1.1.below⟩
        · obtain rfl : i = f.length := by omega
          clear hh
          go_wp2
          go_loopw [10] (fun kv wr => ∃ k : Nat, k ≤ g.length ∧ kv = .int .i64 k ∧ (∀ q, q < k → upB rows' (atN f (atN g q)) q = true) ∧ TwoFG w (.slice A rows.length C) (.slice A' rows'.length C') (.slice Af f.length Cf) (.slice Ag g.length Cg) rows rows' f g wr) (fun kv _ => g.length - (intOf kv).toNat)
          case atStart => exact ⟨0, Nat.zero_le _, rfl, fun _ h => absurd h (Nat.not_lt_zero _), HK.out⟩
          case round =>
            obtain ⟨k, hk, rfl, hp, hh⟩ := hrel
            have HP2 := Lib.hid hp
            have HK2 := Lib.hid hh
            have hcell1 := hh.1.1.c1
            clear hp HK
            by_cases hkl : k < g.length
            · obtain ⟨bg, o_g, rfl, hcg⟩ := hh.2.get hkl
              have hga := HM2.out.lt hkl
              obtain ⟨a, ha⟩ : ∃ a : Nat, atN g k = a := ⟨_, rfl⟩
              rw [ha, getD_lt 0 hkl] at hga
              rw [hga.2] at hcg
              have hal : a < f.length := by rw [HM1.out.1]; exact hga.1
              have hal2 : (a : Int) < (f.length : Int) := by omega
              obtain ⟨bf, o_f, rfl, hcf⟩ := hh.1.2.get hal
              have hfb := HM1.out.lt hal
              obtain ⟨b, hb⟩ : ∃ b : Nat, atN f a = b := ⟨_, rfl⟩
              rw [hb, getD_lt 0 hal] at hfb
              rw [hfb.2] at hcf
              have hge : atN f (atN g k) = b := by rw [ha, hb]
              have hbl := hfb.1
              clear hh hga hfb ha hb
              cases hup : upB rows' b k with
              | true =>
                have HCALL := Lib.hid (le_call (HK2.out.drew).1.1.r1 hl' hn' (b : Int) (k : Int) (by omega) (by omega) (r := true) (by rw [Int.toNat_natCast]; exact hup))
                have HU := Lib.hid (show upB rows' (atN f (atN g k)) k = true by rw [hge]; exact hup)
                clear hup hge
                go_wp2
                go_still_tail 9, (by kernel_rfl)
                go_wp2_with (go_at_call 38; refine HCALL.out.mono ?_; clear HCALL; rintro e w3 ⟨rfl, hb3⟩; have H3 := Lib.hid (HK2.out.drew.step hb3); clear hb3)
                go_roundw
                case rel =>
                  refine ⟨k + 1, by omega, by go_num, fun q hq => ?_, H3.out⟩
                  by_cases e : q = k
                  · subst e; exact HU.out
                  · exact HP2.out q (by omega)
                case measure => simp [intOf]; omega
              | false =>
                have HCALL := Lib.hid (le_call (HK2.out.drew).1.1.r1 hl' hn' (b : Int) (k : Int) (by omega) (by omega) (r := false) (by rw [Int.toNat_natCast]; exact hup))
                have HU := Lib.hid (pairI_bad2 (f := f) hkl (show upB rows' (atN f (atN g k)) k = false by rw [hge]; exact hup))
                clear hup hge
                go_wp2
                go_still_tail 9, (by kernel_rfl)
                go_wp2_with (go_at_call 38; refine HCALL.out.mono ?_; clear HCALL; rintro e w3 ⟨rfl, hb3⟩; have H3 := Lib.hid (HK2.out.drew.step hb3); clear hb3)
                go_ret
                exact ⟨by rw [HE.out, HU.out]; rfl, H3.out.1.1.below⟩
            · obtain rfl : k = g.length := by omega
              have HQ := Lib.hid (pairI_yes (rows' := rows') (f := f) (g := g) ⟨HP.out, HP2.out⟩)
              clear hh
              go_wp2
              go_ret
              exact ⟨by rw [HE.out, HQ.out]; rfl, HK2.out.1.1.below⟩
end Go.Proofs.YtpjkmiinpjhdnaaDoor

/- The program's funTypeOf: two domains, and lists that are monotone functions between them. -/
namespace Go.Proofs.YtpjkmiinpjhdnaaDoor
open Go.RowKit Go.Deep Go.Shelf

/-- Two domains, and monotone functions between them. -/
noncomputable def ftB (rows rows' : Rows2) (fs : List (List Int)) : Bool := domB rows && domB rows' && fs.all fun f => monoI rows rows' f
theorem ftB_one (rows rows' : Rows2) (f : List Int) : ftB rows rows' [f] = monoB rows rows' f := by unfold ftB monoB; simp
theorem ftB_no {rows rows' : Rows2} {fs : List (List Int)} {i : Nat} (hi : i < fs.length) (h : monoI rows rows' fs[i] = false) : ftB rows rows' fs = false := by
  unfold ftB
  rw [Bool.and_eq_false_iff]
  right
  rw [List.all_eq_false]
  exact ⟨_, List.getElem_mem hi, by rw [h]; simp⟩
theorem ftB_yes {rows rows' : Rows2} {fs : List (List Int)} (h1 : domB rows = true) (h2 : domB rows' = true) (h : ∀ i (hi : i < fs.length), monoI rows rows' fs[i] = true) : ftB rows rows' fs = true := by
  unfold ftB
  rw [h1, h2, Bool.true_and, Bool.true_and, List.all_eq_true]
  intro x hx
  obtain ⟨i, hi, rfl⟩ := List.getElem_of_mem hx
  exact h i hi

/-- What funTypeOf answers. -/
def FtP (t : Bool) (rows rows' : Rows2) (w : World) (e : Ending) (w' : World) : Prop :=
  (∃ q q' : Option Addr, e = .returned (.tuple #[.agg #[.pointer q, .pointer q'], .bool t]) ∧
    (t = true → ∃ p p' : Nat, q = some ⟨p, 0, none⟩ ∧ q' = some ⟨p', 0, none⟩ ∧ w.heap.size ≤ p ∧ w.heap.size ≤ p' ∧ GridAt w' p (gridF rows) ∧ GridAt w' p' (gridF rows'))) ∧ Below w.heap.size w w'
theorem FtP.no {t : Bool} {rows rows' : Rows2} {w w' : World} (ht : t = false) (hb : Below w.heap.size w w') : FtP t rows rows' w (.returned (.tuple #[.agg #[.pointer none, .pointer none], .bool false])) w' :=
  ⟨⟨none, none, by rw [ht], fun h => (by rw [ht] at h; cases h)⟩, hb⟩

/-- The variable of the result, as it begins. -/
def Zero2 (r : Nat) (W : World) : Prop := W.heap[r]? = some (.cells #[.pointer none, .pointer none] 71 (0, 0))
theorem Zero2.lt {r : Nat} {W : World} (h : Zero2 r W) : r < W.heap.size := by
  obtain ⟨hlt, _⟩ := Array.getElem?_eq_some_iff.1 h
  exact hlt
theorem Zero2.below {r : Nat} {W W' : World} (h : Zero2 r W) (hb : Below W.heap.size W W') : Zero2 r W' := by
  unfold Zero2
  rw [hb.block r h.lt]
  exact h
theorem Zero2.cells {r : Nat} {W : World} (h : Zero2 r W) : W.cell? ⟨r, 0, none⟩ = some (.pointer none) ∧ W.cell? ⟨r, 1, none⟩ = some (.pointer none) ∧ ∀ o, W.frozen? ⟨r, o, none⟩ = false :=
  ⟨by rw [cell_of_row W r _ _ _ _ h]; rfl, by rw [cell_of_row W r _ _ _ _ h]; rfl, fun o => frozen_of_row W r o _ _ h⟩

/-- While funTypeOf runs. -/
structure Ft (w : World) (v v' vl : Value) (rows rows' fs : Rows2) (W : World) : Prop where
  two : Two w v v' rows rows' W
  zero : Zero2 (w.heap.size + 2) W
  lists : RowsAt W vl fs
  tab : Tab W
theorem Ft.step {w : World} {v v' vl : Value} {rows rows' fs : Rows2} {W W' : World} (h : Ft w v v' vl rows rows' fs W) (hb : Below W.heap.size W W') : Ft w v v' vl rows rows' fs W' :=
  ⟨h.two.step hb, h.zero.below hb, h.lists.below hb, h.tab.below hb⟩
theorem Ft.start (w : World) {v v' vl : Value} {rows rows' fs : Rows2} (hv : RowsAt w v rows) (hv' : RowsAt w v' rows') (hl : RowsAt w vl fs) (hT : Tab w) :
    Ft w v v' vl rows rows' fs (((w.alloc (.cells #[v] 25)).alloc (.cells #[v'] 25)).alloc (.cells #[.pointer none, .pointer none] 71)) := by
  have h2 := Two.start w 25 25 hv hv'
  have s2 : ((w.alloc (.cells #[v] 25)).alloc (.cells #[v'] 25)).heap.size = w.heap.size + 2 := by rw [World.size_alloc, World.size_alloc]
  have b3 := (Below.refl ((w.alloc (.cells #[v] 25)).alloc (.cells #[v'] 25)).heap.size ((w.alloc (.cells #[v] 25)).alloc (.cells #[v'] 25))).alloc (Nat.le_refl _) (.cells #[.pointer none, .pointer none] 71)
  refine ⟨h2.step b3, ?_, (hl.below h2.below).below b3, (hT.below h2.below).below b3⟩
  have h := heap_alloc_new ((w.alloc (.cells #[v] 25)).alloc (.cells #[v'] 25)) (.cells #[.pointer none, .pointer none] 71)
  rw [s2] at h
  exact h

set_option maxRecDepth 100000 in
set_option maxHeartbeats 4000000 in
theorem funTypeOf_any (v v' vl : Value) (rows rows' fs : Rows2) (w : World) (hv : RowsAt w v rows) (hv' : RowsAt w v' rows') (hl : RowsAt w vl fs) (hT : Tab w) (hn : bulk rows ≤ 1048576) (hn' : bulk rows' ≤ 1048576) :
    Calls Tryd.prog 42 #[.agg #[v], .agg #[v'], vl] w (FtP (ftB rows rows' fs) rows rows' w) := by
  have hF := Ft.start w hv hv' hl hT
  obtain ⟨A, C, rfl, _⟩ := hv
  obtain ⟨A', C', rfl, _⟩ := hv'
  obtain ⟨Al, Cl, rfl, hCl, hml, _⟩ := hl
  unfold maxLen at hml
  have H0 := Lib.hid hF
  have hc0 := hF.two.c0
  clear hF hT
  cases h1 : domB rows with
  | false =>
    have hd := domainOf_no _ rows _ H0.out.two.r0 H0.out.tab hn h1
    have HE := Lib.hid (show ftB rows rows' fs = false by unfold ftB; rw [h1]; rfl)
    go_enter Tryd.func42, Tryd.ntmps42
    cases h2 : domB rows' with
    | false =>
      go_wp2_with (first | (go_at_call 53; refine hd.mono ?_; clear hd; rintro e w1 ⟨rfl, hb1⟩; have H1 := Lib.hid (H0.out.step hb1); have hc1 := H1.out.two.c1; have hd2 := domainOf_no _ rows' _ H1.out.two.r1 H1.out.tab hn' h2; clear hb1) | (go_at_call 53; refine hd2.mono ?_; clear hd2; rintro e w2 ⟨rfl, hb2⟩; have H2 := Lib.hid (H1.out.step hb2); obtain ⟨z0, z1, z2⟩ := H2.out.zero.cells; clear hb2))
      refine bodyPost_ret (v := .tuple #[.agg #[.pointer none, .pointer none], .bool false]) (by simp [results, Tryd.results42, go_sem, z0, z1]) rfl ?_
      exact FtP.no HE.out (H2.out.two.below.setCell (by show w.heap.size ≤ w.heap.size + 2; omega) _ |>.setCell (by show w.heap.size ≤ w.heap.size + 2; omega) _)
    | true =>
      go_wp2_with (first | (go_at_call 53; refine hd.mono ?_; clear hd; rintro e w1 ⟨rfl, hb1⟩; have H1 := Lib.hid (H0.out.step hb1); have hc1 := H1.out.two.c1; have hd2 := domainOf_yes _ rows' _ H1.out.two.r1 H1.out.tab hn' h2; clear hb1) | (go_at_call 53; refine hd2.mono ?_; clear hd2; rintro e w2 ⟨⟨p, rfl, _⟩, hb2⟩; have H2 := Lib.hid (H1.out.step hb2); obtain ⟨z0, z1, z2⟩ := H2.out.zero.cells; clear hb2))
      refine bodyPost_ret (v := .tuple #[.agg #[.pointer none, .pointer none], .bool false]) (by simp [results, Tryd.results42, go_sem, z0, z1]) rfl ?_
      exact FtP.no HE.out (H2.out.two.below.setCell (by show w.heap.size ≤ w.heap.size + 2; omega) _ |>.setCell (by show w.heap.size ≤ w.heap.size + 2; omega) _)
  | true =>
    have hd := domainOf_yes _ rows _ H0.out.two.r0 H0.out.tab hn h1
    cases h2 : domB rows' with
    | false =>
      have HE := Lib.hid (show ftB rows rows' fs = false by unfold ftB; rw [h1, h2]; rfl)
      go_enter Tryd.func42, Tryd.ntmps42
      go_wp2_with (first | (go_at_call 53; refine hd.mono ?_; clear hd; rintro e w1 ⟨⟨p, rfl, _⟩, hb1⟩; have H1 := Lib.hid (H0.out.step hb1); have hc1 := H1.out.two.c1; have hd2 := domainOf_no _ rows' _ H1.out.two.r1 H1.out.tab hn' h2; clear hb1) | (go_at_call 53; refine hd2.mono ?_; clear hd2; rintro e w2 ⟨rfl, hb2⟩; have H2 := Lib.hid (H1.out.step hb2); obtain ⟨z0, z1, z2⟩ := H2.out.zero.cells; clear hb2))
      refine bodyPost_ret (v := .tuple #[.agg #[.pointer none, .pointer none], .bool false]) (by simp [results, Tryd.results42, go_sem, z0, z1]) rfl ?_
      exact FtP.no HE.out (H2.out.two.below.setCell (by show w.heap.size ≤ w.heap.size + 2; omega) _ |>.setCell (by show w.heap.size ≤ w.heap.size + 2; omega) _)
    | true =>
      have hok := ok_of_valid (show validB rows = true by unfold domB at h1; rw [Bool.and_eq_true] at h1; exact h1.1)
      have hok' := ok_of_valid (show validB rows' = true by unfold domB at h2; rw [Bool.and_eq_true] at h2; exact h2.1)
      have HMONO := Lib.hid (fun p p' vf f W hg hg' hf => isMonotone_any p p' rows.length rows'.length (gridF rows) (gridF rows') vf f W hg hg' hok.gridN hok'.gridN hf (monoI rows rows' f) (mono_grid hok hok' f))
      have HY := Lib.hid (fun h => ftB_yes (fs := fs) h1 h2 h)
      have hsz : (((w.alloc (.cells #[.slice A rows.length C] 25)).alloc (.cells #[.slice A' rows'.length C'] 25)).alloc (.cells #[.pointer none, .pointer none] 71)).heap.size = w.heap.size + 3 := by rw [World.size_alloc, World.size_alloc, World.size_alloc]
      have HSZ := Lib.hid hsz
      clear hok hok' hsz
      go_enter Tryd.func42, Tryd.ntmps42
      go_wp2_with (first | (go_at_call 53; refine hd.mono ?_; clear hd; rintro e w1 ⟨⟨p, rfl, hp, hg⟩, hb1⟩; have H1 := Lib.hid (H0.out.step hb1); have hc1 := H1.out.two.c1; have hd2 := domainOf_yes _ rows' _ H1.out.two.r1 H1.out.tab hn' h2; have HP := Lib.hid (show w.heap.size + 3 ≤ p by rw [← HSZ.out]; exact hp); have HP1 := Lib.hid (Nat.le_trans (Nat.le_of_eq HSZ.out.symm) hb1.size); have HG := Lib.hid hg; clear hb1 hp hg) | (go_at_call 53; refine hd2.mono ?_; clear hd2; rintro e w2 ⟨⟨p', rfl, hp', hg'⟩, hb2⟩; have H2 := Lib.hid (H1.out.step hb2); have HP' := Lib.hid (Nat.le_trans HP1.out hp'); have HG2 := Lib.hid (HG.out.below hb2 HG.out.lt); have HG' := Lib.hid hg'; clear hb2 hp' hg'))
      go_loopw [13, 33] (fun _ kv wr => ∃ k : Nat, k ≤ fs.length ∧ kv = .int .i64 k ∧ (∀ i (hi : i < fs.length), i < k → monoI rows rows' fs[i] = true) ∧ GridAt wr p (gridF rows) ∧ GridAt wr p' (gridF rows') ∧ Ft w (.slice A rows.length C) (.slice A' rows'.length C') (.slice Al fs.length Cl) rows rows' fs wr) (fun _ kv _ => fs.length - (intOf kv).toNat)
      case atStart => exact ⟨0, Nat.zero_le _, rfl, fun _ _ h => absurd h (Nat.not_lt_zero _), HG2.out, HG'.out, H2.out⟩
      case round =>
        obtain ⟨k, hk, rfl, hall, hg, hg', hh⟩ := hrel
        have HA := Lib.hid hall
        have HGk := Lib.hid hg
        have HGk' := Lib.hid hg'
        have HK := Lib.hid hh
        clear hall hg hg'
        by_cases hlt : k < fs.length
        · obtain ⟨_, _, e0, _, _, hx⟩ := hh.lists
          cases e0
          obtain ⟨b0, o0, u, rfl, hcu, hu⟩ := hx k hlt
          clear hh hx
          have hcall := HMONO.out p p' u fs[k] wr HGk.out HGk'.out hu
          obtain ⟨Au, Cu, rfl, _⟩ := hu
          cases hm : monoI rows rows' fs[k] with
          | true =>
            rw [hm] at hcall
            have HM := Lib.hid hm
            clear hm
            go_wp2_with (go_at_call 54; refine hcall.mono ?_; clear hcall; rintro e w3 ⟨rfl, hb3⟩; have H3 := Lib.hid (HK.out.step hb3); have HG3 := Lib.hid (HGk.out.below hb3 HGk.out.lt); have HG3' := Lib.hid (HGk'.out.below hb3 HGk'.out.lt); clear hb3)
            go_roundw
            case rel =>
              refine ⟨k + 1, by omega, by go_num, fun i hi hlt' => ?_, HG3.out, HG3'.out, H3.out⟩
              by_cases e : i = k
              · subst e; exact HM.out
              · exact HA.out i hi (by omega)
            case measure => simp [intOf]; omega
          | false =>
            rw [hm] at hcall
            have HE := Lib.hid (ftB_no hlt hm)
            clear hm
            go_wp2_with (go_at_call 54; refine hcall.mono ?_; clear hcall; rintro e w3 ⟨rfl, hb3⟩; have H3 := Lib.hid (HK.out.step hb3); obtain ⟨z0, z1, z2⟩ := H3.out.zero.cells; clear hb3)
            refine bodyPost_ret (v := .tuple #[.agg #[.pointer none, .pointer none], .bool false]) (by simp [results, Tryd.results42, go_sem, z0, z1]) rfl ?_
            exact FtP.no HE.out (H3.out.two.below.setCell (by show w.heap.size ≤ w.heap.size + 2; omega) _ |>.setCell (by show w.heap.size ≤ w.heap.size + 2; omega) _)
        · obtain rfl : k = fs.length := by omega
          have HE := Lib.hid (HY.out fun i hi => HA.out i hi hi)
          obtain ⟨z0, z1, z2⟩ := HK.out.zero.cells
          clear hh
          go_wp2
          refine bodyPost_ret (v := .tuple #[.agg #[.pointer (some ⟨p, 0, none⟩), .pointer (some ⟨p', 0, none⟩)], .bool true]) (by simp [results, Tryd.results42, go_sem, z0, z1]) rfl ?_
          refine ⟨⟨_, _, by rw [HE.out], fun _ => ⟨p, p', rfl, rfl, by have := HP.out; omega, by have := HP'.out; omega, ?_, ?_⟩⟩, (HK.out.two.below.setCell (by show w.heap.size ≤ w.heap.size + 2; omega) _ |>.setCell (by show w.heap.size ≤ w.heap.size + 2; omega) _)⟩
          · exact (HGk.out.setOther (by have := HP.out; show p ≠ w.heap.size + 2; omega) _).setOther (by have := HP.out; show p ≠ w.heap.size + 2; omega) _
          · exact (HGk'.out.setOther (by have := HP'.out; show p' ≠ w.heap.size + 2; omega) _).setOther (by have := HP'.out; show p' ≠ w.heap.size + 2; omega) _
end Go.Proofs.YtpjkmiinpjhdnaaDoor

/- The program's projection pairs: isPair, projectionOf, PairIs. -/
namespace Go.Proofs.YtpjkmiinpjhdnaaDoor
open Go.RowKit Go.Deep Go.Shelf

/-- The four fields of a struct in a variable of its own. -/
def Four (r : Nat) (a b c d : Value) (t : TypeId) (W : World) : Prop := W.heap[r]? = some (.cells #[a, b, c, d] t (0, 0))
theorem Four.lt {r : Nat} {a b c d : Value} {t : TypeId} {W : World} (h : Four r a b c d t W) : r < W.heap.size := by
  obtain ⟨hlt, _⟩ := Array.getElem?_eq_some_iff.1 h
  exact hlt
theorem Four.below {r : Nat} {a b c d : Value} {t : TypeId} {W W' : World} (h : Four r a b c d t W) (hb : Below W.heap.size W W') : Four r a b c d t W' := by
  unfold Four
  rw [hb.block r h.lt]
  exact h
theorem Four.cells {r : Nat} {a b c d : Value} {t : TypeId} {W : World} (h : Four r a b c d t W) :
    W.cell? ⟨r, 0, none⟩ = some a ∧ W.cell? ⟨r, 1, none⟩ = some b ∧ W.cell? ⟨r, 2, none⟩ = some c ∧ W.cell? ⟨r, 3, none⟩ = some d ∧ ∀ o, W.frozen? ⟨r, o, none⟩ = false :=
  ⟨by rw [cell_of_row W r _ _ _ _ h]; rfl, by rw [cell_of_row W r _ _ _ _ h]; rfl, by rw [cell_of_row W r _ _ _ _ h]; rfl, by rw [cell_of_row W r _ _ _ _ h]; rfl, fun o => frozen_of_row W r o _ _ h⟩
theorem Four.new (W : World) (a b c d : Value) (t : TypeId) : Four W.heap.size a b c d t (W.alloc (.cells #[a, b, c, d] t)) := heap_alloc_new _ _

/-- While isPair runs. -/
structure IP (w : World) (p p' : Nat) (rows' : Rows2) (vf vg : Value) (f g : List Int) (W : World) : Prop where
  box : Four w.heap.size (.pointer (some ⟨p, 0, none⟩)) (.pointer (some ⟨p', 0, none⟩)) vf vg 65 W
  f : IntsAt W vf f
  g : IntsAt W vg g
  grid : GridAt W p' (gridF rows')
  below : Below w.heap.size w W
theorem IP.step {w : World} {p p' : Nat} {rows' : Rows2} {vf vg : Value} {f g : List Int} {W W' : World} (h : IP w p p' rows' vf vg f g W) (hb : Below W.heap.size W W') : IP w p p' rows' vf vg f g W' :=
  ⟨h.box.below hb, h.f.below hb, h.g.below hb, h.grid.below hb h.grid.lt, h.below.trans (hb.mono h.below.size)⟩

set_option maxRecDepth 100000 in
set_option maxHeartbeats 8000000 in
theorem isPair_any (p p' : Nat) (vf vg : Value) (rows' : Rows2) (f g : List Int) (w : World) (hok : Ok rows') (hG : GridAt w p' (gridF rows')) (hf : IntsAt w vf f) (hg : IntsAt w vg g)
    (hfl : f.length ≤ 200) (hgl : g.length = rows'.length) (hrf : ∀ i, i < f.length → f.getD i 0 = (atN f i : Int) ∧ atN f i < rows'.length) (hrg : ∀ i, i < g.length → g.getD i 0 = (atN g i : Int) ∧ atN g i < f.length) :
    Calls Tryd.prog 44 #[.agg #[.pointer (some ⟨p, 0, none⟩), .pointer (some ⟨p', 0, none⟩), vf, vg]] w (SaysN (pairI rows' f g) w) := by
  have b1 := (Below.refl w.heap.size w).alloc (Nat.le_refl _) (.cells #[.pointer (some ⟨p, 0, none⟩), .pointer (some ⟨p', 0, none⟩), vf, vg] 65)
  have hB : IP w p p' rows' vf vg f g (w.alloc (.cells #[.pointer (some ⟨p, 0, none⟩), .pointer (some ⟨p', 0, none⟩), vf, vg] 65)) :=
    ⟨Four.new _ _ _ _ _ _, hf.below b1, hg.below b1, hG.below b1 hG.lt, b1⟩
  have hle := hok.len.2
  have hbit : ∀ a b, a < rows'.length → (gridF rows' a).testBit b = upB rows' a b := fun a b ha => upB_grid hok ha
  obtain ⟨Af, Cf, rfl, hCf, hmf, _⟩ := hf
  obtain ⟨Ag, Cg, rfl, hCg, hmg, _⟩ := hg
  have HB := Lib.hid hB
  have HRF := Lib.hid hrf
  have HRG := Lib.hid hrg
  have HL := Lib.hid hgl
  have HBIT := Lib.hid hbit
  have hg200 : g.length ≤ 200 := by omega
  obtain ⟨e0, e1, e2, e3, _⟩ := hB.box.cells
  clear b1 hB hG hrf hrg hgl hok hbit hmf hmg
  go_enter Tryd.func44, Tryd.ntmps44
  go_wp2
  clear e0 e1 e2 e3
  go_loopw [3, 4, 10] (fun _ _ kv wr => ∃ k : Nat, k ≤ f.length ∧ kv = .int .i64 k ∧ (∀ q, q < k → atN g (atN f q) = q) ∧ IP w p p' rows' (.slice Af f.length Cf) (.slice Ag g.length Cg) f g wr) (fun _ _ kv _ => f.length - (intOf kv).toNat)
  case atStart => exact ⟨0, Nat.zero_le _, rfl, fun _ h => absurd h (Nat.not_lt_zero _), HB.out⟩
  case round =>
    obtain ⟨i, hi, rfl, hp, hh⟩ := hrel
    have HP := Lib.hid hp
    have HK := Lib.hid hh
    obtain ⟨e0, e1, e2, e3, _⟩ := hh.box.cells
    clear hp HB
    by_cases hlt : i < f.length
    · obtain ⟨bf, o_f, rfl, hcf⟩ := hh.f.get hlt
      have hfa := HRF.out i hlt
      obtain ⟨a, ha⟩ : ∃ a : Nat, atN f i = a := ⟨_, rfl⟩
      rw [ha, getD_lt 0 hlt] at hfa
      rw [hfa.1] at hcf
      have hal : a < g.length := by have := HL.out; omega
      have hal2 : (a : Int) < (g.length : Int) := by omega
      obtain ⟨bg, o_g, rfl, hcg⟩ := hh.g.get hal
      have hgb := HRG.out a hal
      obtain ⟨b, hb⟩ : ∃ b : Nat, atN g a = b := ⟨_, rfl⟩
      rw [hb, getD_lt 0 hal] at hgb
      rw [hgb.1] at hcg
      have hge : atN g (atN f i) = b := by rw [ha, hb]
      clear hh hfa hgb ha hb
      by_cases hbi : b = i
      · have hb1 : ((b : Int) == (i : Int)) = true := by rw [beq_iff_eq]; omega
        have hb2 : (b == i) = true := by rw [beq_iff_eq]; exact hbi
        have hb3 : ((b : Int) != (i : Int)) = false := by unfold bne; rw [hb1]; rfl
        have hb4 : (b != i) = false := by unfold bne; rw [hb2]; rfl
        have HQ := Lib.hid (hge.trans hbi)
        clear hge hbi
        go_wp2
        go_roundw
        case rel =>
          refine ⟨i + 1, by omega, by go_num, fun q hq => ?_, HK.out⟩
          by_cases e : q = i
          · subst e; exact HQ.out
          · exact HP.out q (by omega)
        case measure => simp [intOf]; omega
      · have hb1 : ((b : Int) == (i : Int)) = false := by rw [beq_eq_false_iff_ne]; omega
        have hb2 : (b == i) = false := by rw [beq_eq_false_iff_ne]; exact hbi
        have hb3 : ((b : Int) != (i : Int)) = true := by unfold bne; rw [hb1]; rfl
        have hb4 : (b != i) = true := by unfold bne; rw [hb2]; rfl
        have HQ := Lib.hid (pairI_bad1 (rows' := rows') (g := g) hlt (by rw [hge]; exact hbi))
        clear hge hbi
        go_wp2
        go_ret
        exact ⟨by rw [HQ.out]; rfl, HK.out.below⟩
    · obtain rfl : i = f.length := by omega
      clear hh
      go_wp2
      clear e0 e1 e2 e3
      go_loopw [5, 6, 26] (fun _ _ kv wr => ∃ k : Nat, k ≤ g.length ∧ kv = .int .i64 k ∧ (∀ q, q < k → upB rows' (atN f (atN g q)) q = true) ∧ IP w p p' rows' (.slice Af f.length Cf) (.slice Ag g.length Cg) f g wr) (fun _ _ kv _ => g.length - (intOf kv).toNat)
      case atStart => exact ⟨0, Nat.zero_le _, rfl, fun _ h => absurd h (Nat.not_lt_zero _), HK.out⟩
      case round =>
        obtain ⟨k, hk, rfl, hp, hh⟩ := hrel
        have HP2 := Lib.hid hp
        have HK2 := Lib.hid hh
        obtain ⟨e0, e1, e2, e3, _⟩ := hh.box.cells
        clear hp HK
        by_cases hkl : k < g.length
        · obtain ⟨bg, o_g, rfl, hcg⟩ := hh.g.get hkl
          have hga := HRG.out k hkl
          obtain ⟨a, ha⟩ : ∃ a : Nat, atN g k = a := ⟨_, rfl⟩
          rw [ha, getD_lt 0 hkl] at hga
          rw [hga.1] at hcg
          have hal : a < f.length := hga.2
          have hal2 : (a : Int) < (f.length : Int) := by omega
          obtain ⟨bf, o_f, rfl, hcf⟩ := hh.f.get hal
          have hfb := HRF.out a hal
          obtain ⟨b, hb⟩ : ∃ b : Nat, atN f a = b := ⟨_, rfl⟩
          rw [hb, getD_lt 0 hal] at hfb
          rw [hfb.1] at hcf
          have hge : atN f (atN g k) = b := by rw [ha, hb]
          have hbl := hfb.2
          have hcall := fun d os => gbelow_any p' (gridF rows') b k b k _ (HK2.out.grid.below (below_regrown wr d os) HK2.out.grid.lt) rfl (by omega) rfl (by omega)
          have hq1 := fun d os => cell_regrown e1 d os
          have hq2 := fun d os => cell_regrown e2 d os
          have hq3 := fun d os => cell_regrown hcf d os
          have hbk : (gridF rows' b).testBit k = upB rows' b k := HBIT.out b k hbl
          rw [hbk] at hcall
          clear hh hga hfb ha hb hbk
          cases hup : upB rows' b k with
          | true =>
            simp only [hup] at hcall
            have HU := Lib.hid (show upB rows' (atN f (atN g k)) k = true by rw [hge]; exact hup)
            clear hup hge
            go_wp2
            refine wp_region_quiet_below (by kernel_rfl) (by kernel_rfl) ?_
            repeat (go_big_quiet_step (first | (go_at_call 56; exact Calls.regrown_of (hcall _ _))))
            refine wpQuiet_nil ?_
            intro _ hw'
            obtain ⟨⟨dq, osq⟩, hw''⟩ := hw'
            subst hw''
            clear hcall hq1 hq2 hq3
            go_wp2
            go_roundw
            case rel =>
              refine ⟨k + 1, by omega, by go_num, fun q hq => ?_, HK2.out.step (below_regrown wr dq osq)⟩
              by_cases e : q = k
              · subst e; exact HU.out
              · exact HP2.out q (by omega)
            case measure => simp [intOf]; omega
          | false =>
            simp only [hup] at hcall
            have HU := Lib.hid (pairI_bad2 (f := f) hkl (show upB rows' (atN f (atN g k)) k = false by rw [hge]; exact hup))
            clear hup hge
            go_wp2
            refine wp_region_quiet_below (by kernel_rfl) (by kernel_rfl) ?_
            repeat (go_big_quiet_step (first | (go_at_call 56; exact Calls.regrown_of (hcall _ _))))
            refine wpQuiet_nil ?_
            intro _ hw'
            obtain ⟨⟨dq, osq⟩, hw''⟩ := hw'
            subst hw''
            clear hcall hq1 hq2 hq3
            go_wp2
            go_ret
            exact ⟨by rw [HU.out]; rfl, (HK2.out.step (below_regrown wr dq osq)).below⟩
        · obtain rfl : k = g.length := by omega
          have HQ := Lib.hid (pairI_yes (rows' := rows') (f := f) (g := g) ⟨HP.out, HP2.out⟩)
          clear hh
          go_wp2
          go_ret
          exact ⟨by rw [HQ.out]; rfl, HK2.out.below⟩

end Go.Proofs.YtpjkmiinpjhdnaaDoor

/- The program's projectionOf, and its PairIs. -/
namespace Go.Proofs.YtpjkmiinpjhdnaaDoor
open Go.RowKit Go.Deep Go.Shelf

/-- What domainOf answers: a pointer, and whether there is one. -/
def DomQ (rows : Rows2) (w : World) (e : Ending) (w' : World) : Prop :=
  (∃ q, e = .returned (.tuple #[.pointer q, .bool (domB rows)]) ∧ (domB rows = true → ∃ p : Nat, q = some ⟨p, 0, none⟩ ∧ w.heap.size ≤ p ∧ GridAt w' p (gridF rows))) ∧ Below w.heap.size w w'
theorem domainOf_q (v : Value) (rows : Rows2) (w : World) (hv : RowsAt w v rows) (hT : Tab w) (hn : bulk rows ≤ 1048576) :
    Calls Tryd.prog 53 #[.agg #[v]] w (DomQ rows w) := by
  cases h : domB rows with
  | false =>
    refine (domainOf_no v rows w hv hT hn h).mono fun e w' hp => ?_
    obtain ⟨rfl, hb⟩ := hp
    exact ⟨⟨_, by rw [h], fun h' => by rw [h] at h'; cases h'⟩, hb⟩
  | true =>
    refine (domainOf_yes v rows w hv hT hn h).mono fun e w' hp => ?_
    obtain ⟨⟨p, rfl, hp, hg⟩, hb⟩ := hp
    exact ⟨⟨_, by rw [h], fun _ => ⟨p, rfl, hp, hg⟩⟩, hb⟩

/-- While projectionOf runs. -/
structure Pj (w : World) (v v' vf vg : Value) (rows rows' : Rows2) (f g : List Int) (W : World) : Prop where
  fg : TwoFG w v v' vf vg rows rows' f g W
  zero : Four (w.heap.size + 2) (.pointer none) (.pointer none) (.slice none 0 0) (.slice none 0 0) 65 W
  tab : Tab W
theorem Pj.below {w : World} {v v' vf vg : Value} {rows rows' : Rows2} {f g : List Int} {W : World} (h : Pj w v v' vf vg rows rows' f g W) : Below w.heap.size w W := h.fg.1.1.below
theorem Pj.step {w : World} {v v' vf vg : Value} {rows rows' : Rows2} {f g : List Int} {W W' : World} (h : Pj w v v' vf vg rows rows' f g W) (hb : Below W.heap.size W W') : Pj w v v' vf vg rows rows' f g W' :=
  ⟨h.fg.step hb, h.zero.below hb, h.tab.below hb⟩
theorem Pj.start (w : World) {v v' vf vg : Value} {rows rows' : Rows2} {f g : List Int} (hv : RowsAt w v rows) (hv' : RowsAt w v' rows') (hf : IntsAt w vf f) (hg : IntsAt w vg g) (hT : Tab w) :
    Pj w v v' vf vg rows rows' f g (((w.alloc (.cells #[v] 25)).alloc (.cells #[v'] 25)).alloc (.cells #[.pointer none, .pointer none, .slice none 0 0, .slice none 0 0] 65)) := by
  have h2 := TwoFG.start w 25 25 hv hv' hf hg
  have s2 : ((w.alloc (.cells #[v] 25)).alloc (.cells #[v'] 25)).heap.size = w.heap.size + 2 := by rw [World.size_alloc, World.size_alloc]
  have b3 := (Below.refl ((w.alloc (.cells #[v] 25)).alloc (.cells #[v'] 25)).heap.size ((w.alloc (.cells #[v] 25)).alloc (.cells #[v'] 25))).alloc (Nat.le_refl _) (.cells #[.pointer none, .pointer none, .slice none 0 0, .slice none 0 0] 65)
  refine ⟨h2.step b3, ?_, (hT.below h2.1.1.below).below b3⟩
  have h := Four.new ((w.alloc (.cells #[v] 25)).alloc (.cells #[v'] 25)) (.pointer none) (.pointer none) (.slice none 0 0) (.slice none 0 0) 65
  rw [s2] at h
  exact h

/-- What projectionOf answers. -/
def PjP (t : Bool) (rows rows' : Rows2) (vf vg : Value) (w : World) (e : Ending) (w' : World) : Prop :=
  (∃ (q q' a a' : Option Addr) (n c n' c' : Nat), e = .returned (.tuple #[.agg #[.pointer q, .pointer q', .slice a n c, .slice a' n' c'], .bool t]) ∧
    (t = true → ∃ p p' : Nat, q = some ⟨p, 0, none⟩ ∧ q' = some ⟨p', 0, none⟩ ∧ Value.slice a n c = vf ∧ Value.slice a' n' c' = vg ∧ w.heap.size ≤ p ∧ w.heap.size ≤ p' ∧ GridAt w' p (gridF rows) ∧ GridAt w' p' (gridF rows'))) ∧ Below w.heap.size w w'
theorem PjP.no {t : Bool} {rows rows' : Rows2} {vf vg : Value} {w w' : World} (ht : t = false) (hb : Below w.heap.size w w') : PjP t rows rows' vf vg w (.returned (.tuple #[.agg #[.pointer none, .pointer none, .slice none 0 0, .slice none 0 0], .bool false])) w' :=
  ⟨⟨none, none, _, _, _, _, _, _, by rw [ht], fun h => (by rw [ht] at h; cases h)⟩, hb⟩
theorem below4 {B : Nat} {w W : World} (h : Below B w W) {p : Nat} (hp : B ≤ p) (a b c d : Value) : Below B w ((((W.setCell ⟨p, 0, none⟩ a).setCell ⟨p, 1, none⟩ b).setCell ⟨p, 2, none⟩ c).setCell ⟨p, 3, none⟩ d) :=
  (((h.setCell (p := ⟨p, 0, none⟩) hp _).setCell (p := ⟨p, 1, none⟩) hp _).setCell (p := ⟨p, 2, none⟩) hp _).setCell (p := ⟨p, 3, none⟩) hp _

set_option maxRecDepth 100000 in
set_option maxHeartbeats 4000000 in
theorem projectionOf_any (v v' vf vg : Value) (rows rows' : Rows2) (f g : List Int) (w : World) (hv : RowsAt w v rows) (hv' : RowsAt w v' rows') (hf : IntsAt w vf f) (hg : IntsAt w vg g) (hT : Tab w) (hn : bulk rows ≤ 1048576) (hn' : bulk rows' ≤ 1048576) :
    Calls Tryd.prog 39 #[.agg #[v], .agg #[v'], vf, vg] w (PjP (pairB rows rows' f g) rows rows' vf vg w) := by
  have hF := Pj.start w hv hv' hf hg hT
  have hwz : (((w.alloc (.cells #[v] 25)).alloc (.cells #[v'] 25)).alloc (.cells #[.pointer none, .pointer none, .slice none 0 0, .slice none 0 0] 65)).heap.size = w.heap.size + 3 := by rw [World.size_alloc, World.size_alloc, World.size_alloc]
  obtain ⟨A, C, rfl, _⟩ := hv
  obtain ⟨A', C', rfl, _⟩ := hv'
  obtain ⟨Af, Cf, rfl, _⟩ := hf
  obtain ⟨Ag, Cg, rfl, _⟩ := hg
  have H0 := Lib.hid hF
  have HZ := Lib.hid hwz
  have hc0 := hF.fg.1.1.c0
  have hd := domainOf_q _ rows _ hF.fg.1.1.r0 hF.tab hn
  clear hF hT hwz
  cases h1 : domB rows with
  | false =>
    have HE := Lib.hid (show pairB rows rows' f g = false from pairB_no1 (by unfold monoB; rw [h1]; rfl))
    go_enter Tryd.func39, Tryd.ntmps39
    go_wp2_with (first | (go_at_call 53; refine hd.mono ?_; clear hd; rintro e w1 ⟨⟨q, rfl, _⟩, hb1⟩; rw [h1]; have H1 := Lib.hid (H0.out.step hb1); have hc1 := H1.out.fg.1.1.c1; have hd2 := domainOf_q _ rows' _ H1.out.fg.1.1.r1 H1.out.tab hn'; clear hb1) | (go_at_call 53; refine hd2.mono ?_; clear hd2; rintro e w2 ⟨⟨q', rfl, _⟩, hb2⟩; have H2 := Lib.hid (H1.out.step hb2); obtain ⟨z0, z1, z2, z3, z4⟩ := H2.out.zero.cells; clear hb2))
    refine bodyPost_ret (v := .tuple #[.agg #[.pointer none, .pointer none, .slice none 0 0, .slice none 0 0], .bool false]) (by simp [results, Tryd.results39, go_sem, z0, z1, z2, z3]) rfl ?_
    exact PjP.no HE.out (below4 H2.out.below (by omega) _ _ _ _)
  | true =>
    cases h2 : domB rows' with
    | false =>
      have HE := Lib.hid (show pairB rows rows' f g = false from pairB_no1 (by unfold monoB; rw [h1, h2]; rfl))
      go_enter Tryd.func39, Tryd.ntmps39
      go_wp2_with (first | (go_at_call 53; refine hd.mono ?_; clear hd; rintro e w1 ⟨⟨q, rfl, _⟩, hb1⟩; rw [h1]; have H1 := Lib.hid (H0.out.step hb1); have hc1 := H1.out.fg.1.1.c1; have hd2 := domainOf_q _ rows' _ H1.out.fg.1.1.r1 H1.out.tab hn'; clear hb1) | (go_at_call 53; refine hd2.mono ?_; clear hd2; rintro e w2 ⟨⟨q', rfl, _⟩, hb2⟩; rw [h2]; have H2 := Lib.hid (H1.out.step hb2); obtain ⟨z0, z1, z2, z3, z4⟩ := H2.out.zero.cells; clear hb2))
      refine bodyPost_ret (v := .tuple #[.agg #[.pointer none, .pointer none, .slice none 0 0, .slice none 0 0], .bool false]) (by simp [results, Tryd.results39, go_sem, z0, z1, z2, z3]) rfl ?_
      exact PjP.no HE.out (below4 H2.out.below (by omega) _ _ _ _)
    | true =>
      have hok := dom_ok h1
      have hok' := dom_ok h2
      have HMONO := Lib.hid (fun p p' W hg hg' hf => isMonotone_any p p' rows.length rows'.length (gridF rows) (gridF rows') (.slice Af f.length Cf) f W hg hg' hok.gridN hok'.gridN hf (monoI rows rows' f) (mono_grid hok hok' f))
      have HMONO' := Lib.hid (fun p p' W hg hg' hf => isMonotone_any p p' rows'.length rows.length (gridF rows') (gridF rows) (.slice Ag g.length Cg) g W hg hg' hok'.gridN hok.gridN hf (monoI rows' rows g) (mono_grid hok' hok g))
      cases h3 : monoI rows rows' f with
      | false =>
        have HE := Lib.hid (show pairB rows rows' f g = false from pairB_no1 (by unfold monoB; rw [h3]; simp))
        rw [h3] at HMONO
        clear hok hok' HMONO'
        go_enter Tryd.func39, Tryd.ntmps39
        go_wp2_with (first | (go_at_call 53; refine hd.mono ?_; clear hd; rintro e w1 ⟨⟨q, rfl, hq⟩, hb1⟩; obtain ⟨p, rfl, _, hg⟩ := hq h1; rw [h1]; have H1 := Lib.hid (H0.out.step hb1); have G1 := Lib.hid hg; have hc1 := H1.out.fg.1.1.c1; have hd2 := domainOf_q _ rows' _ H1.out.fg.1.1.r1 H1.out.tab hn'; clear hb1 hq hg) | (go_at_call 53; refine hd2.mono ?_; clear hd2; rintro e w2 ⟨⟨q', rfl, hq⟩, hb2⟩; obtain ⟨p', rfl, _, hg⟩ := hq h2; rw [h2]; have H2 := Lib.hid (H1.out.step hb2); have G2 := Lib.hid (G1.out.below hb2 G1.out.lt); have G2' := Lib.hid hg; clear hb2 hq hg) | (go_at_call 54; refine (HMONO.out p p' _ G2.out G2'.out H2.out.fg.1.2).mono ?_; rintro e w3 ⟨rfl, hb3⟩; have H3 := Lib.hid (H2.out.step hb3); obtain ⟨z0, z1, z2, z3, z4⟩ := H3.out.zero.cells; clear hb3))
        refine bodyPost_ret (v := .tuple #[.agg #[.pointer none, .pointer none, .slice none 0 0, .slice none 0 0], .bool false]) (by simp [results, Tryd.results39, go_sem, z0, z1, z2, z3]) rfl ?_
        exact PjP.no HE.out (below4 H3.out.below (by omega) _ _ _ _)
      | true =>
        rw [h3] at HMONO
        have hm1 : monoB rows rows' f = true := by unfold monoB; rw [h1, h2, h3]; rfl
        cases h4 : monoI rows' rows g with
        | false =>
          have HE := Lib.hid (show pairB rows rows' f g = false from pairB_no2 (by unfold monoB; rw [h4]; simp))
          rw [h4] at HMONO'
          clear hok hok' hm1
          go_enter Tryd.func39, Tryd.ntmps39
          go_wp2_with (first | (go_at_call 53; refine hd.mono ?_; clear hd; rintro e w1 ⟨⟨q, rfl, hq⟩, hb1⟩; obtain ⟨p, rfl, _, hg⟩ := hq h1; rw [h1]; have H1 := Lib.hid (H0.out.step hb1); have G1 := Lib.hid hg; have hc1 := H1.out.fg.1.1.c1; have hd2 := domainOf_q _ rows' _ H1.out.fg.1.1.r1 H1.out.tab hn'; clear hb1 hq hg) | (go_at_call 53; refine hd2.mono ?_; clear hd2; rintro e w2 ⟨⟨q', rfl, hq⟩, hb2⟩; obtain ⟨p', rfl, _, hg⟩ := hq h2; rw [h2]; have H2 := Lib.hid (H1.out.step hb2); have G2 := Lib.hid (G1.out.below hb2 G1.out.lt); have G2' := Lib.hid hg; clear hb2 hq hg) | (go_at_call 54; refine (HMONO.out p p' _ G2.out G2'.out H2.out.fg.1.2).mono ?_; clear HMONO; rintro e w3 ⟨rfl, hb3⟩; have H3 := Lib.hid (H2.out.step hb3); have G3 := Lib.hid (G2.out.below hb3 G2.out.lt); have G3' := Lib.hid (G2'.out.below hb3 G2'.out.lt); clear hb3) | (go_at_call 54; refine (HMONO'.out p' p _ G3'.out G3.out H3.out.fg.2).mono ?_; clear HMONO'; rintro e w4 ⟨rfl, hb4⟩; have H4 := Lib.hid (H3.out.step hb4); obtain ⟨z0, z1, z2, z3, z4⟩ := H4.out.zero.cells; clear hb4))
          refine bodyPost_ret (v := .tuple #[.agg #[.pointer none, .pointer none, .slice none 0 0, .slice none 0 0], .bool false]) (by simp [results, Tryd.results39, go_sem, z0, z1, z2, z3]) rfl ?_
          exact PjP.no HE.out (below4 H4.out.below (by omega) _ _ _ _)
        | true =>
          rw [h4] at HMONO'
          have hm2 : monoB rows' rows g = true := by unfold monoB; rw [h1, h2, h4]; rfl
          obtain ⟨_, _, k1⟩ := monoB_parts hm1
          obtain ⟨_, _, k2⟩ := monoB_parts hm2
          have hl1 := hok.len.2
          have HPAIR := Lib.hid (fun p p' W hG hf hg => isPair_any p p' (.slice Af f.length Cf) (.slice Ag g.length Cg) rows' f g W hok' hG hf hg (by rw [k1.1]; exact hl1) k2.1 (fun i hi => ⟨(k1.lt hi).2, (k1.lt hi).1⟩) (fun i hi => ⟨(k2.lt hi).2, by rw [k1.1]; exact (k2.lt hi).1⟩))
          have HE := Lib.hid (pairB_both hm1 hm2)
          clear hok hok' k1 k2 hm1 hm2 hl1
          go_enter Tryd.func39, Tryd.ntmps39
          go_wp2_with (first | (go_at_call 53; refine hd.mono ?_; clear hd; rintro e w1 ⟨⟨q, rfl, hq⟩, hb1⟩; obtain ⟨p, rfl, hp1, hg⟩ := hq h1; rw [h1]; have H1 := Lib.hid (H0.out.step hb1); have G1 := Lib.hid hg; have P1 := Lib.hid (show w.heap.size + 3 ≤ p by rw [← HZ.out]; exact hp1); have Z1 := Lib.hid (Nat.le_trans (Nat.le_of_eq HZ.out.symm) hb1.size); have hc1 := H1.out.fg.1.1.c1; have hd2 := domainOf_q _ rows' _ H1.out.fg.1.1.r1 H1.out.tab hn'; clear hb1 hq hg hp1) | (go_at_call 53; refine hd2.mono ?_; clear hd2; rintro e w2 ⟨⟨q', rfl, hq⟩, hb2⟩; obtain ⟨p', rfl, hp2, hg⟩ := hq h2; rw [h2]; have H2 := Lib.hid (H1.out.step hb2); have G2 := Lib.hid (G1.out.below hb2 G1.out.lt); have G2' := Lib.hid hg; have P2 := Lib.hid (Nat.le_trans Z1.out hp2); clear hb2 hq hg hp2) | (go_at_call 54; refine (HMONO.out p p' _ G2.out G2'.out H2.out.fg.1.2).mono ?_; clear HMONO; rintro e w3 ⟨rfl, hb3⟩; have H3 := Lib.hid (H2.out.step hb3); have G3 := Lib.hid (G2.out.below hb3 G2.out.lt); have G3' := Lib.hid (G2'.out.below hb3 G2'.out.lt); clear hb3) | (go_at_call 54; refine (HMONO'.out p' p _ G3'.out G3.out H3.out.fg.2).mono ?_; clear HMONO'; rintro e w4 ⟨rfl, hb4⟩; have H4 := Lib.hid (H3.out.step hb4); have G4 := Lib.hid (G3.out.below hb4 G3.out.lt); have G4' := Lib.hid (G3'.out.below hb4 G3'.out.lt); obtain ⟨z0, z1, z2, z3, z4⟩ := H4.out.zero.cells; clear hb4))
          have b5 := (Below.refl w4.heap.size w4).alloc (Nat.le_refl _) (.cells #[.pointer (some ⟨p, 0, none⟩), .pointer (some ⟨p', 0, none⟩), .slice Af f.length Cf, .slice Ag g.length Cg] 65)
          have H5 := Lib.hid (H4.out.step b5)
          have G5 := Lib.hid (G4.out.below b5 G4.out.lt)
          have G5' := Lib.hid (G4'.out.below b5 G4'.out.lt)
          have BX5 := Lib.hid (Four.new w4 (.pointer (some ⟨p, 0, none⟩)) (.pointer (some ⟨p', 0, none⟩)) (.slice Af f.length Cf) (.slice Ag g.length Cg) 65)
          clear b5 z0 z1 z2 z3 z4
          generalize (w4.alloc (.cells #[.pointer (some ⟨p, 0, none⟩), .pointer (some ⟨p', 0, none⟩), .slice Af f.length Cf, .slice Ag g.length Cg] 65)) = w5 at H5 G5 G5' BX5 ⊢
          obtain ⟨e0, e1, e2, e3, e4⟩ := BX5.out.cells
          first | (go_region_with (go_at_call 44; refine (HPAIR.out p p' _ (G5'.out.below (Below.refl _ _).drew G5'.out.lt) (H5.out.step (Below.refl _ _).drew).fg.1.2 (H5.out.step (Below.refl _ _).drew).fg.2).mono ?_; rintro e w6 ⟨rfl, hb6⟩; have H6 := Lib.hid ((H5.out.step (Below.refl _ _).drew).step hb6); have G6 := Lib.hid ((G5.out.below (Below.refl _ _).drew G5.out.lt).below hb6 G5.out.lt); have G6' := Lib.hid ((G5'.out.below (Below.refl _ _).drew G5'.out.lt).below hb6 G5'.out.lt); obtain ⟨z0, z1, z2, z3, z4⟩ := H6.out.zero.cells; obtain ⟨d0, d1, d2, d3, d4⟩ := ((BX5.out.below (Below.refl _ _).drew).below hb6).cells; clear hb6)) | fail
          all_goals go_wp2
          all_goals
            refine bodyPost_ret (v := .tuple #[.agg #[.pointer (some ⟨p, 0, none⟩), .pointer (some ⟨p', 0, none⟩), .slice Af f.length Cf, .slice Ag g.length Cg], .bool (pairI rows' f g)]) (by simp [results, Tryd.results39, go_sem, z0, z1, z2, z3]) rfl ?_
            refine ⟨⟨_, _, _, _, _, _, _, _, by rw [HE.out], fun _ => ⟨p, p', rfl, rfl, rfl, rfl, by have := P1.out; omega, by have := P2.out; omega, ?_, ?_⟩⟩, below4 H6.out.below (by omega) _ _ _ _⟩
            · exact (((G6.out.setOther (by have := P1.out; show p ≠ w.heap.size + 2; omega) _).setOther (by have := P1.out; show p ≠ w.heap.size + 2; omega) _).setOther (by have := P1.out; show p ≠ w.heap.size + 2; omega) _).setOther (by have := P1.out; show p ≠ w.heap.size + 2; omega) _
            · exact (((G6'.out.setOther (by have := P2.out; show p' ≠ w.heap.size + 2; omega) _).setOther (by have := P2.out; show p' ≠ w.heap.size + 2; omega) _).setOther (by have := P2.out; show p' ≠ w.heap.size + 2; omega) _).setOther (by have := P2.out; show p' ≠ w.heap.size + 2; omega) _

set_option maxRecDepth 100000 in
set_option maxHeartbeats 4000000 in
theorem implPairIs_any (v v' vf vg : Value) (rows rows' : Rows2) (f g : List Int) (w : World) (hv : RowsAt w v rows) (hv' : RowsAt w v' rows') (hf : IntsAt w vf f) (hg : IntsAt w vg g) (hT : Tab w) (hn : bulk rows ≤ 1048576) (hn' : bulk rows' ≤ 1048576) :
    Calls Tryd.prog 20 #[.agg #[v], .agg #[v'], vf, vg] w (SaysN (pairB rows rows' f g) w) := by
  have h0 := TwoFG.start w 25 25 hv hv' hf hg
  have hcall := projectionOf_any v v' vf vg rows rows' f g _ h0.1.1.r0 h0.1.1.r1 h0.1.2 h0.2 (hT.below h0.1.1.below) hn hn'
  have hc0 := h0.1.1.c0
  have hc1 := h0.1.1.c1
  obtain ⟨A, C, rfl, _⟩ := hv
  obtain ⟨A', C', rfl, _⟩ := hv'
  obtain ⟨Af, Cf, rfl, _⟩ := hf
  obtain ⟨Ag, Cg, rfl, _⟩ := hg
  have HB := Lib.hid h0.1.1.below
  generalize pairB rows rows' f g = t at hcall ⊢
  clear h0 hT
  go_enter Tryd.func20, Tryd.ntmps20
  go_wp2_with (go_at_call 39; refine hcall.mono ?_; clear hcall; rintro e w1 ⟨⟨q, q', a, a', n, c, n', c', rfl, _⟩, hb1⟩; have H1 := Lib.hid (HB.out.trans (hb1.mono HB.out.size)); clear hb1)
  go_ret
  exact ⟨rfl, H1.out.alloc H1.out.size _⟩
end Go.Proofs.YtpjkmiinpjhdnaaDoor

/- The model's steps (l3Step), and its FunStep. -/
namespace Go.Proofs.YtpjkmiinpjhdnaaDoor
open Go.RowKit Go.Deep

theorem owns_weaker {W : World} {lo lo' n : Nat} {t : TypeId} {v : Value} {xs : List Value} (h : W.ownsRow lo t 1 v n xs) (hl : lo' ≤ lo) : W.ownsRow lo' t 1 v n xs := by
  obtain ⟨h1, h2 | ⟨g, c, cur, rfl, h3, h4⟩⟩ := h
  · exact ⟨h1, .inl h2⟩
  · exact ⟨h1, .inr ⟨g, c, cur, rfl, by omega, h4⟩⟩
/-- The numbers xs, in memory of their own. -/
def OwnQ (xs : List Int) (w : World) (e : Ending) (w' : World) : Prop :=
  ∃ v, e = .returned v ∧ OwnI 3 w' v xs w.heap.size w'.heap.size ∧ Below w.heap.size w w'

/-- What the step of a to b has for element i. -/
def stepAt (rows rows' : Rows2) (a : Nat) (b : Int) (i : Nat) : Int := if upB rows a (i : Int) = true then b else leastI rows'
def stepN (rows rows' : Rows2) (a : Nat) (b : Int) (k : Nat) : List Int := (List.range k).map (stepAt rows rows' a b)
theorem stepN_length (rows rows' : Rows2) (a : Nat) (b : Int) (k : Nat) : (stepN rows rows' a b k).length = k := by unfold stepN; simp
theorem stepN_succ (rows rows' : Rows2) (a : Nat) (b : Int) (k : Nat) : stepN rows rows' a b (k + 1) = stepN rows rows' a b k ++ [stepAt rows rows' a b k] := by
  unfold stepN
  rw [List.range_succ, List.map_append]
  rfl

/-- Behind an append to a list of the call's own. -/
theorem Two.grow {w : World} {v v' : Value} {rows rows' : Rows2} {W w1 : World} (h : Two w v v' rows rows' W) (hv : RowsAt w v rows) (hv' : RowsAt w v' rows') {u : Value} {n : Nat} {xs : List Value} (ho : W.ownsRow (w.heap.size + 2) 3 1 u n xs) (o : Obj) {row : Option Nat} (hg : (W.alloc o).grownBy w1 row) (hr : row = u.ownBlock := by rfl) : Two w v v' rows rows' w1 := by
  subst hr
  have hb1 : w.heap.size + 1 < W.heap.size := cell_lt h.c1
  have hb : Below (w.heap.size + 2) W w1 := ((Below.refl (w.heap.size + 2) W).alloc (by omega) o).grown hg (by rw [World.size_alloc]; omega) (fun b e => (ho.lt b e).1)
  have hw : Below w.heap.size w w1 := h.below.trans (hb.mono (by omega))
  exact ⟨(hb.cell (p := ⟨w.heap.size, 0, none⟩) (by show w.heap.size < w.heap.size + 2; omega)).trans h.c0, (hb.cell (p := ⟨w.heap.size + 1, 0, none⟩) (by show w.heap.size + 1 < w.heap.size + 2; omega)).trans h.c1, hv.below hw, hv'.below hw, hw⟩

/-- What FunStep answers. -/
noncomputable def stepOk (rows rows' : Rows2) (a b : Int) : Bool := domB rows && domB rows' && (decide (0 ≤ a ∧ a < rows.length) && decide (0 ≤ b ∧ b < rows'.length))
noncomputable def stepL (rows rows' : Rows2) (a b : Int) : List Int := if stepOk rows rows' a b = true then stepN rows rows' a.toNat b rows.length else []
/-- A list in memory of its own, and a Boolean. -/
def OwnB (xs : List Int) (t : Bool) (w : World) (e : Ending) (w' : World) : Prop :=
  ∃ v, e = .returned (.tuple #[v, .bool t]) ∧ OwnI 3 w' v xs w.heap.size w'.heap.size ∧ Below w.heap.size w w'
theorem stepOk_no1 {rows rows' : Rows2} {a b : Int} (h : domB rows = false) : stepOk rows rows' a b = false := by unfold stepOk; rw [h]; rfl
theorem stepOk_no2 {rows rows' : Rows2} {a b : Int} (h : domB rows' = false) : stepOk rows rows' a b = false := by unfold stepOk; rw [h]; simp
theorem stepOk_no3 {rows rows' : Rows2} {a b : Int} (h : ¬ (0 ≤ a ∧ a < rows.length)) : stepOk rows rows' a b = false := by unfold stepOk; rw [decide_eq_false h]; simp
theorem stepOk_no4 {rows rows' : Rows2} {a b : Int} (h : ¬ (0 ≤ b ∧ b < rows'.length)) : stepOk rows rows' a b = false := by unfold stepOk; rw [decide_eq_false h]; simp

/-- An empty list made by the call. -/
theorem ownB_none {rows rows' : Rows2} {a b : Int} {w W : World} (h : stepOk rows rows' a b = false) (hb : Below w.heap.size w W) : OwnB (stepL rows rows' a b) (stepOk rows rows' a b) w (.returned (.tuple #[.slice (some ⟨W.heap.size, 0, none⟩) 0 0, .bool false])) (W.alloc (.cells #[] 3)) := by
  unfold stepL
  rw [h]
  exact ⟨_, rfl, ⟨fun _ h => (by cases h), .inr ⟨W.heap.size, 0, fun _ => undef, rfl, Nat.le_refl _, Nat.zero_le _, hb.size, by rw [World.size_alloc]; omega, World.rowIs_alloc W #[] 3 (fun _ => undef) (fun _ h => absurd h (Nat.not_lt_zero _)), fun _ h => absurd h (Nat.not_lt_zero _)⟩⟩, hb.alloc hb.size _⟩

end Go.Proofs.YtpjkmiinpjhdnaaDoor

/- The program's FunMonotone. -/
namespace Go.Proofs.YtpjkmiinpjhdnaaDoor
open Go.RowKit Go.Deep Go.Shelf

theorem rows_one {w : World} {vf : Value} {f : List Int} (hf : IntsAt w vf f) : RowsAt (w.alloc (.cells #[vf] 34)) (.slice (some ⟨w.heap.size, 0, none⟩) 1 1) [f] := by
  refine ⟨some ⟨w.heap.size, 0, none⟩, 1, rfl, Nat.le_refl _, by unfold maxLen; omega, fun i hi => ?_⟩
  obtain rfl : i = 0 := by simpa using hi
  exact ⟨w.heap.size, 0, vf, rfl, (World.rowIs_alloc w #[vf] 34 (fun _ => vf) (fun i hi => by simp at hi; subst hi; rfl)).cell (i := 0) (by simp), hf.below ((Below.refl _ w).alloc (Nat.le_refl _) _)⟩
theorem rows_two {w : World} {vf vg : Value} {f g : List Int} (hf : IntsAt w vf f) (hg : IntsAt w vg g) : RowsAt (w.alloc (.cells #[vf, vg] 34)) (.slice (some ⟨w.heap.size, 0, none⟩) 2 2) [f, g] := by
  have hr := World.rowIs_alloc w #[vf, vg] 34 (fun i => if i = 0 then vf else vg) (fun i hi => by
    have hi' : i < 2 := by simpa using hi
    obtain rfl | rfl : i = 0 ∨ i = 1 := by omega
    · rfl
    · rfl)
  refine ⟨some ⟨w.heap.size, 0, none⟩, 2, rfl, Nat.le_refl _, by unfold maxLen; omega, fun i hi => ?_⟩
  have hi' : i < 2 := by simpa using hi
  have hc := hr.cell (i := i) (by simpa using hi')
  obtain rfl | rfl : i = 0 ∨ i = 1 := by omega
  · exact ⟨w.heap.size, 0, vf, rfl, by simp, hf.below ((Below.refl _ w).alloc (Nat.le_refl _) _)⟩
  · exact ⟨w.heap.size, 0, vg, rfl, by simp, hg.below ((Below.refl _ w).alloc (Nat.le_refl _) _)⟩

end Go.Proofs.YtpjkmiinpjhdnaaDoor

/- A row that a relation makes, as a number. Plain facts: no function is walked here. -/
namespace Go.Proofs.YtpjkmiinpjhdnaaDoor
open Go.RowKit Go.Deep

/-- Row a of the rows that a relation makes, when b elements have been looked at. -/
def bNum (B : Nat → Nat → Bool) (a : Nat) : Nat → Nat
  | 0 => 0
  | b + 1 => if B a b then put (bNum B a b) b else bNum B a b
theorem bNum_bit (B : Nat → Nat → Bool) (a k : Nat) : ∀ n, (bNum B a n).testBit k = (decide (k < n) && B a k)
  | 0 => by simp [bNum]
  | n + 1 => by
    have ih := bNum_bit B a k n
    unfold bNum
    by_cases h : B a n = true
    · rw [if_pos h, testBit_put, ih]
      by_cases e : n = k
      · subst e; simp [h]
      · rw [decide_eq_false e, Bool.or_false]
        congr 1
        rw [decide_eq_decide]; omega
    · rw [if_neg h, ih]
      by_cases e : k = n
      · subst e; simp [h]
      · congr 1
        rw [decide_eq_decide]; omega
theorem bNum_lt (B : Nat → Nat → Bool) (a : Nat) : ∀ n, n ≤ 256 → bNum B a n < 2 ^ 256
  | 0, _ => Nat.two_pow_pos 256
  | n + 1, h => by
    have ih := bNum_lt B a n (by omega)
    unfold bNum
    split
    · exact put_lt ih (by omega)
    · exact ih
end Go.Proofs.YtpjkmiinpjhdnaaDoor

/- The program's ProjectionOf (fun.greatestUnder). -/
namespace Go.Proofs.YtpjkmiinpjhdnaaDoor
open Go.RowKit Go.Deep Go.Shelf

/-- Which elements go below k, and the greatest of them, or -1. -/
def undB (rows' : Rows2) (f : List Int) (k i : Nat) : Bool := upB rows' (atN f i) k
def undN (rows' : Rows2) (f : List Int) (k i : Nat) : Nat := bNum (undB rows' f) k i
def grAt (rows rows' : Rows2) (f : List Int) (k : Nat) : Int := bottomF (gridF (backRows rows)) (undN rows' f k f.length)
theorem undN_lt {rows' : Rows2} {f : List Int} {k i : Nat} (h : i ≤ 200) : undN rows' f k i < 2 ^ 256 := bNum_lt _ _ _ (by omega)
theorem undN_elems {rows' : Rows2} {f : List Int} {k i : Nat} (h : i ≤ 200) : ∀ j ∈ elems (undN rows' f k i), j < i := fun j hj => by
  rw [mem_elems (undN_lt h)] at hj
  unfold undN at hj
  rw [bNum_bit, Bool.and_eq_true, decide_eq_true_iff] at hj
  exact hj.1
theorem bottomF_found {g : Nat → Nat} {s m : Nat} (h : bottomF g s = (m : Int)) : m ∈ elems s ∧ g m = s := by
  unfold bottomF at h
  cases e : (elems s).find? (fun k => g k == s) with
  | none => rw [e] at h; exact absurd h (by show ¬ ((-1 : Int) = (m : Int)); omega)
  | some k =>
    rw [e] at h
    have h : (k : Int) = (m : Int) := h
    obtain rfl : k = m := by omega
    exact ⟨List.mem_of_find?_eq_some e, by simpa using List.find?_some e⟩
theorem bottomF_none {g : Nat → Nat} {s : Nat} (h : bottomF g s < 0) : ∀ m ∈ elems s, g m ≠ s := by
  unfold bottomF at h
  cases e : (elems s).find? (fun k => g k == s) with
  | none => intro m hm; simpa using List.find?_eq_none.1 e m hm
  | some k => rw [e] at h; exact absurd h (by show ¬ ((k : Int) < 0); omega)
theorem bottomF_min (g : Nat → Nat) (s : Nat) : -1 ≤ bottomF g s := by
  unfold bottomF
  split
  · omega
  · omega
theorem gr_great {rows rows' : Rows2} {f : List Int} (hok : Ok rows) (hl : f.length = rows.length) {k m : Nat} (h : grAt rows rows' f k = (m : Int)) : Great rows rows' f k m := by
  have h200 : f.length ≤ 200 := by rw [hl]; exact hok.len.2
  obtain ⟨h1, h2⟩ := bottomF_found h
  have h3 := undN_elems h200 m h1
  rw [mem_elems (undN_lt h200)] at h1
  have hbit : ∀ i, (undN rows' f k f.length).testBit i = (decide (i < f.length) && undB rows' f k i) := fun i => by unfold undN; exact bNum_bit _ _ _ _
  rw [hbit, Bool.and_eq_true] at h1
  refine ⟨by omega, h1.2, fun i hi hu => ?_⟩
  have h4 := hbit i
  rw [← h2, back_bit hok, decide_eq_true (show i < f.length by omega), Bool.true_and] at h4
  rw [← upB_grid hok hi, h4]
  exact hu
theorem gr_none {rows rows' : Rows2} {f : List Int} (hok : Ok rows) (hok' : Ok rows') (hf : Mono rows rows' f) {k : Nat} (h : grAt rows rows' f k < 0) : ∀ m, ¬ Great rows rows' f k m := by
  intro m hm
  have h200 : f.length ≤ 200 := by rw [hf.1]; exact hok.len.2
  have hbit : ∀ i, (undN rows' f k f.length).testBit i = (decide (i < f.length) && undB rows' f k i) := fun i => by unfold undN; exact bNum_bit _ _ _ _
  refine bottomF_none h m ((mem_elems (undN_lt h200)).2 (by rw [hbit, decide_eq_true (show m < f.length by rw [hf.1]; exact hm.1)]; exact hm.2.1)) ?_
  apply Nat.eq_of_testBit_eq
  intro i
  rw [back_bit hok, hbit]
  by_cases hi : i < f.length
  · have hi' : i < rows.length := by rw [← hf.1]; exact hi
    rw [decide_eq_true hi, Bool.true_and, upB_grid hok hi', Bool.eq_iff_iff]
    exact ⟨fun hu => up_trans hok' (hf.lt hi).1 (hf.lt (i := m) (by rw [hf.1]; exact hm.1)).1 (hf.up hi' hm.1 hu) hm.2.1, fun hu => hm.2.2 i hi' hu⟩
  · rw [decide_eq_false hi, Bool.false_and, gridF_out rows (show rows.length ≤ i by rw [← hf.1]; omega)]
    exact Nat.zero_testBit _
/-- The list of the greatest elements below the first k, and whether there is one each. -/
def grL (rows rows' : Rows2) (f : List Int) (k : Nat) : List Int := (List.range k).map (grAt rows rows' f)
theorem grL_len (rows rows' : Rows2) (f : List Int) (k : Nat) : (grL rows rows' f k).length = k := by unfold grL; simp
theorem grL_at {rows rows' : Rows2} {f : List Int} {k i : Nat} (h : i < k) : (grL rows rows' f k).getD i 0 = grAt rows rows' f i := by
  rw [getD_lt 0 (by rw [grL_len]; exact h)]
  unfold grL
  rw [List.getElem_map, List.getElem_range]
def grOk (rows rows' : Rows2) (f : List Int) (n : Nat) : Bool := (List.range n).all fun k => decide (0 ≤ grAt rows rows' f k)
theorem grOk_no {rows rows' : Rows2} {f : List Int} {n k : Nat} (hk : k < n) (h : grAt rows rows' f k < 0) : grOk rows rows' f n = false := by
  unfold grOk
  rw [List.all_eq_false]
  exact ⟨k, List.mem_range.2 hk, by rw [decide_eq_false (by omega)]; simp⟩
theorem grOk_yes {rows rows' : Rows2} {f : List Int} {n : Nat} (h : ∀ k, k < n → 0 ≤ grAt rows rows' f k) : grOk rows rows' f n = true := by
  unfold grOk
  rw [List.all_eq_true]
  intro k hk
  exact decide_eq_true (h k (List.mem_range.1 hk))
theorem grOk_at {rows rows' : Rows2} {f : List Int} {n k : Nat} (h : grOk rows rows' f n = true) (hk : k < n) : 0 ≤ grAt rows rows' f k := by
  unfold grOk at h
  rw [List.all_eq_true] at h
  exact of_decide_eq_true (h k (List.mem_range.2 hk))
theorem grOk_bad {rows rows' : Rows2} {f : List Int} {n : Nat} (h : grOk rows rows' f n = false) : ∃ k, k < n ∧ grAt rows rows' f k < 0 := by
  unfold grOk at h
  rw [List.all_eq_false] at h
  obtain ⟨k, hk, hn⟩ := h
  rw [decide_eq_true_iff] at hn
  exact ⟨k, List.mem_range.1 hk, by omega⟩
theorem grAt_lt {rows rows' : Rows2} {f : List Int} (h200 : f.length ≤ 200) (k : Nat) : -1 ≤ grAt rows rows' f k ∧ grAt rows rows' f k < 200 := by
  refine ⟨bottomF_min _ _, ?_⟩
  rcases Int.lt_or_le (grAt rows rows' f k) 0 with h | h
  · omega
  · obtain ⟨m, hm⟩ : ∃ m : Nat, grAt rows rows' f k = (m : Int) := ⟨(grAt rows rows' f k).toNat, by omega⟩
    have := undN_elems h200 m (bottomF_found hm).1
    omega

theorem fresh_two (W : World) (a b : Value) (t : TypeId) : (W.alloc (.cells #[a, b] t)).cell? ⟨W.heap.size, 0, none⟩ = some a ∧ (W.alloc (.cells #[a, b] t)).cell? ⟨W.heap.size, 1, none⟩ = some b :=
  ⟨by rw [cell_of_row _ W.heap.size 0 _ _ _ (heap_alloc_new _ _)]; rfl, by rw [cell_of_row _ W.heap.size 1 _ _ _ (heap_alloc_new _ _)]; rfl⟩
/-- While the greatest elements are looked for: the domains' variable, the turned grid at G, the list at L. -/
structure GU (w : World) (p p' : Nat) (gb : Nat → Nat) (G L n' : Nat) (R : Nat → Value) (W : World) : Prop where
  c0 : W.cell? ⟨w.heap.size, 0, none⟩ = some (.pointer (some ⟨p, 0, none⟩))
  c1 : W.cell? ⟨w.heap.size, 1, none⟩ = some (.pointer (some ⟨p', 0, none⟩))
  low : GridAt W G gb
  list : W.rowIs L 3 n' R
  below : Below w.heap.size w W
theorem GU.far {w : World} {p p' : Nat} {gb : Nat → Nat} {G L n' : Nat} {R : Nat → Value} {W W' : World} {B : Nat} (h : GU w p p' gb G L n' R W) (hw : w.heap.size < B) (hG : G < B) (hL : L < B) (hb : Below B W W') : GU w p p' gb G L n' R W' :=
  ⟨(hb.cell (p := ⟨w.heap.size, 0, none⟩) hw).trans h.c0, (hb.cell (p := ⟨w.heap.size, 1, none⟩) hw).trans h.c1, h.low.below hb hG, rowIs_below h.list hb hL, h.below.trans (hb.mono (by omega))⟩
theorem GU.step {w : World} {p p' : Nat} {gb : Nat → Nat} {G L n' : Nat} {R : Nat → Value} {W W' : World} (h : GU w p p' gb G L n' R W) (hb : Below W.heap.size W W') : GU w p p' gb G L n' R W' :=
  h.far (cell_lt h.c0) h.low.lt h.list.lt hb

set_option maxRecDepth 100000 in
set_option maxHeartbeats 8000000 in
theorem greatestUnder_any (vf : Value) (f : List Int) (p p' : Nat) (rows rows' : Rows2) (w : World) (hf : IntsAt w vf f) (hg : GridAt w p (gridF rows)) (hg' : GridAt w p' (gridF rows')) (hT : Tab w) (hok : Ok rows) (hok' : Ok rows') (hm : Mono rows rows' f) :
    Calls Tryd.prog 43 #[vf, .agg #[.pointer (some ⟨p, 0, none⟩), .pointer (some ⟨p', 0, none⟩)]] w (OwnB (if grOk rows rows' f rows'.length = true then grL rows rows' f rows'.length else []) (grOk rows rows' f rows'.length) w) := by
  have b1 := (Below.refl w.heap.size w).alloc (Nat.le_refl _) (.cells #[.pointer (some ⟨p, 0, none⟩), .pointer (some ⟨p', 0, none⟩)] 71)
  obtain ⟨hq0, hq1⟩ := fresh_two w (.pointer (some ⟨p, 0, none⟩)) (.pointer (some ⟨p', 0, none⟩)) 71
  have HFA := Lib.hid (fun W (h : Below w.heap.size w W) => hf.below h)
  have HTA := Lib.hid (fun W (h : Below w.heap.size w W) => hT.below h)
  have HGA' := Lib.hid (fun W (h : Below w.heap.size w W) => hg'.below h hg'.lt)
  have HSZ := Lib.hid (fun W h => size_any p' rows'.length (gridF rows') W h hok'.gridN.le hok'.gridN.some hok'.gridN.none)
  have HBK := Lib.hid (fun W (h : Below w.heap.size w W) => (show Calls Tryd.prog 55 #[.pointer (some ⟨p, 0, none⟩)] W (SaysG (gridF (backRows rows)) W) by
    rw [← backN_rows hok]
    exact back_any p rows.length (gridF rows) W (hg.below h hg.lt) (hT.below h) hok.gridN (fun i _ k hk => hok.lt200 ((mem_elems (hok.lt i)).1 hk))))
  have HLT := Lib.hid hok.back.lt
  have hz := (zero_of_info zeroGrid).1
  have hl200' := hok'.len.2
  have hfl : f.length ≤ 200 := by rw [hm.1]; exact hok.len.2
  have HM := Lib.hid hm
  have HBIT := Lib.hid (fun a b (h : a < rows'.length) => upB_grid hok' (b := b) h)
  have hmk := run_make_row' (P := Tryd.prog) 63 3 (.int .i64 0) 8 Tryd.underlying63 infoInt rfl .i64 .i64 rows'.length (by omega) (by omega)
  obtain ⟨Af, Cf, rfl, hCf, hmf, _⟩ := hf
  have B1 := Lib.hid b1
  obtain ⟨res, hres⟩ : ∃ res, (if grOk rows rows' f rows'.length = true then grL rows rows' f rows'.length else []) = res := ⟨_, rfl⟩
  obtain ⟨t, ht⟩ : ∃ t, grOk rows rows' f rows'.length = t := ⟨_, rfl⟩
  rw [hres, ht]
  have HRES := Lib.hid hres
  have HTT := Lib.hid ht
  clear hg hg' hT hok hok' hm b1 hmf hres ht
  go_enter Tryd.func43, Tryd.ntmps43
  go_wp2_with (first | (go_at_call 46; refine (HSZ.out _ (HGA'.out _ B1.out)).mono ?_; rintro e w2 ⟨rfl, hb2⟩; have B2 := Lib.hid (B1.out.trans (hb2.mono B1.out.size)); have hd0 := (hb2.cell (p := ⟨w.heap.size, 0, none⟩) (cell_lt hq0)).trans hq0; have hd1 := (hb2.cell (p := ⟨w.heap.size, 1, none⟩) (cell_lt hq1)).trans hq1; have hx0 := fun X => cell_alloc_any hd0 X; have hLw : w.heap.size < w2.heap.size := cell_lt hd0; clear hb2) | (go_at_call 55; have bA := (Below.refl w2.heap.size w2).alloc (Nat.le_refl _) (.cells (madeCells #[.int .i64 0] rows'.length) 3); have BA := Lib.hid (B2.out.trans (bA.mono B2.out.size)); have HRW := Lib.hid (World.rowIs_made w2 (.int .i64 0) rows'.length 3); have he0 := (bA.cell (p := ⟨w.heap.size, 0, none⟩) (cell_lt hd0)).trans hd0; have he1 := (bA.cell (p := ⟨w.heap.size, 1, none⟩) (cell_lt hd1)).trans hd1; refine (HBK.out _ BA.out).mono ?_; rintro e w3 ⟨rfl, hb3⟩; have B3 := Lib.hid (BA.out.trans (hb3.mono BA.out.size)); have hf0 := (hb3.cell (p := ⟨w.heap.size, 0, none⟩) (cell_lt he0)).trans he0; have hf1 := (hb3.cell (p := ⟨w.heap.size, 1, none⟩) (cell_lt he1)).trans he1; have HR3 := Lib.hid (rowIs_below HRW.out hb3 HRW.out.lt); have Q0 := Lib.hid hf0; have Q1 := Lib.hid hf1; clear hb3 bA hd0 hd1 he0 he1 hf0 hf1 hx0) | (refine wpList_store_row rfl 55 (.tmp 7) (.tmp 18) rfl w3.heap.size (gridCells (gridF (backRows rows))) rfl rfl 55 (gridCells fun _ => 0) (store_new w3).1 (by rw [gridCells_size]; exact sizeGrid) (by rw [gridCells_size, gridCells_size]) (gridCells_one _) ?_))
  have G0 := Lib.hid (GU.mk (p := p) (p' := p') ((newGrid_below (gridF (backRows rows)) w3).cell (p := ⟨w.heap.size, 0, none⟩) (cell_lt Q0.out) |>.trans Q0.out) ((newGrid_below (gridF (backRows rows)) w3).cell (p := ⟨w.heap.size, 1, none⟩) (cell_lt Q1.out) |>.trans Q1.out) (newGrid_at HLT.out w3) (rowIs_below HR3.out (newGrid_below (gridF (backRows rows)) w3) HR3.out.lt) (B3.out.trans ((newGrid_below (gridF (backRows rows)) w3).mono B3.out.size)))
  have hGL : w2.heap.size < w3.heap.size := HR3.out.lt
  clear hmk hz Q0 Q1 HR3 B3 BA HRW B2 B1 HSZ HBK
  go_loopw [8, 9, 21] (fun _ _ kv wr => ∃ k : Nat, k ≤ rows'.length ∧ kv = .int .i64 k ∧ (∀ q, q < k → 0 ≤ grAt rows rows' f q) ∧ GU w p p' (gridF (backRows rows)) w3.heap.size w2.heap.size rows'.length (fun i => if i < k then .int .i64 (grAt rows rows' f i) else .int .i64 0) wr) (fun _ _ kv _ => rows'.length - (intOf kv).toNat)
  case atStart => exact ⟨0, Nat.zero_le _, rfl, fun _ h => absurd h (Nat.not_lt_zero _), G0.out.c0, G0.out.c1, G0.out.low, G0.out.list.congr (fun i _ => by rw [if_neg (Nat.not_lt_zero i)]), G0.out.below⟩
  case round =>
    obtain ⟨k, hk, rfl, hp, hh⟩ := hrel
    obtain ⟨W1, hW1⟩ : ∃ W1, W1 = wr := ⟨_, rfl⟩
    subst hW1
    have HP := Lib.hid hp
    have HK := Lib.hid hh
    have hbig : w3.heap.size < W1.heap.size := hh.low.lt
    clear hp G0
    by_cases hlt : k < rows'.length
    · have hkz : (k : Int) < (rows'.length : Int) := by omega
      have HK1 := Lib.hid (hh.step ((Below.refl W1.heap.size W1).alloc (Nat.le_refl _) (.cells #[.int .u64 0, .int .u64 0, .int .u64 0, .int .u64 0] 53)))
      have HR1 := Lib.hid (show RowIn (W1.alloc (.cells #[.int .u64 0, .int .u64 0, .int .u64 0, .int .u64 0] 53)) W1.heap.size (undN rows' f k 0) by
        have h := RowIn.alloc W1 (Nat.two_pow_pos 256)
        simpa [word, undN, bNum] using h)
      clear hh
      go_wp2
      go_loopw [10, 11, 26] (fun _ _ iv w4 => ∃ i : Nat, i ≤ f.length ∧ iv = .int .i64 i ∧ RowIn w4 W1.heap.size (undN rows' f k i) ∧ GU w p p' (gridF (backRows rows)) w3.heap.size w2.heap.size rows'.length (fun i => if i < k then .int .i64 (grAt rows rows' f i) else .int .i64 0) w4) (fun _ _ iv _ => f.length - (intOf iv).toNat)
      case atStart => exact ⟨0, Nat.zero_le _, rfl, HR1.out, HK1.out⟩
      case round =>
        obtain ⟨i, hi, rfl, hr, hh⟩ := hrel
        have HR := Lib.hid hr
        have HI := Lib.hid hh
        have e1 := hh.c1
        clear hr hh HR1 HK1
        by_cases hil : i < f.length
        · obtain ⟨bf, o_f, rfl, hcf⟩ := (HFA.out _ HI.out.below).get hil
          have hfa := HM.out.lt hil
          obtain ⟨a, ha⟩ : ∃ a : Nat, atN f i = a := ⟨_, rfl⟩
          rw [ha, getD_lt 0 hil] at hfa
          rw [hfa.2] at hcf
          have hcall := gbelow_any p' (gridF rows') a k a k wr (HGA'.out _ HI.out.below) rfl (by omega) rfl (by omega)
          rw [HBIT.out a k hfa.1] at hcall
          have hub : undB rows' f k i = upB rows' a k := by unfold undB; rw [ha]
          clear hfa ha
          cases hup : upB rows' a k with
          | false =>
            rw [hup] at hcall
            have HE := Lib.hid (show undN rows' f k (i + 1) = undN rows' f k i by unfold undN; show (if undB rows' f k i = true then _ else _) = _; rw [hub, hup]; rfl)
            clear hup hub
            go_wp2_with (go_at_call 56; refine hcall.mono ?_; clear hcall; rintro e w5 ⟨rfl, hb5⟩; have H5 := Lib.hid (HI.out.step hb5); have HR5 := Lib.hid (HR.out.below hb5 HR.out.lt); clear hb5)
            go_roundw
            case rel => exact ⟨i + 1, by omega, by go_num, by rw [HE.out]; exact HR5.out, H5.out⟩
            case measure => simp [intOf]; omega
          | true =>
            rw [hup] at hcall
            have HE := Lib.hid (show undN rows' f k (i + 1) = put (undN rows' f k i) i by unfold undN; show (if undB rows' f k i = true then _ else _) = _; rw [hub, hup]; rfl)
            clear hup hub
            go_wp2_with (first | (go_at_call 56; refine hcall.mono ?_; clear hcall; rintro e w5 ⟨rfl, hb5⟩; have H5 := Lib.hid (HI.out.step hb5); have HR5 := Lib.hid (HR.out.below hb5 HR.out.lt); have hadd := add_any W1.heap.size 0 i i (word (undN rows' f k i) (i / 64)) w5 rfl (by omega) (word_lt _ _) (by rw [Nat.zero_add]; exact HR5.out.cellAt (by omega)) (HR5.out.frozen _); rw [Nat.zero_add] at hadd; clear hb5) | (go_at_call 32; refine hadd.mono ?_; clear hadd; rintro e w6 ⟨rfl, m, rfl⟩))
            go_roundw
            case rel =>
              refine ⟨i + 1, by omega, by go_num, by rw [HE.out]; exact HR5.out.put (by omega) m, ?_⟩
              exact H5.out.far (by omega) hbig (by omega) (below_put (Below.refl _ _) m (Nat.le_refl _) _ _)
            case measure => simp [intOf]; omega
        · obtain rfl : i = f.length := by omega
          have hub := grAt_lt (rows := rows) (rows' := rows') (f := f) hfl k
          have hbot := bottom_any w3.heap.size (undN rows' f k f.length) (gridF (backRows rows)) wr HI.out.low (HTA.out _ HI.out.below) (undN_lt hfl) (fun j hj => by have := undN_elems hfl j hj; omega)
          rw [show bottomF (gridF (backRows rows)) (undN rows' f k f.length) = grAt rows rows' f k from rfl] at hbot
          obtain ⟨s0, s1, s2, s3⟩ := HR.out.cells
          by_cases hneg : grAt rows rows' f k < 0
          · have hm1 : grAt rows rows' f k = -1 := by omega
            have HE := Lib.hid (grOk_no hlt hneg)
            rw [hm1] at hbot
            clear hub hneg hm1
            go_wp2_with (go_at_call 57; refine hbot.mono ?_; clear hbot; rintro e w5 ⟨rfl, hb5⟩; have H5 := Lib.hid (HI.out.step hb5); have hc5 := H5.out.list.cell hlt; have hf5 := H5.out.list.frozen k; rw [if_neg (Nat.lt_irrefl k)] at hc5; clear hb5)
            go_ret2
            refine ⟨_, by rw [← HTT.out, HE.out]; rfl, ?_, H5.out.below.setCell (p := ⟨w2.heap.size, k, none⟩) (by show w.heap.size ≤ w2.heap.size; omega) _⟩
            rw [← HRES.out, if_neg (by rw [HE.out]; simp)]
            exact OwnI.nil _ _ _ _
          · obtain ⟨m, hm⟩ : ∃ m : Nat, grAt rows rows' f k = (m : Int) := ⟨(grAt rows rows' f k).toNat, by omega⟩
            have hmz : decide ((m : Int) < 0) = false := decide_eq_false (by omega)
            have HMQ := Lib.hid hm
            rw [hm] at hbot
            clear hub hneg hm
            go_wp2_with (go_at_call 57; refine hbot.mono ?_; clear hbot; rintro e w5 ⟨rfl, hb5⟩; have H5 := Lib.hid (HI.out.step hb5); have hc5 := H5.out.list.cell hlt; have hf5 := H5.out.list.frozen k; rw [if_neg (Nat.lt_irrefl k)] at hc5; clear hb5)
            go_roundw
            case rel =>
              refine ⟨k + 1, by omega, by go_num, fun q hq => ?_, ?_⟩
              · by_cases e : q = k
                · subst e; rw [HMQ.out]; omega
                · exact HP.out q (by omega)
              · have hne : w.heap.size ≠ w2.heap.size := by omega
                refine ⟨?_, ?_, H5.out.low.setOther (a := ⟨w2.heap.size, k, none⟩) (by show w3.heap.size ≠ w2.heap.size; omega) _, (H5.out.list.set k (.int .i64 (m : Int))).congr (fun j hj => ?_), H5.out.below.setCell (p := ⟨w2.heap.size, k, none⟩) (by show w.heap.size ≤ w2.heap.size; omega) _⟩
                · exact (World.cell?_of_block (heap_setCell_other _ ⟨w2.heap.size, k, none⟩ w.heap.size _ hne)).trans H5.out.c0
                · exact (World.cell?_of_block (heap_setCell_other _ ⟨w2.heap.size, k, none⟩ w.heap.size _ hne)).trans H5.out.c1
                · by_cases e : j = k
                  · subst e; rw [if_pos (Nat.lt_succ_self j), HMQ.out]; simp
                  · by_cases e2 : j < k
                    · simp [e, e2, show j < k + 1 by omega]
                    · simp [e, e2, show ¬ j < k + 1 by omega]
            case measure => simp [intOf]; omega
    · obtain rfl : k = rows'.length := by omega
      have HE := Lib.hid (grOk_yes HP.out)
      clear hh
      go_wp2
      go_ret2
      have hl := grL_len rows rows' f rows'.length
      refine ⟨_, by rw [← HTT.out, HE.out]; rfl, ?_, HK.out.below⟩
      rw [← HRES.out, if_pos HE.out]
      refine ⟨?_, .inr ⟨w2.heap.size, rows'.length, _, by rw [hl]; rfl, by rw [hl]; exact Nat.le_refl _, by unfold maxLen; omega, by omega, HK.out.list.lt, HK.out.list, fun i hi => ?_⟩⟩
      · intro y hy
        unfold grL at hy
        obtain ⟨i, hi, rfl⟩ := List.mem_map.1 hy
        rw [List.mem_range] at hi
        have h1 := HP.out i hi
        have h2 := grAt_lt (rows := rows) (rows' := rows') (f := f) hfl i
        exact wf_int h1 (by omega)
      · rw [hl] at hi
        have e1 := grL_at (rows := rows) (rows' := rows') (f := f) hi
        rw [getD_lt 0 (by rw [hl]; exact hi)] at e1
        simp [hi, e1]
end Go.Proofs.YtpjkmiinpjhdnaaDoor

/- The program's ProjectionOf. -/
namespace Go.Proofs.YtpjkmiinpjhdnaaDoor
open Go.RowKit Go.Deep Go.Shelf

/-- Two cells of a variable of its own. -/
def Duo (r : Nat) (a b : Value) (t : TypeId) (W : World) : Prop := W.heap[r]? = some (.cells #[a, b] t (0, 0))
theorem Duo.lt {r : Nat} {a b : Value} {t : TypeId} {W : World} (h : Duo r a b t W) : r < W.heap.size := by
  obtain ⟨hlt, _⟩ := Array.getElem?_eq_some_iff.1 h
  exact hlt
theorem Duo.below {r : Nat} {a b : Value} {t : TypeId} {W W' : World} (h : Duo r a b t W) (hb : Below W.heap.size W W') : Duo r a b t W' := by
  unfold Duo
  rw [hb.block r h.lt]
  exact h
theorem Duo.cells {r : Nat} {a b : Value} {t : TypeId} {W : World} (h : Duo r a b t W) : W.cell? ⟨r, 0, none⟩ = some a ∧ W.cell? ⟨r, 1, none⟩ = some b ∧ ∀ o, W.frozen? ⟨r, o, none⟩ = false :=
  ⟨by rw [cell_of_row W r _ _ _ _ h]; rfl, by rw [cell_of_row W r _ _ _ _ h]; rfl, fun o => frozen_of_row W r o _ _ h⟩
theorem Duo.new (W : World) (a b : Value) (t : TypeId) : Duo W.heap.size a b t (W.alloc (.cells #[a, b] t)) := heap_alloc_new _ _

set_option maxRecDepth 100000 in
set_option maxHeartbeats 4000000 in
theorem implProj_any (v v' vf : Value) (rows rows' : Rows2) (f : List Int) (w : World) (hv : RowsAt w v rows) (hv' : RowsAt w v' rows') (hf : IntsAt w vf f) (hT : Tab w) (hn : bulk rows ≤ 1048576) (hn' : bulk rows' ≤ 1048576) :
    Calls Tryd.prog 27 #[.agg #[v], .agg #[v'], vf] w (OwnB (projL rows rows' f) (projOk rows rows' f) w) := by
  have h0 := TwoF.start w 25 25 hv hv' hf
  have hl := rows_one h0.2
  have b1 := (Below.refl ((w.alloc (.cells #[v] 25)).alloc (.cells #[v'] 25)).heap.size ((w.alloc (.cells #[v] 25)).alloc (.cells #[v'] 25))).alloc (Nat.le_refl _) (.cells #[vf] 34)
  have h1 := h0.step b1
  have hT1 := (hT.below h0.1.below).below b1
  have hcall := funTypeOf_any v v' _ rows rows' [f] _ h1.1.r0 h1.1.r1 hl hT1 hn hn'
  have hs : ((w.alloc (.cells #[v] 25)).alloc (.cells #[v'] 25)).heap.size = w.heap.size + 2 := by rw [World.size_alloc, World.size_alloc]
  rw [ftB_one, hs] at hcall
  have hB := h1.1.below
  have hc0 := h0.1.c0
  have hc1 := h0.1.c1
  have HFA := Lib.hid (fun W (h : Below w.heap.size w W) => hf.below h)
  have HTA := Lib.hid (fun W (h : Below w.heap.size w W) => hT.below h)
  obtain ⟨A, C, rfl, _⟩ := hv
  obtain ⟨A', C', rfl, _⟩ := hv'
  obtain ⟨Af, Cf, rfl, _⟩ := hf
  have HB := Lib.hid hB
  clear h0 hl b1 h1 hT1 hs hB hT
  cases hm : monoB rows rows' f with
  | false =>
    rw [hm] at hcall
    have HE := Lib.hid (proj_no_mono hm)
    go_enter Tryd.func27, Tryd.ntmps27
    go_wp2_with (go_at_call 42; refine hcall.mono ?_; clear hcall; rintro e w1 ⟨⟨q, q', rfl, _⟩, hb1⟩; have H1 := Lib.hid (HB.out.trans (hb1.mono HB.out.size)); clear hb1)
    go_ret2
    refine ⟨_, by rw [HE.out.1]; rfl, ?_, H1.out.alloc H1.out.size _⟩
    rw [HE.out.2]
    exact OwnI.nil _ _ _ _
  | true =>
    rw [hm] at hcall
    obtain ⟨hda, hdb, hmf⟩ := monoB_parts hm
    have hok := dom_ok hda
    have hok' := dom_ok hdb
    have hfl : f.length ≤ 200 := by rw [hmf.1]; exact hok.len.2
    have HGU := Lib.hid (fun W p p' h1 h2 h3 h4 => greatestUnder_any (.slice Af f.length Cf) f p p' rows rows' W h1 h2 h3 h4 hok hok' hmf)
    cases hgr : grOk rows rows' f rows'.length with
    | false =>
      simp only [hgr] at HGU
      have HE := Lib.hid (by
        obtain ⟨k, hk, hneg⟩ := grOk_bad hgr
        exact proj_no_great hk (gr_none hok hok' hmf hneg))
      clear hda hdb hmf hok hok' hfl
      go_enter Tryd.func27, Tryd.ntmps27
      go_wp2_with (first | (go_at_call 42; refine hcall.mono ?_; clear hcall; rintro e w1 ⟨⟨q, q', rfl, hq⟩, hb1⟩; obtain ⟨p, p', rfl, rfl, _, _, hg, hg'⟩ := hq rfl; have H1 := Lib.hid (HB.out.trans (hb1.mono HB.out.size)); have G1 := Lib.hid hg; have G1' := Lib.hid hg'; clear hb1 hq hg hg') | (go_at_call 43; have bA := (Below.refl w1.heap.size w1).alloc (Nat.le_refl _) (.cells #[.pointer (some ⟨p, 0, none⟩), .pointer (some ⟨p', 0, none⟩)] 71); have H2 := Lib.hid (H1.out.trans (bA.mono H1.out.size)); refine (HGU.out _ p p' (HFA.out _ H2.out) (G1.out.below bA G1.out.lt) (G1'.out.below bA G1'.out.lt) (HTA.out _ H2.out)).mono ?_; rintro e w3 ⟨u, rfl, hu, hb3⟩; have H3 := Lib.hid (H2.out.trans (hb3.mono H2.out.size)); obtain ⟨au, cu, rfl⟩ := hu.form; clear hu hb3 bA))
      go_ret2
      refine ⟨_, by rw [HE.out.1]; rfl, ?_, H3.out⟩
      rw [HE.out.2]
      exact OwnI.nil _ _ _ _
    | true =>
      simp only [hgr] at HGU
      have hge : ∀ k, k < rows'.length → Great rows rows' f k (atN (grL rows rows' f rows'.length) k) := fun k hk => by
        have h1 := grOk_at hgr hk
        refine gr_great hok hmf.1 ?_
        have h2 := grL_at (rows := rows) (rows' := rows') (f := f) hk
        unfold atN
        rw [h2]
        omega
      have hnn : ∀ x ∈ grL rows rows' f rows'.length, (0 : Int) ≤ x := fun x hx => by
        unfold grL at hx
        obtain ⟨i, hi, rfl⟩ := List.mem_map.1 hx
        exact grOk_at hgr (List.mem_range.1 hi)
      obtain ⟨g, hgd⟩ : ∃ g, grL rows rows' f rows'.length = g := ⟨_, rfl⟩
      have hgl := grL_len rows rows' f rows'.length
      rw [hgd] at hge hnn hgl
      rw [hgd] at HGU
      obtain ⟨_, e2, e3, e4⟩ := proj_great hm hgl hnn hge
      have HE2 := Lib.hid e2
      have HE3 := Lib.hid e3
      have HE4 := Lib.hid e4
      have hrf : ∀ i, i < f.length → f.getD i 0 = (atN f i : Int) ∧ atN f i < rows'.length := fun i hi => ⟨(hmf.lt hi).2, (hmf.lt hi).1⟩
      have hrg : ∀ i, i < g.length → g.getD i 0 = (atN g i : Int) ∧ atN g i < f.length := fun i hi => by
        refine ⟨?_, by rw [hmf.1]; exact (hge i (by omega)).1⟩
        have := hnn (g.getD i 0) (by rw [getD_lt 0 hi]; exact List.getElem_mem _)
        unfold atN
        omega
      have HIP := Lib.hid (fun W p p' Ag Cg (h1 : GridAt W p' (gridF rows')) (h2 : IntsAt W (.slice Af f.length Cf) f) (h3 : IntsAt W (.slice Ag g.length Cg) g) => isPair_any p p' (.slice Af f.length Cf) (.slice Ag g.length Cg) rows' f g W hok' h1 h2 h3 hfl hgl hrf hrg)
      clear hda hdb hmf hok hok' hfl hge hnn hgl hgd e2 e3 e4 hrf hrg
      generalize hpr : pairI rows' f g = t at HIP HE2 HE3 HE4
      go_enter Tryd.func27, Tryd.ntmps27
      cases t with
      | true =>
        go_wp2_with (first | (go_at_call 42; refine hcall.mono ?_; clear hcall; rintro e w1 ⟨⟨q, q', rfl, hq⟩, hb1⟩; obtain ⟨p, p', rfl, rfl, _, _, hg, hg'⟩ := hq rfl; have H1 := Lib.hid (HB.out.trans (hb1.mono HB.out.size)); have G1 := Lib.hid hg; have G1' := Lib.hid hg'; clear hb1 hq hg hg') | (go_at_call 43; have bA := (Below.refl w1.heap.size w1).alloc (Nat.le_refl _) (.cells #[.pointer (some ⟨p, 0, none⟩), .pointer (some ⟨p', 0, none⟩)] 71); have H2 := Lib.hid (H1.out.trans (bA.mono H1.out.size)); have D2 := Duo.new w1 (.pointer (some ⟨p, 0, none⟩)) (.pointer (some ⟨p', 0, none⟩)) 71; have G2' := Lib.hid (G1'.out.below bA G1'.out.lt); refine (HGU.out _ p p' (HFA.out _ H2.out) (G1.out.below bA G1.out.lt) G2'.out (HTA.out _ H2.out)).mono ?_; rintro e w3 ⟨u, rfl, hu, hb3⟩; have H3 := Lib.hid (H2.out.trans (hb3.mono H2.out.size)); try simp only [if_true] at hu; obtain ⟨au, cu, rfl⟩ := hu.form; have HU := Lib.hid hu; have G3' := Lib.hid (G2'.out.below hb3 G2'.out.lt); obtain ⟨d0, d1, d2⟩ := (D2.below hb3).cells; clear hu hb3 bA D2) | (go_at_call 44; refine (HIP.out _ p p' _ _ G3'.out (HFA.out _ H3.out) HU.out.at).mono ?_; rintro e w4 ⟨rfl, hb4⟩; have H4 := Lib.hid (H3.out.trans (hb4.mono H3.out.size)); have HB4 := Lib.hid hb4; clear hb4))
        go_ret2
        refine ⟨_, by rw [HE2.out]; rfl, ?_, H4.out⟩
        rw [HE3.out (by simp)]
        exact (HU.out.kept fun b e => HB4.out.block b (HU.out.block b e).2.1).wider H2.out.size HB4.out.size
      | false =>
        go_wp2_with (first | (go_at_call 42; refine hcall.mono ?_; clear hcall; rintro e w1 ⟨⟨q, q', rfl, hq⟩, hb1⟩; obtain ⟨p, p', rfl, rfl, _, _, hg, hg'⟩ := hq rfl; have H1 := Lib.hid (HB.out.trans (hb1.mono HB.out.size)); have G1 := Lib.hid hg; have G1' := Lib.hid hg'; clear hb1 hq hg hg') | (go_at_call 43; have bA := (Below.refl w1.heap.size w1).alloc (Nat.le_refl _) (.cells #[.pointer (some ⟨p, 0, none⟩), .pointer (some ⟨p', 0, none⟩)] 71); have H2 := Lib.hid (H1.out.trans (bA.mono H1.out.size)); have D2 := Duo.new w1 (.pointer (some ⟨p, 0, none⟩)) (.pointer (some ⟨p', 0, none⟩)) 71; have G2' := Lib.hid (G1'.out.below bA G1'.out.lt); refine (HGU.out _ p p' (HFA.out _ H2.out) (G1.out.below bA G1.out.lt) G2'.out (HTA.out _ H2.out)).mono ?_; rintro e w3 ⟨u, rfl, hu, hb3⟩; have H3 := Lib.hid (H2.out.trans (hb3.mono H2.out.size)); try simp only [if_true] at hu; obtain ⟨au, cu, rfl⟩ := hu.form; have HU := Lib.hid hu; have G3' := Lib.hid (G2'.out.below hb3 G2'.out.lt); obtain ⟨d0, d1, d2⟩ := (D2.below hb3).cells; clear hu hb3 bA D2) | (go_at_call 44; refine (HIP.out _ p p' _ _ G3'.out (HFA.out _ H3.out) HU.out.at).mono ?_; rintro e w4 ⟨rfl, hb4⟩; have H4 := Lib.hid (H3.out.trans (hb4.mono H3.out.size)); have HB4 := Lib.hid hb4; clear hb4))
        go_ret2
        refine ⟨_, by rw [HE2.out]; rfl, ?_, H4.out⟩
        rw [HE4.out (by simp)]
        exact OwnI.nil _ _ _ _
end Go.Proofs.YtpjkmiinpjhdnaaDoor

/- The model's FunAfter. -/
namespace Go.Proofs.YtpjkmiinpjhdnaaDoor
open Go.RowKit Go.Deep

/-- The one function behind the other, for the first k elements. -/
def afterN (f g : List Int) (k : Nat) : List Int := (List.range k).map fun i => g.getD (f.getD i 0).toNat 0
theorem afterN_length (f g : List Int) (k : Nat) : (afterN f g k).length = k := by unfold afterN; simp
theorem afterN_succ (f g : List Int) (k : Nat) : afterN f g (k + 1) = afterN f g k ++ [g.getD (f.getD k 0).toNat 0] := by
  unfold afterN
  rw [List.range_succ, List.map_append]
  rfl
noncomputable def afterOk (rows rows' rows2 : Rows2) (f g : List Int) : Bool := monoB rows rows' f && monoB rows' rows2 g
noncomputable def afterL (rows rows' rows2 : Rows2) (f g : List Int) : List Int := if afterOk rows rows' rows2 f g = true then afterN f g f.length else []

/-- Three orders lie in the variables at blocks w.heap.size and the next two. -/
structure Thr (w : World) (v v' v2 : Value) (rows rows' rows2 : Rows2) (W : World) : Prop where
  two : Two w v v' rows rows' W
  c2 : W.cell? ⟨w.heap.size + 2, 0, none⟩ = some v2
  r2 : RowsAt W v2 rows2
theorem Thr.step {w : World} {v v' v2 : Value} {rows rows' rows2 : Rows2} {W W' : World} (h : Thr w v v' v2 rows rows' rows2 W) (hb : Below W.heap.size W W') : Thr w v v' v2 rows rows' rows2 W' :=
  ⟨h.two.step hb, (hb.cell (p := ⟨w.heap.size + 2, 0, none⟩) (cell_lt h.c2)).trans h.c2, h.r2.below hb⟩
theorem Thr.start (w : World) {v v' v2 : Value} {rows rows' rows2 : Rows2} (t : TypeId) (hv : RowsAt w v rows) (hv' : RowsAt w v' rows') (hv2 : RowsAt w v2 rows2) : Thr w v v' v2 rows rows' rows2 (((w.alloc (.cells #[v] t)).alloc (.cells #[v'] t)).alloc (.cells #[v2] t)) := by
  have h := Two.start w t t hv hv'
  have s2 : ((w.alloc (.cells #[v] t)).alloc (.cells #[v'] t)).heap.size = w.heap.size + 2 := by rw [World.size_alloc, World.size_alloc]
  have b := (Below.refl ((w.alloc (.cells #[v] t)).alloc (.cells #[v'] t)).heap.size ((w.alloc (.cells #[v] t)).alloc (.cells #[v'] t))).alloc (Nat.le_refl _) (.cells #[v2] t)
  have hc := (World.rowIs_alloc ((w.alloc (.cells #[v] t)).alloc (.cells #[v'] t)) #[v2] t (fun _ => v2) (fun i hi => by simp at hi; subst hi; rfl)).cell (i := 0) (by simp)
  rw [s2] at hc
  exact ⟨h.step b, hc, (hv2.below h.below).below b⟩
/-- And two lists. -/
structure ThrL (w : World) (v v' v2 vf vg : Value) (rows rows' rows2 : Rows2) (f g : List Int) (W : World) : Prop where
  thr : Thr w v v' v2 rows rows' rows2 W
  f : IntsAt W vf f
  g : IntsAt W vg g
theorem ThrL.step {w : World} {v v' v2 vf vg : Value} {rows rows' rows2 : Rows2} {f g : List Int} {W W' : World} (h : ThrL w v v' v2 vf vg rows rows' rows2 f g W) (hb : Below W.heap.size W W') : ThrL w v v' v2 vf vg rows rows' rows2 f g W' := ⟨h.thr.step hb, h.f.below hb, h.g.below hb⟩
theorem ThrL.below {w : World} {v v' v2 vf vg : Value} {rows rows' rows2 : Rows2} {f g : List Int} {W : World} (h : ThrL w v v' v2 vf vg rows rows' rows2 f g W) : Below w.heap.size w W := h.thr.two.below
theorem ThrL.start (w : World) {v v' v2 vf vg : Value} {rows rows' rows2 : Rows2} {f g : List Int} (t : TypeId) (hv : RowsAt w v rows) (hv' : RowsAt w v' rows') (hv2 : RowsAt w v2 rows2) (hf : IntsAt w vf f) (hg : IntsAt w vg g) : ThrL w v v' v2 vf vg rows rows' rows2 f g (((w.alloc (.cells #[v] t)).alloc (.cells #[v'] t)).alloc (.cells #[v2] t)) :=
  have h := Thr.start w t hv hv' hv2
  ⟨h, hf.below h.two.below, hg.below h.two.below⟩

theorem dom_len {rows : Rows2} (h : domB rows = true) : rows.length ≤ 200 :=
  (ok_of_valid (show validB rows = true by unfold domB at h; rw [Bool.and_eq_true] at h; exact h.1)).len.2
theorem empty_own (W : World) {lo : Nat} (hlo : lo ≤ W.heap.size) : OwnI 3 (W.alloc (.cells #[] 3)) (.slice (some ⟨W.heap.size, 0, none⟩) 0 0) [] lo (W.alloc (.cells #[] 3)).heap.size :=
  ⟨fun _ h => (by cases h), .inr ⟨W.heap.size, 0, fun _ => undef, rfl, Nat.le_refl _, Nat.zero_le _, hlo, by rw [World.size_alloc]; omega, World.rowIs_alloc W #[] 3 (fun _ => undef) (fun _ h => absurd h (Nat.not_lt_zero _)), fun _ h => absurd h (Nat.not_lt_zero _)⟩⟩

end Go.Proofs.YtpjkmiinpjhdnaaDoor

/- The model's ProjectionOf. -/
namespace Go.Proofs.YtpjkmiinpjhdnaaDoor
open Go.RowKit Go.Deep

theorem projN_yes {rows rows' : Rows2} {f : List Int} {i k : Nat} (h1 : upB rows' (atN f k) i = true) (h2 : projN rows rows' f i k < 0 ∨ upB rows (projN rows rows' f i k).toNat k = true) : projN rows rows' f i (k + 1) = (k : Int) := by
  show (if _ then _ else _) = _
  rw [if_pos]
  rw [Bool.and_eq_true, Bool.or_eq_true, decide_eq_true_iff]
  exact ⟨h1, h2⟩
theorem projN_no1 {rows rows' : Rows2} {f : List Int} {i k : Nat} (h1 : upB rows' (atN f k) i = false) : projN rows rows' f i (k + 1) = projN rows rows' f i k := by
  show (if _ then _ else _) = _
  rw [if_neg]
  rw [h1]
  simp
theorem projN_no2 {rows rows' : Rows2} {f : List Int} {i k : Nat} (h1 : ¬ projN rows rows' f i k < 0) (h2 : upB rows (projN rows rows' f i k).toNat k = false) : projN rows rows' f i (k + 1) = projN rows rows' f i k := by
  show (if _ then _ else _) = _
  rw [if_neg]
  rw [h2, decide_eq_false h1]
  simp
/-- While the model looks for the greatest element: two orders, a list, what has been found. -/
structure PS (w : World) (v v' vf ov : Value) (rows rows' : Rows2) (f : List Int) (i : Nat) (W : World) : Prop where
  two : TwoF w v v' vf rows rows' f W
  own : W.ownsRow (w.heap.size + 2) 3 1 ov (projBest rows rows' f i).length (cellsI (projBest rows rows' f i))
theorem PS.step {w : World} {v v' vf ov : Value} {rows rows' : Rows2} {f : List Int} {i : Nat} {W W' : World} (h : PS w v v' vf ov rows rows' f i W) (hb : Below W.heap.size W W') : PS w v v' vf ov rows rows' f i W' := ⟨h.two.step hb, owns_below h.own hb⟩

set_option maxRecDepth 100000 in
set_option maxHeartbeats 8000000 in
theorem specProj_any (v v' vf : Value) (rows rows' : Rows2) (f : List Int) (w : World) (hv : RowsAt w v rows) (hv' : RowsAt w v' rows') (hf : IntsAt w vf f)
    (hn : bulk rows ≤ 1048576) (hn' : bulk rows' ≤ 1048576) :
    Calls Tryd.prog 26 #[.agg #[v], .agg #[v'], vf] w (OwnB (projL rows rows' f) (projOk rows rows' f) w) := by
  have h0 := TwoF.start w 25 25 hv hv' hf
  have hs : ((w.alloc (.cells #[v] 25)).alloc (.cells #[v'] 25)).heap.size = w.heap.size + 2 := by rw [World.size_alloc, World.size_alloc]
  have hO := World.ownsRow_made (e := 3) (size := 1) ((w.alloc (.cells #[v] 25)).alloc (.cells #[v'] 25)) #[] 0 (base := w.heap.size + 2) (by rw [hs]; omega) (Nat.zero_le _) (by simp)
  rw [hs] at hO
  have hP : PS w v v' vf (.slice (some ⟨w.heap.size + 2, 0, none⟩) 0 0) rows rows' f 0 (((w.alloc (.cells #[v] 25)).alloc (.cells #[v'] 25)).alloc (.cells #[] 3)) := ⟨h0.step ((Below.refl _ _).alloc (Nat.le_refl _) (.cells #[] 3)), hO⟩
  have hd1 := specMono_any _ _ _ rows rows' f _ hP.two.1.r0 hP.two.1.r1 hP.two.2 hn hn'
  have HV0 := Lib.hid hv
  have HV1 := Lib.hid hv'
  have HVF := Lib.hid hf
  obtain ⟨A, C, rfl, _⟩ := hv
  obtain ⟨A', C', rfl, _⟩ := hv'
  obtain ⟨Af, Cf, rfl, _⟩ := hf
  have H0 := Lib.hid hP
  have hc0 := hP.two.1.c0
  have hc1 := hP.two.1.c1
  clear h0 hO hP hs
  cases h1 : monoB rows rows' f with
  | false =>
    rw [h1] at hd1
    have HE := Lib.hid (proj_no_mono h1)
    go_enter Tryd.func26, Tryd.ntmps26
    go_wp2_with (go_at_call 37; refine hd1.mono ?_; clear hd1; rintro e w1 ⟨rfl, hb1⟩; have H1 := Lib.hid (H0.out.step hb1); clear hb1)
    go_ret2
    refine ⟨_, by rw [HE.out.1]; rfl, ?_, H1.out.two.1.below⟩
    rw [HE.out.2]
    exact OwnI.of_owns (xs := []) (owns_weaker H1.out.own (Nat.le_add_right _ _)) (fun _ h => by cases h) (fun b hb => (H1.out.own.lt b hb).2)
  | true =>
    rw [h1] at hd1
    obtain ⟨hda, hdb, hm1⟩ := monoB_parts h1
    have hl := valid_lists (show validB rows = true by unfold domB at hda; rw [Bool.and_eq_true] at hda; exact hda.1)
    have hl' := valid_lists (show validB rows' = true by unfold domB at hdb; rw [Bool.and_eq_true] at hdb; exact hdb.1)
    have hr200 := (dom_ok hda).len.2
    have hr200' := (dom_ok hdb).len.2
    have hf200 : f.length ≤ 200 := by rw [hm1.1]; exact hr200
    have HM := Lib.hid hm1
    obtain ⟨i0, hi0, hz0, hz1, hz2⟩ := info_parts infoInt
    clear hda hdb hm1
    go_enter Tryd.func26, Tryd.ntmps26
    go_wp2_with (go_at_call 37; refine hd1.mono ?_; clear hd1; rintro e w1 ⟨rfl, hb1⟩; have H1 := Lib.hid (H0.out.step hb1); clear hb1)
    clear hc0 hc1
    go_loopw [8, 9, 10] (fun ov iv _ wr => ∃ i : Nat, i ≤ rows'.length ∧ iv = .int .i64 i ∧ PS w (.slice A rows.length C) (.slice A' rows'.length C') (.slice Af f.length Cf) ov rows rows' f i wr) (fun _ iv _ _ => rows'.length - (intOf iv).toNat)
    case atStart => exact ⟨0, Nat.zero_le _, rfl, H1.out⟩
    case round =>
      obtain ⟨i, hi, rfl, hh⟩ := hrel
      have HI := Lib.hid hh
      have hcell1 := hh.two.1.c1
      clear hh H1
      by_cases hlt : i < rows'.length
      · go_wp2
        clear hcell1
        go_loopw [10, 11] (fun bv kv wr => ∃ k : Nat, k ≤ f.length ∧ kv = .int .i64 k ∧ bv = .int .i64 (projN rows rows' f i k) ∧ PS w (.slice A rows.length C) (.slice A' rows'.length C') (.slice Af f.length Cf) u8 rows rows' f i wr) (fun _ kv _ => f.length - (intOf kv).toNat)
        case atStart => exact ⟨0, Nat.zero_le _, rfl, rfl, HI.out⟩
        case round =>
          obtain ⟨k, hk, rfl, rfl, hh⟩ := hrel
          have HK := Lib.hid hh
          by_cases hkl : k < f.length
          · obtain ⟨bf, o_f, rfl, hcf⟩ := hh.two.2.get hkl
            have hfa := HM.out.lt hkl
            obtain ⟨a, ha⟩ : ∃ a : Nat, atN f k = a := ⟨_, rfl⟩
            rw [ha, getD_lt 0 hkl] at hfa
            rw [hfa.2] at hcf
            have hal := hfa.1
            have hq0 := fun d os => cell_regrown hh.two.1.c0 d os
            have hq1 := fun d os => cell_regrown hh.two.1.c1 d os
            have hq2 := fun d os => cell_regrown hcf d os
            have hcall := fun d os => Calls.regrown_of (d := d) (os := os) (le_call (hh.two.1.r1.below (below_regrown wr d os)) hl' hn' (a : Int) (i : Int) (by omega) (by omega) rfl)
            rw [Int.toNat_natCast] at hcall
            clear hh hfa
            cases hup : upB rows' a i with
            | false =>
              simp only [hup] at hcall
              have HE := Lib.hid (projN_no1 (rows := rows) (show upB rows' (atN f k) i = false by rw [ha]; exact hup))
              obtain ⟨bst, hbst⟩ : ∃ bst, projN rows rows' f i k = bst := ⟨_, rfl⟩
              rw [hbst]
              have HB := Lib.hid hbst
              clear hup ha hbst
              go_wp2
              refine wp_region_quiet_below (by kernel_rfl) (by kernel_rfl) ?_
              repeat (go_big_quiet_step (first | (go_at_call_of 38 (Value.agg #[Value.slice A' rows'.length C']); exact hcall _ _)))
              refine wpQuiet_nil ?_
              intro _ hw'
              obtain ⟨⟨dq, osq⟩, hw''⟩ := hw'
              subst hw''
              clear hcall hq0 hq1 hq2
              go_wp2
              go_roundw
              case rel => exact ⟨k + 1, by omega, by go_num, by rw [HE.out, HB.out], HK.out.step (below_regrown wr dq osq)⟩
              case measure => simp [intOf]; omega
            | true =>
              simp only [hup] at hcall
              have HU := Lib.hid (show upB rows' (atN f k) i = true by rw [ha]; exact hup)
              clear hup ha
              rcases projN_range (rows := rows) (rows' := rows') (f := f) (i := i) k with hr | ⟨hr1, hr2, _⟩
              · have HE := Lib.hid (projN_yes HU.out (.inl (by rw [hr]; omega)))
                rw [hr]
                clear hr
                go_wp2
                refine wp_region_quiet_below (by kernel_rfl) (by kernel_rfl) ?_
                repeat (go_big_quiet_step (first | (go_at_call_of 38 (Value.agg #[Value.slice A' rows'.length C']); exact hcall _ _)))
                refine wpQuiet_nil ?_
                intro _ hw'
                obtain ⟨⟨dq, osq⟩, hw''⟩ := hw'
                subst hw''
                clear hcall hq0 hq1 hq2
                go_wp2
                go_roundw
                case rel => exact ⟨k + 1, by omega, by go_num, by rw [HE.out], HK.out.step (below_regrown wr dq osq)⟩
                case measure => simp [intOf]; omega
              · obtain ⟨bn, hbn⟩ : ∃ bn : Nat, projN rows rows' f i k = (bn : Int) := ⟨(projN rows rows' f i k).toNat, by omega⟩
                have hbl : bn < rows.length := by have := HM.out.1; omega
                have hneg : decide ((bn : Int) < 0) = false := decide_eq_false (by omega)
                have hcall2 := fun d os => Calls.regrown_of (d := d) (os := os) (le_call (HK.out.two.1.r0.below (below_regrown wr d os)) hl hn (bn : Int) (k : Int) (by omega) (by omega) rfl)
                rw [Int.toNat_natCast] at hcall2
                cases hup2 : upB rows bn k with
                | true =>
                  simp only [hup2] at hcall2
                  have HE := Lib.hid (projN_yes HU.out (.inr (by rw [hbn, Int.toNat_natCast]; exact hup2)))
                  rw [hbn]
                  clear hup2 hbn hr1 hr2
                  go_wp2
                  refine wp_region_quiet_below (by kernel_rfl) (by kernel_rfl) ?_
                  repeat (go_big_quiet_step (first | (go_at_call_of 38 (Value.agg #[Value.slice A' rows'.length C']); exact hcall _ _) | (go_at_call_of 38 (Value.agg #[Value.slice A rows.length C]); exact hcall2 _ _)))
                  refine wpQuiet_nil ?_
                  intro _ hw'
                  obtain ⟨⟨dq, osq⟩, hw''⟩ := hw'
                  subst hw''
                  clear hcall hcall2 hq0 hq1 hq2
                  go_wp2
                  go_roundw
                  case rel => exact ⟨k + 1, by omega, by go_num, by rw [HE.out], HK.out.step (below_regrown wr dq osq)⟩
                  case measure => simp [intOf]; omega
                | false =>
                  simp only [hup2] at hcall2
                  have HE := Lib.hid (projN_no2 (rows := rows) (rows' := rows') (f := f) (i := i) (k := k) (by rw [hbn]; omega) (by rw [hbn, Int.toNat_natCast]; exact hup2))
                  have HB := Lib.hid hbn
                  rw [hbn]
                  clear hup2 hbn hr1 hr2
                  go_wp2
                  refine wp_region_quiet_below (by kernel_rfl) (by kernel_rfl) ?_
                  repeat (go_big_quiet_step (first | (go_at_call_of 38 (Value.agg #[Value.slice A' rows'.length C']); exact hcall _ _) | (go_at_call_of 38 (Value.agg #[Value.slice A rows.length C]); exact hcall2 _ _)))
                  refine wpQuiet_nil ?_
                  intro _ hw'
                  obtain ⟨⟨dq, osq⟩, hw''⟩ := hw'
                  subst hw''
                  clear hcall hcall2 hq0 hq1 hq2
                  go_wp2
                  go_roundw
                  case rel => exact ⟨k + 1, by omega, by go_num, by rw [HE.out, HB.out], HK.out.step (below_regrown wr dq osq)⟩
                  case measure => simp [intOf]; omega
          · obtain rfl : k = f.length := by omega
            have hbz : w.heap.size + 1 < wr.heap.size := cell_lt HK.out.two.1.c1
            have hcl := Nat.le_of_eq (projBest_len rows rows' f i)
            have HS := Lib.hid (projBest_succ rows rows' f i)
            clear hh
            rcases projN_range (rows := rows) (rows' := rows') (f := f) (i := i) f.length with hr | ⟨hr1, hr2, _⟩
            · rw [hr] at HS ⊢
              clear hr
              go_wp2_with (at_builtin; refine wpList_append_own _ rfl _ _ 34 rfl (w.heap.size + 2) 3 i0 (.int .i64 0) 1 8 Tryd.underlying34 hi0 hz0 hz1 hz2 rfl (by decide) _ _ _ rfl (HK.out.own.alloc _) ⟨wr.heap.size, 0, none⟩ 1 1 [.int .i64 0] rfl rfl (cell_one_new _ _ _) (by simp [Value.oneCell']) (by unfold maxLen; omega) (by omega) (by simp; omega) ?_; intro v' w1 hown' hgrow _)
              go_roundw
              case rel =>
                refine ⟨i + 1, by omega, by go_num, ⟨HK.out.two.1.grow HV0.out HV1.out HK.out.own _ hgrow, HVF.out.below (HK.out.two.1.grow HV0.out HV1.out HK.out.own _ hgrow).below⟩, ?_⟩
                rw [HS.out, List.length_append, show cellsI (projBest rows rows' f i ++ [max 0 (-1)]) = cellsI (projBest rows rows' f i) ++ [.int .i64 0] by rw [show max (0 : Int) (-1) = 0 from rfl]; simp]
                exact hown'
              case measure => simp [intOf]; omega
            · obtain ⟨bn, hbn⟩ : ∃ bn : Nat, projN rows rows' f i f.length = (bn : Int) := ⟨(projN rows rows' f i f.length).toNat, by omega⟩
              have hmx : max (0 : Int) (bn : Int) = (bn : Int) := by omega
              rw [hbn] at HS ⊢
              clear hr1 hr2 hbn
              rcases Nat.eq_zero_or_pos bn with rfl | hpos
              · clear hmx
                rw [show ((0 : Nat) : Int) = 0 from rfl]
                go_wp2_with (at_builtin; refine wpList_append_own _ rfl _ _ 34 rfl (w.heap.size + 2) 3 i0 (.int .i64 0) 1 8 Tryd.underlying34 hi0 hz0 hz1 hz2 rfl (by decide) _ _ _ rfl (HK.out.own.alloc _) ⟨wr.heap.size, 0, none⟩ 1 1 [.int .i64 0] rfl rfl (cell_one_new _ _ _) (by simp [Value.oneCell']) (by unfold maxLen; omega) (by omega) (by simp; omega) ?_; intro v' w1 hown' hgrow _)
                go_roundw
                case rel =>
                  refine ⟨i + 1, by omega, by go_num, ⟨HK.out.two.1.grow HV0.out HV1.out HK.out.own _ hgrow, HVF.out.below (HK.out.two.1.grow HV0.out HV1.out HK.out.own _ hgrow).below⟩, ?_⟩
                  rw [HS.out, List.length_append, show cellsI (projBest rows rows' f i ++ [max 0 ((0 : Nat) : Int)]) = cellsI (projBest rows rows' f i) ++ [.int .i64 0] by rw [show max (0 : Int) ((0 : Nat) : Int) = 0 from rfl]; simp]
                  exact hown'
                case measure => simp [intOf]; omega
              · have hgt : (0 : Int) < (bn : Int) := by omega
                go_wp2_with (at_builtin; refine wpList_append_own _ rfl _ _ 34 rfl (w.heap.size + 2) 3 i0 (.int .i64 0) 1 8 Tryd.underlying34 hi0 hz0 hz1 hz2 rfl (by decide) _ _ _ rfl (HK.out.own.alloc _) ⟨wr.heap.size, 0, none⟩ 1 1 [.int .i64 (bn : Int)] rfl rfl (cell_one_new _ _ _) (by simp [Value.oneCell']) (by unfold maxLen; omega) (by omega) (by simp; omega) ?_; intro v' w1 hown' hgrow _)
                go_roundw
                case rel =>
                  refine ⟨i + 1, by omega, by go_num, ⟨HK.out.two.1.grow HV0.out HV1.out HK.out.own _ hgrow, HVF.out.below (HK.out.two.1.grow HV0.out HV1.out HK.out.own _ hgrow).below⟩, ?_⟩
                  rw [HS.out, hmx, List.length_append, show cellsI (projBest rows rows' f i ++ [(bn : Int)]) = cellsI (projBest rows rows' f i) ++ [.int .i64 (bn : Int)] by simp]
                  exact hown'
                case measure => simp [intOf]; omega
      · obtain rfl : i = rows'.length := by omega
        have hcell0 := HI.out.two.1.c0
        have hWF : ∀ x ∈ projBest rows rows' f rows'.length, (Lit.int .i64 x).wf = true := fun x hx => by
          have := projBest_range rows'.length x hx
          exact wf_int (by omega) (by omega)
        obtain ⟨HE1, HE2⟩ := proj_model rows rows' f
        have hint : IntsAt wr u8 (projBest rows rows' f rows'.length) := (OwnI.of_owns HI.out.own hWF (fun b hb => (HI.out.own.lt b hb).2)).at
        have hd2 := specPairIs_any _ _ _ _ rows rows' f _ _ HI.out.two.1.r0 HI.out.two.1.r1 HI.out.two.2 hint hn hn'
        have HWF := Lib.hid hWF
        have HE1' := Lib.hid HE1
        have HE2' := Lib.hid HE2
        clear hWF HE1 HE2
        cases hpr : pairB rows rows' f (projBest rows rows' f rows'.length) with
        | false =>
          rw [hpr] at hd2
          have HP := Lib.hid hpr
          obtain ⟨Ao, Co, rfl, _⟩ := hint
          clear hpr
          go_wp2_with (go_at_call 17; refine hd2.mono ?_; clear hd2; rintro e w2 ⟨rfl, hb2⟩; have H2 := Lib.hid (HI.out.step hb2); clear hb2)
          go_ret2
          refine ⟨_, by rw [HE1'.out, HP.out]; rfl, ?_, H2.out.two.1.below.alloc H2.out.two.1.below.size _⟩
          rw [HE2'.out, HP.out]
          exact empty_own w2 H2.out.two.1.below.size
        | true =>
          rw [hpr] at hd2
          have HP := Lib.hid hpr
          obtain ⟨Ao, Co, rfl, _⟩ := hint
          clear hpr
          go_wp2_with (go_at_call 17; refine hd2.mono ?_; clear hd2; rintro e w2 ⟨rfl, hb2⟩; have H2 := Lib.hid (HI.out.step hb2); clear hb2)
          go_ret2
          refine ⟨_, by rw [HE1'.out, HP.out]; rfl, ?_, H2.out.two.1.below⟩
          rw [HE2'.out, HP.out, if_pos rfl]
          exact OwnI.of_owns (owns_weaker H2.out.own (Nat.le_add_right _ _)) HWF.out (fun b hb => (H2.out.own.lt b hb).2)
end Go.Proofs.YtpjkmiinpjhdnaaDoor
