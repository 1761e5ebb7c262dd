/- Monotone functions told by pairs: fixed points, strict and stable functions, what is below. Plain facts: no function is walked here. -/
import Derived.Test.YtjfbjfclcpcaiaaDoorPb23
import Derived.Test.YtjfbjfclcpcaiaaDoorPb20
import Derived.Test.YtjfbjfclcpcaiaaDoorPb25
import Derived.Test.YtjfbjfclcpcaiaaDoorPb21
namespace Go.Proofs.YtjfbjfclcpcaiaaDoor
open Go.RowKit Go.Deep

theorem dom_low {rows : Rows2} (hd : domB rows = true) : ∃ m : Nat, m < rows.length ∧ leastI rows = (m : Int) ∧ leastB rows = (m : Int) ∧ ∀ i, i < rows.length → Lq rows m i = true := by
  obtain ⟨hok, ⟨k, hk, e⟩, _⟩ := domB_iff.1 hd
  have h0 : 0 ≤ leastI rows := by
    rw [least_eq hok]
    exact (bottomF_pos (allF_lt (by have := hok.len; omega))).2 ⟨k, by rw [testBit_allF]; exact decide_eq_true hk, e⟩
  obtain ⟨m, h1, h2, h3⟩ := least_at hok h0
  refine ⟨m, h1, h2, ?_, h3⟩
  unfold leastB
  rw [if_pos (valid_of_ok hok), h2]
theorem dom_join {rows : Rows2} (hd : domB rows = true) {a b c : Nat} (h1 : Lq rows a c = true) (h2 : Lq rows b c = true) : ∃ j : Nat, j < rows.length ∧ joinI rows a b = (j : Int) ∧ Lq rows a j = true ∧ Lq rows b j = true ∧ ∀ d, Lq rows a d = true → Lq rows b d = true → Lq rows j d = true := by
  obtain ⟨hok, _, hj⟩ := domB_iff.1 hd
  have ha := (hok.bit_lt h1).1
  have hb := (hok.bit_lt h2).1
  obtain ⟨k, hk, e⟩ := hj a b ha hb (fun e => by
    have h3 : (gridF rows a &&& gridF rows b).testBit c = true := by rw [Nat.testBit_and, Bool.and_eq_true]; exact ⟨h1, h2⟩
    rw [e] at h3
    simp at h3)
  have hkk := hok.own k hk
  rw [e, Nat.testBit_and, Bool.and_eq_true] at hkk
  have h3 : ∀ d, Lq rows a d = true → Lq rows b d = true → Lq rows k d = true := fun d x y => by
    show (gridF rows k).testBit d = true
    rw [e, Nat.testBit_and, Bool.and_eq_true]
    exact ⟨x, y⟩
  exact ⟨k, hk, (join_is hok ha hb).2 ⟨hkk.1, hkk.2, h3⟩, hkk.1, hkk.2, h3⟩

theorem mono_iff {rows rows' : Rows2} {f : List Int} : monoB rows rows' f = true ↔ domB rows = true ∧ domB rows' = true ∧ Mono rows rows' f := by
  classical
  unfold monoB monoI
  rw [Bool.and_eq_true, Bool.and_eq_true, decide_eq_true_iff, and_assoc]
/-- What a monotone function keeps. -/
structure MonoV (rows rows' : Rows2) (f : List Int) : Prop where
  dom : domB rows = true
  dom' : domB rows' = true
  ok : Ok rows
  ok' : Ok rows'
  len : f.length = rows.length
  at' : ∀ i (hi : i < f.length), f[i] = (nextF f i : Int) ∧ nextF f i < rows'.length
  up : ∀ a b, Lq rows a b = true → Lq rows' (nextF f a) (nextF f b) = true
theorem mono_v {rows rows' : Rows2} {f : List Int} (h : monoB rows rows' f = true) : MonoV rows rows' f := by
  obtain ⟨hd, hd', hl, hr, hu⟩ := mono_iff.1 h
  have hok := (domB_iff.1 hd).1
  have hok' := (domB_iff.1 hd').1
  have hat : ∀ i (hi : i < f.length), f[i] = (nextF f i : Int) ∧ nextF f i < rows'.length := fun i hi => by
    have := hr f[i] (List.getElem_mem hi)
    unfold nextF
    rw [getD_lt 0 hi]
    omega
  refine ⟨hd, hd', hok, hok', hl, hat, fun a b hab => ?_⟩
  obtain ⟨ha, hb⟩ := hok.bit_lt hab
  have h1 := hu a b ha hb (by rw [hok.up ha]; exact hab)
  have h2 := hat b (by omega)
  rw [getD_lt 0 (by omega : b < f.length), h2.1] at h1
  have h3 := hat a (by omega)
  rw [show (f.getD a 0).toNat = nextF f a from rfl, hok'.up h3.2] at h1
  exact h1
theorem mono_mk {rows rows' : Rows2} {f : List Int} (hd : domB rows = true) (hd' : domB rows' = true) (hl : f.length = rows.length) (hat : ∀ i (hi : i < f.length), f[i] = (nextF f i : Int) ∧ nextF f i < rows'.length)
    (hu : ∀ a b, Lq rows a b = true → Lq rows' (nextF f a) (nextF f b) = true) : monoB rows rows' f = true := by
  have hok := (domB_iff.1 hd).1
  have hok' := (domB_iff.1 hd').1
  refine mono_iff.2 ⟨hd, hd', hl, fun x hx => ?_, fun a b ha hb hab => ?_⟩
  · obtain ⟨i, hi, rfl⟩ := List.getElem_of_mem hx
    have := hat i hi
    omega
  · rw [hok.up ha] at hab
    have h2 := hat b (by omega)
    have h3 := hat a (by omega)
    rw [getD_lt 0 (by omega : b < f.length), h2.1, show (f.getD a 0).toNat = nextF f a from rfl, hok'.up h3.2]
    exact hu a b hab
theorem under_iff {rows rows' : Rows2} {f g : List Int} (hf : MonoV rows rows' f) (hg : MonoV rows rows' g) : underI rows' f g = true ↔ ∀ i, i < rows.length → Lq rows' (nextF f i) (nextF g i) = true := by
  unfold underI
  rw [List.all_eq_true]
  have e : ∀ i, i < rows.length → upB rows' (f.getD i 0).toNat (g.getD i 0) = Lq rows' (nextF f i) (nextF g i) := fun i hi => by
    have h2 := hg.at' i (by rw [hg.len]; exact hi)
    have h3 := hf.at' i (by rw [hf.len]; exact hi)
    rw [getD_lt 0 (by rw [hg.len]; exact hi : i < g.length), h2.1, show (f.getD i 0).toNat = nextF f i from rfl, hf.ok'.up h3.2]
  constructor
  · intro h i hi
    rw [← e i hi]
    exact h i (List.mem_range.2 (by rw [hf.len]; exact hi))
  · intro h i hi
    have hi := List.mem_range.1 hi
    rw [hf.len] at hi
    rw [e i hi]
    exact h i hi
theorem fbelow_iff {rows rows' : Rows2} {f g : List Int} : fbelowB rows rows' f g = true ↔ (MonoV rows rows' f ∧ MonoV rows rows' g) ∧ ∀ i, i < rows.length → Lq rows' (nextF f i) (nextF g i) = true := by
  unfold fbelowB
  rw [Bool.and_eq_true, Bool.and_eq_true]
  constructor
  · rintro ⟨⟨h1, h2⟩, h3⟩
    exact ⟨⟨mono_v h1, mono_v h2⟩, (under_iff (mono_v h1) (mono_v h2)).1 h3⟩
  · rintro ⟨⟨h1, h2⟩, h3⟩
    exact ⟨⟨mono_mk h1.dom h1.dom' h1.len h1.at' h1.up, mono_mk h2.dom h2.dom' h2.len h2.at' h2.up⟩, (under_iff h1 h2).2 h3⟩
theorem MonoV.mk' {rows rows' : Rows2} {f : List Int} (h : MonoV rows rows' f) : monoB rows rows' f = true := mono_mk h.dom h.dom' h.len h.at' h.up
/-- Two functions that have the same values are the same. -/
theorem MonoV.ext {rows rows' : Rows2} {f g : List Int} (hf : MonoV rows rows' f) (hg : MonoV rows rows' g) (h : ∀ i, i < rows.length → nextF f i = nextF g i) : f = g := by
  apply List.ext_getElem
  · rw [hf.len, hg.len]
  · intro i h1 h2
    rw [(hf.at' i h1).1, (hg.at' i h2).1, h i (by rw [← hf.len]; exact h1)]

/-- FnMonotone. -/
theorem fact_mono {rows rows' : Rows2} {f : List Int} (h : monoB rows rows' f = true) :
    (∀ a b (ha : a < f.length) (hb : b < f.length), belowB rows a b = true → belowB rows' f[a] f[b] = true) ∧ fbelowB rows rows' f f = true := by
  have hv := mono_v h
  refine ⟨fun a b ha hb hab => ?_, fbelow_iff.2 ⟨⟨hv, hv⟩, fun i hi => hv.up i i (Lq.refl hv.ok hi)⟩⟩
  rw [below_at hv.ok (by rw [← hv.len]; exact ha) (by rw [← hv.len]; exact hb)] at hab
  have h1 := hv.at' a ha
  have h2 := hv.at' b hb
  rw [h1.1, h2.1, below_at hv.ok' h1.2 h2.2]
  exact hv.up a b hab

/-- What is met on the way up from x: it ends at a fixed point, below each element that the function does not raise. -/
theorem run_facts {rows : Rows2} {f : List Int} (hv : MonoV rows rows f) : ∀ (k x : Nat), x < rows.length → Lq rows x (nextF f x) = true → aboveN rows x ≤ k →
    (runF f k x).getLastD x < rows.length ∧ nextF f ((runF f k x).getLastD x) = (runF f k x).getLastD x ∧ (∀ p, Lq rows (nextF f p) p = true → Lq rows x p = true → Lq rows ((runF f k x).getLastD x) p = true) ∧
      rankF (gridF rows) ((runF f k x).getLastD x) + (runF f k x).length ≤ rankF (gridF rows) x
  | 0, x, hx, _, ha => by
    exfalso
    have h2 : 0 < aboveN rows x := by
      unfold aboveN
      rw [List.countP_pos_iff]
      exact ⟨x, List.mem_range.2 hx, hv.ok.own x hx⟩
    omega
  | k + 1, x, hx, hup, ha => by
    by_cases e : nextF f x = x
    · rw [runF_fixed e]
      exact ⟨hx, e, fun _ _ h => h, Nat.le_refl _⟩
    · rw [runF_step e (Nat.succ_pos k), show k.succ - 1 = k from rfl, List.getLastD_cons]
      have hlt : aboveN rows (nextF f x) < aboveN rows x := by
        unfold aboveN
        exact countP_lt (fun j _ hj => hv.ok.trans x (nextF f x) hx hup j hj) (List.mem_range.2 hx) (hv.ok.own x hx) (hv.ok.anti x (nextF f x) hx hup e)
      have hnl := (hv.ok.bit_lt hup).2
      obtain ⟨h1, h2, h3, h4⟩ := run_facts hv k (nextF f x) hnl (hv.up _ _ hup) (by omega)
      refine ⟨h1, h2, fun p hp hxp => h3 p hp (Lq.trans hv.ok (hv.up _ _ hxp) hp), ?_⟩
      have := rank_lt hv.ok hup e
      rw [List.length_cons]
      omega
theorem above_le (rows : Rows2) (x : Nat) : aboveN rows x ≤ rows.length := by
  unfold aboveN
  have := List.countP_le_length (p := fun k => (gridF rows x).testBit k) (l := List.range rows.length)
  simpa using this
theorem fix_facts {rows : Rows2} {f : List Int} (h : monoB rows rows f = true) : ∃ z : Nat, fixX rows f = (z : Int) ∧ z < rows.length ∧ nextF f z = z ∧ (∀ p, Lq rows (nextF f p) p = true → Lq rows z p = true) ∧ ((fixRun rows f).length : Int) < heightB rows := by
  have hv := mono_v h
  obtain ⟨m, hm, he, _, hall⟩ := dom_low hv.dom
  have hnm := hv.at' m (by rw [hv.len]; exact hm)
  obtain ⟨h1, h2, h3, h4⟩ := run_facts hv rows.length m hm (hall _ hnm.2) (above_le rows m)
  have hR : fixRun rows f = runF f rows.length m := by unfold fixRun; rw [he]; rfl
  refine ⟨(runF f rows.length m).getLastD m, ?_, h1, h2, fun p hp => h3 p hp (hall p (hv.ok.bit_lt hp).2), ?_⟩
  · unfold fixX
    rw [hR, he]
    rfl
  · rw [hR]
    unfold heightB
    rw [if_pos (valid_of_ok hv.ok)]
    have h5 := rank_pos hv.ok h1
    have h6 := height_ge hv.ok hm
    omega
/-- FnFix: the least fixed point is below all others. -/
theorem fact_fix {rows : Rows2} {f : List Int} (h : monoB rows rows f = true) :
    (∀ x (hx : x < f.length), belowB rows f[x] x = true → belowB rows (fixX rows f) x = true) ∧ (∃ z : Nat, fixX rows f = (z : Int) ∧ z < f.length ∧ ∀ hz : z < f.length, f[z] = (z : Int)) ∧ ((fixRun rows f).length : Int) < heightB rows := by
  have hv := mono_v h
  obtain ⟨z, h1, h2, h3, h4, h5⟩ := fix_facts h
  refine ⟨fun x hx hb => ?_, ⟨z, h1, by rw [hv.len]; exact h2, fun hz => by rw [(hv.at' z hz).1, h3]⟩, h5⟩
  have h6 := hv.at' x hx
  have hxl : x < rows.length := by rw [← hv.len]; exact hx
  rw [h6.1, below_at hv.ok h6.2 hxl] at hb
  rw [h1, below_at hv.ok h2 hxl]
  exact h4 x hb
/-- FnStrict. -/
theorem fact_strict {rows rows' : Rows2} {f : List Int} (h : strictB rows rows' f = true) :
    monoB rows rows' f = true ∧ (∃ m : Nat, leastB rows = (m : Int) ∧ ∃ hm : m < f.length, f[m] = leastB rows') ∧ (rows = rows' → fixX rows f = leastB rows ∧ (fixRun rows f).length = 0) := by
  unfold strictB at h
  rw [Bool.and_eq_true, decide_eq_true_iff] at h
  obtain ⟨h1, h2⟩ := h
  have hv := mono_v h1
  obtain ⟨m, hm, he, heB, _⟩ := dom_low hv.dom
  obtain ⟨m', hm', he', heB', _⟩ := dom_low hv.dom'
  have hml : m < f.length := by rw [hv.len]; exact hm
  rw [he, he', Int.toNat_natCast, getD_lt 0 hml] at h2
  refine ⟨h1, ⟨m, heB, hml, by rw [h2, heB']⟩, fun e => ?_⟩
  subst e
  have hmm : m = m' := by omega
  have hn : nextF f m = m := by
    have := (hv.at' m hml).1
    omega
  have hR : fixRun rows f = [] := by
    unfold fixRun
    rw [he, Int.toNat_natCast, runF_fixed hn]
  refine ⟨?_, by rw [hR]; rfl⟩
  unfold fixX
  rw [hR, he, heB]
  rfl
/-- FnFunBelow. -/
theorem fact_fbelow {rows rows' : Rows2} {f g : List Int} (h : fbelowB rows rows' f g = true) :
    fbelowB rows rows' g f = decide (f = g) ∧ (monoB rows rows f = true → monoB rows rows g = true → rows = rows' → belowB rows (fixX rows f) (fixX rows g) = true) := by
  obtain ⟨⟨hf, hg⟩, hu⟩ := fbelow_iff.1 h
  constructor
  · rw [Bool.eq_iff_iff, decide_eq_true_iff, fbelow_iff]
    constructor
    · rintro ⟨_, hu'⟩
      exact hf.ext hg fun i hi => Lq.anti hf.ok' (hu i hi) (hu' i hi)
    · rintro rfl
      exact ⟨⟨hf, hf⟩, fun i hi => hf.up i i (Lq.refl hf.ok hi)⟩
  · intro h1 h2 e
    subst e
    obtain ⟨z, a1, a2, a3, a4, _⟩ := fix_facts h1
    obtain ⟨y, b1, b2, b3, _, _⟩ := fix_facts h2
    rw [a1, b1, below_at hf.ok a2 b2]
    have := hu y b2
    rw [b3] at this
    exact a4 y this
/-- FnStable: meets of bounded elements are kept. -/
theorem fact_stable {rows rows' : Rows2} {f : List Int} (h : stableB rows rows' f = true) :
    monoB rows rows' f = true ∧ ∀ a b (ha : a < f.length) (hb : b < f.length), 0 ≤ joinB rows a b → ∃ k : Nat, meetB rows a b = (k : Int) ∧ ∃ hk : k < f.length, f[k] = meetB rows' f[a] f[b] := by
  unfold stableB at h
  rw [Bool.and_eq_true] at h
  obtain ⟨h1, h2⟩ := h
  have hv := mono_v h1
  refine ⟨h1, fun a b ha hb hj => ?_⟩
  have hal : a < rows.length := by rw [← hv.len]; exact ha
  have hbl : b < rows.length := by rw [← hv.len]; exact hb
  have hfa := hv.at' a ha
  have hfb := hv.at' b hb
  rw [joinB_at hv.ok hal hbl] at hj
  obtain ⟨c, hc⟩ : ∃ c : Nat, joinI rows a b = (c : Int) := ⟨(joinI rows a b).toNat, by omega⟩
  obtain ⟨hac, hbc, _⟩ := (join_is hv.ok hal hbl).1 hc
  rw [meetB_at hv.ok hal hbl, hfa.1, hfb.1, meetB_at hv.ok' hfa.2 hfb.2]
  -- the meet of two elements, taken in either order
  have comm : ∀ (r : Rows2) (_ : Ok r) (x y : Nat), x < r.length → y < r.length → joinI (backRows r) x y = joinI (backRows r) y x := fun r hr x y hx hy => by
    rcases join_cases hr.back (a := x) (b := y) (by rw [backRows_len]; exact hx) (by rw [backRows_len]; exact hy) with e | ⟨k, _, e⟩
    · rcases join_cases hr.back (a := y) (b := x) (by rw [backRows_len]; exact hy) (by rw [backRows_len]; exact hx) with e2 | ⟨k, _, e2⟩
      · rw [e, e2]
      · obtain ⟨p, q, s⟩ := (meet_is hr hy hx).1 e2
        rw [(meet_is hr hx hy).2 ⟨q, p, fun d u v => s d v u⟩, e2]
    · obtain ⟨p, q, s⟩ := (meet_is hr hx hy).1 e
      rw [(meet_is hr hy hx).2 ⟨q, p, fun d u v => s d v u⟩, e]
  have main : ∀ x y, x < f.length → y < x → Lq rows x c = true → Lq rows y c = true → ∃ k : Nat, joinI (backRows rows) x y = (k : Int) ∧ ∃ hk : k < f.length, f[k] = joinI (backRows rows') (nextF f x) (nextF f y) := by
    intro x y hx hyx hxc hyc
    have hxl : x < rows.length := by rw [← hv.len]; exact hx
    have hst : badSt rows rows' f x y = false := by
      unfold stableI at h2
      rw [List.all_eq_true] at h2
      have h3 := h2 x (List.mem_range.2 hx)
      rw [List.all_eq_true] at h3
      have h4 := h3 y (List.mem_range.2 hyx)
      simpa using h4
    unfold badSt at hst
    have hbd : boundedI rows x y = true := by
      rw [bounded_eq hv.ok hxl (by omega), Bool.not_eq_true', decide_eq_false_iff_not]
      intro e
      have h3 : (gridF rows x &&& gridF rows y).testBit c = true := by rw [Nat.testBit_and, Bool.and_eq_true]; exact ⟨hxc, hyc⟩
      rw [e] at h3
      simp at h3
    rw [hbd, Bool.true_and, Bool.not_eq_false', beq_iff_eq] at hst
    obtain ⟨k, hk, e⟩ := meet_there hv.dom hxl (show y < rows.length by omega)
    have hkl : k < f.length := by rw [hv.len]; exact hk
    refine ⟨k, e, hkl, ?_⟩
    rw [e, Int.toNat_natCast, getD_lt 0 hkl] at hst
    exact hst.symm
  rcases Nat.lt_trichotomy b a with hlt | heq | hgt
  · exact main a b ha hlt hac hbc
  · subst heq
    have e1 : joinI (backRows rows) b b = (b : Int) := (meet_is hv.ok hbl hbl).2 ⟨Lq.refl hv.ok hbl, Lq.refl hv.ok hbl, fun d u _ => u⟩
    have e2 : joinI (backRows rows') (nextF f b) (nextF f b) = (nextF f b : Int) := (meet_is hv.ok' hfb.2 hfb.2).2 ⟨Lq.refl hv.ok' hfb.2, Lq.refl hv.ok' hfb.2, fun d u _ => u⟩
    exact ⟨b, e1, hb, by rw [e2]; exact hfb.1⟩
  · obtain ⟨k, e, hk, e2⟩ := main b a hb hgt hbc hac
    exact ⟨k, by rw [comm rows hv.ok a b hal hbl]; exact e, hk, by rw [comm rows' hv.ok' _ _ hfa.2 hfb.2]; exact e2⟩
end Go.Proofs.YtjfbjfclcpcaiaaDoor
