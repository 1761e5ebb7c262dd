/- Monotone functions told by pairs: fixed points, strict and stable functions, what is below. Plain facts: no function is walked here. -/
import Derived.Test.YtkomghohdhengaaDoorPc22
import Derived.Test.YtkomghohdhengaaDoorPc19
import Derived.Test.YtkomghohdhengaaDoorPc23
import Derived.Test.YtkomghohdhengaaDoorPc20
namespace Go.Proofs.YtkomghohdhengaaDoor
open Go.RowKit Go.Deep

theorem dom_low {rows : Rows2} (hd : domB rows = true) : ∃ m : Nat, m < rows.length ∧ leastI rows = (m : Int) ∧ leastB rows = (m : Int) ∧ ∀ i, i < rows.length → Lq rows m i = true := by
  obtain ⟨hok, ⟨k, hk, e⟩, _⟩ := domB_iff.1 hd
  have h0 : 0 ≤ leastI rows := by
    rw [least_eq hok]
    exact (bottomF_pos (allF_lt (by have := hok.len; omega))).2 ⟨k, by rw [testBit_allF]; exact decide_eq_true hk, e⟩
  obtain ⟨m, h1, h2, h3⟩ := least_at hok h0
  refine ⟨m, h1, h2, ?_, h3⟩
  unfold leastB
  rw [if_pos (valid_of_ok hok), h2]
theorem dom_join {rows : Rows2} (hd : domB rows = true) {a b c : Nat} (h1 : Lq rows a c = true) (h2 : Lq rows b c = true) : ∃ j : Nat, j < rows.length ∧ joinI rows a b = (j : Int) ∧ Lq rows a j = true ∧ Lq rows b j = true ∧ ∀ d, Lq rows a d = true → Lq rows b d = true → Lq rows j d = true := by
  obtain ⟨hok, _, hj⟩ := domB_iff.1 hd
  have ha := (hok.bit_lt h1).1
  have hb := (hok.bit_lt h2).1
  obtain ⟨k, hk, e⟩ := hj a b ha hb (fun e => by
    have h3 : (gridF rows a &&& gridF rows b).testBit c = true := by rw [Nat.testBit_and, Bool.and_eq_true]; exact ⟨h1, h2⟩
    rw [e] at h3
    simp at h3)
  have hkk := hok.own k hk
  rw [e, Nat.testBit_and, Bool.and_eq_true] at hkk
  have h3 : ∀ d, Lq rows a d = true → Lq rows b d = true → Lq rows k d = true := fun d x y => by
    show (gridF rows k).testBit d = true
    rw [e, Nat.testBit_and, Bool.and_eq_true]
    exact ⟨x, y⟩
  exact ⟨k, hk, (join_is hok ha hb).2 ⟨hkk.1, hkk.2, h3⟩, hkk.1, hkk.2, h3⟩

theorem mono_iff {rows rows' : Rows2} {f : List Int} : monoB rows rows' f = true ↔ domB rows = true ∧ domB rows' = true ∧ Mono rows rows' f := by
  classical
  unfold monoB monoI
  rw [Bool.and_eq_true, Bool.and_eq_true, decide_eq_true_iff, and_assoc]
/-- What a monotone function keeps. -/
structure MonoV (rows rows' : Rows2) (f : List Int) : Prop where
  dom : domB rows = true
  dom' : domB rows' = true
  ok : Ok rows
  ok' : Ok rows'
  len : f.length = rows.length
  at' : ∀ i (hi : i < f.length), f[i] = (nextF f i : Int) ∧ nextF f i < rows'.length
  up : ∀ a b, Lq rows a b = true → Lq rows' (nextF f a) (nextF f b) = true
theorem mono_v {rows rows' : Rows2} {f : List Int} (h : monoB rows rows' f = true) : MonoV rows rows' f := by
  obtain ⟨hd, hd', hl, hr, hu⟩ := mono_iff.1 h
  have hok := (domB_iff.1 hd).1
  have hok' := (domB_iff.1 hd').1
  have hat : ∀ i (hi : i < f.length), f[i] = (nextF f i : Int) ∧ nextF f i < rows'.length := fun i hi => by
    have := hr f[i] (List.getElem_mem hi)
    unfold nextF
    rw [getD_lt 0 hi]
    omega
  refine ⟨hd, hd', hok, hok', hl, hat, fun a b hab => ?_⟩
  obtain ⟨ha, hb⟩ := hok.bit_lt hab
  have h1 := hu a b ha hb (by rw [hok.up ha]; exact hab)
  have h2 := hat b (by omega)
  rw [getD_lt 0 (by omega : b < f.length), h2.1] at h1
  have h3 := hat a (by omega)
  rw [show (f.getD a 0).toNat = nextF f a from rfl, hok'.up h3.2] at h1
  exact h1
theorem mono_mk {rows rows' : Rows2} {f : List Int} (hd : domB rows = true) (hd' : domB rows' = true) (hl : f.length = rows.length) (hat : ∀ i (hi : i < f.length), f[i] = (nextF f i : Int) ∧ nextF f i < rows'.length)
    (hu : ∀ a b, Lq rows a b = true → Lq rows' (nextF f a) (nextF f b) = true) : monoB rows rows' f = true := by
  have hok := (domB_iff.1 hd).1
  have hok' := (domB_iff.1 hd').1
  refine mono_iff.2 ⟨hd, hd', hl, fun x hx => ?_, fun a b ha hb hab => ?_⟩
  · obtain ⟨i, hi, rfl⟩ := List.getElem_of_mem hx
    have := hat i hi
    omega
  · rw [hok.up ha] at hab
    have h2 := hat b (by omega)
    have h3 := hat a (by omega)
    rw [getD_lt 0 (by omega : b < f.length), h2.1, show (f.getD a 0).toNat = nextF f a from rfl, hok'.up h3.2]
    exact hu a b hab
theorem under_iff {rows rows' : Rows2} {f g : List Int} (hf : MonoV rows rows' f) (hg : MonoV rows rows' g) : underI rows' f g = true ↔ ∀ i, i < rows.length → Lq rows' (nextF f i) (nextF g i) = true := by
  unfold underI
  rw [List.all_eq_true]
  have e : ∀ i, i < rows.length → upB rows' (f.getD i 0).toNat (g.getD i 0) = Lq rows' (nextF f i) (nextF g i) := fun i hi => by
    have h2 := hg.at' i (by rw [hg.len]; exact hi)
    have h3 := hf.at' i (by rw [hf.len]; exact hi)
    rw [getD_lt 0 (by rw [hg.len]; exact hi : i < g.length), h2.1, show (f.getD i 0).toNat = nextF f i from rfl, hf.ok'.up h3.2]
  constructor
  · intro h i hi
    rw [← e i hi]
    exact h i (List.mem_range.2 (by rw [hf.len]; exact hi))
  · intro h i hi
    have hi := List.mem_range.1 hi
    rw [hf.len] at hi
    rw [e i hi]
    exact h i hi
theorem fbelow_iff {rows rows' : Rows2} {f g : List Int} : fbelowB rows rows' f g = true ↔ (MonoV rows rows' f ∧ MonoV rows rows' g) ∧ ∀ i, i < rows.length → Lq rows' (nextF f i) (nextF g i) = true := by
  unfold fbelowB
  rw [Bool.and_eq_true, Bool.and_eq_true]
  constructor
  · rintro ⟨⟨h1, h2⟩, h3⟩
    exact ⟨⟨mono_v h1, mono_v h2⟩, (under_iff (mono_v h1) (mono_v h2)).1 h3⟩
  · rintro ⟨⟨h1, h2⟩, h3⟩
    exact ⟨⟨mono_mk h1.dom h1.dom' h1.len h1.at' h1.up, mono_mk h2.dom h2.dom' h2.len h2.at' h2.up⟩, (under_iff h1 h2).2 h3⟩
theorem MonoV.mk' {rows rows' : Rows2} {f : List Int} (h : MonoV rows rows' f) : monoB rows rows' f = true := mono_mk h.dom h.dom' h.len h.at' h.up
/-- Two functions that have the same values are the same. -/
theorem MonoV.ext {rows rows' : Rows2} {f g : List Int} (hf : MonoV rows rows' f) (hg : MonoV rows rows' g) (h : ∀ i, i < rows.length → nextF f i = nextF g i) : f = g := by
  apply List.ext_getElem
  · rw [hf.len, hg.len]
  · intro i h1 h2
    rw [(hf.at' i h1).1, (hg.at' i h2).1, h i (by rw [← hf.len]; exact h1)]

end Go.Proofs.YtkomghohdhengaaDoor
