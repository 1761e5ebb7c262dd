/- Functions one after the other, pairs of functions, steps. Plain facts: no function is walked here. -/
import Derived.Test.YtjfbjfclcpcaiaaDoorLiftQk
import Derived.Test.YtjfbjfclcpcaiaaDoorPb20
import Derived.Test.YtjfbjfclcpcaiaaDoorPb21
import Derived.Test.YtjfbjfclcpcaiaaDoorPb35
namespace Go.Proofs.YtjfbjfclcpcaiaaDoor
open Go.RowKit Go.Deep

/-- All numbers less than n. -/
def upL (n : Nat) : List Int := (List.range n).map fun i : Nat => (i : Int)
theorem upL_len (n : Nat) : (upL n).length = n := by simp [upL]
theorem upL_at {n i : Nat} (h : i < n) : nextF (upL n) i = i := by
  unfold nextF upL
  rw [List.getD_eq_getElem?_getD, List.getElem?_map, List.getElem?_range h]
  rfl
theorem upL_get {n i : Nat} (h : i < (upL n).length) : (upL n)[i] = (i : Int) := by simp [upL]
theorem upL_succ (n : Nat) : upL (n + 1) = upL n ++ [(n : Int)] := by unfold upL; rw [List.range_succ, List.map_append]; rfl
theorem upL_mono {rows : Rows2} (hd : domB rows = true) : monoB rows rows (upL rows.length) = true := by
  have hok := (domB_iff.1 hd).1
  refine mono_mk hd hd (upL_len _) (fun i hi => ?_) (fun a b hab => ?_)
  · rw [upL_len] at hi
    rw [upL_get, upL_at hi]
    exact ⟨rfl, hi⟩
  · have := hok.bit_lt hab
    rw [upL_at this.1, upL_at this.2]
    exact hab
theorem afterN_at {f g : List Int} {k i : Nat} (hi : i < k) : nextF (afterN f g k) i = nextF g (nextF f i) ∧ ∀ h : i < (afterN f g k).length, (afterN f g k)[i] = g.getD (nextF f i) 0 := by
  unfold nextF afterN
  constructor
  · rw [List.getD_eq_getElem?_getD, List.getElem?_map, List.getElem?_range hi]
    rfl
  · intro h
    simp
theorem after_mono {rows rows' rows2 : Rows2} {f g : List Int} (hf : MonoV rows rows' f) (hg : MonoV rows' rows2 g) : MonoV rows rows2 (afterN f g f.length) := by
  have hat : ∀ i (hi : i < (afterN f g f.length).length), (afterN f g f.length)[i] = (nextF (afterN f g f.length) i : Int) ∧ nextF (afterN f g f.length) i < rows2.length := fun i hi => by
    have hi' := hi
    rw [afterN_length] at hi'
    obtain ⟨h1, h2⟩ := afterN_at (f := f) (g := g) hi'
    have h3 := (hf.at' i hi').2
    have h4 := hg.at' (nextF f i) (by rw [hg.len]; exact h3)
    rw [h1, h2 hi, getD_lt 0 (by rw [hg.len]; exact h3)]
    exact h4
  refine mono_v (mono_mk hf.dom hg.dom' (by rw [afterN_length, hf.len]) hat fun a b hab => ?_)
  have := hf.ok.bit_lt hab
  rw [(afterN_at (by rw [hf.len]; exact this.1)).1, (afterN_at (by rw [hf.len]; exact this.2)).1]
  exact hg.up _ _ (hf.up _ _ hab)
/-- FnAfter. -/
theorem fact_after {rows rows' rows2 : Rows2} {f g : List Int} (h : afterOk rows rows' rows2 f g = true) :
    afterOk rows rows2 rows2 (afterL rows rows' rows2 f g) (upL rows2.length) = true ∧ afterL rows rows2 rows2 (afterL rows rows' rows2 f g) (upL rows2.length) = afterL rows rows' rows2 f g ∧ monoB rows rows2 (afterL rows rows' rows2 f g) = true := by
  have hp := h
  unfold afterOk at hp
  rw [Bool.and_eq_true] at hp
  have hf := mono_v hp.1
  have hg := mono_v hp.2
  have hm := after_mono hf hg
  have hL : afterL rows rows' rows2 f g = afterN f g f.length := by unfold afterL; rw [if_pos h]
  rw [hL]
  have hu := mono_v (upL_mono hg.dom')
  have hok2 : afterOk rows rows2 rows2 (afterN f g f.length) (upL rows2.length) = true := by
    unfold afterOk
    rw [hm.mk', hu.mk']
    rfl
  refine ⟨hok2, ?_, hm.mk'⟩
  unfold afterL
  rw [if_pos hok2]
  refine (after_mono hm hu).ext hm fun i hi => ?_
  rw [(afterN_at (f := afterN f g f.length) (by rw [hm.len]; exact hi)).1]
  exact upL_at (hm.at' i (by rw [hm.len]; exact hi)).2

theorem pairN_at {f g : List Int} {n k i : Nat} : ∀ h : i < (pairN f g n k).length, (pairN f g n k)[i] = f.getD i 0 * (n : Int) + g.getD i 0 := by
  intro h
  unfold pairN
  simp
theorem pairN_next {f g : List Int} {n k i : Nat} (hi : i < k) : nextF (pairN f g n k) i = (f.getD i 0 * (n : Int) + g.getD i 0).toNat := by
  unfold nextF
  rw [getD_lt 0 (by rw [pairN_length]; exact hi), pairN_at]
theorem quoN_get {f : List Int} {n k i : Nat} (h : i < (quoN f n k).length) : (quoN f n k)[i] = ((nextF f i / n : Nat) : Int) := by simp [quoN, nextF]
theorem remN_get {f : List Int} {n k i : Nat} (h : i < (remN f n k).length) : (remN f n k)[i] = ((nextF f i % n : Nat) : Int) := by simp [remN, nextF]
/-- FnFunPair. -/
theorem fact_pair {rows rows' rows2 : Rows2} {f g : List Int} (h : pairOk rows rows' rows2 f g = true) :
    partOk rows rows' rows2 (pairL rows rows' rows2 f g) = true ∧ part1 rows rows' rows2 (pairL rows rows' rows2 f g) = f ∧ part2 rows rows' rows2 (pairL rows rows' rows2 f g) = g := by
  have hp := h
  unfold pairOk at hp
  rw [Bool.and_eq_true, Bool.and_eq_true, decide_eq_true_iff] at hp
  obtain ⟨⟨h1, h2⟩, h3⟩ := hp
  have hf := mono_v h1
  have hg := mono_v h2
  have hL : pairL rows rows' rows2 f g = pairN f g rows2.length f.length := by unfold pairL; rw [if_pos h]
  rw [hL]
  have hpr : prodOk rows' rows2 = true := by
    unfold prodOk
    rw [hf.dom', hg.dom', decide_eq_true h3]
    rfl
  have n2 := hg.ok'.len
  have hv : ∀ i, i < f.length → f.getD i 0 * (rows2.length : Int) + g.getD i 0 = ((nextF f i * rows2.length + nextF g i : Nat) : Int) ∧ nextF f i < rows'.length ∧ nextF g i < rows2.length := fun i hi => by
    have a1 := hf.at' i hi
    have hi2 : i < g.length := by rw [hg.len, ← hf.len]; exact hi
    have a2 := hg.at' i hi2
    rw [getD_lt 0 hi, getD_lt 0 hi2, a1.1, a2.1]
    refine ⟨by rw [Int.natCast_add, Int.natCast_mul], a1.2, a2.2⟩
  have hnx : ∀ i, i < f.length → nextF (pairN f g rows2.length f.length) i = nextF f i * rows2.length + nextF g i := fun i hi => by
    rw [pairN_next hi, (hv i hi).1, Int.toNat_natCast]
  have hdiv : ∀ i, i < f.length → (nextF f i * rows2.length + nextF g i) / rows2.length = nextF f i ∧ (nextF f i * rows2.length + nextF g i) % rows2.length = nextF g i := fun i hi => by
    have := (hv i hi).2.2
    rw [Nat.mul_comm, Nat.mul_add_div (by omega), Nat.div_eq_of_lt this, Nat.mul_add_mod, Nat.mod_eq_of_lt this, Nat.add_zero]
    exact ⟨rfl, rfl⟩
  have hplen : (prodL rows' rows2).length = rows'.length * rows2.length := (prodL_yes hpr).1
  have hm : monoB rows (prodL rows' rows2) (pairN f g rows2.length f.length) = true := by
    refine mono_mk hf.dom (prod_dom hpr) (by rw [pairN_length, hf.len]) (fun i hi => ?_) (fun a b hab => ?_)
    · have hi' := hi
      rw [pairN_length] at hi'
      obtain ⟨e, b1, b2⟩ := hv i hi'
      rw [pairN_at, hnx i hi', e, hplen]
      refine ⟨rfl, ?_⟩
      have := Nat.mul_le_mul_right rows2.length (show nextF f i + 1 ≤ rows'.length by omega)
      rw [Nat.add_mul, Nat.one_mul] at this
      omega
    · have hb := hf.ok.bit_lt hab
      rw [hnx a (by rw [hf.len]; exact hb.1), hnx b (by rw [hf.len]; exact hb.2), prod_lq hpr]
      have d1 := hdiv a (by rw [hf.len]; exact hb.1)
      have d2 := hdiv b (by rw [hf.len]; exact hb.2)
      rw [d1.1, d1.2, d2.1, d2.2]
      exact ⟨hf.up a b hab, hg.up a b hab⟩
  have hpo : partOk rows rows' rows2 (pairN f g rows2.length f.length) = true := by
    unfold partOk
    rw [hpr, hm]
    rfl
  refine ⟨hpo, ?_, ?_⟩
  · unfold part1
    rw [if_pos hpo, pairN_length]
    apply List.ext_getElem
    · rw [quoN_length]
    · intro i hi1 hi2
      rw [quoN_get, hnx i hi2, (hdiv i hi2).1, (hf.at' i hi2).1]
  · unfold part2
    rw [if_pos hpo, pairN_length]
    apply List.ext_getElem
    · rw [remN_length, hg.len, hf.len]
    · intro i hi1 hi2
      have hi3 : i < f.length := by rw [remN_length] at hi1; exact hi1
      rw [remN_get, hnx i hi3, (hdiv i hi3).2, (hg.at' i hi2).1]
theorem stepN_get {rows rows' : Rows2} {a : Nat} {b : Int} {n k : Nat} (h : k < (stepN rows rows' a b n).length) : (stepN rows rows' a b n)[k] = stepAt rows rows' a b k := by simp [stepN]
/-- One number, n times. -/
def repL (n t : Nat) : List Int := (List.range n).map fun _ => (t : Int)
theorem repL_len (n t : Nat) : (repL n t).length = n := by simp [repL]
theorem repL_succ (n t : Nat) : repL (n + 1) t = repL n t ++ [(t : Int)] := by unfold repL; rw [List.range_succ, List.map_append]; rfl
theorem repL_at {n t i : Nat} (h : i < n) : nextF (repL n t) i = t := by
  unfold nextF repL
  rw [List.getD_eq_getElem?_getD, List.getElem?_map, List.getElem?_range h]
  rfl
theorem repL_get {n t i : Nat} (h : i < (repL n t).length) : (repL n t)[i] = (t : Int) := by simp [repL]
/-- FnStep: a step is the least function that has so much. -/
theorem fact_step {rows rows' : Rows2} {a b : Int} (h : stepOk rows rows' a b = true) : ∃ i : Nat, a = (i : Int) ∧ (∃ hi : i < (stepL rows rows' a b).length, (stepL rows rows' a b)[i] = b) ∧ monoB rows rows' (stepL rows rows' a b) = true ∧
    i < rows.length ∧ (0 ≤ b ∧ b < 200) ∧ (0 < rows'.length ∧ rows'.length ≤ 200) ∧ ∀ t : Nat, t < rows'.length → monoB rows rows' (repL rows.length t) = true ∧ fbelowB rows rows' (stepL rows rows' a b) (repL rows.length t) = belowB rows' b (t : Int) := by
  have hp := h
  unfold stepOk at hp
  rw [Bool.and_eq_true, Bool.and_eq_true, Bool.and_eq_true, decide_eq_true_iff, decide_eq_true_iff] at hp
  obtain ⟨⟨hd, hd'⟩, ha, hb⟩ := hp
  have hok := (domB_iff.1 hd).1
  have hok' := (domB_iff.1 hd').1
  have n' := hok'.len
  obtain ⟨i, rfl⟩ : ∃ i : Nat, a = (i : Int) := ⟨a.toNat, by omega⟩
  obtain ⟨j, rfl⟩ : ∃ j : Nat, b = (j : Int) := ⟨b.toNat, by omega⟩
  have hi : i < rows.length := by omega
  have hj : j < rows'.length := by omega
  obtain ⟨m, hm, he, _, hall⟩ := dom_low hd'
  have hL : stepL rows rows' i j = stepN rows rows' i j rows.length := by unfold stepL; rw [if_pos h, Int.toNat_natCast]
  rw [hL]
  have hval : ∀ k, k < rows.length → stepAt rows rows' i j k = ((if Lq rows i k = true then j else m : Nat) : Int) := fun k _ => by
    unfold stepAt
    rw [hok.up hi, he]
    by_cases e : (gridF rows i).testBit k = true
    · rw [if_pos e, if_pos e]
    · rw [if_neg e, if_neg e]
  have hget : ∀ k (hk : k < (stepN rows rows' i j rows.length).length), (stepN rows rows' i j rows.length)[k] = ((if Lq rows i k = true then j else m : Nat) : Int) := fun k hk => by
    have hk' := hk
    rw [stepN_length] at hk'
    rw [← hval k hk', stepN_get]
  have hnx : ∀ k, k < rows.length → nextF (stepN rows rows' i j rows.length) k = if Lq rows i k = true then j else m := fun k hk => by
    unfold nextF
    rw [getD_lt 0 (by rw [stepN_length]; exact hk), hget k, Int.toNat_natCast]
  have hmono : monoB rows rows' (stepN rows rows' i j rows.length) = true := by
    refine mono_mk hd hd' (stepN_length _ _ _ _ _) (fun k hk => ?_) (fun x y hxy => ?_)
    · have hk' := hk
      rw [stepN_length] at hk'
      rw [hget k hk, hnx k hk']
      refine ⟨rfl, ?_⟩
      split
      · exact hj
      · exact hm
    · have hl := hok.bit_lt hxy
      rw [hnx x hl.1, hnx y hl.2]
      by_cases e : Lq rows i x = true
      · rw [if_pos e, if_pos (Lq.trans hok e hxy)]
        exact Lq.refl hok' hj
      · rw [if_neg e]
        refine hall _ ?_
        split
        · exact hj
        · exact hm
  refine ⟨i, rfl, ⟨by rw [stepN_length]; exact hi, ?_⟩, hmono, hi, ⟨by omega, by omega⟩, ⟨by omega, by omega⟩, fun t ht => ?_⟩
  · rw [hget i, if_pos (Lq.refl hok hi)]
  · have hmt : monoB rows rows' (repL rows.length t) = true := by
      refine mono_mk hd hd' (repL_len _ _) (fun k hk => ?_) (fun x y hxy => ?_)
      · have hk' := hk
        rw [repL_len] at hk'
        rw [repL_get, repL_at hk']
        exact ⟨rfl, ht⟩
      · have hl := hok.bit_lt hxy
        rw [repL_at hl.1, repL_at hl.2]
        exact Lq.refl hok' ht
    refine ⟨hmt, ?_⟩
    rw [below_at hok' hj ht, Bool.eq_iff_iff, fbelow_iff]
    constructor
    · rintro ⟨_, hu⟩
      have := hu i hi
      rw [hnx i hi, if_pos (Lq.refl hok hi), repL_at hi] at this
      exact this
    · intro hjt
      refine ⟨⟨mono_v hmono, mono_v hmt⟩, fun k hk => ?_⟩
      rw [hnx k hk, repL_at hk]
      split
      · exact hjt
      · exact hall t ht
end Go.Proofs.YtjfbjfclcpcaiaaDoor
