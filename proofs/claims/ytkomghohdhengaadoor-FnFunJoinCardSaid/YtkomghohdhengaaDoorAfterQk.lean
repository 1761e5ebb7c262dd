/- Functions one after the other, pairs of functions, steps. Plain facts: no function is walked here. -/
import Derived.Test.YtkomghohdhengaaDoorLiftQk
import Derived.Test.YtkomghohdhengaaDoorPc19
import Derived.Test.YtkomghohdhengaaDoorPc20
import Derived.Test.YtkomghohdhengaaDoorPc35
namespace Go.Proofs.YtkomghohdhengaaDoor
open Go.RowKit Go.Deep

theorem pairN_at {f g : List Int} {n k i : Nat} : ∀ h : i < (pairN f g n k).length, (pairN f g n k)[i] = f.getD i 0 * (n : Int) + g.getD i 0 := by
  intro h
  unfold pairN
  simp
theorem quoN_get {f : List Int} {n k i : Nat} (h : i < (quoN f n k).length) : (quoN f n k)[i] = ((nextF f i / n : Nat) : Int) := by simp [quoN, nextF]
theorem remN_get {f : List Int} {n k i : Nat} (h : i < (remN f n k).length) : (remN f n k)[i] = ((nextF f i % n : Nat) : Int) := by simp [remN, nextF]
theorem stepN_get {rows rows' : Rows2} {a : Nat} {b : Int} {n k : Nat} (h : k < (stepN rows rows' a b n).length) : (stepN rows rows' a b n)[k] = stepAt rows rows' a b k := by simp [stepN]
/-- One number, n times. -/
def repL (n t : Nat) : List Int := (List.range n).map fun _ => (t : Int)
theorem repL_len (n t : Nat) : (repL n t).length = n := by simp [repL]
theorem repL_succ (n t : Nat) : repL (n + 1) t = repL n t ++ [(t : Int)] := by unfold repL; rw [List.range_succ, List.map_append]; rfl
theorem repL_at {n t i : Nat} (h : i < n) : nextF (repL n t) i = t := by
  unfold nextF repL
  rw [List.getD_eq_getElem?_getD, List.getElem?_map, List.getElem?_range h]
  rfl
theorem repL_get {n t i : Nat} (h : i < (repL n t).length) : (repL n t)[i] = (t : Int) := by simp [repL]
/-- FnStep: a step is the least function that has so much. -/
theorem fact_step {rows rows' : Rows2} {a b : Int} (h : stepOk rows rows' a b = true) : ∃ i : Nat, a = (i : Int) ∧ (∃ hi : i < (stepL rows rows' a b).length, (stepL rows rows' a b)[i] = b) ∧ monoB rows rows' (stepL rows rows' a b) = true ∧
    i < rows.length ∧ (0 ≤ b ∧ b < 200) ∧ (0 < rows'.length ∧ rows'.length ≤ 200) ∧ ∀ t : Nat, t < rows'.length → monoB rows rows' (repL rows.length t) = true ∧ fbelowB rows rows' (stepL rows rows' a b) (repL rows.length t) = belowB rows' b (t : Int) := by
  have hp := h
  unfold stepOk at hp
  rw [Bool.and_eq_true, Bool.and_eq_true, Bool.and_eq_true, decide_eq_true_iff, decide_eq_true_iff] at hp
  obtain ⟨⟨hd, hd'⟩, ha, hb⟩ := hp
  have hok := (domB_iff.1 hd).1
  have hok' := (domB_iff.1 hd').1
  have n' := hok'.len
  obtain ⟨i, rfl⟩ : ∃ i : Nat, a = (i : Int) := ⟨a.toNat, by omega⟩
  obtain ⟨j, rfl⟩ : ∃ j : Nat, b = (j : Int) := ⟨b.toNat, by omega⟩
  have hi : i < rows.length := by omega
  have hj : j < rows'.length := by omega
  obtain ⟨m, hm, he, _, hall⟩ := dom_low hd'
  have hL : stepL rows rows' i j = stepN rows rows' i j rows.length := by unfold stepL; rw [if_pos h, Int.toNat_natCast]
  rw [hL]
  have hval : ∀ k, k < rows.length → stepAt rows rows' i j k = ((if Lq rows i k = true then j else m : Nat) : Int) := fun k _ => by
    unfold stepAt
    rw [hok.up hi, he]
    by_cases e : (gridF rows i).testBit k = true
    · rw [if_pos e, if_pos e]
    · rw [if_neg e, if_neg e]
  have hget : ∀ k (hk : k < (stepN rows rows' i j rows.length).length), (stepN rows rows' i j rows.length)[k] = ((if Lq rows i k = true then j else m : Nat) : Int) := fun k hk => by
    have hk' := hk
    rw [stepN_length] at hk'
    rw [← hval k hk', stepN_get]
  have hnx : ∀ k, k < rows.length → nextF (stepN rows rows' i j rows.length) k = if Lq rows i k = true then j else m := fun k hk => by
    unfold nextF
    rw [getD_lt 0 (by rw [stepN_length]; exact hk), hget k, Int.toNat_natCast]
  have hmono : monoB rows rows' (stepN rows rows' i j rows.length) = true := by
    refine mono_mk hd hd' (stepN_length _ _ _ _ _) (fun k hk => ?_) (fun x y hxy => ?_)
    · have hk' := hk
      rw [stepN_length] at hk'
      rw [hget k hk, hnx k hk']
      refine ⟨rfl, ?_⟩
      split
      · exact hj
      · exact hm
    · have hl := hok.bit_lt hxy
      rw [hnx x hl.1, hnx y hl.2]
      by_cases e : Lq rows i x = true
      · rw [if_pos e, if_pos (Lq.trans hok e hxy)]
        exact Lq.refl hok' hj
      · rw [if_neg e]
        refine hall _ ?_
        split
        · exact hj
        · exact hm
  refine ⟨i, rfl, ⟨by rw [stepN_length]; exact hi, ?_⟩, hmono, hi, ⟨by omega, by omega⟩, ⟨by omega, by omega⟩, fun t ht => ?_⟩
  · rw [hget i, if_pos (Lq.refl hok hi)]
  · have hmt : monoB rows rows' (repL rows.length t) = true := by
      refine mono_mk hd hd' (repL_len _ _) (fun k hk => ?_) (fun x y hxy => ?_)
      · have hk' := hk
        rw [repL_len] at hk'
        rw [repL_get, repL_at hk']
        exact ⟨rfl, ht⟩
      · have hl := hok.bit_lt hxy
        rw [repL_at hl.1, repL_at hl.2]
        exact Lq.refl hok' ht
    refine ⟨hmt, ?_⟩
    rw [below_at hok' hj ht, Bool.eq_iff_iff, fbelow_iff]
    constructor
    · rintro ⟨_, hu⟩
      have := hu i hi
      rw [hnx i hi, if_pos (Lq.refl hok hi), repL_at hi] at this
      exact this
    · intro hjt
      refine ⟨⟨mono_v hmono, mono_v hmt⟩, fun k hk => ?_⟩
      rw [hnx k hk, repL_at hk]
      split
      · exact hjt
      · exact hall t ht
end Go.Proofs.YtkomghohdhengaaDoor
