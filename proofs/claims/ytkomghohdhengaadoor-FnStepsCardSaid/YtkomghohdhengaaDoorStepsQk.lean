/- Functions are joins of steps. Plain facts: no function is walked here. -/
import Derived.Test.YtkomghohdhengaaDoorFunsQk
import Derived.Test.YtkomghohdhengaaDoorPc20
namespace Go.Proofs.YtkomghohdhengaaDoor
open Go.RowKit Go.Deep

/-- A step's values. -/
theorem step_vals {rows rows' : Rows2} {i j : Nat} (h : stepOk rows rows' (i : Int) (j : Int) = true) : ∃ m : Nat, leastB rows' = (m : Int) ∧ (∀ x, x < rows'.length → Lq rows' m x = true) ∧ i < rows.length ∧ j < rows'.length ∧
    ∀ k, k < rows.length → nextF (stepL rows rows' (i : Int) (j : Int)) k = if Lq rows i k = true then j else m := by
  have hp := h
  unfold stepOk at hp
  rw [Bool.and_eq_true, Bool.and_eq_true, Bool.and_eq_true, decide_eq_true_iff, decide_eq_true_iff] at hp
  obtain ⟨⟨hd, hd'⟩, ha, hb⟩ := hp
  have hok := (domB_iff.1 hd).1
  have hi : i < rows.length := by omega
  obtain ⟨m, hm, he, heB, hall⟩ := dom_low hd'
  have hL : stepL rows rows' i j = stepN rows rows' i j rows.length := by unfold stepL; rw [if_pos h, Int.toNat_natCast]
  refine ⟨m, heB, hall, hi, by omega, fun k hk => ?_⟩
  rw [hL]
  show ((stepN rows rows' i j rows.length).getD k 0).toNat = _
  rw [getD_lt 0 (by rw [stepN_length]; exact hk), stepN_get]
  unfold stepAt
  rw [hok.up hi, he]
  by_cases e : (gridF rows i).testBit k = true
  · rw [if_pos e, if_pos e, Int.toNat_natCast]
  · rw [if_neg e, if_neg e, Int.toNat_natCast]
/-- A monotone function below another one. -/
structure Under (rows rows' : Rows2) (s f : List Int) : Prop where
  mono : MonoV rows rows' s
  le : ∀ i, i < rows.length → Lq rows' (nextF s i) (nextF f i) = true
theorem steps_start {rows rows' : Rows2} {f : List Int} (hf : MonoV rows rows' f) : ∃ m : Nat, leastB rows' = (m : Int) ∧ leastI rows' = (m : Int) ∧ Under rows rows' (repL f.length m) f := by
  obtain ⟨m, hm, he, heB, hall⟩ := dom_low hf.dom'
  refine ⟨m, heB, he, mono_v (mono_mk hf.dom hf.dom' (by rw [repL_len, hf.len]) (fun k hk => ?_) (fun x y hxy => ?_)), fun i hi => ?_⟩
  · have hk' := hk
    rw [repL_len] at hk'
    rw [repL_get, repL_at hk']
    exact ⟨rfl, hm⟩
  · have hl := hf.ok.bit_lt hxy
    rw [repL_at (by rw [hf.len]; exact hl.1), repL_at (by rw [hf.len]; exact hl.2)]
    exact Lq.refl hf.ok' hm
  · rw [repL_at (by rw [hf.len]; exact hi)]
    exact hall _ (hf.at' i (by rw [hf.len]; exact hi)).2
theorem steps_next {rows rows' : Rows2} {s f : List Int} (hf : MonoV rows rows' f) (hs : Under rows rows' s f) {a : Nat} (ha : a < rows.length) :
    stepOk rows rows' (a : Int) ((nextF f a : Nat) : Int) = true ∧ fjoinOk rows rows' s (stepL rows rows' (a : Int) ((nextF f a : Nat) : Int)) = true ∧ Under rows rows' (fjoinL rows rows' s (stepL rows rows' (a : Int) ((nextF f a : Nat) : Int))) f ∧
      (∀ i, i < rows.length → Lq rows' (nextF s i) (nextF (fjoinL rows rows' s (stepL rows rows' (a : Int) ((nextF f a : Nat) : Int))) i) = true) ∧ Lq rows' (nextF f a) (nextF (fjoinL rows rows' s (stepL rows rows' (a : Int) ((nextF f a : Nat) : Int))) a) = true := by
  have hfa := hf.at' a (by rw [hf.len]; exact ha)
  have hok : stepOk rows rows' (a : Int) ((nextF f a : Nat) : Int) = true := by
    unfold stepOk
    rw [hf.dom, hf.dom', decide_eq_true (by omega), decide_eq_true (by omega)]
    rfl
  obtain ⟨m, _, hall, _, _, hval⟩ := step_vals hok
  obtain ⟨_, _, _, hsm, _⟩ := fact_step hok
  have hst := mono_v hsm
  have hle : ∀ i, i < rows.length → Lq rows' (nextF (stepL rows rows' (a : Int) ((nextF f a : Nat) : Int)) i) (nextF f i) = true := fun i hi => by
    rw [hval i hi]
    by_cases e : Lq rows a i = true
    · rw [if_pos e]; exact hf.up a i e
    · rw [if_neg e]; exact hall _ (hf.at' i (by rw [hf.len]; exact hi)).2
  have hj : fjoinOk rows rows' s (stepL rows rows' (a : Int) ((nextF f a : Nat) : Int)) = true := by
    unfold fjoinOk
    rw [hs.mono.mk', hsm, bothOk_yes fun i hi => ?_]
    · rfl
    · rw [hs.mono.len] at hi
      obtain ⟨j, _, ej, _⟩ := dom_join hf.dom' (hs.le i hi) (hle i hi)
      show 0 ≤ joinI rows' (nextF _ i) (nextF _ i)
      omega
  obtain ⟨_, hv, hlub⟩ := fjoin_v hj
  refine ⟨hok, hj, ⟨hv, fun i hi => (hlub i hi).2.2 _ (hs.le i hi) (hle i hi)⟩, fun i hi => (hlub i hi).1, ?_⟩
  have h1 := (hlub a ha).2.1
  rw [hval a ha, if_pos (Lq.refl hf.ok ha)] at h1
  exact h1
/-- Below each element with more than the least there is a start that has as much. -/
theorem start_below {rows rows' : Rows2} {f : List Int} (hf : MonoV rows rows' f) {m : Nat} (hm : leastI rows' = (m : Int)) {x : Nat} (hx : x < rows.length) (hne : nextF f x ≠ m) : ∃ a : Nat, (a : Int) ∈ startsN rows rows' f f.length ∧ a < rows.length ∧ Lq rows a x = true ∧ nextF f a = nextF f x := by
  have key : ∀ (d y : Nat), 256 - (elems (gridF rows y)).length = d → y < rows.length → Lq rows y x = true → nextF f y = nextF f x → ∃ a : Nat, (a : Int) ∈ startsN rows rows' f f.length ∧ a < rows.length ∧ Lq rows a x = true ∧ nextF f a = nextF f x := by
    intro d
    induction d using Nat.strongRecOn with
    | ind d ih =>
      intro y hd hy hyx hfy
      have hyf : y < f.length := by rw [hf.len]; exact hy
      by_cases hs : startT rows f (leastI rows') y f.length = true
      · refine ⟨y, ?_, hy, hyx, hfy⟩
        unfold startsN
        exact List.mem_map.2 ⟨y, List.mem_filter.2 ⟨List.mem_range.2 hyf, hs⟩, rfl⟩
      · have hval : ∀ i, i < f.length → f.getD i 0 = (nextF f i : Int) := fun i hi => by rw [getD_lt 0 hi]; exact (hf.at' i hi).1
        have hex : ∃ k, k < f.length ∧ startP rows f y k = false := by
          refine Classical.byContradiction fun hno => hs ?_
          unfold startT
          rw [Bool.and_eq_true, List.all_eq_true]
          refine ⟨?_, fun k hk => ?_⟩
          · rw [hval y hyf, hm, Bool.not_eq_true', beq_eq_false_iff_ne]
            intro e
            exact hne (by rw [← hfy]; omega)
          · cases hq : startP rows f y k with
            | true => rfl
            | false => exact absurd ⟨k, List.mem_range.1 hk, hq⟩ hno
        obtain ⟨k, hk, hq⟩ := hex
        unfold startP at hq
        rw [Bool.or_eq_false_iff, Bool.or_eq_false_iff, Bool.not_eq_false', Bool.not_eq_false', beq_eq_false_iff_ne, beq_iff_eq] at hq
        obtain ⟨⟨h1, h2⟩, h3⟩ := hq
        have hkr : k < rows.length := by rw [← hf.len]; exact hk
        rw [hf.ok.up hkr] at h2
        rw [hval k hk, hval y hyf] at h3
        have h4 := strict_grow hf.ok h2 (fun e => h1 e.symm)
        have h5 := elems_length_le (gridF rows k)
        exact ih _ (by omega) k rfl hkr (Lq.trans hf.ok h2 hyx) (by omega)
  exact key _ x rfl hx (Lq.refl hf.ok hx) rfl
theorem steps_done {rows rows' : Rows2} {s f : List Int} (hf : MonoV rows rows' f) (hs : Under rows rows' s f) (hall : ∀ a : Nat, (a : Int) ∈ startsN rows rows' f f.length → Lq rows' (nextF f a) (nextF s a) = true) : s = f := by
  obtain ⟨m, hm, he, _, hmin⟩ := dom_low hf.dom'
  refine hs.mono.ext hf fun x hx => ?_
  by_cases hne : nextF f x = m
  · have h1 := hs.le x hx
    rw [hne] at h1 ⊢
    exact Lq.anti hf.ok' h1 (hmin _ (hf.ok'.bit_lt h1).1)
  · obtain ⟨a, h1, h2, h3, h4⟩ := start_below hf he hx hne
    have h5 := hall a h1
    have h6 := hs.mono.up a x h3
    rw [h4] at h5
    exact Lq.anti hf.ok' (hs.le x hx) (Lq.trans hf.ok' h5 h6)
/-- Each start is an element. -/
theorem start_at {rows rows' : Rows2} {f : List Int} {k : Nat} (hk : k < (startsN rows rows' f f.length).length) : ∃ a : Nat, (startsN rows rows' f f.length)[k] = (a : Int) ∧ a < f.length := by
  have h := List.getElem_mem hk
  unfold startsN at h
  obtain ⟨a, ha, e⟩ := List.mem_map.1 h
  exact ⟨a, e.symm, List.mem_range.1 (List.mem_filter.1 ha).1⟩
end Go.Proofs.YtkomghohdhengaaDoor
