/- Functions of domains in their list: indexes, joins and meets in the function domain. Plain facts: no function is walked here. -/
import Derived.Test.YtkomghohdhengaaDoorAfterQk
import Derived.Test.YtkomghohdhengaaDoorSumQk
import Derived.Test.YtkomghohdhengaaDoorPc26
import Derived.Test.YtkomghohdhengaaDoorPc36
import Derived.Test.YtkomghohdhengaaDoorPc37
import Derived.Test.YtkomghohdhengaaDoorPc38
import Derived.Test.YtkomghohdhengaaDoorPc19
namespace Go.Proofs.YtkomghohdhengaaDoor
open Go.RowKit Go.Deep

theorem intsOf_next {l : List Nat} {i : Nat} (h : i < l.length) : nextF (intsOf l) i = l.getD i 0 := by
  unfold nextF
  have h' : i < (intsOf l).length := by rw [intsOf_len]; exact h
  rw [getD_lt 0 h', intsOf_at h', Int.toNat_natCast]
/-- The list of functions has all monotone functions, and these alone. -/
theorem funs_mem {rows rows' : Rows2} (hd : domB rows = true) (hd' : domB rows' = true) (f : List Int) : f ∈ I2 (funsR rows rows') ↔ MonoV rows rows' f := by
  have hok := (domB_iff.1 hd).1
  have hok' := (domB_iff.1 hd').1
  unfold I2
  rw [List.mem_map]
  constructor
  · rintro ⟨l, hl, rfl⟩
    obtain ⟨h1, h2, h3⟩ := funs_len hl
    have hat : ∀ i (hi : i < (intsOf l).length), (intsOf l)[i] = (nextF (intsOf l) i : Int) ∧ nextF (intsOf l) i < rows'.length := fun i hi => by
      have hi2 : i < l.length := by rw [intsOf_len] at hi; exact hi
      rw [intsOf_next hi2, intsOf_at hi, getD_lt 0 hi2]
      exact ⟨rfl, h2 _ (List.getElem_mem hi2)⟩
    refine mono_v (mono_mk hd hd' (by rw [intsOf_len, h1]) hat fun a b hab => ?_)
    obtain ⟨ha, hb⟩ := hok.bit_lt hab
    have h4 := h3 a b (by omega) (by omega) (by show upB rows a (b : Int) = true; rw [hok.up ha]; exact hab)
    rw [intsOf_next (by omega : a < l.length), intsOf_next (by omega : b < l.length)]
    have h5 : l.getD a 0 < rows'.length := by
      rw [getD_lt 0 (by omega : a < l.length)]
      exact h2 _ (List.getElem_mem _)
    have h6 : upB rows' (l.getD a 0) ((l.getD b 0 : Nat) : Int) = true := h4
    rw [hok'.up h5] at h6
    exact h6
  · intro hv
    refine ⟨(List.range f.length).map (nextF f), (mem_extL _ _).2 ⟨(List.range f.length).map (nextF f), by simp [hv.len], fun y hy => ?_, rfl, monN_iff.2 fun a b ha hb hab => ?_⟩, ?_⟩
    · obtain ⟨i, hi, rfl⟩ := List.mem_map.1 hy
      exact (hv.at' i (List.mem_range.1 hi)).2
    · have ha2 : a < f.length := by simpa using ha
      have hb2 : b < f.length := by simpa using hb
      have e : ∀ i, i < f.length → ((List.range f.length).map (nextF f)).getD i 0 = nextF f i := fun i hi => by
        rw [List.getD_eq_getElem?_getD, List.getElem?_map, List.getElem?_range hi]
        rfl
      rw [e a ha2, e b hb2]
      show upB rows' (nextF f a) ((nextF f b : Nat) : Int) = true
      rw [hok'.up (hv.at' a ha2).2]
      refine hv.up a b ?_
      have h6 : upB rows a (b : Int) = true := hab
      rw [hok.up (by rw [← hv.len]; exact ha2)] at h6
      exact h6
    · apply List.ext_getElem
      · rw [intsOf_len]; simp
      · intro i h1 h2
        rw [intsOf_at h1, (hv.at' i h2).1]
        rw [List.getD_eq_getElem?_getD, List.getElem?_map, List.getElem?_range h2]
        rfl
theorem asc_inj {L : Rows2} (h : AscL L) {i j : Nat} (hi : i < L.length) (hj : j < L.length) (e : L[i] = L[j]) : i = j := by
  have hne : ∀ {a b : Nat} (hab : a < b) (hb : b < L.length), L[a]'(by omega) ≠ L[b] := fun {a b} hab hb e => by
    have := h.at hab hb
    rw [e] at this
    have hs : ∀ l : List Int, cmpL l l = 0 := fun l => by
      induction l with
      | nil => rfl
      | cons x l ih => rw [cmpL_cons, if_neg (by omega), if_neg (by omega)]; exact ih
    rw [hs] at this
    omega
  rcases Nat.lt_trichotomy i j with h1 | h1 | h1
  · exact absurd e (hne h1 hj)
  · exact h1
  · exact absurd e.symm (hne h1 hi)
theorem idx_at {L : Rows2} (h : AscL L) {i : Nat} (hi : i < L.length) : idxL L L[i] = i :=
  idxL_some hi rfl fun j hj e => by have := asc_inj h (by omega) hi e; omega
/-- FnIndex. -/
theorem fact_index {rows rows' : Rows2} {f : List Int} (h : 0 ≤ indexI rows rows' f) : funB rows rows' = true ∧ ∃ i : Nat, indexI rows rows' f = (i : Int) ∧ ∃ hi : i < (funsL rows rows').length, (funsL rows rows')[i] = f := by
  unfold indexI at h ⊢
  by_cases hb : funB rows rows' = true
  · rw [if_pos hb] at h ⊢
    refine ⟨hb, ?_⟩
    rw [funsL_yes hb]
    by_cases hm : f ∈ I2 (funsR rows rows')
    · obtain ⟨i, hi, e⟩ := List.getElem_of_mem hm
      refine ⟨i, ?_, hi, e⟩
      rw [← e]
      exact idx_at (funs_asc rows rows') hi
    · rw [idxL_none fun j hj e => hm (by rw [← e]; exact List.getElem_mem hj)] at h
      omega
  · rw [if_neg hb] at h
    omega
/-- A monotone function has an index. -/
theorem index_of {rows rows' : Rows2} {f : List Int} (hb : funB rows rows' = true) (hv : MonoV rows rows' f) : ∃ i : Nat, indexI rows rows' f = (i : Int) ∧ ∃ hi : i < (I2 (funsR rows rows')).length, (I2 (funsR rows rows'))[i] = f := by
  obtain ⟨hd, hd', _⟩ := funB_iff.1 hb
  obtain ⟨i, hi, e⟩ := List.getElem_of_mem ((funs_mem hd hd' f).2 hv)
  refine ⟨i, ?_, hi, e⟩
  unfold indexI
  rw [if_pos hb, ← e]
  exact idx_at (funs_asc rows rows') hi
theorem funL_madeQ {rows rows' : Rows2} (h : funB rows rows' = true) : funL rows rows' = madeL (funG (gridF rows') (I2 (funsR rows rows')) rows.length) (funsR rows rows').length := by
  unfold funL madeL
  rw [if_pos h]
  rfl
section
variable {rows rows' : Rows2} (h : funB rows rows' = true)
include h
theorem funAt {a : Nat} (ha : a < (funsR rows rows').length) : MonoV rows rows' ((I2 (funsR rows rows')).getD a []) := by
  obtain ⟨hd, hd', _⟩ := funB_iff.1 h
  have ha2 : a < (I2 (funsR rows rows')).length := by rw [I2_len]; exact ha
  rw [getD_lt [] ha2]
  exact (funs_mem hd hd' _).1 (List.getElem_mem ha2)
omit h in
theorem funG_iff {a b : Nat} : funG (gridF rows') (I2 (funsR rows rows')) rows.length a b = true ↔ ∀ i, i < rows.length → Lq rows' (nextF ((I2 (funsR rows rows')).getD a []) i) (nextF ((I2 (funsR rows rows')).getD b []) i) = true := by
  unfold funG funT
  rw [List.all_eq_true]
  exact ⟨fun hx i hi => hx i (List.mem_range.2 hi), fun hx i hi => hx i (List.mem_range.1 hi)⟩
theorem funs_pos : 1 ≤ (funsR rows rows').length := by
  obtain ⟨hd, hd', _⟩ := funB_iff.1 h
  have hok := (domB_iff.1 hd).1
  have hok' := (domB_iff.1 hd').1
  obtain ⟨m, hm, _⟩ := dom_low hd'
  have hv : MonoV rows rows' (repL rows.length m) := by
    refine mono_v (mono_mk hd hd' (repL_len _ _) (fun k hk => ?_) (fun x y hxy => ?_))
    · have hk' := hk
      rw [repL_len] at hk'
      rw [repL_get, repL_at hk']
      exact ⟨rfl, hm⟩
    · have hl := hok.bit_lt hxy
      rw [repL_at hl.1, repL_at hl.2]
      exact Lq.refl hok' hm
  have h1 := (funs_mem hd hd' _).2 hv
  have h2 := List.length_pos_of_mem h1
  rw [I2_len] at h2
  exact h2
theorem funL_ok : Ok (funL rows rows') := by
  obtain ⟨hd, hd', hl⟩ := funB_iff.1 h
  have hok' := (domB_iff.1 hd').1
  rw [funL_madeQ h]
  refine made_ok (funs_pos h) hl (fun a ha => funs_own hok' a ha) (fun a b ha hb hab hne => ?_) (fun a b c _ _ _ hab hbc => ?_)
  · cases hq : funG (gridF rows') (I2 (funsR rows rows')) rows.length b a with
    | false => rfl
    | true =>
      rw [funG_iff] at hab hq
      have e := (funAt h ha).ext (funAt h hb) fun i hi => Lq.anti hok' (hab i hi) (hq i hi)
      have ha2 : a < (I2 (funsR rows rows')).length := by rw [I2_len]; exact ha
      have hb2 : b < (I2 (funsR rows rows')).length := by rw [I2_len]; exact hb
      rw [getD_lt [] ha2, getD_lt [] hb2] at e
      exact absurd (asc_inj (funs_asc rows rows') ha2 hb2 e).symm hne
  · rw [funG_iff] at hab hbc ⊢
    exact fun i hi => Lq.trans hok' (hab i hi) (hbc i hi)
theorem funL_len : (funL rows rows').length = (funsR rows rows').length := (funL_yes h).1
theorem funL_lq {a b : Nat} : Lq (funL rows rows') a b = true ↔ a < (funsR rows rows').length ∧ b < (funsR rows rows').length ∧ ∀ i, i < rows.length → Lq rows' (nextF ((I2 (funsR rows rows')).getD a []) i) (nextF ((I2 (funsR rows rows')).getD b []) i) = true := by
  have hok := funL_ok h
  rw [funL_madeQ h] at hok ⊢
  rw [made_lq hok, funG_iff]
/-- The element of the function domain that a monotone function is. -/
theorem fun_elem {f : List Int} (hv : MonoV rows rows' f) : ∃ i : Nat, indexI rows rows' f = (i : Int) ∧ i < (funsR rows rows').length ∧ (I2 (funsR rows rows')).getD i [] = f := by
  obtain ⟨i, e, hi, e2⟩ := index_of h hv
  exact ⟨i, e, by rw [I2_len] at hi; exact hi, by rw [getD_lt [] hi]; exact e2⟩
end
theorem bothN_at {rows : Rows2} {f g : List Int} {k i : Nat} (_hi : i < k) : ∀ h : i < (bothN rows f g k).length, (bothN rows f g k)[i] = joinI rows (nextF f i) (nextF g i) := by
  intro h
  unfold bothN
  simp [nextF]
theorem bothN_next {rows : Rows2} {f g : List Int} {k i : Nat} (hi : i < k) : nextF (bothN rows f g k) i = (joinI rows (nextF f i) (nextF g i)).toNat := by
  unfold nextF
  rw [getD_lt 0 (by rw [bothN_length]; exact hi), bothN_at hi]
  rfl
theorem bothOk_at2 {rows : Rows2} {f g : List Int} (h : bothOk rows f g = true) {i : Nat} (hi : i < f.length) : 0 ≤ joinI rows (nextF f i) (nextF g i) := by
  unfold bothOk at h
  rw [List.all_eq_true] at h
  exact of_decide_eq_true (h i (List.mem_range.2 hi))
/-- The join of two functions is the least function above both. -/
theorem fjoin_v {rows rows' : Rows2} {f g : List Int} (h : fjoinOk rows rows' f g = true) : (MonoV rows rows' f ∧ MonoV rows rows' g) ∧ MonoV rows rows' (fjoinL rows rows' f g) ∧
    ∀ i, i < rows.length → Lq rows' (nextF f i) (nextF (fjoinL rows rows' f g) i) = true ∧ Lq rows' (nextF g i) (nextF (fjoinL rows rows' f g) i) = true ∧ ∀ d, Lq rows' (nextF f i) d = true → Lq rows' (nextF g i) d = true → Lq rows' (nextF (fjoinL rows rows' f g) i) d = true := by
  have hp := h
  unfold fjoinOk at hp
  rw [Bool.and_eq_true, Bool.and_eq_true] at hp
  obtain ⟨⟨h1, h2⟩, h3⟩ := hp
  have hf := mono_v h1
  have hg := mono_v h2
  have hL : fjoinL rows rows' f g = bothN rows' f g f.length := by unfold fjoinL; rw [if_pos h]
  rw [hL]
  have hj : ∀ i, i < rows.length → Lq rows' (nextF f i) (nextF (bothN rows' f g f.length) i) = true ∧ Lq rows' (nextF g i) (nextF (bothN rows' f g f.length) i) = true ∧ ∀ d, Lq rows' (nextF f i) d = true → Lq rows' (nextF g i) d = true → Lq rows' (nextF (bothN rows' f g f.length) i) d = true := fun i hi => by
    have hif : i < f.length := by rw [hf.len]; exact hi
    have hp := bothOk_at2 h3 hif
    rw [bothN_next hif]
    exact (join_is hf.ok' (hf.at' i hif).2 (hg.at' i (by rw [hg.len]; exact hi)).2).1 (by omega)
  refine ⟨⟨hf, hg⟩, mono_v (mono_mk hf.dom hf.dom' (by rw [bothN_length, hf.len]) (fun i hi => ?_) (fun a b hab => ?_)), hj⟩
  · have hif := hi
    rw [bothN_length] at hif
    have hp := bothOk_at2 h3 hif
    have hb := (joinI_bounds hf.ok' (hf.at' i hif).2 (nextF g i)).2
    rw [bothN_at hif, bothN_next hif]
    omega
  · have hl := hf.ok.bit_lt hab
    exact (hj a hl.1).2.2 _ (Lq.trans hf.ok' (hf.up a b hab) (hj b hl.2).1) (Lq.trans hf.ok' (hg.up a b hab) (hj b hl.2).2.1)
/-- FnFunJoin. -/
theorem fact_fjoin {rows rows' : Rows2} {f g : List Int} (h : fjoinOk rows rows' f g = true) :
    fbelowB rows rows' f (fjoinL rows rows' f g) = true ∧ fbelowB rows rows' g (fjoinL rows rows' f g) = true ∧ (funB rows rows' = true → joinB (funL rows rows') (indexI rows rows' f) (indexI rows rows' g) = indexI rows rows' (fjoinL rows rows' f g)) := by
  obtain ⟨⟨hf, hg⟩, hv, hj⟩ := fjoin_v h
  refine ⟨fbelow_iff.2 ⟨⟨hf, hv⟩, fun i hi => (hj i hi).1⟩, fbelow_iff.2 ⟨⟨hg, hv⟩, fun i hi => (hj i hi).2.1⟩, fun hb => ?_⟩
  obtain ⟨a, ea, ha, fa⟩ := fun_elem hb hf
  obtain ⟨b, eb, hb2, fb⟩ := fun_elem hb hg
  obtain ⟨c, ec, hc, fc⟩ := fun_elem hb hv
  have hF := funL_ok hb
  rw [ea, eb, ec, joinB_at hF (by rw [funL_len hb]; exact ha) (by rw [funL_len hb]; exact hb2)]
  refine (join_is hF (by rw [funL_len hb]; exact ha) (by rw [funL_len hb]; exact hb2)).2 ⟨(funL_lq hb).2 ⟨ha, hc, ?_⟩, (funL_lq hb).2 ⟨hb2, hc, ?_⟩, fun d hd1 hd2 => ?_⟩
  · rw [fa, fc]; exact fun i hi => (hj i hi).1
  · rw [fb, fc]; exact fun i hi => (hj i hi).2.1
  · obtain ⟨_, hdl, u⟩ := (funL_lq hb).1 hd1
    obtain ⟨_, _, v⟩ := (funL_lq hb).1 hd2
    rw [fa] at u
    rw [fb] at v
    refine (funL_lq hb).2 ⟨hc, hdl, ?_⟩
    rw [fc]
    exact fun i hi => (hj i hi).2.2 _ (u i hi) (v i hi)
/-- FnFunMeet. -/
theorem fact_fmeet {rows rows' : Rows2} {f g : List Int} (h : fmeetOk rows rows' f g = true) :
    fbelowB rows rows' (fmeetL rows rows' f g) f = true ∧ fbelowB rows rows' (fmeetL rows rows' f g) g = true ∧ (funB rows rows' = true → meetB (funL rows rows') (indexI rows rows' f) (indexI rows rows' g) = indexI rows rows' (fmeetL rows rows' f g)) := by
  have hp := h
  unfold fmeetOk at hp
  rw [Bool.and_eq_true, Bool.and_eq_true] at hp
  obtain ⟨⟨h1, h2⟩, h3⟩ := hp
  have hf := mono_v h1
  have hg := mono_v h2
  have hL : fmeetL rows rows' f g = bothN (backRows rows') f g f.length := by unfold fmeetL; rw [if_pos h]
  rw [hL]
  have hj : ∀ i, i < rows.length → Lq rows' (nextF (bothN (backRows rows') f g f.length) i) (nextF f i) = true ∧ Lq rows' (nextF (bothN (backRows rows') f g f.length) i) (nextF g i) = true ∧ ∀ d, Lq rows' d (nextF f i) = true → Lq rows' d (nextF g i) = true → Lq rows' d (nextF (bothN (backRows rows') f g f.length) i) = true := fun i hi => by
    have hif : i < f.length := by rw [hf.len]; exact hi
    have hp := bothOk_at2 h3 hif
    rw [bothN_next hif]
    exact (meet_is hf.ok' (hf.at' i hif).2 (hg.at' i (by rw [hg.len]; exact hi)).2).1 (by omega)
  have hv : MonoV rows rows' (bothN (backRows rows') f g f.length) := by
    refine mono_v (mono_mk hf.dom hf.dom' (by rw [bothN_length, hf.len]) (fun i hi => ?_) (fun a b hab => ?_))
    · have hif := hi
      rw [bothN_length] at hif
      have hp := bothOk_at2 h3 hif
      have hb := (joinI_bounds hf.ok'.back (by rw [backRows_len]; exact (hf.at' i hif).2) (nextF g i)).2
      rw [backRows_len] at hb
      rw [bothN_at hif, bothN_next hif]
      omega
    · have hl := hf.ok.bit_lt hab
      exact (hj b hl.2).2.2 _ (Lq.trans hf.ok' (hj a hl.1).1 (hf.up a b hab)) (Lq.trans hf.ok' (hj a hl.1).2.1 (hg.up a b hab))
  refine ⟨fbelow_iff.2 ⟨⟨hv, hf⟩, fun i hi => (hj i hi).1⟩, fbelow_iff.2 ⟨⟨hv, hg⟩, fun i hi => (hj i hi).2.1⟩, fun hb => ?_⟩
  obtain ⟨a, ea, ha, fa⟩ := fun_elem hb hf
  obtain ⟨b, eb, hb2, fb⟩ := fun_elem hb hg
  obtain ⟨c, ec, hc, fc⟩ := fun_elem hb hv
  have hF := funL_ok hb
  rw [ea, eb, ec, meetB_at hF (by rw [funL_len hb]; exact ha) (by rw [funL_len hb]; exact hb2)]
  refine (meet_is hF (by rw [funL_len hb]; exact ha) (by rw [funL_len hb]; exact hb2)).2 ⟨(funL_lq hb).2 ⟨hc, ha, ?_⟩, (funL_lq hb).2 ⟨hc, hb2, ?_⟩, fun d hd1 hd2 => ?_⟩
  · rw [fa, fc]; exact fun i hi => (hj i hi).1
  · rw [fb, fc]; exact fun i hi => (hj i hi).2.1
  · obtain ⟨hdl, _, u⟩ := (funL_lq hb).1 hd1
    obtain ⟨_, _, v⟩ := (funL_lq hb).1 hd2
    rw [fa] at u
    rw [fb] at v
    refine (funL_lq hb).2 ⟨hdl, hc, ?_⟩
    rw [fc]
    exact fun i hi => (hj i hi).2.2 _ (u i hi) (v i hi)
/-- FnFun: functions of domains are a domain. -/
theorem fact_fun {rows rows' : Rows2} (h : funB rows rows' = true) : domB (funL rows rows') = true ∧ ((funL rows rows').length = (funsR rows rows').length ∧ (funsL rows rows').length = (funsR rows rows').length) ∧
    ∃ k : Nat, leastB (funL rows rows') = (k : Int) ∧ ∃ hk : k < (funsL rows rows').length, (funsL rows rows')[k].length = rows.length ∧ ∀ i (hi : i < (funsL rows rows')[k].length), (funsL rows rows')[k][i] = leastB rows' := by
  obtain ⟨hd, hd', hl⟩ := funB_iff.1 h
  have hok := (domB_iff.1 hd).1
  have hok' := (domB_iff.1 hd').1
  obtain ⟨m, hm, _, hmB, hall⟩ := dom_low hd'
  have hv : MonoV rows rows' (repL rows.length m) := by
    refine mono_v (mono_mk hd hd' (repL_len _ _) (fun k hk => ?_) (fun x y hxy => ?_))
    · have hk' := hk
      rw [repL_len] at hk'
      rw [repL_get, repL_at hk']
      exact ⟨rfl, hm⟩
    · have hl := hok.bit_lt hxy
      rw [repL_at hl.1, repL_at hl.2]
      exact Lq.refl hok' hm
  obtain ⟨c, ec, hc, fc⟩ := fun_elem h hv
  have hF := funL_ok h
  have hmin : ∀ i, i < (funL rows rows').length → Lq (funL rows rows') c i = true := fun i hi => by
    rw [funL_len h] at hi
    refine (funL_lq h).2 ⟨hc, hi, fun j hj => ?_⟩
    rw [fc, repL_at hj]
    exact hall _ ((funAt h hi).at' j (by rw [(funAt h hi).len]; exact hj)).2
  have hdom : domB (funL rows rows') = true := by
    refine dom_mk hF hmin fun a b d had hbd => ?_
    obtain ⟨ha, hdl, u⟩ := (funL_lq h).1 had
    obtain ⟨hb, _, v⟩ := (funL_lq h).1 hbd
    have fa := funAt h ha
    have fb := funAt h hb
    have hjo : fjoinOk rows rows' ((I2 (funsR rows rows')).getD a []) ((I2 (funsR rows rows')).getD b []) = true := by
      unfold fjoinOk
      rw [fa.mk', fb.mk', bothOk_yes fun i hi => ?_]
      · rfl
      · rw [fa.len] at hi
        obtain ⟨j, _, ej, _⟩ := dom_join hd' (u i hi) (v i hi)
        show 0 ≤ joinI rows' (nextF _ i) (nextF _ i)
        omega
    obtain ⟨_, hvj, hj⟩ := fjoin_v hjo
    obtain ⟨e, _, he, fe⟩ := fun_elem h hvj
    refine ⟨e, (funL_lq h).2 ⟨ha, he, ?_⟩, (funL_lq h).2 ⟨hb, he, ?_⟩, fun x hx1 hx2 => ?_⟩
    · rw [fe]; exact fun i hi => (hj i hi).1
    · rw [fe]; exact fun i hi => (hj i hi).2.1
    · obtain ⟨_, hxl, p⟩ := (funL_lq h).1 hx1
      obtain ⟨_, _, q⟩ := (funL_lq h).1 hx2
      refine (funL_lq h).2 ⟨he, hxl, ?_⟩
      rw [fe]
      exact fun i hi => (hj i hi).2.2 _ (p i hi) (q i hi)
  refine ⟨hdom, ⟨funL_len h, by rw [funsL_yes h, I2_len]⟩, ?_⟩
  obtain ⟨k, hk, _, hkB, hkall⟩ := dom_low hdom
  have ekc : k = c := Lq.anti hF (hkall c (by rw [funL_len h]; exact hc)) (hmin k hk)
  subst ekc
  have hk2 : k < (funsL rows rows').length := by rw [funsL_yes h, I2_len]; exact hc
  have hrow : (funsL rows rows')[k] = repL rows.length m := by
    have h2 : (funsL rows rows').getD k [] = repL rows.length m := by rw [funsL_yes h]; exact fc
    rw [getD_lt [] hk2] at h2
    exact h2
  refine ⟨k, hkB, hk2, by rw [hrow, repL_len], fun i hi => ?_⟩
  simp only [hrow, repL_get, hmB]
/-- FnFunParts. -/
theorem fact_parts {rows rows' rows2 : Rows2} {f : List Int} (h : partOk rows rows' rows2 f = true) :
    pairOk rows rows' rows2 (part1 rows rows' rows2 f) (part2 rows rows' rows2 f) = true ∧ pairL rows rows' rows2 (part1 rows rows' rows2 f) (part2 rows rows' rows2 f) = f := by
  have hp := h
  unfold partOk at hp
  rw [Bool.and_eq_true] at hp
  obtain ⟨hpr, h1⟩ := hp
  have hf := mono_v h1
  obtain ⟨⟨hd', hd2⟩, hl⟩ := prod_parts hpr
  have hok' := (domB_iff.1 hd').1
  have hok2 := (domB_iff.1 hd2).1
  have n2 := hok2.len
  have e1 : part1 rows rows' rows2 f = quoN f rows2.length f.length := by unfold part1; rw [if_pos h]
  have e2 : part2 rows rows' rows2 f = remN f rows2.length f.length := by unfold part2; rw [if_pos h]
  rw [e1, e2]
  have hq : ∀ i, i < f.length → nextF (quoN f rows2.length f.length) i = nextF f i / rows2.length := fun i hi => by
    show ((quoN f rows2.length f.length).getD i 0).toNat = _
    rw [getD_lt 0 (by rw [quoN_length]; exact hi), quoN_get, Int.toNat_natCast]
  have hr : ∀ i, i < f.length → nextF (remN f rows2.length f.length) i = nextF f i % rows2.length := fun i hi => by
    show ((remN f rows2.length f.length).getD i 0).toNat = _
    rw [getD_lt 0 (by rw [remN_length]; exact hi), remN_get, Int.toNat_natCast]
  have hbd : ∀ i, i < f.length → nextF f i < rows'.length * rows2.length := fun i hi => by
    have := (hf.at' i hi).2
    rw [(prodL_yes hpr).1] at this
    exact this
  have m1 : MonoV rows rows' (quoN f rows2.length f.length) := by
    refine mono_v (mono_mk hf.dom hd' (by rw [quoN_length, hf.len]) (fun i hi => ?_) (fun a b hab => ?_))
    · have hi' := hi
      rw [quoN_length] at hi'
      rw [quoN_get, hq i hi']
      exact ⟨rfl, (Nat.div_lt_iff_lt_mul (by omega)).2 (hbd i hi')⟩
    · have hl := hf.ok.bit_lt hab
      rw [hq a (by rw [hf.len]; exact hl.1), hq b (by rw [hf.len]; exact hl.2)]
      exact ((prod_lq hpr).1 (hf.up a b hab)).1
  have m2 : MonoV rows rows2 (remN f rows2.length f.length) := by
    refine mono_v (mono_mk hf.dom hd2 (by rw [remN_length, hf.len]) (fun i hi => ?_) (fun a b hab => ?_))
    · have hi' := hi
      rw [remN_length] at hi'
      rw [remN_get, hr i hi']
      exact ⟨rfl, Nat.mod_lt _ (by omega)⟩
    · have hl := hf.ok.bit_lt hab
      rw [hr a (by rw [hf.len]; exact hl.1), hr b (by rw [hf.len]; exact hl.2)]
      exact ((prod_lq hpr).1 (hf.up a b hab)).2
  have hpo : pairOk rows rows' rows2 (quoN f rows2.length f.length) (remN f rows2.length f.length) = true := by
    unfold pairOk
    rw [m1.mk', m2.mk', decide_eq_true hl]
    rfl
  refine ⟨hpo, ?_⟩
  unfold pairL
  rw [if_pos hpo, quoN_length]
  apply List.ext_getElem
  · rw [pairN_length]
  · intro i hi1 hi2
    have hiq : i < (quoN f rows2.length f.length).length := by rw [quoN_length]; exact hi2
    have hir : i < (remN f rows2.length f.length).length := by rw [remN_length]; exact hi2
    rw [pairN_at, getD_lt 0 hiq, getD_lt 0 hir, quoN_get, remN_get, (hf.at' i hi2).1, ← Int.natCast_mul, ← Int.natCast_add]
    congr 1
    rw [Nat.mul_comm]
    exact Nat.div_add_mod _ _
end Go.Proofs.YtkomghohdhengaaDoor
