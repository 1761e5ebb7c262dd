/- The elements that cover an element: plain facts. -/
import Derived.Test.YtachmaldcakgcaaDoorElemP
namespace Go.Proofs.YtachmaldcakgcaaDoor
open Go

/-! ### Covers -/
/-- Row i without i. -/
def aboveF (g : Nat → Nat) (i : Nat) : Nat := diff (g i) (2 ^ i)
/-- What is left of a set when the strict rows of some elements are taken away. -/
def lessF (g : Nat → Nat) (ks : List Nat) (s : Nat) : Nat := ks.foldl (fun c k => diff c (aboveF g k)) s
theorem lessF_snoc (g : Nat → Nat) (ks : List Nat) (k s : Nat) : lessF g (ks ++ [k]) s = diff (lessF g ks s) (aboveF g k) := by
  unfold lessF; rw [List.foldl_append]; rfl
theorem testBit_above (g : Nat → Nat) (i j : Nat) : (aboveF g i).testBit j = ((g i).testBit j && !decide (j = i)) := by
  unfold aboveF
  rw [testBit_diff, Nat.testBit_two_pow]
  congr 2
  rw [decide_eq_decide]
  exact eq_comm
theorem testBit_less (g : Nat → Nat) (j : Nat) : ∀ (ks : List Nat) (s : Nat), (lessF g ks s).testBit j = (s.testBit j && ks.all fun k => !(aboveF g k).testBit j)
  | [], s => by simp [lessF]
  | k :: ks, s => by
    show (lessF g ks (diff s (aboveF g k))).testBit j = _
    rw [testBit_less g j ks, testBit_diff, List.all_cons, Bool.and_assoc]
theorem lessF_lt (g : Nat → Nat) : ∀ (ks : List Nat) {s : Nat}, s < 2 ^ 256 → lessF g ks s < 2 ^ 256
  | [], _, h => h
  | k :: ks, s, h => lessF_lt g ks (s := diff s (aboveF g k)) (diff_lt _ h)
/-- The elements that cover element i. -/
def coversF (g : Nat → Nat) (i : Nat) : Nat := lessF g (elems (aboveF g i)) (aboveF g i)
theorem above_lt {rows : List (List Int)} (h : Ok rows) (i : Nat) : aboveF (gridF rows) i < 2 ^ 256 := diff_lt _ (h.lt i)
theorem covers_lt {rows : List (List Int)} (h : Ok rows) (i : Nat) : coversF (gridF rows) i < 2 ^ 256 := lessF_lt _ _ (above_lt h i)
/-- The model's test. -/
def coverTest (rows : List (List Int)) (i : Nat) (j : Int) : Bool :=
  !decide (j = (i : Int)) && !(rows.getD i []).any fun e => !decide (e = (i : Int)) && (!decide (e = j) && upB rows e.toNat j)
def coversI (rows : List (List Int)) (i : Nat) : List Int := (rows.getD i []).filter (coverTest rows i)
theorem covers_eq {rows : List (List Int)} (h : Ok rows) {i : Nat} (hi : i < rows.length) : coversI rows i = (elems (coversF (gridF rows) i)).map (fun k : Nat => (k : Int)) := by
  have hc : ∀ k : Nat, (gridF rows i).testBit k = true → coverTest rows i k = (coversF (gridF rows) i).testBit k := fun k hk => by
    unfold coverTest coversF
    rw [testBit_less, testBit_above, hk, Bool.true_and]
    have e1 : decide ((k : Int) = (i : Int)) = decide (k = i) := by rw [decide_eq_decide]; omega
    rw [e1]
    congr 1
    rw [Bool.eq_iff_iff, Bool.not_eq_true', List.any_eq_false, List.all_eq_true, getD_at [] hi, h.elems hi]
    simp only [List.mem_map, forall_exists_index, and_imp]
    constructor
    · intro hall m hm
      rw [mem_elems (above_lt h i), testBit_above, Bool.and_eq_true, Bool.not_eq_true', decide_eq_false_iff_not] at hm
      have := hall m m ((mem_elems (h.lt i)).2 hm.1) rfl
      rw [Int.toNat_natCast, h.up (h.bit_lt hm.1).2] at this
      rw [testBit_above, Bool.not_eq_true', Bool.and_eq_false_iff]
      by_cases e : k = m
      · right; simp [e]
      · left
        cases hb : (gridF rows m).testBit k with
        | false => rfl
        | true =>
          exfalso
          apply this
          rw [hb, Bool.and_true, Bool.and_eq_true, Bool.not_eq_true', Bool.not_eq_true', decide_eq_false_iff_not, decide_eq_false_iff_not]
          omega
    · intro hall e m hm he
      subst he
      rw [mem_elems (h.lt i)] at hm
      rw [Int.toNat_natCast, h.up (h.bit_lt hm).2, Bool.and_eq_true, Bool.and_eq_true, Bool.not_eq_true', Bool.not_eq_true', decide_eq_false_iff_not, decide_eq_false_iff_not]
      rintro ⟨hne, hne2, hb⟩
      have := hall m (by rw [mem_elems (above_lt h i), testBit_above, hm, Bool.true_and, Bool.not_eq_true', decide_eq_false_iff_not]; omega)
      rw [testBit_above, hb, Bool.true_and, Bool.not_not, decide_eq_true_iff] at this
      omega
  unfold coversI
  rw [getD_at [] hi, h.elems hi, List.filter_map]
  congr 1
  have e : elems (coversF (gridF rows) i) = (elems (gridF rows i)).filter (fun k => (coversF (gridF rows) i).testBit k) :=
    sorted_ext (elems_pairwise _) (List.Pairwise.filter _ (elems_pairwise _)) fun x => by
      rw [mem_elems (covers_lt h i), List.mem_filter, mem_elems (h.lt i)]
      refine ⟨fun hx => ⟨?_, hx⟩, fun hx => hx.2⟩
      unfold coversF at hx
      rw [testBit_less, testBit_above] at hx
      simp only [Bool.and_eq_true] at hx
      exact hx.1.1
  rw [e]
  apply List.filter_congr
  intro k hk
  exact hc k ((mem_elems (h.lt i)).1 hk)
end Go.Proofs.YtachmaldcakgcaaDoor
