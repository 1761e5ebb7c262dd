/- The program's look at a monotone function (isMonotone). -/
import Derived.Test.YtkhhbpeheikmfaaDoorMonoS
import Derived.Test.YtkhhbpeheikmfaaDoorGrid
import Derived.Test.YtkhhbpeheikmfaaDoorGridPure
import Derived.Test.YtkhhbpeheikmfaaDoorFits
import Derived.Test.YtkhhbpeheikmfaaDoorBottom
namespace Go.Proofs.YtkhhbpeheikmfaaDoor
open Go.RowKit Go.Deep Go.Shelf

theorem gbelow_any (b : Nat) (g : Nat → Nat) (x y : Int) (i j : Nat) (w : World) (hg : GridAt w b g) (hx : x = i) (hi : i < 200) (hy : y = j) (hj : j < 256) :
    Calls Tryd.prog 99 #[.pointer (some ⟨b, 0, none⟩), .int .i64 x, .int .i64 y] w (SaysN ((g i).testBit j) w) := by
  subst hx hy
  obtain ⟨c0, c1, c2, c3⟩ := hg.row i hi
  have hi0 : (0 : Int) ≤ (i : Int) := by omega
  have hi1 : (i : Int) < 200 := by omega
  go_enter Tryd.func99, Tryd.ntmps99
  go_wp2_with (go_at_call 81; refine (has_any (g i) j j w rfl hj).mono ?_; rintro e w1 ⟨rfl, hb1⟩)
  go_ret
  exact ⟨rfl, hb1⟩

/-- A number that is no element. -/
def outN (n : Nat) (k : Int) : Bool := decide (k < 0) || decide ((n : Int) ≤ k)

theorem outside_any (p n : Nat) (k : Int) (W : World) (hc : W.cell? ⟨p, 0, none⟩ = some (.int .i64 (n : Int))) :
    Calls Tryd.prog 87 #[.int .i64 k, .pointer (some ⟨p, 0, none⟩)] W (fun e W' => e = .returned (.bool (outN n k)) ∧ W' = W) := by
  unfold outN
  by_cases h1 : k < 0
  · rw [decide_eq_true h1]
    go_enter Tryd.func87, Tryd.ntmps87
    go_wp2
    go_ret
    exact ⟨rfl, rfl⟩
  · rw [decide_eq_false h1]
    by_cases h2 : (n : Int) ≤ k
    · rw [decide_eq_true h2]
      go_enter Tryd.func87, Tryd.ntmps87
      go_wp2
      go_ret
      exact ⟨rfl, rfl⟩
    · rw [decide_eq_false h2]
      go_enter Tryd.func87, Tryd.ntmps87
      go_wp2
      go_ret
      exact ⟨rfl, rfl⟩

/-- Where the first number that is no element stands, or -1. -/
def IdxPost (f : List Int) (n : Nat) (w : World) (e : Ending) (w' : World) : Prop :=
  (∃ r : Int, e = .returned (.int .i64 r) ∧ (0 ≤ r ↔ ∃ x ∈ f, outN n x = true)) ∧ w' = w

set_option maxRecDepth 100000 in
set_option maxHeartbeats 4000000 in
theorem indexFunc_any (vf : Value) (f : List Int) (p n : Nat) (w : World) (hf : IntsAt w vf f) (hc : w.cell? ⟨p, 0, none⟩ = some (.int .i64 (n : Int))) :
    Calls Tryd.prog 95 #[vf, .func (.func 87) #[] #[.pointer (some ⟨p, 0, none⟩)]] w (IdxPost f n w) := by
  obtain ⟨Af, Cf, rfl, hCf, hmf, _, hy⟩ := hf
  unfold maxLen at hmf
  have HY := Lib.hid hy
  clear hy
  go_enter Tryd.func95, Tryd.ntmps95
  go_wp2
  go_loopw [5, 8] (fun _ kv wr => ∃ k : Nat, k ≤ f.length ∧ kv = .int .i64 k ∧ (∀ q (hq : q < f.length), q < k → outN n f[q] = false) ∧ wr = w) (fun _ kv _ => f.length - (intOf kv).toNat)
  case atStart => exact ⟨0, Nat.zero_le _, rfl, fun _ _ h => absurd h (Nat.not_lt_zero _), rfl⟩
  case round =>
    obtain ⟨k, hk, rfl, hp, rfl⟩ := hrel
    have HP := Lib.hid hp
    clear hp
    by_cases hlt : k < f.length
    · obtain ⟨b, o, rfl, hcf⟩ := HY.out k hlt
      have hcall := outside_any p n f[k] wr hc
      cases hq : outN n f[k] with
      | true =>
        rw [hq] at hcall
        have HE := Lib.hid (show ∃ x ∈ f, outN n x = true from ⟨_, List.getElem_mem hlt, hq⟩)
        clear hq
        go_wp2_with (go_at_call 87; refine hcall.mono ?_; clear hcall; rintro e w1 ⟨rfl, rfl⟩)
        go_ret
        exact ⟨⟨_, rfl, ⟨fun _ => HE.out, fun _ => by omega⟩⟩, rfl⟩
      | false =>
        rw [hq] at hcall
        have HQ := Lib.hid hq
        clear hq
        go_wp2_with (go_at_call 87; refine hcall.mono ?_; clear hcall; rintro e w1 ⟨rfl, rfl⟩)
        go_roundw
        case rel =>
          refine ⟨k + 1, by omega, by go_num, fun q hq hlt' => ?_, by first | trivial | rfl⟩
          by_cases e : q = k
          · subst e; exact HQ.out
          · exact HP.out q hq (by omega)
        case measure => simp [intOf]; omega
    · obtain rfl : k = f.length := by omega
      have HE := Lib.hid (show ¬ ∃ x ∈ f, outN n x = true by
        rintro ⟨x, hx, ho⟩
        obtain ⟨i, hi, rfl⟩ := List.getElem_of_mem hx
        rw [HP.out i hi hi] at ho
        cases ho)
      go_wp2
      go_ret
      exact ⟨⟨_, rfl, ⟨fun h => absurd h (by omega), fun h => absurd h HE.out⟩⟩, rfl⟩

theorem containsFunc_any (vf : Value) (f : List Int) (p n : Nat) (w : World) (t : Bool) (ht : t = true ↔ ∃ x ∈ f, outN n x = true) (hf : IntsAt w vf f) (hc : w.cell? ⟨p, 0, none⟩ = some (.int .i64 (n : Int))) :
    Calls Tryd.prog 86 #[vf, .func (.func 87) #[] #[.pointer (some ⟨p, 0, none⟩)]] w (fun e w' => e = .returned (.bool t) ∧ w' = w) := by
  have hcall := indexFunc_any vf f p n w hf hc
  obtain ⟨Af, Cf, rfl, _⟩ := hf
  go_enter Tryd.func86, Tryd.ntmps86
  go_wp2_with (go_at_call 95; refine hcall.mono ?_; clear hcall; rintro e w1 ⟨⟨r, rfl, hr⟩, rfl⟩; have HR := Lib.hid hr; clear hr)
  go_ret
  refine ⟨?_, rfl⟩
  have : decide (0 ≤ r) = t := by
    rw [Bool.eq_iff_iff, decide_eq_true_iff, HR.out, ht]
  rw [← this]
  rfl

/-- All numbers of a list are from 0 to n - 1. -/
theorem allBelow_any (vf : Value) (f : List Int) (n : Nat) (w : World) (t : Bool) (ht : t = true ↔ ∀ x ∈ f, outN n x = false) (hf : IntsAt w vf f) :
    Calls Tryd.prog 69 #[vf, .int .i64 (n : Int)] w (SaysN t w) := by
  have hb := (Below.refl w.heap.size w).alloc (Nat.le_refl _) (.cells #[.int .i64 (n : Int)] 3)
  have hbox := (World.rowIs_alloc w #[.int .i64 (n : Int)] 3 (fun _ => .int .i64 (n : Int)) (fun i hi => by simp at hi; subst hi; rfl)).cell (i := 0) (by simp)
  have hcall := containsFunc_any vf f w.heap.size n _ (!t) (by
    rw [Bool.not_eq_true', ← Bool.not_eq_true, ht]
    constructor
    · intro h
      refine Classical.byContradiction fun h' => h fun x hx => ?_
      cases hq : outN n x with
      | false => rfl
      | true => exact absurd ⟨x, hx, hq⟩ h'
    · rintro ⟨x, hx, hq⟩ h
      rw [h x hx] at hq
      cases hq) (hf.below hb) hbox
  obtain ⟨Af, Cf, rfl, _⟩ := hf
  have HB := Lib.hid hb
  clear hb
  go_enter Tryd.func69, Tryd.ntmps69
  go_wp2_with (go_at_call 86; refine hcall.mono ?_; clear hcall; rintro e w1 ⟨rfl, rfl⟩)
  go_ret
  exact ⟨by simp, HB.out⟩
end Go.Proofs.YtkhhbpeheikmfaaDoor
