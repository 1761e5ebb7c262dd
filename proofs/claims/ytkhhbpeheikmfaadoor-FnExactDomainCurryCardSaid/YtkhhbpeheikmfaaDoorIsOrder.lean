/- The program's check of all elements (isOrder). -/
import Derived.Test.YtkhhbpeheikmfaaDoorFits
namespace Go.Proofs.YtkhhbpeheikmfaaDoor
open Go.RowKit Go.Deep

/-- All rows are covered, or one is bad. -/
def OrderPost (g : Nat → Nat) (n : Nat) (w : World) (e : Ending) (w' : World) : Prop :=
  (∃ t : Bool, (t = true → ∀ i, i < n → CovAll g i) ∧ (t = false → ∃ i, i < n ∧ BadBit g i) ∧ e = .returned (.bool t)) ∧ Below w.heap.size w w'

set_option maxHeartbeats 2000000 in
theorem isOrder_any (b n : Nat) (g : Nat → Nat) (w : World) (hg : GridAt w b g) (hT : Tab w) (hn : n ≤ 200) (h1 : n < 200 → g n = 0)
    (hown : ∀ k, k < n → (g k).testBit k = true) (hbits : ∀ k j, k < n → (g k).testBit j = true → j < n) :
    Calls Tryd.prog 82 #[.pointer (some ⟨b, 0, none⟩)] w (OrderPost g n w) := by
  have hcall := size_any b n g w hg hn (fun i hi e => by have h := hown i hi; rw [e] at h; simp at h) h1
  have HL := Lib.hid (show Look b g w w from ⟨hg, hT, Below.refl _ _, hg.lt⟩)
  have HO := Lib.hid hown
  have HI := Lib.hid hbits
  clear hg hT h1 hown hbits
  go_enter Tryd.func82, Tryd.ntmps82
  go_wp2_with (go_at_call 48; refine hcall.mono ?_; clear hcall; rintro e w1 ⟨rfl, hb1⟩)
  have HL1 := Lib.hid (HL.out.step hb1)
  clear hb1 HL
  go_loopw [6] (fun kv wr => ∃ k : Nat, k ≤ n ∧ kv = .int .i64 k ∧ (∀ i, i < k → CovAll g i) ∧ Look b g w wr) (fun kv _ => n - (intOf kv).toNat)
  case atStart => exact ⟨0, Nat.zero_le _, rfl, fun _ h => absurd h (Nat.not_lt_zero _), HL1.out⟩
  case round =>
    obtain ⟨k, hk, rfl, hc, hL⟩ := hrel
    have HC := Lib.hid hc
    have HL := Lib.hid hL
    clear hc hL HL1
    by_cases hlt : k < n
    · have hcall := fitsAt_any b n k g wr HL.out.grid HL.out.tab hn hlt HO.out HI.out
      have HCALL := Lib.hid hcall
      clear hcall
      go_wp2_with (go_at_call 94; refine HCALL.out.mono ?_; clear HCALL; rintro e w2 ⟨⟨t, ht1, ht2, rfl⟩, hb2⟩; have HT1 := Lib.hid ht1; have HT2 := Lib.hid ht2; have HB2 := Lib.hid hb2; clear ht1 ht2 hb2; cases t)
      · go_ret
        exact ⟨⟨false, fun h => (by cases h), fun _ => ⟨k, hlt, HT2.out trivial⟩, rfl⟩, (HL.out.step HB2.out).below⟩
      · go_roundw
        case rel =>
          refine ⟨k + 1, by omega, by go_num, fun i hi => ?_, HL.out.step HB2.out⟩
          by_cases e : i = k
          · subst e; exact HT1.out trivial
          · exact HC.out i (by omega)
        case measure => simp [intOf]; omega
    · obtain rfl : k = n := by omega
      go_wp2
      go_ret
      exact ⟨⟨true, fun _ => HC.out, fun h => (by cases h), rfl⟩, HL.out.below⟩
end Go.Proofs.YtkhhbpeheikmfaaDoor
