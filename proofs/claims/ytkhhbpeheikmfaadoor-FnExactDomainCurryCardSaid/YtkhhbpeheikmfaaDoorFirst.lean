/- The least number in a row (first), by the library's look-up of trailing zeros. -/
import Derived.Test.YtkhhbpeheikmfaaDoorRow
import Derived.Lib.TrailingZeros
import Derived.Shelf.Spec.TrailingZeros
namespace Go.Proofs.YtkhhbpeheikmfaaDoor
open Go.RowKit Go.Deep

/-- The library's table, as its initialiser lays it. -/
def Tab (w : World) : Prop := ∀ j, j < 64 → w.cell? ⟨0, j, none⟩ = some (.int .u8 ((Lib.deBruijn64tab.getD j 0 : Nat) : Int))
theorem Tab.below {w w' : World} (h : Tab w) (hb : Below w.heap.size w w') : Tab w' := fun j hj => by
  have := h j hj
  rw [hb.cell (p := ⟨0, j, none⟩) (cell_lt this)]
  exact this

set_option maxHeartbeats 1000000 in
theorem tz_core (x k idx : Nat) (w : World) (hx0 : ((x : Int) == 0) = false)
    (key : IntKind.u64.wrap (bits BinOp.and IntKind.u64 (x : Int) (IntKind.u64.wrap (-(x : Int))) * 285870213051353865) / 288230376151711744 = (idx : Int))
    (hi : idx < 64) (hk : k < 64) (hcell : w.cell? ⟨0, idx, none⟩ = some (.int .u8 k)) :
    Calls Tryd.prog 97 #[.int .u64 x] w fun e w' => e = .returned (.int .i64 k) ∧ w = w' := by
  go_enter Tryd.func97, Tryd.ntmps97
  go_wp2_with (simp only [key])
  go_ret
  exact ⟨rfl, rfl⟩

theorem tz_any (x : Nat) (hx : x < 18446744073709551616) (hx0 : x ≠ 0) (w : World) (hT : Tab w) :
    Calls Tryd.prog 97 #[.int .u64 x] w fun e w' => e = .returned (.int .i64 (Lib.ctz 64 x)) ∧ w = w' := by
  obtain ⟨hlow, hk⟩ := Lib.lowest_bit 64 x hx0 hx
  obtain ⟨hi, htab⟩ := Lib.deBruijn64_at _ hk
  have hcell := hT _ hi
  rw [htab] at hcell
  exact tz_core x _ _ w (by simp; omega) (tz64_key x _ hx hx0 hlow) hi hk hcell

/-- The lowest bit of a number. -/
theorem ctz_low (x : Nat) (hx0 : x ≠ 0) (hx : x < 2 ^ 64) : x.testBit (Lib.ctz 64 x) = true ∧ (∀ j, j < Lib.ctz 64 x → x.testBit j = false) ∧ Lib.ctz 64 x < 64 := by
  obtain ⟨m, hm, hlt⟩ := Lib.ctzFrom_spec 64 x (by omega) hx
  have e : Lib.ctz 64 x = Lib.ctzFrom 64 x := by unfold Lib.ctz; rw [if_neg hx0]
  rw [e]
  generalize Lib.ctzFrom 64 x = k at hm hlt
  refine ⟨?_, fun j hj => ?_, hlt⟩
  · rw [hm, Nat.testBit_eq_decide_div_mod_eq, Nat.mul_div_cancel_left _ (Nat.two_pow_pos _), decide_eq_true_iff]
    omega
  · rw [hm, Nat.mul_comm, Nat.testBit_mul_two_pow]
    simp; omega

/-- Number k is the least one in r. -/
def Least (r k : Nat) : Prop := r.testBit k = true ∧ ∀ j, j < k → r.testBit j = false

theorem least_of_word {r j : Nat} (h : ∀ i, i < j → word r i = 0) (h0 : word r j ≠ 0) : Least r (64 * j + Lib.ctz 64 (word r j)) := by
  obtain ⟨h1, h2, h3⟩ := ctz_low (word r j) h0 (word_lt64 r j)
  rw [testBit_word] at h1
  simp only [h3, decide_true, Bool.true_and] at h1
  refine ⟨h1, fun i hi => ?_⟩
  by_cases hij : i / 64 < j
  · have h4 := testBit_word r (i / 64) (i % 64)
    rw [h _ hij, show 64 * (i / 64) + i % 64 = i by omega] at h4
    have h5 : i % 64 < 64 := Nat.mod_lt _ (by decide)
    simpa [h5] using h4.symm
  · have h4 := testBit_word r j (i - 64 * j)
    rw [h2 _ (by omega), show 64 * j + (i - 64 * j) = i by omega] at h4
    have h5 : i - 64 * j < 64 := by omega
    simpa [h5] using h4.symm

/-- The least number of a row that is not empty. -/
def FirstPost (r : Nat) (w : World) (e : Ending) (w' : World) : Prop := ∃ k, Least r k ∧ e = .returned (.int .i64 (k : Nat)) ∧ Below w.heap.size w w'

set_option maxHeartbeats 4000000 in
theorem first_any (r : Nat) (w : World) (hr : r < 2 ^ 256) (h0 : r ≠ 0) (hT : Tab w) : Calls Tryd.prog 105 #[rowV r] w (FirstPost r w) := by
  have i0 := ix0
  have i1 := ix1
  have i2 := ix2
  have i3 := ix3
  have b1 : Below w.heap.size w (w.alloc (.cells #[.int .u64 ((word r 0 : Nat) : Int), .int .u64 ((word r 1 : Nat) : Int), .int .u64 ((word r 2 : Nat) : Int), .int .u64 ((word r 3 : Nat) : Int)] 92)) := (Below.refl _ w).alloc (Nat.le_refl _) _
  have hT1 := hT.below b1
  have hcase : (word r 0 ≠ 0) ∨ (word r 0 = 0 ∧ word r 1 ≠ 0) ∨ (word r 0 = 0 ∧ word r 1 = 0 ∧ word r 2 ≠ 0) ∨ (word r 0 = 0 ∧ word r 1 = 0 ∧ word r 2 = 0 ∧ word r 3 ≠ 0) := by
    by_cases a : word r 0 = 0
    · by_cases b : word r 1 = 0
      · by_cases c : word r 2 = 0
        · by_cases d : word r 3 = 0
          · exact absurd (of_words hr (Nat.two_pow_pos 256) (s := 0) (fun j hj => by
              rw [word_zero]
              obtain rfl | rfl | rfl | rfl : j = 0 ∨ j = 1 ∨ j = 2 ∨ j = 3 := by omega
              · exact a
              · exact b
              · exact c
              · exact d)) h0
          · exact .inr (.inr (.inr ⟨a, b, c, d⟩))
        · exact .inr (.inr (.inl ⟨a, b, c⟩))
      · exact .inr (.inl ⟨a, b⟩)
    · exact .inl a
  have hword : ∀ j, (∀ i, i < j → word r i = 0) → word r j ≠ 0 → ∃ c, c < 64 ∧ Least r (64 * j + c) ∧ Calls Tryd.prog 97 #[.int .u64 ((word r j : Nat) : Int)] (w.alloc (.cells #[.int .u64 ((word r 0 : Nat) : Int), .int .u64 ((word r 1 : Nat) : Int), .int .u64 ((word r 2 : Nat) : Int), .int .u64 ((word r 3 : Nat) : Int)] 92)) fun e w' => e = .returned (.int .i64 (c : Nat)) ∧ (w.alloc (.cells #[.int .u64 ((word r 0 : Nat) : Int), .int .u64 ((word r 1 : Nat) : Int), .int .u64 ((word r 2 : Nat) : Int), .int .u64 ((word r 3 : Nat) : Int)] 92)) = w' := fun j hj h =>
    ⟨_, (ctz_low _ h (word_lt64 r j)).2.2, least_of_word hj h, tz_any _ (word_lt r j) h _ hT1⟩
  have HB := Lib.hid b1
  clear hT hT1 b1 hr h0
  rcases hcase with h | ⟨h0, h⟩ | ⟨h0, h1, h⟩ | ⟨h0, h1, h2, h⟩
  · obtain ⟨c, hc, hl, hcall⟩ := hword 0 (fun i hi => absurd hi (Nat.not_lt_zero _)) h
    have n0 : (((word r 0 : Nat) : Int) != 0) = true := bne_iff_ne.2 (by omega)
    have HL := Lib.hid hl
    clear hl h hword
    go_enter Tryd.func105, Tryd.ntmps105
    go_wp2
    refine wp_loop_rounds 5 ?_
    rw [rounds_succ]
    go_wp2_with (go_at_call 97; refine hcall.mono ?_; clear hcall; rintro e w' ⟨rfl, rfl⟩)
    go_ret
    exact ⟨c, by simpa using HL.out, rfl, HB.out⟩
  · obtain ⟨c, hc, hl, hcall⟩ := hword 1 (fun i hi => by obtain rfl : i = 0 := (by omega); exact h0) h
    have n0 : (((word r 0 : Nat) : Int) != 0) = false := by rw [h0]; rfl
    have n1 : (((word r 1 : Nat) : Int) != 0) = true := bne_iff_ne.2 (by omega)
    have HL := Lib.hid hl
    clear hl h hword h0
    go_enter Tryd.func105, Tryd.ntmps105
    go_wp2
    refine wp_loop_rounds 5 ?_
    iterate 2 (rw [rounds_succ]; go_wp2_with (go_at_call 97; refine hcall.mono ?_; clear hcall; rintro e w' ⟨rfl, rfl⟩))
    go_ret
    exact ⟨64 + c, by simpa using HL.out, rfl, HB.out⟩
  · obtain ⟨c, hc, hl, hcall⟩ := hword 2 (fun i hi => by obtain rfl | rfl : i = 0 ∨ i = 1 := (by omega) <;> assumption) h
    have n0 : (((word r 0 : Nat) : Int) != 0) = false := by rw [h0]; rfl
    have n1 : (((word r 1 : Nat) : Int) != 0) = false := by rw [h1]; rfl
    have n2 : (((word r 2 : Nat) : Int) != 0) = true := bne_iff_ne.2 (by omega)
    have HL := Lib.hid hl
    clear hl h hword h0 h1
    go_enter Tryd.func105, Tryd.ntmps105
    go_wp2
    refine wp_loop_rounds 5 ?_
    iterate 3 (rw [rounds_succ]; go_wp2_with (go_at_call 97; refine hcall.mono ?_; clear hcall; rintro e w' ⟨rfl, rfl⟩))
    go_ret
    exact ⟨128 + c, by simpa using HL.out, rfl, HB.out⟩
  · obtain ⟨c, hc, hl, hcall⟩ := hword 3 (fun i hi => by obtain rfl | rfl | rfl : i = 0 ∨ i = 1 ∨ i = 2 := (by omega) <;> assumption) h
    have n0 : (((word r 0 : Nat) : Int) != 0) = false := by rw [h0]; rfl
    have n1 : (((word r 1 : Nat) : Int) != 0) = false := by rw [h1]; rfl
    have n2 : (((word r 2 : Nat) : Int) != 0) = false := by rw [h2]; rfl
    have n3 : (((word r 3 : Nat) : Int) != 0) = true := bne_iff_ne.2 (by omega)
    have HL := Lib.hid hl
    clear hl h hword h0 h1 h2
    go_enter Tryd.func105, Tryd.ntmps105
    go_wp2
    refine wp_loop_rounds 5 ?_
    iterate 4 (rw [rounds_succ]; go_wp2_with (go_at_call 97; refine hcall.mono ?_; clear hcall; rintro e w' ⟨rfl, rfl⟩))
    go_ret
    exact ⟨192 + c, by simpa using HL.out, rfl, HB.out⟩
end Go.Proofs.YtkhhbpeheikmfaaDoor
