/- The program's sum of two domains, unbuilt: how many elements it has, and what is below what. -/
import Derived.Test.YtkjncgnclogfeaaDoorBuiltG
import Derived.Test.YtkjncgnclogfeaaDoorLiftI
import Derived.Lib.QuietBelow
import Derived.BigQuiet
namespace Go.Proofs.YtkjncgnclogfeaaDoor
open Go.RowKit Go.Deep Go.Shelf

theorem run_sum_size (m : Nat) (v v' : Value) (w : World) : (Go.method (m + 1) 65 (.agg #[v, v']) "loop.example/scottdomains/impl.size").run Tryd.prog w = .ok (142, .agg #[v, v']) w := by kernel_rfl
theorem run_sum_below (m : Nat) (v v' : Value) (w : World) : (Go.method (m + 1) 65 (.agg #[v, v']) "loop.example/scottdomains/impl.below").run Tryd.prog w = .ok (141, .agg #[v, v']) w := by kernel_rfl

/-- Both fields of a struct of two, right behind. -/
theorem fresh2 (W : World) (a b : Value) (t : TypeId) : (W.alloc (.cells #[a, b] t)).cell? ⟨W.heap.size, 0, none⟩ = some a ∧ (W.alloc (.cells #[a, b] t)).cell? ⟨W.heap.size, 1, none⟩ = some b :=
  ⟨by rw [cell_of_row _ W.heap.size 0 _ _ _ (heap_alloc_new _ _)]; rfl, by rw [cell_of_row _ W.heap.size 1 _ _ _ (heap_alloc_new _ _)]; rfl⟩

/-- A grid behind an interface. -/
abbrev gridV (p : Nat) : Value := .iface 54 (.pointer (some ⟨p, 0, none⟩))

set_option maxRecDepth 100000 in
set_option maxHeartbeats 4000000 in
theorem sumSize_any (p p' n n' : Nat) (g g' : Nat → Nat) (w : World) (hg : GridAt w p g) (hg' : GridAt w p' g') (hn : GridN g n) (hn' : GridN g' n') :
    Calls Tryd.prog 142 #[.agg #[gridV p, gridV p']] w (SaysI ((1 + n + n' : Nat) : Int) w) := by
  have b0 := (Below.refl w.heap.size w).alloc (Nat.le_refl _) (.cells #[gridV p, gridV p'] 65)
  have hs : w.heap.size ≤ (w.alloc (.cells #[gridV p, gridV p'] 65)).heap.size := b0.size
  obtain ⟨hc, hc'⟩ := fresh2 w (gridV p) (gridV p') 65
  have hcall := fun d os => Calls.regrown_of (d := d) (os := os) (size_any p n g _ ((hg.below b0 hg.lt).below (below_regrown _ d os) (hg.below b0 hg.lt).lt) hn.le hn.some hn.none)
  have hcall' := fun d os => Calls.regrown_of (d := d) (os := os) (size_any p' n' g' _ ((hg'.below b0 hg'.lt).below (below_regrown _ d os) (hg'.below b0 hg'.lt).lt) hn'.le hn'.some hn'.none)
  have hq0 := fun d os => cell_regrown hc d os
  have hq1 := fun d os => cell_regrown hc' d os
  have hmS := run_size
  have hle := hn.le
  have hle' := hn'.le
  have hw1 : IntKind.i64.wrap (1 + (n : Int)) = 1 + (n : Int) := IntWalk.i64_in _ (by omega)
  have hw2 : IntKind.i64.wrap (1 + (n : Int) + (n' : Int)) = 1 + (n : Int) + (n' : Int) := IntWalk.i64_in _ (by omega)
  have HB := Lib.hid b0
  clear b0 hg hg' hn hn' hc hc'
  go_enter Tryd.func142, Tryd.ntmps142
  go_upto_region 1 with fail
  refine wp_region_quiet_below (by kernel_rfl) (by kernel_rfl) ?_
  repeat (go_big_quiet_step (first | (go_at_call_of 68 (Value.pointer (some ⟨p, 0, none⟩)); exact hcall _ _) | (go_at_call_of 68 (Value.pointer (some ⟨p', 0, none⟩)); exact hcall' _ _)))
  refine wpQuiet_nil ?_
  intro _ hw'
  obtain ⟨⟨dq, osq⟩, hw''⟩ := hw'
  subst hw''
  clear hcall hcall' hq0 hq1
  go_wp2
  go_ret
  exact ⟨by rw [show ((1 + n + n' : Nat) : Int) = 1 + (n : Int) + (n' : Int) by omega]; rfl, HB.out.trans ((below_regrown _ dq osq).mono hs)⟩

/-- Is a below b in the sum? -/
def sumB (g g' : Nat → Nat) (n a b : Nat) : Bool :=
  if a = 0 then true else if b = 0 then false
  else if a ≤ n then (if b ≤ n then (g (a - 1)).testBit (b - 1) else false)
  else (if b ≤ n then false else (g' (a - 1 - n)).testBit (b - 1 - n))

set_option maxRecDepth 100000 in
set_option maxHeartbeats 8000000 in
theorem sumBelow_any (p p' n n' : Nat) (g g' : Nat → Nat) (a b : Nat) (w : World) (hg : GridAt w p g) (hg' : GridAt w p' g') (hn : GridN g n) (hn' : GridN g' n') (ha : a < 1 + n + n') (hb : b < 1 + n + n') :
    Calls Tryd.prog 141 #[.agg #[gridV p, gridV p'], .int .i64 (a : Int), .int .i64 (b : Int)] w (SaysN (sumB g g' n a b) w) := by
  have b0 := (Below.refl w.heap.size w).alloc (Nat.le_refl _) (.cells #[gridV p, gridV p'] 65)
  have hs : w.heap.size ≤ (w.alloc (.cells #[gridV p, gridV p'] 65)).heap.size := b0.size
  obtain ⟨hc, hc'⟩ := fresh2 w (gridV p) (gridV p') 65
  have HG := Lib.hid (fun W (h : Below w.heap.size w W) => hg.below h hg.lt)
  have HG' := Lib.hid (fun W (h : Below w.heap.size w W) => hg'.below h hg'.lt)
  have hcall := size_any p n g _ (hg.below b0 hg.lt) hn.le hn.some hn.none
  have hmS := run_size
  have hmB := run_below
  have hle := hn.le
  have hle' := hn'.le
  have HB := Lib.hid b0
  have HC := Lib.hid hc
  have HC' := Lib.hid hc'
  clear b0 hg hg' hn hn' hc'
  by_cases h0 : a = 0
  · subst h0
    have HE := Lib.hid (show sumB g g' n 0 b = true by unfold sumB; rw [if_pos rfl])
    go_enter Tryd.func141, Tryd.ntmps141
    go_wp2_with (go_at_call 68; refine hcall.mono ?_; clear hcall; rintro e w1 ⟨rfl, hb1⟩; have B1 := Lib.hid (HB.out.trans (hb1.mono hs)); clear hb1)
    go_ret
    exact ⟨by rw [HE.out]; rfl, B1.out⟩
  · have q1 : ((a : Int) == 0) = false := by rw [beq_eq_false_iff_ne]; omega
    have q1' : (a == 0) = false := by rw [beq_eq_false_iff_ne]; exact h0
    by_cases h1 : b = 0
    · subst h1
      have HE := Lib.hid (show sumB g g' n a 0 = false by unfold sumB; rw [if_neg h0, if_pos rfl])
      go_enter Tryd.func141, Tryd.ntmps141
      go_wp2_with (go_at_call 68; refine hcall.mono ?_; clear hcall; rintro e w1 ⟨rfl, hb1⟩; have B1 := Lib.hid (HB.out.trans (hb1.mono hs)); clear hb1)
      go_ret
      exact ⟨by rw [HE.out]; rfl, B1.out⟩
    · have q2 : ((b : Int) == 0) = false := by rw [beq_eq_false_iff_ne]; omega
      have q2' : (b == 0) = false := by rw [beq_eq_false_iff_ne]; exact h1
      have w1 : IntKind.i64.wrap ((a : Int) - 1) = ((a - 1 : Nat) : Int) := by rw [IntWalk.i64_in _ (by omega)]; omega
      have w2 : IntKind.i64.wrap ((b : Int) - 1) = ((b - 1 : Nat) : Int) := by rw [IntWalk.i64_in _ (by omega)]; omega
      by_cases h2 : a ≤ n
      · have r1 : decide ((a : Int) ≤ (n : Int)) = true := decide_eq_true (by omega)
        have k1 : ¬ n < a := by omega
        by_cases h3 : b ≤ n
        · have r2 : decide ((b : Int) ≤ (n : Int)) = true := decide_eq_true (by omega)
          have hE : sumB g g' n a b = (g (a - 1)).testBit (b - 1) := by unfold sumB; rw [if_neg h0, if_neg h1, if_pos h2, if_pos h3]
          have HGB := Lib.hid (fun W (h : Below w.heap.size w W) => gbelow_any p g ((a - 1 : Nat) : Int) ((b - 1 : Nat) : Int) (a - 1) (b - 1) W (HG.out W h) rfl (by omega) rfl (by omega))
          rw [hE]
          generalize (g (a - 1)).testBit (b - 1) = t at HGB ⊢
          clear hE h0 h1
          go_enter Tryd.func141, Tryd.ntmps141
          go_wp2_with (first | (go_at_call 68; refine hcall.mono ?_; clear hcall; rintro e w1 ⟨rfl, hb1⟩; have B1 := Lib.hid (HB.out.trans (hb1.mono hs)); have hd := (hb1.cell (p := ⟨w.heap.size, 0, none⟩) (cell_lt HC.out)).trans HC.out; clear hb1) | (go_at_call 116; refine (HGB.out _ B1.out).mono ?_; rintro e w3 ⟨rfl, hb3⟩; have B3 := Lib.hid (B1.out.trans (hb3.mono B1.out.size)); clear hb3))
          go_ret
          exact ⟨by simp, B3.out⟩
        · have r2 : decide ((b : Int) ≤ (n : Int)) = false := decide_eq_false (by omega)
          have k3 : n < b := by omega
          have HE := Lib.hid (show sumB g g' n a b = false by unfold sumB; rw [if_neg h0, if_neg h1, if_pos h2, if_neg h3])
          clear h0 h1
          go_enter Tryd.func141, Tryd.ntmps141
          go_wp2_with (go_at_call 68; refine hcall.mono ?_; clear hcall; rintro e w1 ⟨rfl, hb1⟩; have B1 := Lib.hid (HB.out.trans (hb1.mono hs)); clear hb1)
          go_ret
          exact ⟨by rw [HE.out]; rfl, B1.out⟩
      · have r1 : decide ((a : Int) ≤ (n : Int)) = false := decide_eq_false (by omega)
        have k1 : n < a := by omega
        by_cases h3 : b ≤ n
        · have r2 : decide ((n : Int) < (b : Int)) = false := decide_eq_false (by omega)
          have k3 : ¬ n < b := by omega
          have HE := Lib.hid (show sumB g g' n a b = false by unfold sumB; rw [if_neg h0, if_neg h1, if_neg h2, if_pos h3])
          clear h0 h1
          go_enter Tryd.func141, Tryd.ntmps141
          go_wp2_with (go_at_call 68; refine hcall.mono ?_; clear hcall; rintro e w1 ⟨rfl, hb1⟩; have B1 := Lib.hid (HB.out.trans (hb1.mono hs)); clear hb1)
          go_ret
          exact ⟨by rw [HE.out]; rfl, B1.out⟩
        · have r2 : decide ((n : Int) < (b : Int)) = true := decide_eq_true (by omega)
          have k3 : n < b := by omega
          have w3 : IntKind.i64.wrap (((a - 1 : Nat) : Int) - (n : Int)) = ((a - 1 - n : Nat) : Int) := by rw [IntWalk.i64_in _ (by omega)]; omega
          have w4 : IntKind.i64.wrap (((b - 1 : Nat) : Int) - (n : Int)) = ((b - 1 - n : Nat) : Int) := by rw [IntWalk.i64_in _ (by omega)]; omega
          have hE : sumB g g' n a b = (g' (a - 1 - n)).testBit (b - 1 - n) := by unfold sumB; rw [if_neg h0, if_neg h1, if_neg h2, if_neg h3]
          have HGB := Lib.hid (fun W (h : Below w.heap.size w W) => gbelow_any p' g' ((a - 1 - n : Nat) : Int) ((b - 1 - n : Nat) : Int) (a - 1 - n) (b - 1 - n) W (HG'.out W h) rfl (by omega) rfl (by omega))
          rw [hE]
          generalize (g' (a - 1 - n)).testBit (b - 1 - n) = t at HGB ⊢
          clear hE h0 h1
          go_enter Tryd.func141, Tryd.ntmps141
          go_wp2_with (first | (go_at_call 68; refine hcall.mono ?_; clear hcall; rintro e w1 ⟨rfl, hb1⟩; have B1 := Lib.hid (HB.out.trans (hb1.mono hs)); have hd := (hb1.cell (p := ⟨w.heap.size, 1, none⟩) (cell_lt HC'.out)).trans HC'.out; clear hb1) | (go_at_call 116; refine (HGB.out _ B1.out).mono ?_; rintro e w3 ⟨rfl, hb3⟩; have B3 := Lib.hid (B1.out.trans (hb3.mono B1.out.size)); clear hb3))
          go_ret
          exact ⟨by simp, B3.out⟩
end Go.Proofs.YtkjncgnclogfeaaDoor
