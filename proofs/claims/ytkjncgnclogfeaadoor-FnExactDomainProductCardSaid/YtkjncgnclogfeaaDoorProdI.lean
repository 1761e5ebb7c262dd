/- The program's product of two domains, unbuilt: how many elements it has, and what is below what. -/
import Derived.Test.YtkjncgnclogfeaaDoorSumI
namespace Go.Proofs.YtkjncgnclogfeaaDoor
open Go.RowKit Go.Deep Go.Shelf

theorem run_prod_size (m : Nat) (v v' : Value) (w : World) : (Go.method (m + 1) 64 (.agg #[v, v']) "loop.example/scottdomains/impl.size").run Tryd.prog w = .ok (66, .agg #[v, v']) w := by kernel_rfl
theorem run_prod_below (m : Nat) (v v' : Value) (w : World) : (Go.method (m + 1) 64 (.agg #[v, v']) "loop.example/scottdomains/impl.below").run Tryd.prog w = .ok (140, .agg #[v, v']) w := by kernel_rfl

set_option maxRecDepth 100000 in
set_option maxHeartbeats 4000000 in
theorem prodSize_any (p p' n n' : Nat) (g g' : Nat → Nat) (w : World) (hg : GridAt w p g) (hg' : GridAt w p' g') (hn : GridN g n) (hn' : GridN g' n') :
    Calls Tryd.prog 66 #[.agg #[gridV p, gridV p']] w (SaysI ((n * n' : Nat) : Int) w) := by
  have b0 := (Below.refl w.heap.size w).alloc (Nat.le_refl _) (.cells #[gridV p, gridV p'] 64)
  have hs : w.heap.size ≤ (w.alloc (.cells #[gridV p, gridV p'] 64)).heap.size := b0.size
  obtain ⟨hc, hc'⟩ := fresh2 w (gridV p) (gridV p') 64
  have hcall := fun d os => Calls.regrown_of (d := d) (os := os) (size_any p n g _ ((hg.below b0 hg.lt).below (below_regrown _ d os) (hg.below b0 hg.lt).lt) hn.le hn.some hn.none)
  have hcall' := fun d os => Calls.regrown_of (d := d) (os := os) (size_any p' n' g' _ ((hg'.below b0 hg'.lt).below (below_regrown _ d os) (hg'.below b0 hg'.lt).lt) hn'.le hn'.some hn'.none)
  have hq0 := fun d os => cell_regrown hc d os
  have hq1 := fun d os => cell_regrown hc' d os
  have hmS := run_size
  have hle := hn.le
  have hle' := hn'.le
  have hp : n * n' ≤ 40000 := Nat.le_trans (Nat.mul_le_mul hle hle') (by decide)
  have hw1 : IntKind.i64.wrap ((n : Int) * (n' : Int)) = (n : Int) * (n' : Int) := IntWalk.i64_in _ (by rw [← Int.natCast_mul]; omega)
  have HB := Lib.hid b0
  clear b0 hg hg' hn hn' hc hc'
  go_enter Tryd.func66, Tryd.ntmps66
  go_upto_region 1 with fail
  refine wp_region_quiet_below (by kernel_rfl) (by kernel_rfl) ?_
  repeat (go_big_quiet_step (first | (go_at_call_of 68 (Value.pointer (some ⟨p, 0, none⟩)); exact hcall _ _) | (go_at_call_of 68 (Value.pointer (some ⟨p', 0, none⟩)); exact hcall' _ _)))
  refine wpQuiet_nil ?_
  intro _ hw'
  obtain ⟨⟨dq, osq⟩, hw''⟩ := hw'
  subst hw''
  clear hcall hcall' hq0 hq1
  go_wp2
  go_ret
  exact ⟨by rw [Int.natCast_mul]; rfl, HB.out.trans ((below_regrown _ dq osq).mono hs)⟩

/-- Is a below b in the product? -/
def prodB (g g' : Nat → Nat) (n' a b : Nat) : Bool := (g (a / n')).testBit (b / n') && (g' (a % n')).testBit (b % n')

set_option maxRecDepth 100000 in
set_option maxHeartbeats 8000000 in
theorem prodBelow_any (p p' n n' : Nat) (g g' : Nat → Nat) (a b : Nat) (w : World) (hg : GridAt w p g) (hg' : GridAt w p' g') (hn : GridN g n) (hn' : GridN g' n') (ha : a < n * n') (hb : b < n * n') :
    Calls Tryd.prog 140 #[.agg #[gridV p, gridV p'], .int .i64 (a : Int), .int .i64 (b : Int)] w (SaysN (prodB g g' n' a b) w) := by
  have b0 := (Below.refl w.heap.size w).alloc (Nat.le_refl _) (.cells #[gridV p, gridV p'] 64)
  have hs : w.heap.size ≤ (w.alloc (.cells #[gridV p, gridV p'] 64)).heap.size := b0.size
  obtain ⟨hc, hc'⟩ := fresh2 w (gridV p) (gridV p') 64
  have hcall := size_any p' n' g' _ (hg'.below b0 hg'.lt) hn'.le hn'.some hn'.none
  have hmS := run_size
  have hmB := run_below
  have hmN := fun b w => run_nilAhead 264 b w
  have hle := hn.le
  have hle' := hn'.le
  have hn0 : 0 < n' := by
    rcases Nat.eq_zero_or_pos n' with h | h
    · subst h; simp at ha
    · exact h
  have hq1 : a / n' < n := Nat.div_lt_of_lt_mul (by rw [Nat.mul_comm]; exact ha)
  have hq2 : b / n' < n := Nat.div_lt_of_lt_mul (by rw [Nat.mul_comm]; exact hb)
  have hr1 : a % n' < n' := Nat.mod_lt _ hn0
  have hr2 : b % n' < n' := Nat.mod_lt _ hn0
  have hz : ((n' : Int) == 0) = false := by rw [beq_eq_false_iff_ne]; omega
  have hz2 : (n' == 0) = false := by rw [beq_eq_false_iff_ne]; omega
  have hz3 : ¬ n' = 0 := by omega
  unfold prodB
  have d1 : (a : Int).tdiv (n' : Int) = ((a / n' : Nat) : Int) := (Int.ofNat_tdiv a n').symm
  have d2 : (b : Int).tdiv (n' : Int) = ((b / n' : Nat) : Int) := (Int.ofNat_tdiv b n').symm
  have m1 : (a : Int).tmod (n' : Int) = ((a % n' : Nat) : Int) := (Int.ofNat_tmod a n').symm
  have m2 : (b : Int).tmod (n' : Int) = ((b % n' : Nat) : Int) := (Int.ofNat_tmod b n').symm
  have d3 : (a : Int) / (n' : Int) = ((a / n' : Nat) : Int) := (Int.natCast_ediv a n').symm
  have d4 : (b : Int) / (n' : Int) = ((b / n' : Nat) : Int) := (Int.natCast_ediv b n').symm
  have m3 : (a : Int) % (n' : Int) = ((a % n' : Nat) : Int) := (Int.natCast_emod a n').symm
  have m4 : (b : Int) % (n' : Int) = ((b % n' : Nat) : Int) := (Int.natCast_emod b n').symm
  generalize a / n' = qa at d1 d3 hq1 ⊢
  generalize b / n' = qb at d2 d4 hq2 ⊢
  generalize a % n' = ra at m1 m3 hr1 ⊢
  generalize b % n' = rb at m2 m4 hr2 ⊢
  have wa : IntKind.i64.wrap (qa : Int) = (qa : Int) := IntWalk.i64_in _ (by omega)
  have wb : IntKind.i64.wrap (qb : Int) = (qb : Int) := IntWalk.i64_in _ (by omega)
  have HB := Lib.hid b0
  have HC := Lib.hid hc
  have HC' := Lib.hid hc'
  have hd0 := hc'
  clear b0 hc hc' ha hb
  go_enter Tryd.func140, Tryd.ntmps140
  go_upto_region 2 with (go_at_call 68; refine hcall.mono ?_; clear hcall; rintro e w1 ⟨rfl, hb1⟩; have B1 := Lib.hid (HB.out.trans (hb1.mono hs)); have E0 := Lib.hid ((hb1.cell (p := ⟨w.heap.size, 0, none⟩) (cell_lt HC.out)).trans HC.out); have E1 := Lib.hid ((hb1.cell (p := ⟨w.heap.size, 1, none⟩) (cell_lt HC'.out)).trans HC'.out); clear hb1)
  clear hd0
  have hk0 := fun d os => cell_regrown E0.out d os
  have hk1 := fun d os => cell_regrown E1.out d os
  have hG := fun d os => (hg.below B1.out hg.lt).below (below_regrown w1 d os) (hg.below B1.out hg.lt).lt
  have hG' := fun d os => (hg'.below B1.out hg'.lt).below (below_regrown w1 d os) (hg'.below B1.out hg'.lt).lt
  have hx := fun d os => Calls.regrown_of (d := d) (os := os) (gbelow_any p g (qa : Int) (qb : Int) qa qb _ (hG d os) rfl (by omega) rfl (by omega))
  have hy := fun d os => Calls.regrown_of (d := d) (os := os) (gbelow_any p' g' (ra : Int) (rb : Int) ra rb _ (hG' d os) rfl (by omega) rfl (by omega))
  clear hG hG' hg hg' hn hn' HC HC'
  cases hbit : (g qa).testBit qb with
  | false =>
    simp only [hbit] at hx
    have HBIT := Lib.hid hbit
    clear hbit
    refine wp_region_quiet_below (by kernel_rfl) (by kernel_rfl) ?_
    repeat (go_big_quiet_step (first | (go_at_call_of 116 (Value.pointer (some ⟨p, 0, none⟩)); exact hx _ _) | (go_at_call_of 116 (Value.pointer (some ⟨p', 0, none⟩)); exact hy _ _)))
    refine wpQuiet_nil ?_
    intro _ hw'
    obtain ⟨⟨dq, osq⟩, hw''⟩ := hw'
    subst hw''
    clear hx hy hk0 hk1
    go_wp2
    go_ret
    exact ⟨by rw [HBIT.out, Bool.false_and]; rfl, B1.out.trans ((below_regrown w1 dq osq).mono B1.out.size)⟩
  | true =>
    simp only [hbit] at hx
    have HBIT := Lib.hid hbit
    clear hbit
    obtain ⟨t, ht⟩ : ∃ t, (g' ra).testBit rb = t := ⟨_, rfl⟩
    simp only [ht] at hy
    have HT := Lib.hid ht
    clear ht
    refine wp_region_quiet_below (by kernel_rfl) (by kernel_rfl) ?_
    repeat (go_big_quiet_step (first | (go_at_call_of 116 (Value.pointer (some ⟨p, 0, none⟩)); exact hx _ _) | (go_at_call_of 116 (Value.pointer (some ⟨p', 0, none⟩)); exact hy _ _)))
    refine wpQuiet_nil ?_
    intro _ hw'
    obtain ⟨⟨dq, osq⟩, hw''⟩ := hw'
    subst hw''
    clear hx hy hk0 hk1
    go_wp2
    go_ret
    exact ⟨by rw [HBIT.out, HT.out, Bool.true_and]; rfl, B1.out.trans ((below_regrown w1 dq osq).mono B1.out.size)⟩
end Go.Proofs.YtkjncgnclogfeaaDoor
