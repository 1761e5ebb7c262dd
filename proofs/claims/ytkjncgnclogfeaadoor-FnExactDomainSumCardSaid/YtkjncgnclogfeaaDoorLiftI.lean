/- The program's lift of a domain, unbuilt: how many elements it has, and what is below what. -/
import Derived.Test.YtkjncgnclogfeaaDoorIsMono
import Derived.Test.YtkjncgnclogfeaaDoorImplFun
namespace Go.Proofs.YtkjncgnclogfeaaDoor
open Go.RowKit Go.Deep Go.Shelf

theorem run_lift_size (m : Nat) (v : Value) (w : World) : (Go.method (m + 1) 61 (.agg #[v]) "loop.example/scottdomains/impl.size").run Tryd.prog w = .ok (139, .agg #[v]) w := by kernel_rfl
theorem run_lift_below (m : Nat) (v : Value) (w : World) : (Go.method (m + 1) 61 (.agg #[v]) "loop.example/scottdomains/impl.below").run Tryd.prog w = .ok (138, .agg #[v]) w := by kernel_rfl

theorem one_new (W : World) (a : Value) (t : TypeId) : (W.alloc (.cells #[a] t)).cell? ⟨W.heap.size, 0, none⟩ = some a := by
  rw [cell_of_row _ W.heap.size 0 _ _ _ (heap_alloc_new _ _)]; rfl

set_option maxRecDepth 100000 in
set_option maxHeartbeats 2000000 in
theorem liftSize_any (p n : Nat) (g : Nat → Nat) (w : World) (hg : GridAt w p g) (hn : GridN g n) :
    Calls Tryd.prog 139 #[.agg #[.iface 54 (.pointer (some ⟨p, 0, none⟩))]] w (SaysI ((n + 1 : Nat) : Int) w) := by
  have b0 := (Below.refl w.heap.size w).alloc (Nat.le_refl _) (.cells #[.iface 54 (.pointer (some ⟨p, 0, none⟩))] 61)
  have hc := one_new w (.iface 54 (.pointer (some ⟨p, 0, none⟩))) 61
  have hcall := size_any p n g _ (hg.below b0 hg.lt) hn.le hn.some hn.none
  have hmS := run_size
  have hle := hn.le
  have hwr : IntKind.i64.wrap (1 + (n : Int)) = 1 + (n : Int) := IntWalk.i64_in _ (by omega)
  have HB := Lib.hid b0
  clear b0
  go_enter Tryd.func139, Tryd.ntmps139
  go_wp2_with (go_at_call 68; refine hcall.mono ?_; clear hcall; rintro e w1 ⟨rfl, hb1⟩; have B1 := Lib.hid (HB.out.trans (hb1.mono HB.out.size)); clear hb1)
  go_ret
  exact ⟨by rw [show ((n + 1 : Nat) : Int) = 1 + (n : Int) by omega]; rfl, B1.out⟩

/-- Is a below b in the lift? -/
def liftB (g : Nat → Nat) (a b : Nat) : Bool := decide (a = 0) || (decide (0 < b) && (g (a - 1)).testBit (b - 1))

set_option maxRecDepth 100000 in
set_option maxHeartbeats 2000000 in
theorem liftBelow_any (p : Nat) (g : Nat → Nat) (x y : Int) (a b : Nat) (w : World) (hg : GridAt w p g) (hx : x = a) (hy : y = b) (ha : a ≤ 200) (hb : b ≤ 200) :
    Calls Tryd.prog 138 #[.agg #[.iface 54 (.pointer (some ⟨p, 0, none⟩))], .int .i64 x, .int .i64 y] w (SaysN (liftB g a b) w) := by
  subst hx hy
  have b0 := (Below.refl w.heap.size w).alloc (Nat.le_refl _) (.cells #[.iface 54 (.pointer (some ⟨p, 0, none⟩))] 61)
  have hc := one_new w (.iface 54 (.pointer (some ⟨p, 0, none⟩))) 61
  have HB := Lib.hid b0
  have hmB := run_below
  by_cases h0 : a = 0
  · subst h0
    have HE := Lib.hid (show liftB g 0 b = true by unfold liftB; rfl)
    clear b0
    go_enter Tryd.func138, Tryd.ntmps138
    go_wp2
    go_ret
    exact ⟨by rw [HE.out]; rfl, HB.out⟩
  · have q1 : ((a : Int) == 0) = false := by rw [beq_eq_false_iff_ne]; omega
    have q2 : (a == 0) = false := by rw [beq_eq_false_iff_ne]; exact h0
    by_cases hb0 : 0 < b
    · have hE : liftB g a b = (g (a - 1)).testBit (b - 1) := by unfold liftB; rw [decide_eq_false h0, decide_eq_true hb0]; rfl
      have q3 : decide ((0 : Int) < (b : Int)) = true := decide_eq_true (by omega)
      have w1 : IntKind.i64.wrap ((a : Int) - 1) = ((a - 1 : Nat) : Int) := by rw [IntWalk.i64_in _ (by omega)]; omega
      have w2 : IntKind.i64.wrap ((b : Int) - 1) = ((b - 1 : Nat) : Int) := by rw [IntWalk.i64_in _ (by omega)]; omega
      have hcall := gbelow_any p g ((a - 1 : Nat) : Int) ((b - 1 : Nat) : Int) (a - 1) (b - 1) _ (hg.below b0 hg.lt) rfl (by omega) rfl (by omega)
      rw [hE]
      generalize (g (a - 1)).testBit (b - 1) = t at hcall ⊢
      clear b0 hE h0
      go_enter Tryd.func138, Tryd.ntmps138
      go_wp2_with (go_at_call 116; refine hcall.mono ?_; clear hcall; rintro e w1 ⟨rfl, hb1⟩; have B1 := Lib.hid (HB.out.trans (hb1.mono HB.out.size)); clear hb1)
      go_ret
      exact ⟨by simp, B1.out⟩
    · have HE := Lib.hid (show liftB g a b = false by unfold liftB; rw [decide_eq_false h0, decide_eq_false hb0]; rfl)
      obtain rfl : b = 0 := by omega
      clear b0 h0
      go_enter Tryd.func138, Tryd.ntmps138
      go_wp2
      go_ret
      exact ⟨by rw [HE.out]; rfl, HB.out⟩
end Go.Proofs.YtkjncgnclogfeaaDoor
