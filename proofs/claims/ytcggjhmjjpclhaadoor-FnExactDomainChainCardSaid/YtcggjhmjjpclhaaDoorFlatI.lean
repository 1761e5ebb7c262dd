/- The program's flat domains and chains, unbuilt: how many elements they have, and what is below what. -/
import Derived.Test.YtcggjhmjjpclhaaDoorBuiltG
import Derived.Test.YtcggjhmjjpclhaaDoorLiftI
namespace Go.Proofs.YtcggjhmjjpclhaaDoor
open Go.RowKit Go.Deep Go.Shelf

theorem run_flat_size (m : Nat) (v : Int) (w : World) : (Go.method (m + 1) 33 (.int .i64 v) "loop.example/scottdomains/impl.size").run Tryd.prog w = .ok (49, .int .i64 v) w := by kernel_rfl
theorem run_flat_below (m : Nat) (v : Int) (w : World) : (Go.method (m + 1) 33 (.int .i64 v) "loop.example/scottdomains/impl.below").run Tryd.prog w = .ok (48, .int .i64 v) w := by kernel_rfl
theorem run_chain_size (m : Nat) (v : Int) (w : World) : (Go.method (m + 1) 39 (.int .i64 v) "loop.example/scottdomains/impl.size").run Tryd.prog w = .ok (51, .int .i64 v) w := by kernel_rfl
theorem run_chain_below (m : Nat) (v : Int) (w : World) : (Go.method (m + 1) 39 (.int .i64 v) "loop.example/scottdomains/impl.below").run Tryd.prog w = .ok (50, .int .i64 v) w := by kernel_rfl

/-- Is a below b in a flat domain? In a chain? -/
def flatB (a b : Nat) : Bool := decide (a = 0) || decide (a = b)
def chainB (a b : Nat) : Bool := decide (a ≤ b)

theorem flatSize_any (n N : Nat) (w : World) (hN : N = n + 1) (hn : n ≤ 199) :
    Calls Tryd.prog 49 #[.int .i64 (n : Int)] w (SaysI (N : Int) w) := by
  have hw1 : IntKind.i64.wrap ((n : Int) + 1) = (n : Int) + 1 := IntWalk.i64_in _ (by omega)
  go_enter Tryd.func49, Tryd.ntmps49
  go_wp2
  go_ret
  exact ⟨by rw [show (N : Int) = (n : Int) + 1 by omega]; rfl, Below.refl _ _⟩
theorem flatBelow_any (n a b : Nat) (w : World) :
    Calls Tryd.prog 48 #[.int .i64 (n : Int), .int .i64 (a : Int), .int .i64 (b : Int)] w (SaysN (flatB a b) w) := by
  by_cases h0 : a = 0
  · subst h0
    go_enter Tryd.func48, Tryd.ntmps48
    go_wp2
    go_ret
    exact ⟨rfl, Below.refl _ _⟩
  · have q1 : ((a : Int) == 0) = false := by rw [beq_eq_false_iff_ne]; omega
    have q2 : (a == 0) = false := by rw [beq_eq_false_iff_ne]; exact h0
    by_cases hab : a = b
    · subst hab
      have HE := Lib.hid (show flatB a a = true by unfold flatB; simp)
      clear h0
      go_enter Tryd.func48, Tryd.ntmps48
      go_wp2
      go_ret
      exact ⟨by rw [HE.out]; simp, Below.refl _ _⟩
    · have HE := Lib.hid (show flatB a b = false by unfold flatB; rw [decide_eq_false h0, decide_eq_false hab]; rfl)
      have q3 : ((a : Int) == (b : Int)) = false := by rw [beq_eq_false_iff_ne]; omega
      have q4 : (a == b) = false := by rw [beq_eq_false_iff_ne]; exact hab
      clear h0 hab
      go_enter Tryd.func48, Tryd.ntmps48
      go_wp2
      go_ret
      exact ⟨by rw [HE.out]; rfl, Below.refl _ _⟩
theorem chainSize_any (n : Nat) (w : World) : Calls Tryd.prog 51 #[.int .i64 (n : Int)] w (SaysI (n : Int) w) := by
  go_enter Tryd.func51, Tryd.ntmps51
  go_wp2
  go_ret
  exact ⟨rfl, Below.refl _ _⟩
theorem chainBelow_any (n a b : Nat) (w : World) :
    Calls Tryd.prog 50 #[.int .i64 (n : Int), .int .i64 (a : Int), .int .i64 (b : Int)] w (SaysN (chainB a b) w) := by
  have HE := Lib.hid (show chainB a b = decide ((a : Int) ≤ (b : Int)) by unfold chainB; rw [Bool.eq_iff_iff, decide_eq_true_iff, decide_eq_true_iff]; omega)
  go_enter Tryd.func50, Tryd.ntmps50
  go_wp2
  go_ret
  exact ⟨by rw [HE.out]; simp, Below.refl _ _⟩
end Go.Proofs.YtcggjhmjjpclhaaDoor
