/- The laws' own measures of an argument's size (szIntS, szIntSS, szOrder): what is left, or less than 0. -/
import Derived.Test.YtkhhbpeheikmfaaDoorProg
import Derived.Test.YtkhhbpeheikmfaaDoorMem
import Derived.LoopTactic
import Derived.RegionTactic
import Derived.Outline
namespace Go.Proofs.YtkhhbpeheikmfaaDoor
open Go.RowKit Go.Deep

set_option maxHeartbeats 400000 in
theorem szIntS_any (a : Option Addr) (n C : Nat) (left : Int) (w : World) (hn : n ≤ maxLen) (h0 : 0 ≤ left) (h1 : left ≤ 1048576) :
    Calls Tryd.prog 53 #[.slice a n C, .int .i64 left] w fun e w' => e = .returned (.int .i64 (if left < n then -1 else left - n)) ∧ w = w' := by
  unfold maxLen at hn
  by_cases h : left < n
  · rw [if_pos h]
    go_enter Tryd.func53, Tryd.ntmps53
    go_wp2
    go_ret
    exact ⟨rfl, rfl⟩
  · rw [if_neg h]
    go_enter Tryd.func53, Tryd.ntmps53
    go_wp2
    go_ret
    exact ⟨rfl, rfl⟩

/-- What is left of 'left' when the rows are taken off, or -1 where they are too many. -/
def SzPost (rows : Rows2) (left : Int) (P : World → Prop) (e : Ending) (w' : World) : Prop :=
  (∃ r : Int, (r = -1 ∨ (0 ≤ r ∧ r ≤ left ∧ bulk rows ≤ left)) ∧ e = .returned (.int .i64 r)) ∧ P w'
theorem SzPost.no {rows : Rows2} {left : Int} {P : World → Prop} {w' : World} (h : P w') : SzPost rows left P (.returned (.int .i64 (-1))) w' := ⟨⟨-1, .inl rfl, rfl⟩, h⟩
theorem SzPost.yes {rows : Rows2} {left r : Int} {P : World → Prop} {w' : World} (h0 : 0 ≤ r) (h1 : r ≤ left) (h2 : bulk rows ≤ left) (h : P w') : SzPost rows left P (.returned (.int .i64 r)) w' := ⟨⟨r, .inr ⟨h0, h1, h2⟩, rfl⟩, h⟩

set_option maxHeartbeats 1000000 in
theorem szIntSS_any (v : Value) (rows : Rows2) (left : Int) (w : World) (hv : RowsAt w v rows) (h0 : 0 ≤ left) (h1 : left ≤ 1048576) :
    Calls Tryd.prog 33 #[v, .int .i64 left] w (SzPost rows left fun w' => w = w') := by
  obtain ⟨a, C, rfl, hC, hm, hrow⟩ := hv
  unfold maxLen at hm
  go_enter Tryd.func33, Tryd.ntmps33
  by_cases h : left < rows.length
  · go_wp2
    go_ret
    exact SzPost.no rfl
  · go_wp2
    go_loop [1, 5] (fun l i => ∃ k : Nat, k ≤ rows.length ∧ i = .int .i64 k ∧ (rows.length : Int) + (lens rows k : Nat) ≤ left ∧ l = .int .i64 (left - rows.length - (lens rows k : Nat))) (fun _ i => rows.length - (intOf i).toNat)
    case atStart => exact ⟨0, Nat.zero_le _, rfl, by simp [lens_zero]; omega, by simp [lens_zero]⟩
    case round =>
      obtain ⟨k, hk, rfl, hl, rfl⟩ := hrel
      by_cases hlt : k < rows.length
      · obtain ⟨b, o, u, rfl, hc, hu⟩ := hrow k hlt
        obtain ⟨a', C', rfl, h2, h3, _, _⟩ := hu
        unfold maxLen at h3
        have hs := lens_succ hlt
        by_cases hlast : left - rows.length - (lens rows k : Nat) < rows[k].length
        · go_wp2_with (go_at_call 53; refine (szIntS_any _ _ _ _ _ (by unfold maxLen; omega) (by omega) (by omega)).mono ?_; rw [if_pos hlast]; rintro e w' ⟨rfl, rfl⟩)
          go_ret
          exact SzPost.no rfl
        · go_wp2_with (go_at_call 53; refine (szIntS_any _ _ _ _ _ (by unfold maxLen; omega) (by omega) (by omega)).mono ?_; rw [if_neg hlast]; rintro e w' ⟨rfl, rfl⟩)
          go_round
          case rel => exact ⟨k + 1, by omega, by go_num, by omega, by rw [hs]; go_num⟩
          case measure => simp [intOf]; omega
      · obtain rfl : k = rows.length := by omega
        have ha := lens_all rows
        go_wp2
        go_ret
        exact SzPost.yes (by omega) (by omega) (by omega) rfl

set_option maxHeartbeats 1000000 in
theorem szOrder_any (v : Value) (rows : Rows2) (left : Int) (w : World) (hv : RowsAt w v rows) (h0 : 0 ≤ left) (h1 : left ≤ 1048576) :
    Calls Tryd.prog 9 #[.agg #[v], .int .i64 left] w (SzPost rows left (Below w.heap.size w)) := by
  go_enter Tryd.func9, Tryd.ntmps9
  have hv' := hv.below ((Below.refl _ w).alloc (Nat.le_refl _) (.cells #[v] 24))
  obtain ⟨a, C, rfl, _⟩ := hv
  go_wp2_with (go_at_call 33; refine (szIntSS_any _ _ _ _ hv' h0 h1).mono ?_; rintro e w' ⟨⟨r, hr, rfl⟩, rfl⟩)
  all_goals
    go_ret
    rcases hr with rfl | ⟨h2, h3, h4⟩
    · first | omega | exact SzPost.no ((Below.refl _ w).alloc (Nat.le_refl _) _)
    · first | omega | exact SzPost.yes h2 h3 h4 ((Below.refl _ w).alloc (Nat.le_refl _) _)
theorem below_drew (w : World) (B : Nat) : Below B w w.drew := ⟨rfl, rfl, rfl, Nat.le_refl _, fun _ _ => rfl⟩
theorem maxLen_ge {n : Nat} (h : n ≤ 1048576) : n ≤ maxLen := by unfold maxLen; omega
end Go.Proofs.YtkhhbpeheikmfaaDoor
