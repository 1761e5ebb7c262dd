/- The laws' own list of all numbers less than one (countUp). -/
import Derived.Test.YtjfbjfclcpcaiaaDoorKsk
import Derived.Test.YtjfbjfclcpcaiaaDoorAfterQk
import Derived.Test.YtjfbjfclcpcaiaaDoorDrUk
namespace Go.Proofs.YtjfbjfclcpcaiaaDoor
open Go.RowKit Go.Deep Go.Shelf

set_option maxRecDepth 100000 in
set_option maxHeartbeats 4000000 in
theorem countUp_any (n : Nat) (w : World) (hn : n ≤ 1000) : Calls Tryd.prog 44 #[.int .i64 (n : Int)] w (fun e w' => ∃ v, e = .returned v ∧ OwnI 3 w' v (upL n) w.heap.size w'.heap.size ∧ Below w.heap.size w w') := by
  have HO := Lib.hid (World.ownsRow_made (e := 3) (size := 1) w #[] 0 (base := w.heap.size) (Nat.le_refl _) (Nat.zero_le _) (by simp))
  have HB := Lib.hid ((Below.refl w.heap.size w).alloc (Nat.le_refl _) (.cells #[] 3))
  obtain ⟨i0, hi0, hz0, hz1, hz2⟩ := info_parts infoInt
  go_enter Tryd.func44, Tryd.ntmps44
  go_wp2
  go_loopw [3, 4] (fun rv iv wx => ∃ i : Nat, i ≤ n ∧ iv = .int .i64 i ∧ Below w.heap.size w wx ∧ wx.ownsRow w.heap.size 3 1 rv i (cellsI (upL i))) (fun _ iv _ => n - (intOf iv).toNat)
  case atStart => exact ⟨0, Nat.zero_le _, rfl, HB.out, HO.out⟩
  case round =>
    obtain ⟨i, hi, rfl, hb, hown⟩ := hrel
    have HBX := Lib.hid hb
    have HOW := Lib.hid hown
    obtain ⟨ar, Cr, rfl⟩ := owns_form hown
    have hsz := hb.size
    clear hb hown HB HO
    by_cases hlt : i < n
    · have hltz : (i : Int) < (n : Int) := by omega
      go_wp2_with (at_builtin; refine wpList_append_own _ rfl _ _ 42 rfl w.heap.size 3 i0 (.int .i64 0) 1 8 Tryd.underlying42 hi0 hz0 hz1 hz2 rfl (by decide) _ _ _ rfl (HOW.out.alloc _) ⟨wr.heap.size, 0, none⟩ 1 1 [.int .i64 (i : Int)] rfl rfl (cell_one_new _ _ _) (by simp [Value.oneCell']) (by unfold maxLen; omega) (by omega) (by simp; omega) ?_; intro v' w3 hown' hgrow _)
      go_roundw
      case rel =>
        refine ⟨i + 1, by omega, by go_num, ?_, ?_⟩
        · have hal := (Below.refl wr.heap.size wr).alloc (Nat.le_refl _) (.cells #[.int .i64 (i : Int)] 3)
          exact HBX.out.trans ((hal.mono HBX.out.size).trans ⟨hgrow.os, hgrow.tape, hgrow.output, hgrow.size, fun b hb => hgrow.block b (by rw [World.size_alloc]; omega) (fun e => by have := (HOW.out.lt b e.symm).1; omega)⟩)
        · rw [upL_succ, show cellsI (upL i ++ [(i : Int)]) = cellsI (upL i) ++ [.int .i64 (i : Int)] by simp]
          exact hown'
      case measure => simp [intOf]; omega
    · obtain rfl : i = n := by omega
      have hltz : ¬ (i : Int) < (i : Int) := by omega
      go_wp2
      go_ret
      have ho : wr.ownsRow w.heap.size 3 1 (.slice ar i Cr) (upL i).length (cellsI (upL i)) := by rw [upL_len]; exact HOW.out
      refine ⟨_, rfl, OwnI.of_owns ho (fun y hy => ?_) (fun b hb => (HOW.out.lt b hb).2), HBX.out⟩
      unfold upL at hy
      rw [List.mem_map] at hy
      obtain ⟨k, hk, rfl⟩ := hy
      have := List.mem_range.1 hk
      exact wf_int (by omega) (by omega)
end Go.Proofs.YtjfbjfclcpcaiaaDoor
