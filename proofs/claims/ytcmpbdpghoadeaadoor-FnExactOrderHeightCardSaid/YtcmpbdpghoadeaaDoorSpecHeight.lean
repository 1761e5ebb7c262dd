/- The model's OrderHeight. -/
import Derived.Test.YtcmpbdpghoadeaaDoorChain
namespace Go.Proofs.YtcmpbdpghoadeaaDoor
open Go.RowKit Go.Deep

/-- What OrderHeight answers. -/
noncomputable def heightB (rows : Rows2) : Int := if validB rows = true then ((heightF rows : Nat) : Int) else -1

theorem heightF_part (rows : Rows2) (k : Nat) : maxL (rankF (gridF rows)) (List.range (k + 1)) = max (maxL (rankF (gridF rows)) (List.range k)) (rankF (gridF rows) k) := by
  rw [List.range_succ, maxL_snoc]
theorem heightF_le (rows : Rows2) (k : Nat) : maxL (rankF (gridF rows)) (List.range k) ≤ 256 := by
  apply Nat.le_of_not_lt
  rw [lt_maxL]
  rintro ⟨c, _, hc⟩
  have := rank_le (gridF rows) c
  omega

set_option maxRecDepth 100000 in
set_option maxHeartbeats 4000000 in
theorem specHeight_any (v : Value) (rows : Rows2) (w : World) (hv : RowsAt w v rows) (hn : bulk rows ≤ 1048576) :
    Calls Tryd.prog 38 #[.agg #[v]] w (SaysI (heightB rows) w) := by
  have hH := Held.start w 27 hv
  have hcall := specValid_any v rows _ hH.2.1 hn
  have hlen : rows.length ≤ 1048576 := by unfold bulk at hn; omega
  have hmk := run_make_row' (P := Tryd.prog) 48 3 (.int .i64 0) 8 Tryd.underlying48 infoInt rfl .i64 .i64 rows.length (by omega) (by omega)
  obtain ⟨A, C, rfl, hC, hm, _⟩ := hv
  unfold maxLen at hm
  have HH := Lib.hid hH
  clear hH
  unfold heightB
  cases hval : validB rows with
  | false =>
    rw [hval] at hcall
    rw [if_neg (by simp)]
    clear hval hmk
    go_enter Tryd.func38, Tryd.ntmps38
    go_wp2_with (go_at_call 50; refine hcall.mono ?_; clear hcall; rintro e w1 ⟨rfl, hb1⟩; have H1 := Lib.hid (HH.out.below hb1); have hc1 := H1.out.1; clear hb1)
    go_ret
    exact ⟨rfl, H1.out.2.2.1⟩
  | true =>
    rw [hval] at hcall
    rw [if_pos rfl]
    have hok := ok_of_valid hval
    have HOK := Lib.hid hok
    clear hval hok
    go_enter Tryd.func38, Tryd.ntmps38
    go_wp2_with (go_at_call 50; refine hcall.mono ?_; clear hcall; rintro e w1 ⟨rfl, hb1⟩; have H1 := Lib.hid (HH.out.below hb1); have hc1 := H1.out.1; clear hb1)
    clear hmk
    have HK1 : Hid (ChainK rows w1.heap.size (fun _ => 0) (w1.alloc (.cells (madeCells #[.int .i64 0] rows.length) 3))) := Lib.hid ⟨World.rowIs_made w1 (.int .i64 0) rows.length 3, fun _ _ => .inl rfl⟩
    have HB1 : Hid (Below w1.heap.size w1 (w1.alloc (.cells (madeCells #[.int .i64 0] rows.length) 3))) := Lib.hid ((Below.refl _ w1).alloc (Nat.le_refl _) _)
    have hsz : w.heap.size < w1.heap.size := cell_lt hc1
    clear hc1
    go_loopw [3, 5] (fun bv iv wr => ∃ (i : Nat) (K : Nat → Nat), i ≤ rows.length ∧ iv = .int .i64 i ∧ bv = .int .i64 ((maxL (rankF (gridF rows)) (List.range i) : Nat) : Int) ∧ ChainK rows w1.heap.size K wr ∧ Below w1.heap.size w1 wr) (fun _ iv _ => rows.length - (intOf iv).toNat)
    case atStart => exact ⟨0, fun _ => 0, Nat.zero_le _, rfl, rfl, HK1.out, HB1.out⟩
    case round =>
      obtain ⟨i, K, hi, rfl, rfl, hK, hb⟩ := hrel
      have hcell := (H1.out.below hb).1
      have HK := Lib.hid hK
      have HB := Lib.hid hb
      have hle := heightF_le rows i
      clear hK hb HK1 HB1
      by_cases hlt : i < rows.length
      · have hrk := rank_le (gridF rows) i
        have HCALL := Lib.hid (l1Chain_any (.slice A rows.length C) rows w1 w1.heap.size H1.out.2.1 HOK.out (Nat.le_refl _) 256 i i K wr (elems_length_le _) rfl hlt HB.out HK.out)
        have HST := Lib.hid (heightF_part rows i)
        go_wp2_with (go_at_call 75; refine HCALL.out.mono ?_; clear HCALL; rintro e w3 ⟨rfl, ⟨K3, hK3⟩, hg3⟩; have HK3 := Lib.hid hK3; have HG3 := Lib.hid (HB.out.grown hg3 HB.out.size (fun q e => by cases e; exact Nat.le_refl _)); clear hK3 hg3)
        go_roundw
        case rel =>
          refine ⟨i + 1, K3, by omega, by go_num, ?_, HK3.out, HG3.out⟩
          rw [HST.out]
          first | rfl | (congr 1; omega) | (simp; done)
        case measure => simp [intOf]; omega
      · obtain rfl : i = rows.length := by omega
        go_wp2
        go_ret
        exact ⟨rfl, H1.out.2.2.1.trans (HB.out.mono (by omega))⟩
end Go.Proofs.YtcmpbdpghoadeaaDoor
