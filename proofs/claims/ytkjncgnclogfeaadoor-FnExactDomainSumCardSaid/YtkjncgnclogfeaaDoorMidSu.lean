/- The walks of rowsOf and built at sum. -/
import Derived.Test.YtkjncgnclogfeaaDoorSumI
import Derived.Test.YtkjncgnclogfeaaDoorRowsG
import Derived.Test.YtkjncgnclogfeaaDoorProg
import Derived.Test.YtkjncgnclogfeaaDoorAns
import Derived.Test.YtkjncgnclogfeaaDoorEq
import Derived.Test.YtkjncgnclogfeaaDoorTo
import Derived.StillTailTactics
import Derived.Test.YtkjncgnclogfeaaDoorMem
import Derived.LoopTactic
import Derived.RegionTactic
import Derived.Outline
import Derived.Test.YtkjncgnclogfeaaDoorValid
import Derived.Test.YtkjncgnclogfeaaDoorFirst
import Derived.RangeFuncBox
import Derived.Test.YtkjncgnclogfeaaDoorLiftI
import Derived.Test.YtkjncgnclogfeaaDoorImplFun
import Derived.Test.YtkjncgnclogfeaaDoorMonoS
import Derived.Lib.QuietBelow
import Derived.BigQuiet
import Derived.Test.YtkjncgnclogfeaaDoorJoinS
import Derived.Test.YtkjncgnclogfeaaDoorOwnB
import Derived.Maps.AppendAt
import Derived.Test.YtkjncgnclogfeaaDoorBackS
import Derived.Deep.RegionHeld3
namespace Go.Proofs.YtkjncgnclogfeaaDoor
open Go.RowKit Go.Deep Go.Shelf

set_option maxRecDepth 100000 in
set_option maxHeartbeats 4000000 in
theorem sumRows_no (p p' n n' : Nat) (g g' : Nat → Nat) (N : Nat) (w : World) (hg : GridAt w p g) (hg' : GridAt w p' g') (hn : GridN g n) (hn' : GridN g' n') (hN : N = 1 + n + n') (hN2 : 200 < N) :
    Calls Tryd.prog 81 #[.iface 65 (.agg #[.iface 54 (.pointer (some ⟨p, 0, none⟩)), .iface 54 (.pointer (some ⟨p', 0, none⟩))])] w (RowsNo w) := by
  have hcall := fun W (hk : (fun W => GridAt W p g ∧ GridAt W p' g') W) => sumSize_any p p' n n' g g' W hk.1 hk.2 hn hn'
  have hc1 := hcall _ ⟨hg, hg'⟩
  rw [← hN] at hc1
  have hmS := run_sum_size
  have hN3 : (200 : Int) < (N : Int) := by omega
  clear hg hg' hn hn' hN hcall
  go_enter Tryd.func81, Tryd.ntmps81
  go_wp2_with (go_at_call 142; refine hc1.mono ?_; clear hc1; rintro e w1 ⟨rfl, hb1⟩; have HB1 := Lib.hid hb1; clear hb1)
  go_ret2
  exact ⟨rfl, HB1.out⟩
theorem sumBuilt_no (p p' n n' : Nat) (g g' : Nat → Nat) (N : Nat) (w : World) (hg : GridAt w p g) (hg' : GridAt w p' g') (hn : GridN g n) (hn' : GridN g' n') (hN : N = 1 + n + n') (hN2 : 200 < N) :
    Calls Tryd.prog 50 #[.iface 65 (.agg #[.iface 54 (.pointer (some ⟨p, 0, none⟩)), .iface 54 (.pointer (some ⟨p', 0, none⟩))])] w (RowsG 0 (fun _ => []) false w) :=
  built_no _ w fun W hB => sumRows_no p p' n n' g g' N W (hg.below hB hg.lt) (hg'.below hB hg'.lt) hn hn' hN hN2

set_option maxRecDepth 100000 in
set_option maxHeartbeats 4000000 in
theorem sumRows_yes (p p' n n' : Nat) (g g' : Nat → Nat) (N : Nat) (w : World) (hg : GridAt w p g) (hg' : GridAt w p' g') (hn : GridN g n) (hn' : GridN g' n') (hN : N = 1 + n + n') (hN2 : N ≤ 200) :
    Calls Tryd.prog 81 #[.iface 65 (.agg #[.iface 54 (.pointer (some ⟨p, 0, none⟩)), .iface 54 (.pointer (some ⟨p', 0, none⟩))])] w (RowsYes (madeG (sumB g g' n) N) w) := by
  have hK : Stays w (fun W => GridAt W p g ∧ GridAt W p' g') := Stays.grids hg.lt hg'.lt
  have hcall0 := fun W (hk : (fun W => GridAt W p g ∧ GridAt W p' g') W) => sumSize_any p p' n n' g g' W hk.1 hk.2 hn hn'
  have hk0 : (fun W => GridAt W p g ∧ GridAt W p' g') w := ⟨hg, hg'⟩
  have hcall := hcall0 _ hk0
  rw [← hN] at hcall
  have HBC := Lib.hid (fun (a b : Nat) (ha : a < N) (hb : b < N) W (hk : (fun W => GridAt W p g ∧ GridAt W p' g') W) => sumBelow_any p p' n n' g g' a b W hk.1 hk.2 hn hn' (by rw [← hN]; exact ha) (by rw [← hN]; exact hb))
  have hmS := run_sum_size
  have hmB := run_sum_below
  have hN3 : ¬ ((200 : Int) < (N : Int)) := by omega
  have hz := (zero_of_info zeroGrid).1
  have HK0 := Lib.hid hk0
  have HKK := Lib.hid hK
  clear hg hg' hn hn' hN hcall0 hk0 hK
  go_enter Tryd.func81, Tryd.ntmps81
  go_wp2_with (go_at_call 142; refine hcall.mono ?_; clear hcall; rintro e w1 ⟨rfl, hb1⟩; have HK1 := Lib.hid (HKK.out _ _ hb1 HK0.out); have HB1 := Lib.hid hb1; clear hb1)
  have bA := (Below.refl w1.heap.size w1).alloc (Nat.le_refl _) (.cells (gridCells fun _ => 0) 83)
  have HST := Lib.hid (show RwG w (fun W => GridAt W p g ∧ GridAt W p' g') w1.heap.size (bG (sumB g g' n) N 0 0) (w1.alloc (.cells (gridCells fun _ => 0) 83)) from
    ⟨HKK.out _ _ (bA.mono HB1.out.size) HK1.out, by rw [bG_start]; exact store_new w1, HB1.out.size, HB1.out.trans (bA.mono HB1.out.size)⟩)
  clear bA hz
  go_loopw [6, 13] (fun _ av wr => ∃ a : Nat, a ≤ N ∧ av = .int .i64 a ∧ RwG w (fun W => GridAt W p g ∧ GridAt W p' g') w1.heap.size (bG (sumB g g' n) N a 0) wr) (fun _ av _ => N - (intOf av).toNat)
  case atStart => exact ⟨0, Nat.zero_le _, rfl, HST.out⟩
  case round =>
    obtain ⟨a, ha, rfl, ht⟩ := hrel
    have HT := Lib.hid ht
    clear HST ht
    by_cases hal : a < N
    · go_wp2
      go_loopw [7, 17] (fun _ bv wr => ∃ b : Nat, b ≤ N ∧ bv = .int .i64 b ∧ RwG w (fun W => GridAt W p g ∧ GridAt W p' g') w1.heap.size (bG (sumB g g' n) N a b) wr) (fun _ bv _ => N - (intOf bv).toNat)
      case atStart => exact ⟨0, Nat.zero_le _, rfl, HT.out⟩
      case round =>
        obtain ⟨b, hb, rfl, ht⟩ := hrel
        have HK := Lib.hid ht
        clear ht HT
        by_cases hbl : b < N
        · have hcall := HBC.out a b hal hbl wr HK.out.kept
          cases hbit : (sumB g g' n) a b with
          | false =>
            rw [hbit] at hcall
            have HE := Lib.hid (bG_no (N := N) hbit)
            clear hbit
            go_wp2_with (go_at_call 141; refine hcall.mono ?_; clear hcall; rintro e w2 ⟨rfl, hb2⟩; have H2 := Lib.hid (HK.out.step HKK.out hb2); clear hb2)
            go_roundw
            case rel => exact ⟨b + 1, by omega, by go_num, by rw [HE.out]; exact H2.out⟩
            case measure => simp [intOf]; omega
          | true =>
            rw [hbit] at hcall
            have HE := Lib.hid (bG_yes (N := N) hbit)
            have ha200 : a < 200 := by omega
            have hb200 : b < 200 := by omega
            have ha0 : (0 : Int) ≤ (a : Int) := by omega
            have ha1 : (a : Int) < 200 := by omega
            clear hbit
            go_wp2_with (first | (go_at_call 141; refine hcall.mono ?_; clear hcall; rintro e w2 ⟨rfl, hb2⟩; have H2 := Lib.hid (HK.out.step HKK.out hb2); have hadd := addTo_any w1.heap.size a b (b : Int) _ w2 H2.out.grid ha200 hb200 rfl; clear hb2) | (go_at_call 88; refine hadd.mono ?_; clear hadd; rintro e w3 ⟨rfl, m, rfl⟩))
            go_roundw
            case rel => exact ⟨b + 1, by omega, by go_num, by rw [HE.out]; exact H2.out.put HKK.out ha200 hb200 m⟩
            case measure => simp [intOf]; omega
        · obtain rfl : b = N := by omega
          go_wp2
          go_roundw
          case rel => exact ⟨a + 1, by omega, by go_num, by rw [← bG_next]; exact HK.out⟩
          case measure => simp [intOf]; omega
    · obtain rfl : a = N := by omega
      go_wp2
      go_ret2
      exact ⟨⟨w1.heap.size, rfl, HT.out.own, HT.out.grid⟩, HT.out.below⟩
theorem sumBuilt_yes (p p' n n' : Nat) (g g' : Nat → Nat) (N : Nat) (w : World) (hg : GridAt w p g) (hg' : GridAt w p' g') (hn : GridN g n) (hn' : GridN g' n') (hN : N = 1 + n + n') (hN2 : N ≤ 200) (hT : Tab w) (hrf : ∀ q, q < N → (sumB g g' n) q q = true) :
    Calls Tryd.prog 50 #[.iface 65 (.agg #[.iface 54 (.pointer (some ⟨p, 0, none⟩)), .iface 54 (.pointer (some ⟨p', 0, none⟩))])] w (RowsG N (fun q => bRow (sumB g g' n) q N) true w) :=
  built_yes _ (sumB g g' n) N w hT hN2 hrf fun W hB => sumRows_yes p p' n n' g g' N W (hg.below hB hg.lt) (hg'.below hB hg'.lt) hn hn' hN hN2
end Go.Proofs.YtkjncgnclogfeaaDoor

/- The laws' own marks: an answer is written full of numbers, and looked at again (markIntS, markIntSS, markOrder, heldIntS, heldIntSS, heldOrder). -/
namespace Go.Proofs.YtkjncgnclogfeaaDoor
open Go.RowKit Go.Deep

theorem grownBy_trans {a b c : World} {row : Option Nat} (h : a.grownBy b row) (k : b.grownBy c row) : a.grownBy c row :=
  ⟨k.os.trans h.os, k.tape.trans h.tape, k.output.trans h.output, Nat.le_trans h.size k.size, fun i hi hr => (k.block i (Nat.lt_of_lt_of_le hi h.size) hr).trans (h.block i hi hr)⟩
theorem grownBy_set (W : World) (g o : Nat) (v : Value) : W.grownBy (W.setCell ⟨g, o, none⟩ v) (some g) :=
  ⟨rfl, rfl, rfl, by simp [World.setCell], fun k _ hk => Below.heap_setCell _ _ _ k (fun e => hk (by rw [e]))⟩

/-- The slice v has been marked from k on. -/
def MarkI (v : Value) (xs : List Int) (k : Int) (lo hi : Nat) (w : World) (e : Ending) (w' : World) : Prop :=
  e = .returned (.int .i64 (k + xs.length)) ∧ OwnI 3 w' v (marks k xs.length) lo hi ∧ w.grownBy w' v.ownBlock

set_option maxHeartbeats 1000000 in
theorem markIntS_any (v : Value) (xs : List Int) (k : Int) (lo hi : Nat) (w : World) (h : OwnI 3 w v xs lo hi) (h0 : 0 ≤ k) (h1 : k + xs.length ≤ 1099511627776) :
    Calls Tryd.prog 39 #[v, .int .i64 k] w (MarkI v xs k lo hi w) := by
  have hwf := marks_wf (k := k) (n := xs.length) h0 h1
  have HWF := Lib.hid hwf
  clear hwf
  obtain ⟨_, ⟨rfl, rfl⟩ | ⟨g, C, f, rfl, hC, hm, hlo, hhi, hr, hf⟩⟩ := h
  · go_enter Tryd.func39, Tryd.ntmps39
    go_wp2
    refine wp_loop_rounds 1 ?_
    rw [rounds_succ]
    go_wp2
    go_ret
    exact ⟨by simp, OwnI.nil _ _ _ _, ⟨rfl, rfl, rfl, Nat.le_refl _, fun _ _ _ => rfl⟩⟩
  · unfold maxLen at hm
    have HF := Lib.hid hf
    clear hf
    go_enter Tryd.func39, Tryd.ntmps39
    go_wp2
    go_loopw [1, 5] (fun kv iv wr => ∃ j : Nat, j ≤ xs.length ∧ iv = .int .i64 j ∧ kv = .int .i64 (k + j) ∧ wr.rowIs g 3 C (fun i => if i < j then .int .i64 (k + i) else f i) ∧ w.grownBy wr (some g)) (fun _ iv _ => xs.length - (intOf iv).toNat)
    case atStart =>
      exact ⟨0, Nat.zero_le _, rfl, by simp, hr.congr (fun i _ => by simp), ⟨rfl, rfl, rfl, Nat.le_refl _, fun _ _ _ => rfl⟩⟩
    case round =>
      obtain ⟨j, hj, rfl, rfl, hrow, hg⟩ := hrel
      by_cases hlt : j < xs.length
      · obtain ⟨v3, h3⟩ : ∃ v3, wr.cell? ⟨g, j, none⟩ = some v3 := ⟨_, hrow.cell (by omega)⟩
        have hfr := hrow.frozen j
        have HR := Lib.hid hrow
        have HG := Lib.hid hg
        clear hrow hg hr
        go_wp2
        go_roundw
        case rel =>
          refine ⟨j + 1, by omega, by go_num, by first | go_num | (congr 1; omega), (HR.out.set j _).congr (fun i _ => ?_), grownBy_trans HG.out (grownBy_set _ _ _ _)⟩
          by_cases e : i = j
          · subst e; rw [if_pos rfl, if_pos (by omega)]
          · rw [if_neg e]
            by_cases h : i < j
            · rw [if_pos h, if_pos (by omega)]
            · rw [if_neg h, if_neg (by omega)]
        case measure => simp [intOf]; omega
      · obtain rfl : j = xs.length := by omega
        have HR := Lib.hid hrow
        have HG := Lib.hid hg
        clear hrow hg hr
        go_wp2
        go_ret
        refine ⟨rfl, ⟨HWF.out, .inr ⟨g, C, _, by rw [marks_length], by rw [marks_length]; exact hC, by unfold maxLen; exact hm, hlo, hhi, HR.out, fun i hi => ?_⟩⟩, HG.out⟩
        rw [marks_length] at hi
        rw [if_pos hi, marks_at]

/-- The number k, and a world that parts from w in draws alone. -/
def SaysK (k : Int) (w : World) (e : Ending) (w' : World) : Prop := e = .returned (.int .i64 k) ∧ ∃ n, w' = w.drewN n

set_option maxHeartbeats 1000000 in
theorem heldIntS_any (v : Value) (k : Int) (n : Nat) (w : World) (h : IntsAt w v (marks k n)) (h0 : 0 ≤ k) (h1 : k + n ≤ 1099511627776) :
    Calls Tryd.prog 40 #[v, .int .i64 k] w (SaysK (k + n) w) := by
  obtain ⟨a, C, rfl, hC, hm, _, hx⟩ := h
  have hx' : ∀ i, i < n → ∃ b o, a = some ⟨b, o, none⟩ ∧ w.cell? ⟨b, o + i, none⟩ = some (.int .i64 (k + i)) := fun i hi => by
    obtain ⟨b, o, h1, h2⟩ := hx i (by rw [marks_length]; exact hi)
    exact ⟨b, o, h1, by rw [h2, marks_at]⟩
  have HX := Lib.hid hx'
  rw [marks_length] at *
  unfold maxLen at hm
  clear hx hx'
  go_enter Tryd.func40, Tryd.ntmps40
  go_wp2
  go_loopw [1, 5] (fun kv iv wr => ∃ j m : Nat, j ≤ n ∧ iv = .int .i64 j ∧ kv = .int .i64 (k + j) ∧ wr = w.drewN m) (fun _ iv _ => n - (intOf iv).toNat)
  case atStart => exact ⟨0, 0, Nat.zero_le _, rfl, by simp, rfl⟩
  case round =>
    obtain ⟨j, m, hj, rfl, rfl, hw⟩ := hrel
    by_cases hlt : j < n
    · obtain ⟨b, o, rfl, hc⟩ := HX.out j hlt
      replace hc : wr.cell? ⟨b, o + j, none⟩ = some (.int .i64 (k + j)) := by rw [hw]; exact hc
      have HW := Lib.hid hw
      clear hw
      go_wp2
      go_roundw
      case rel => exact ⟨j + 1, _, by omega, by go_num, by first | go_num | (congr 1; omega), by rw [HW.out]⟩
      case measure => simp [intOf]; omega
    · obtain rfl : j = n := by omega
      have HW := Lib.hid hw
      clear hw
      go_wp2
      go_ret
      exact ⟨rfl, _, HW.out⟩

theorem type_ne : (3 : TypeId) ≠ 39 := by decide

/-- The rows of the slice v have been marked from m on. -/
def MarkR (v : Value) (rows : Rows2) (m : Int) (lo hi : Nat) (w : World) (e : Ending) (w' : World) : Prop :=
  e = .returned (.int .i64 (m + (lens rows rows.length : Nat))) ∧ OwnR 3 39 w' v rows.length (marked m rows rows.length) lo hi ∧ Turned lo hi w w'

theorem marked_zero (m : Int) (rows : Rows2) (j : Nat) : marked m rows 0 j = rowsF rows j := by unfold marked; rw [if_neg (by omega)]
theorem lens_mono {rows : Rows2} {i : Nat} : ∀ {j : Nat}, i ≤ j → j ≤ rows.length → lens rows i ≤ lens rows j
  | 0, h, _ => by obtain rfl : i = 0 := (by omega); exact Nat.le_refl _
  | j + 1, h, hj => by
    by_cases e : i = j + 1
    · subst e; exact Nat.le_refl _
    · have := lens_mono (rows := rows) (i := i) (j := j) (by omega) (by omega)
      rw [lens_succ (by omega)]; omega

set_option maxHeartbeats 1000000 in
theorem markIntSS_any (v : Value) (rows : Rows2) (m : Int) (lo hi : Nat) (w : World) (h : OwnR 3 39 w v rows.length (rowsF rows) lo hi) (hlo : lo ≤ w.heap.size) (h0 : 0 ≤ m) (h1 : m + (lens rows rows.length : Nat) ≤ 1099511627776) :
    Calls Tryd.prog 29 #[v, .int .i64 m] w (MarkR v rows m lo hi w) := by
  obtain ⟨rfl, hz⟩ | ⟨g, C, f, rfl, hC, hm, hl, hh, hr, hI, hD⟩ := h
  · obtain rfl : rows = [] := List.length_eq_zero_iff.1 hz
    go_enter Tryd.func29, Tryd.ntmps29
    go_wp2
    refine wp_loop_rounds 1 ?_
    rw [rounds_succ]
    go_wp2
    go_ret
    exact ⟨by simp [lens], OwnR.nil _ _ _ _ _ _, Turned.refl _ _ _⟩
  · unfold maxLen at hm
    have HI := Lib.hid hI
    have HD := Lib.hid hD
    have HR := Lib.hid hr
    clear hI hD hr
    go_enter Tryd.func29, Tryd.ntmps29
    go_wp2
    go_loopw [1, 5] (fun kv iv wr => ∃ j : Nat, j ≤ rows.length ∧ iv = .int .i64 j ∧ kv = .int .i64 (m + (lens rows j : Nat)) ∧ wr.rowIs g 39 C f ∧ (∀ i, i < rows.length → OwnI 3 wr (f i) (marked m rows j i) lo hi) ∧ Turned lo hi w wr) (fun _ iv _ => rows.length - (intOf iv).toNat)
    case atStart => exact ⟨0, Nat.zero_le _, rfl, by simp [lens], HR.out, fun i hi => by rw [marked_zero]; exact HI.out i hi, Turned.refl _ _ _⟩
    case round =>
      obtain ⟨j, hj, rfl, rfl, hrow, hrows, ht⟩ := hrel
      have HS := Lib.hid hrows
      have HT := Lib.hid ht
      have HW := Lib.hid hrow
      by_cases hlt : j < rows.length
      · have hc : wr.cell? ⟨g, j, none⟩ = some (f j) := hrow.cell (by omega)
        have hj0 := hrows j hlt
        have e0 : marked m rows j j = rows[j] := by unfold marked; rw [if_neg (by omega), rowsF_lt hlt]
        rw [e0] at hj0
        have hls := lens_succ hlt
        have hmono := lens_mono (rows := rows) (i := j + 1) (j := rows.length) (by omega) (Nat.le_refl _)
        have hcall := markIntS_any (f j) rows[j] (m + (lens rows j : Nat)) lo hi wr hj0 (by omega) (by omega)
        have HLS := Lib.hid hls
        clear hrow hrows ht e0 hj0 hls
        go_wp2_with (go_at_call 39; refine hcall.mono ?_; clear hcall; rintro e w1 ⟨rfl, ho, hg⟩; have HO := Lib.hid ho; have HG := Lib.hid hg; clear ho hg)
        go_roundw
        case rel =>
          have hls := HLS.out
          have hgt : ∀ b, (f j).ownBlock = some b → lo ≤ b ∧ b < hi := fun b hb => by
            obtain ⟨x, y, _⟩ := HO.out.block b hb
            exact ⟨x, y⟩
          refine ⟨j + 1, by omega, by go_num, by rw [hls]; first | go_num | (congr 1; omega), ?_, fun i hi' => ?_, HT.out.trans (Turned.of_grownBy HG.out (Nat.le_trans hlo HT.out.below.size) hgt)⟩
          · refine HW.out.of_block (HG.out.block g HW.out.lt (fun e => ?_))
            obtain ⟨_, _, c, hcb⟩ := HO.out.block g e.symm
            obtain ⟨_, _, c0, hc0⟩ := (HS.out j hlt).block g e.symm
            obtain ⟨c1, hc1, _⟩ := HW.out
            rw [hc0] at hc1
            have e3 := Option.some.inj hc1
            injection e3 with _ e4
            exact type_ne e4
          · by_cases e : i = j
            · subst e
              have e1 : marked m rows (i + 1) i = marks (m + (lens rows i : Nat)) rows[i].length := by unfold marked; rw [if_pos (by omega), rowsF_lt hlt]
              rw [e1]; exact HO.out
            · have e1 : marked m rows (j + 1) i = marked m rows j i := by
                unfold marked
                by_cases h : i < j
                · rw [if_pos h, if_pos (by omega)]
                · rw [if_neg h, if_neg (by omega)]
              rw [e1]
              refine (HS.out i hi').kept fun b hb => HG.out.block b ?_ fun e2 => ?_
              · obtain ⟨_, _, c, hcb⟩ := (HS.out i hi').block b hb
                exact (Array.getElem?_eq_some_iff.1 hcb).1
              · rcases Nat.lt_or_gt_of_ne e with hij | hij
                · rcases HD.out i j hij hlt with h3 | h3
                  · rw [h3] at hb; cases hb
                  · exact h3 (hb.trans e2)
                · rcases HD.out j i hij hi' with h3 | h3
                  · rw [h3] at e2; cases e2
                  · exact h3 (e2.symm.trans hb.symm)
        case measure => simp [intOf]; omega
      · obtain rfl : j = rows.length := by omega
        clear hrow hrows ht
        go_wp2
        go_ret
        exact ⟨rfl, .inr ⟨g, C, f, rfl, hC, by unfold maxLen; exact hm, hl, hh, HW.out, HS.out, HD.out⟩, HT.out⟩

set_option maxHeartbeats 1000000 in
theorem heldIntSS_any (v : Value) (rows : Rows2) (m : Int) (lo hi : Nat) (w : World) (h : OwnR 3 39 w v rows.length (marked m rows rows.length) lo hi) (h0 : 0 ≤ m) (h1 : m + (lens rows rows.length : Nat) ≤ 1099511627776) :
    Calls Tryd.prog 30 #[v, .int .i64 m] w (SaysK (m + (lens rows rows.length : Nat)) w) := by
  obtain ⟨rfl, hz⟩ | ⟨g, C, f, rfl, hC, hm, hl, hh, hr, hI, hD⟩ := h
  · obtain rfl : rows = [] := List.length_eq_zero_iff.1 hz
    go_enter Tryd.func30, Tryd.ntmps30
    go_wp2
    refine wp_loop_rounds 1 ?_
    rw [rounds_succ]
    go_wp2
    go_ret
    exact ⟨by simp [lens], 0, rfl⟩
  · unfold maxLen at hm
    have HI := Lib.hid hI
    have HR := Lib.hid hr
    clear hI hD hr
    go_enter Tryd.func30, Tryd.ntmps30
    go_wp2
    go_loopw [1, 5] (fun kv iv wr => ∃ j d : Nat, j ≤ rows.length ∧ iv = .int .i64 j ∧ kv = .int .i64 (m + (lens rows j : Nat)) ∧ wr = w.drewN d) (fun _ iv _ => rows.length - (intOf iv).toNat)
    case atStart => exact ⟨0, 0, Nat.zero_le _, rfl, by simp [lens], rfl⟩
    case round =>
      obtain ⟨j, d, hj, rfl, rfl, hw⟩ := hrel
      by_cases hlt : j < rows.length
      · have hc : wr.cell? ⟨g, j, none⟩ = some (f j) := by rw [hw]; exact HR.out.cell (by omega)
        have e0 : marked m rows rows.length j = marks (m + (lens rows j : Nat)) rows[j].length := by unfold marked; rw [if_pos hlt, rowsF_lt hlt]
        have hj0 : IntsAt wr (f j) (marks (m + (lens rows j : Nat)) rows[j].length) := by rw [hw, ← e0]; exact (HI.out j hlt).at
        have hls := lens_succ hlt
        have hmono := lens_mono (rows := rows) (i := j + 1) (j := rows.length) (by omega) (Nat.le_refl _)
        have hcall := heldIntS_any (f j) (m + (lens rows j : Nat)) rows[j].length wr hj0 (by omega) (by omega)
        have HLS := Lib.hid hls
        have HW := Lib.hid hw
        have hpos : ¬ (m + (lens rows j : Nat) + (rows[j].length : Int) < 0) := by omega
        clear hw e0 hj0 hls
        go_wp2_with (go_at_call 40; refine hcall.mono ?_; clear hcall; rintro e w1 ⟨rfl, d1, rfl⟩)
        go_roundw
        case rel => exact ⟨j + 1, _, by omega, by go_num, by rw [HLS.out]; first | go_num | (congr 1; omega), by rw [HW.out, World.drewN_drewN]⟩
        case measure => simp [intOf]; omega
      · obtain rfl : j = rows.length := by omega
        have HW := Lib.hid hw
        clear hw
        go_wp2
        go_ret
        exact ⟨rfl, _, HW.out⟩

/-- The number k, and a world in which nothing that was there has turned. -/
def SaysJ (k : Int) (w : World) (e : Ending) (w' : World) : Prop := e = .returned (.int .i64 k) ∧ Below w.heap.size w w'

theorem turned_alloc (lo hi : Nat) (w : World) (o : Obj) (h : lo ≤ w.heap.size) : Turned lo hi w (w.alloc o) := ⟨(Below.refl _ w).alloc h o, fun _ _ hb => Below.heap_alloc _ _ _ hb⟩

set_option maxHeartbeats 1000000 in
theorem markOrder_any (v : Value) (rows : Rows2) (m : Int) (lo hi : Nat) (w : World) (h : OwnR 3 39 w v rows.length (rowsF rows) lo hi) (hlo : lo ≤ w.heap.size) (hhi : hi ≤ w.heap.size) (h0 : 0 ≤ m) (h1 : m + (lens rows rows.length : Nat) ≤ 1099511627776) :
    Calls Tryd.prog 18 #[.agg #[v], .int .i64 m] w (MarkR v rows m lo hi w) := by
  have ht := turned_alloc lo hi w (.cells #[v] 26) hlo
  have hcall := markIntSS_any v rows m lo hi _ (h.below ((Below.refl _ w).alloc (Nat.le_refl _) (.cells #[v] 26)) hhi) (by rw [World.size_alloc]; omega) h0 h1
  have HT := Lib.hid ht
  obtain ⟨a, C, rfl, _⟩ := h.at
  clear ht h
  go_enter Tryd.func18, Tryd.ntmps18
  go_wp2_with (go_at_call 29; refine hcall.mono ?_; clear hcall; rintro e w1 ⟨rfl, ho, ht⟩; have HO := Lib.hid ho; have HT1 := Lib.hid ht; clear ho ht)
  go_ret
  exact ⟨rfl, HO.out, HT.out.trans HT1.out⟩

set_option maxHeartbeats 1000000 in
theorem heldOrder_any (v : Value) (rows : Rows2) (m : Int) (lo hi : Nat) (w : World) (h : OwnR 3 39 w v rows.length (marked m rows rows.length) lo hi) (hhi : hi ≤ w.heap.size) (h0 : 0 ≤ m) (h1 : m + (lens rows rows.length : Nat) ≤ 1099511627776) :
    Calls Tryd.prog 19 #[.agg #[v], .int .i64 m] w (SaysJ (m + (lens rows rows.length : Nat)) w) := by
  have hb := (Below.refl _ w).alloc (Nat.le_refl _) (.cells #[v] 26)
  have hcall := heldIntSS_any v rows m lo hi _ (h.below hb hhi) h0 h1
  have HB := Lib.hid hb
  have hpos : ¬ (m + (lens rows rows.length : Nat) < 0) := by omega
  have hv : ∃ a n C, v = .slice a n C := by
    obtain ⟨rfl, _⟩ | ⟨g, C, f, rfl, _⟩ := h
    · exact ⟨_, _, _, rfl⟩
    · exact ⟨_, _, _, rfl⟩
  obtain ⟨a, n, C, rfl⟩ := hv
  clear hb h
  go_enter Tryd.func19, Tryd.ntmps19
  go_wp2_with (go_at_call 30; refine hcall.mono ?_; clear hcall; rintro e w1 ⟨rfl, d, rfl⟩)
  go_ret
  exact ⟨rfl, HB.out.trans (below_drewN' _ _ _)⟩
end Go.Proofs.YtkjncgnclogfeaaDoor

/- The laws' own measures of an argument's size (szIntS, szIntSS, szOrder): what is left, or less than 0. -/
namespace Go.Proofs.YtkjncgnclogfeaaDoor
open Go.RowKit Go.Deep

set_option maxHeartbeats 400000 in
theorem szIntS_any (a : Option Addr) (n C : Nat) (left : Int) (w : World) (hn : n ≤ maxLen) (h0 : 0 ≤ left) (h1 : left ≤ 1048576) :
    Calls Tryd.prog 73 #[.slice a n C, .int .i64 left] w fun e w' => e = .returned (.int .i64 (if left < n then -1 else left - n)) ∧ w = w' := by
  unfold maxLen at hn
  by_cases h : left < n
  · rw [if_pos h]
    go_enter Tryd.func73, Tryd.ntmps73
    go_wp2
    go_ret
    exact ⟨rfl, rfl⟩
  · rw [if_neg h]
    go_enter Tryd.func73, Tryd.ntmps73
    go_wp2
    go_ret
    exact ⟨rfl, rfl⟩

/-- What is left of 'left' when the rows are taken off, or -1 where they are too many. -/
def SzPost (rows : Rows2) (left : Int) (P : World → Prop) (e : Ending) (w' : World) : Prop :=
  (∃ r : Int, (r = -1 ∨ (0 ≤ r ∧ r ≤ left ∧ bulk rows ≤ left)) ∧ e = .returned (.int .i64 r)) ∧ P w'
theorem SzPost.no {rows : Rows2} {left : Int} {P : World → Prop} {w' : World} (h : P w') : SzPost rows left P (.returned (.int .i64 (-1))) w' := ⟨⟨-1, .inl rfl, rfl⟩, h⟩
theorem SzPost.yes {rows : Rows2} {left r : Int} {P : World → Prop} {w' : World} (h0 : 0 ≤ r) (h1 : r ≤ left) (h2 : bulk rows ≤ left) (h : P w') : SzPost rows left P (.returned (.int .i64 r)) w' := ⟨⟨r, .inr ⟨h0, h1, h2⟩, rfl⟩, h⟩

set_option maxHeartbeats 1000000 in
theorem szIntSS_any (v : Value) (rows : Rows2) (left : Int) (w : World) (hv : RowsAt w v rows) (h0 : 0 ≤ left) (h1 : left ≤ 1048576) :
    Calls Tryd.prog 45 #[v, .int .i64 left] w (SzPost rows left fun w' => w = w') := by
  obtain ⟨a, C, rfl, hC, hm, hrow⟩ := hv
  unfold maxLen at hm
  go_enter Tryd.func45, Tryd.ntmps45
  by_cases h : left < rows.length
  · go_wp2
    go_ret
    exact SzPost.no rfl
  · go_wp2
    go_loop [1, 5] (fun l i => ∃ k : Nat, k ≤ rows.length ∧ i = .int .i64 k ∧ (rows.length : Int) + (lens rows k : Nat) ≤ left ∧ l = .int .i64 (left - rows.length - (lens rows k : Nat))) (fun _ i => rows.length - (intOf i).toNat)
    case atStart => exact ⟨0, Nat.zero_le _, rfl, by simp [lens_zero]; omega, by simp [lens_zero]⟩
    case round =>
      obtain ⟨k, hk, rfl, hl, rfl⟩ := hrel
      by_cases hlt : k < rows.length
      · obtain ⟨b, o, u, rfl, hc, hu⟩ := hrow k hlt
        obtain ⟨a', C', rfl, h2, h3, _, _⟩ := hu
        unfold maxLen at h3
        have hs := lens_succ hlt
        by_cases hlast : left - rows.length - (lens rows k : Nat) < rows[k].length
        · go_wp2_with (go_at_call 73; refine (szIntS_any _ _ _ _ _ (by unfold maxLen; omega) (by omega) (by omega)).mono ?_; rw [if_pos hlast]; rintro e w' ⟨rfl, rfl⟩)
          go_ret
          exact SzPost.no rfl
        · go_wp2_with (go_at_call 73; refine (szIntS_any _ _ _ _ _ (by unfold maxLen; omega) (by omega) (by omega)).mono ?_; rw [if_neg hlast]; rintro e w' ⟨rfl, rfl⟩)
          go_round
          case rel => exact ⟨k + 1, by omega, by go_num, by omega, by rw [hs]; go_num⟩
          case measure => simp [intOf]; omega
      · obtain rfl : k = rows.length := by omega
        have ha := lens_all rows
        go_wp2
        go_ret
        exact SzPost.yes (by omega) (by omega) (by omega) rfl

set_option maxHeartbeats 1000000 in
theorem szOrder_any (v : Value) (rows : Rows2) (left : Int) (w : World) (hv : RowsAt w v rows) (h0 : 0 ≤ left) (h1 : left ≤ 1048576) :
    Calls Tryd.prog 13 #[.agg #[v], .int .i64 left] w (SzPost rows left (Below w.heap.size w)) := by
  go_enter Tryd.func13, Tryd.ntmps13
  have hv' := hv.below ((Below.refl _ w).alloc (Nat.le_refl _) (.cells #[v] 24))
  obtain ⟨a, C, rfl, _⟩ := hv
  go_wp2_with (go_at_call 45; refine (szIntSS_any _ _ _ _ hv' h0 h1).mono ?_; rintro e w' ⟨⟨r, hr, rfl⟩, rfl⟩)
  all_goals
    go_ret
    rcases hr with rfl | ⟨h2, h3, h4⟩
    · first | omega | exact SzPost.no ((Below.refl _ w).alloc (Nat.le_refl _) _)
    · first | omega | exact SzPost.yes h2 h3 h4 ((Below.refl _ w).alloc (Nat.le_refl _) _)
theorem below_drew (w : World) (B : Nat) : Below B w w.drew := ⟨rfl, rfl, rfl, Nat.le_refl _, fun _ _ => rfl⟩
theorem maxLen_ge {n : Nat} (h : n ≤ 1048576) : n ≤ maxLen := by unfold maxLen; omega
end Go.Proofs.YtkjncgnclogfeaaDoor

/- What a law holds while it looks at an answer that is an order: the argument, the model's answer, the copy that the program had, the program's answer, all in memory of their own. Plain facts on worlds. -/
namespace Go.Proofs.YtkjncgnclogfeaaDoor
open Go.RowKit Go.Deep

/-- The rows res as an order in memory of its own, and the Boolean t. -/
def OrderP (res : Rows2) (t : Bool) (w : World) (e : Ending) (w' : World) : Prop :=
  ∃ v, e = .returned (.tuple #[.agg #[v], .bool t]) ∧ OwnR 3 39 w' v res.length (rowsF res) w.heap.size w'.heap.size ∧ Below w.heap.size w w'


/-- The places of the answers. -/
structure Places where
  lo1 : Nat
  hi1 : Nat
  lo2 : Nat
  hi2 : Nat
  lo3 : Nat
  hi3 : Nat

structure Lw (w : World) (v : Value) (rows res : Rows2) (p : Places) (v1 v2 v3 : Value) (R2 R3 : Nat → List Int) (W : World) : Prop where
  base : RowsAt w v rows
  tab0 : Tab w
  arg : W.cell? ⟨w.heap.size, 0, none⟩ = some v
  below : Below w.heap.size w W
  b4 : Boxed W p.hi1 26 v1
  o4 : OwnR 3 39 W v1 res.length (rowsF res) p.lo1 p.hi1
  b6 : Boxed W p.hi2 26 v2
  o6 : OwnR 3 39 W v2 rows.length R2 p.lo2 p.hi2
  b7 : Boxed W p.hi3 26 v3
  o7 : OwnR 3 39 W v3 res.length R3 p.lo3 p.hi3
  ord : w.heap.size < p.lo1 ∧ p.lo1 ≤ p.hi1 ∧ p.hi1 < p.lo2 ∧ p.lo2 ≤ p.hi2 ∧ p.hi2 < p.lo3 ∧ p.lo3 ≤ p.hi3 ∧ p.hi3 < W.heap.size

section
variable {w : World} {v v1 v2 v3 : Value} {rows res : Rows2} {p : Places} {R2 R3 : Nat → List Int} {W W' : World}
theorem Lw.rowsAt (h : Lw w v rows res p v1 v2 v3 R2 R3 W) : RowsAt W v rows := h.base.below h.below
theorem Lw.tab (h : Lw w v rows res p v1 v2 v3 R2 R3 W) : Tab W := h.tab0.below h.below
theorem Lw.step (h : Lw w v rows res p v1 v2 v3 R2 R3 W) (hb : Below W.heap.size W W') : Lw w v rows res p v1 v2 v3 R2 R3 W' := by
  have ho := h.ord
  have hz := hb.size
  exact ⟨h.base, h.tab0, (hb.cell (p := ⟨w.heap.size, 0, none⟩) (cell_lt h.arg)).trans h.arg, h.below.trans (hb.mono h.below.size), (hb.block _ h.b4.lt).trans h.b4, h.o4.below hb (by omega), (hb.block _ h.b6.lt).trans h.b6, h.o6.below hb (by omega), (hb.block _ h.b7.lt).trans h.b7, h.o7.below hb (by omega), by omega⟩
/-- The copy has been marked. -/
theorem Lw.mark2 {R2' : Nat → List Int} (h : Lw w v rows res p v1 v2 v3 R2 R3 W) (ht : Turned p.lo2 p.hi2 W W') (ho : OwnR 3 39 W' v2 rows.length R2' p.lo2 p.hi2) : Lw w v rows res p v1 v2 v3 R2' R3 W' := by
  have hd := h.ord
  have hz := ht.below.size
  have hbl : ∀ b, b < p.lo2 → W'.heap[b]? = W.heap[b]? := fun b hb => ht.below.block b hb
  have hab : ∀ b, p.hi2 ≤ b → b < W.heap.size → W'.heap[b]? = W.heap[b]? := ht.above
  exact ⟨h.base, h.tab0, (World.cell?_of_block (hbl w.heap.size (by omega))).trans h.arg, h.below.trans (ht.below.mono (by omega)), (hbl _ (by omega)).trans h.b4, h.o4.kept fun b _ hb => hbl b (by omega), (hab _ (by omega) (by omega)).trans h.b6, ho, (hab _ (by omega) (by omega)).trans h.b7, h.o7.kept fun b hb hb' => hab b (by omega) (by omega), by omega⟩
/-- The program's answer has been marked. -/
theorem Lw.mark3 {R3' : Nat → List Int} (h : Lw w v rows res p v1 v2 v3 R2 R3 W) (ht : Turned p.lo3 p.hi3 W W') (ho : OwnR 3 39 W' v3 res.length R3' p.lo3 p.hi3) : Lw w v rows res p v1 v2 v3 R2 R3' W' := by
  have hd := h.ord
  have hz := ht.below.size
  have hbl : ∀ b, b < p.lo3 → W'.heap[b]? = W.heap[b]? := fun b hb => ht.below.block b hb
  have hab : ∀ b, p.hi3 ≤ b → b < W.heap.size → W'.heap[b]? = W.heap[b]? := ht.above
  exact ⟨h.base, h.tab0, (World.cell?_of_block (hbl w.heap.size (by omega))).trans h.arg, h.below.trans (ht.below.mono (by omega)), (hbl _ (by omega)).trans h.b4, h.o4.kept fun b _ hb => hbl b (by omega), (hbl _ (by omega)).trans h.b6, h.o6.kept fun b _ hb => hbl b (by omega), (hab _ (by omega) (by omega)).trans h.b7, ho, by omega⟩
end
end Go.Proofs.YtkjncgnclogfeaaDoor

/- The program's DomainSum. -/
namespace Go.Proofs.YtkjncgnclogfeaaDoor
open Go.RowKit Go.Deep Go.Shelf

/-- What domainOf answers: a pointer, and whether there is one. -/
def DomP (rows : Rows2) (w : World) (e : Ending) (w' : World) : Prop :=
  (∃ q, e = .returned (.tuple #[.pointer q, .bool (domB rows)]) ∧ (domB rows = true → ∃ p, q = some ⟨p, 0, none⟩ ∧ GridAt w' p (gridF rows))) ∧ Below w.heap.size w w'
theorem domainOf_any (v : Value) (rows : Rows2) (w : World) (hv : RowsAt w v rows) (hT : Tab w) (hn : bulk rows ≤ 1048576) :
    Calls Tryd.prog 49 #[.agg #[v]] w (DomP rows w) := by
  cases h : domB rows with
  | false =>
    refine (domainOf_no v rows w hv hT hn h).mono fun e w' hp => ?_
    obtain ⟨rfl, hb⟩ := hp
    exact ⟨⟨_, by rw [h], fun h' => by rw [h] at h'; cases h'⟩, hb⟩
  | true =>
    refine (domainOf_yes v rows w hv hT hn h).mono fun e w' hp => ?_
    obtain ⟨⟨p, rfl, _, hg⟩, hb⟩ := hp
    exact ⟨⟨_, by rw [h], fun _ => ⟨p, rfl, hg⟩⟩, hb⟩

/-- Two orders in their variables, and the result's. -/
structure TwoR (w : World) (v v' : Value) (rows rows' : Rows2) (W : World) : Prop where
  r0 : RowsAt W v rows
  r1 : RowsAt W v' rows'
  c0 : W.cell? ⟨w.heap.size, 0, none⟩ = some v
  c1 : W.cell? ⟨w.heap.size + 1, 0, none⟩ = some v'
  res : Boxed W (w.heap.size + 2) 26 (.slice none 0 0)
  below : Below w.heap.size w W
theorem TwoR.step {w : World} {v v' : Value} {rows rows' : Rows2} {W W' : World} (h : TwoR w v v' rows rows' W) (hb : Below W.heap.size W W') : TwoR w v v' rows rows' W' :=
  ⟨h.r0.below hb, h.r1.below hb, (hb.cell (p := ⟨w.heap.size, 0, none⟩) (cell_lt h.c0)).trans h.c0, (hb.cell (p := ⟨w.heap.size + 1, 0, none⟩) (cell_lt h.c1)).trans h.c1, (hb.block _ h.res.lt).trans h.res, h.below.trans (hb.mono h.below.size)⟩
theorem TwoR.start (w : World) {v v' : Value} {rows rows' : Rows2} (hv : RowsAt w v rows) (hv' : RowsAt w v' rows') :
    TwoR w v v' rows rows' (((w.alloc (.cells #[v] 26)).alloc (.cells #[v'] 26)).alloc (.cells #[.slice none 0 0] 26)) := by
  have s1 : (w.alloc (.cells #[v] 26)).heap.size = w.heap.size + 1 := World.size_alloc _ _
  have s2 : ((w.alloc (.cells #[v] 26)).alloc (.cells #[v'] 26)).heap.size = w.heap.size + 2 := by rw [World.size_alloc, s1]
  have b1 := ((Below.refl w.heap.size w).alloc (Nat.le_refl _) (.cells #[v] 26)).alloc (by rw [s1]; omega) (.cells #[v'] 26)
  have b2 := b1.alloc (by rw [s2]; omega) (.cells #[.slice none 0 0] 26)
  have x0 := ((Boxed.new w 26 v).alloc (.cells #[v'] 26)).alloc (.cells #[.slice none 0 0] 26)
  have x1 := (Boxed.new (w.alloc (.cells #[v] 26)) 26 v').alloc (.cells #[.slice none 0 0] 26)
  have x2 := Boxed.new ((w.alloc (.cells #[v] 26)).alloc (.cells #[v'] 26)) 26 (.slice none 0 0)
  rw [s1] at x1
  rw [s2] at x2
  exact ⟨hv.below b2, hv'.below b2, x0.cell, x1.cell, x2, b2⟩

theorem sum_refl {rows rows' : Rows2} (hok : Ok rows) (hok' : Ok rows') : ∀ q, q < 1 + rows.length + rows'.length → sumB (gridF rows) (gridF rows') rows.length q q = true := fun q hq => by
  unfold sumB
  by_cases h0 : q = 0
  · rw [if_pos h0]
  · rw [if_neg h0, if_neg h0]
    by_cases h1 : q ≤ rows.length
    · rw [if_pos h1, if_pos h1]
      exact hok.own (q - 1) (by omega)
    · rw [if_neg h1, if_neg h1]
      exact hok'.own (q - 1 - rows.length) (by omega)
/-- What DomainSum answers. -/
noncomputable def sumOk (rows rows' : Rows2) : Bool := domB rows && domB rows' && decide (1 + rows.length + rows'.length ≤ 200)
noncomputable def sumRow (rows rows' : Rows2) (q : Nat) : List Int := bRow (sumB (gridF rows) (gridF rows') rows.length) q (1 + rows.length + rows'.length)
noncomputable def sumL (rows rows' : Rows2) : Rows2 := if sumOk rows rows' = true then (List.range (1 + rows.length + rows'.length)).map (sumRow rows rows') else []
theorem sumL_yes {rows rows' : Rows2} (h : sumOk rows rows' = true) : (sumL rows rows').length = 1 + rows.length + rows'.length ∧ ∀ q, q < 1 + rows.length + rows'.length → rowsF (sumL rows rows') q = sumRow rows rows' q := by
  unfold sumL
  rw [if_pos h]
  refine ⟨by simp, fun q hq => ?_⟩
  rw [rowsF_lt (by simpa using hq)]
  simp
theorem sumL_no {rows rows' : Rows2} (h : sumOk rows rows' = false) : sumL rows rows' = [] := by unfold sumL; rw [if_neg (by rw [h]; simp)]
/-- No order. -/
theorem orderP_no {xs : Rows2} {t : Bool} {w W : World} {b : Nat} (hx : xs = []) (ht : t = false) (hb : Below w.heap.size w W) (hl : w.heap.size ≤ b) (u : Value) : OrderP xs t w (.returned (.tuple #[.agg #[.slice none 0 0], .bool false])) (W.setCell ⟨b, 0, none⟩ u) := by
  subst hx ht
  exact ⟨_, rfl, OwnR.nil _ _ _ _ _ _, hb.setCell (p := ⟨b, 0, none⟩) hl _⟩

set_option maxRecDepth 100000 in
set_option maxHeartbeats 8000000 in
theorem implSum_any (v v' : Value) (rows rows' : Rows2) (w : World) (hv : RowsAt w v rows) (hv' : RowsAt w v' rows') (hT : Tab w) (hn : bulk rows ≤ 1048576) (hn' : bulk rows' ≤ 1048576) :
    Calls Tryd.prog 23 #[.agg #[v], .agg #[v']] w (OrderP (sumL rows rows') (sumOk rows rows') w) := by
  have h0 := TwoR.start w hv hv'
  have T0 := Lib.hid (hT.below h0.below)
  have hd1 := domainOf_any _ rows _ h0.r0 T0.out hn
  have hc0 := h0.c0
  obtain ⟨A, C, rfl, _⟩ := hv
  obtain ⟨A', C', rfl, _⟩ := hv'
  have H0 := Lib.hid h0
  have HTA := Lib.hid (fun W (h : Below w.heap.size w W) => hT.below h)
  clear h0 hT
  cases h1 : domB rows with
  | false =>
    have HE := Lib.hid (show sumOk rows rows' = false by unfold sumOk; rw [h1]; rfl)
    go_enter Tryd.func23, Tryd.ntmps23
    go_wp2_with (first | (go_at_call 49; refine hd1.mono ?_; clear hd1; rintro e w1 ⟨⟨q, rfl, _⟩, hb1⟩; rw [h1]; have H1 := Lib.hid (H0.out.step hb1); have hc1 := H1.out.c1; have hd2 := domainOf_any _ rows' _ H1.out.r1 (T0.out.below hb1) hn'; clear hb1 hc0) | (go_at_call 49; refine hd2.mono ?_; clear hd2; rintro e w2 ⟨⟨q', rfl, _⟩, hb2⟩; have H2 := Lib.hid (H1.out.step hb2); have hres := H2.out.res.cell; have hfr := H2.out.res.frozen; clear hb2 hc1))
    have hc9 := World.cell?_setCell_same' w2 ⟨w.heap.size + 2, 0, none⟩ (.slice none 0 0) (by rw [hres]; rfl)
    refine bodyPost_ret (v := .tuple #[.agg #[.slice none 0 0], .bool false]) (by simp [results, Tryd.results23, go_sem, hc9]) rfl ?_
    exact orderP_no (sumL_no HE.out) HE.out H2.out.below (by omega) _
  | true =>
    cases h2 : domB rows' with
    | false =>
      have HE := Lib.hid (show sumOk rows rows' = false by unfold sumOk; rw [h1, h2]; rfl)
      go_enter Tryd.func23, Tryd.ntmps23
      go_wp2_with (first | (go_at_call 49; refine hd1.mono ?_; clear hd1; rintro e w1 ⟨⟨q, rfl, _⟩, hb1⟩; rw [h1]; have H1 := Lib.hid (H0.out.step hb1); have hc1 := H1.out.c1; have hd2 := domainOf_any _ rows' _ H1.out.r1 (T0.out.below hb1) hn'; clear hb1 hc0) | (go_at_call 49; refine hd2.mono ?_; clear hd2; rintro e w2 ⟨⟨q', rfl, _⟩, hb2⟩; rw [h2]; have H2 := Lib.hid (H1.out.step hb2); have hres := H2.out.res.cell; have hfr := H2.out.res.frozen; clear hb2 hc1))
      have hc9 := World.cell?_setCell_same' w2 ⟨w.heap.size + 2, 0, none⟩ (.slice none 0 0) (by rw [hres]; rfl)
      refine bodyPost_ret (v := .tuple #[.agg #[.slice none 0 0], .bool false]) (by simp [results, Tryd.results23, go_sem, hc9]) rfl ?_
      exact orderP_no (sumL_no HE.out) HE.out H2.out.below (by omega) _
    | true =>
      have hok := ok_of_valid (show validB rows = true by have h := h1; unfold domB at h; rw [Bool.and_eq_true] at h; exact h.1)
      have hok' := ok_of_valid (show validB rows' = true by have h := h2; unfold domB at h; rw [Bool.and_eq_true] at h; exact h.1)
      have hbuilt : ∃ N R t, (∀ p p' W, GridAt W p (gridF rows) → GridAt W p' (gridF rows') → Tab W → Calls Tryd.prog 50 #[.iface 65 (.agg #[.iface 54 (.pointer (some ⟨p, 0, none⟩)), .iface 54 (.pointer (some ⟨p', 0, none⟩))])] W (RowsG N R t W)) ∧ sumOk rows rows' = t ∧ (sumL rows rows').length = N ∧ ∀ q, q < N → R q = rowsF (sumL rows rows') q := by
        by_cases hl : 1 + rows.length + rows'.length ≤ 200
        · have hE : sumOk rows rows' = true := by unfold sumOk; rw [h1, h2, decide_eq_true hl]; rfl
          obtain ⟨e1, e2⟩ := sumL_yes hE
          exact ⟨1 + rows.length + rows'.length, _, true, fun p p' W hg hg' hTW => sumBuilt_yes p p' rows.length rows'.length (gridF rows) (gridF rows') _ W hg hg' hok.gridN hok'.gridN rfl hl hTW (sum_refl hok hok'), hE, e1, fun q hq => (e2 q hq).symm⟩
        · have hE : sumOk rows rows' = false := by unfold sumOk; rw [decide_eq_false hl, Bool.and_false]
          exact ⟨0, _, false, fun p p' W hg hg' _ => sumBuilt_no p p' rows.length rows'.length (gridF rows) (gridF rows') _ W hg hg' hok.gridN hok'.gridN rfl (by omega), hE, by rw [sumL_no hE]; rfl, fun q hq => absurd hq (Nat.not_lt_zero _)⟩
      obtain ⟨N, R, t, hC, hE, e1, e2⟩ := hbuilt
      have HC := Lib.hid hC
      have HE := Lib.hid hE
      have HL := Lib.hid e1
      have HR := Lib.hid e2
      clear hok hok' hC hE e1 e2
      go_enter Tryd.func23, Tryd.ntmps23
      go_wp2_with (first | (go_at_call 49; refine hd1.mono ?_; clear hd1; rintro e w1 ⟨⟨q, rfl, hq⟩, hb1⟩; obtain ⟨p, rfl, hg⟩ := hq h1; rw [h1]; have G1 := Lib.hid hg; have H1 := Lib.hid (H0.out.step hb1); have hc1 := H1.out.c1; have hd2 := domainOf_any _ rows' _ H1.out.r1 (T0.out.below hb1) hn'; clear hb1 hc0 hg hq) | (go_at_call 49; refine hd2.mono ?_; clear hd2; rintro e w2 ⟨⟨q', rfl, hq'⟩, hb2⟩; obtain ⟨p', rfl, hg'⟩ := hq' h2; rw [h2]; have G2 := Lib.hid (G1.out.below hb2 G1.out.lt); have G2' := Lib.hid hg'; have H2 := Lib.hid (H1.out.step hb2); clear hb2 hc1 hg' hq') | (go_at_call 50; refine (HC.out p p' _ G2.out G2'.out (HTA.out _ H2.out.below)).mono ?_; rintro e w3 ⟨u, rfl, hu, hb3⟩; obtain ⟨a3, C3, rfl⟩ := hu.form; have HU := Lib.hid hu; have H3 := Lib.hid (H2.out.step hb3); have hres := H3.out.res.cell; have hfr := H3.out.res.frozen; clear hu hb3))
      have hc9 := World.cell?_setCell_same' w3 ⟨w.heap.size + 2, 0, none⟩ (.slice a3 N C3) (by rw [hres]; rfl)
      have hw2 : w.heap.size + 2 < w2.heap.size := H2.out.res.lt
      refine bodyPost_ret (v := .tuple #[.agg #[.slice a3 N C3], .bool t]) (by simp [results, Tryd.results23, go_sem, hc9]) rfl ?_
      refine ⟨_, by rw [HE.out], ?_, H3.out.below.setCell (p := ⟨w.heap.size + 2, 0, none⟩) (by show w.heap.size ≤ w.heap.size + 2; omega) _⟩
      rw [HL.out, size_setCell]
      exact ((HU.out.kept fun b hb _ => Below.heap_setCell _ _ _ b (show b ≠ w.heap.size + 2 by omega)).wider (by omega) (Nat.le_refl _)).congr fun q hq => HR.out q hq
end Go.Proofs.YtkjncgnclogfeaaDoor

/- The walks of rowsOf and built at lift. -/
namespace Go.Proofs.YtkjncgnclogfeaaDoor
open Go.RowKit Go.Deep Go.Shelf

set_option maxRecDepth 100000 in
set_option maxHeartbeats 4000000 in
theorem liftRows_no (p n : Nat) (g : Nat → Nat) (N : Nat) (w : World) (hg : GridAt w p g) (hn : GridN g n) (hN : N = n + 1) (hN2 : 200 < N) :
    Calls Tryd.prog 81 #[.iface 61 (.agg #[.iface 54 (.pointer (some ⟨p, 0, none⟩))])] w (RowsNo w) := by
  have hcall := fun W (hk : (fun W => GridAt W p g) W) => liftSize_any p n g W hk hn
  have hc1 := hcall _ hg
  rw [← hN] at hc1
  have hmS := run_lift_size
  have hN3 : (200 : Int) < (N : Int) := by omega
  clear hg hn hN hcall
  go_enter Tryd.func81, Tryd.ntmps81
  go_wp2_with (go_at_call 139; refine hc1.mono ?_; clear hc1; rintro e w1 ⟨rfl, hb1⟩; have HB1 := Lib.hid hb1; clear hb1)
  go_ret2
  exact ⟨rfl, HB1.out⟩
theorem liftBuilt_no (p n : Nat) (g : Nat → Nat) (N : Nat) (w : World) (hg : GridAt w p g) (hn : GridN g n) (hN : N = n + 1) (hN2 : 200 < N) :
    Calls Tryd.prog 50 #[.iface 61 (.agg #[.iface 54 (.pointer (some ⟨p, 0, none⟩))])] w (RowsG 0 (fun _ => []) false w) :=
  built_no _ w fun W hB => liftRows_no p n g N W (hg.below hB hg.lt) hn hN hN2

set_option maxRecDepth 100000 in
set_option maxHeartbeats 4000000 in
theorem liftRows_yes (p n : Nat) (g : Nat → Nat) (N : Nat) (w : World) (hg : GridAt w p g) (hn : GridN g n) (hN : N = n + 1) (hN2 : N ≤ 200) :
    Calls Tryd.prog 81 #[.iface 61 (.agg #[.iface 54 (.pointer (some ⟨p, 0, none⟩))])] w (RowsYes (madeG (liftB g) N) w) := by
  have hK : Stays w (fun W => GridAt W p g) := Stays.grid hg.lt
  have hcall0 := fun W (hk : (fun W => GridAt W p g) W) => liftSize_any p n g W hk hn
  have hk0 : (fun W => GridAt W p g) w := hg
  have hcall := hcall0 _ hk0
  rw [← hN] at hcall
  have HBC := Lib.hid (fun (a b : Nat) (ha : a < N) (hb : b < N) W (hk : (fun W => GridAt W p g) W) => liftBelow_any p g a b a b W hk rfl rfl (by have := hn.le; omega) (by have := hn.le; omega))
  have hmS := run_lift_size
  have hmB := run_lift_below
  have hN3 : ¬ ((200 : Int) < (N : Int)) := by omega
  have hz := (zero_of_info zeroGrid).1
  have HK0 := Lib.hid hk0
  have HKK := Lib.hid hK
  clear hg hn hN hcall0 hk0 hK
  go_enter Tryd.func81, Tryd.ntmps81
  go_wp2_with (go_at_call 139; refine hcall.mono ?_; clear hcall; rintro e w1 ⟨rfl, hb1⟩; have HK1 := Lib.hid (HKK.out _ _ hb1 HK0.out); have HB1 := Lib.hid hb1; clear hb1)
  have bA := (Below.refl w1.heap.size w1).alloc (Nat.le_refl _) (.cells (gridCells fun _ => 0) 83)
  have HST := Lib.hid (show RwG w (fun W => GridAt W p g) w1.heap.size (bG (liftB g) N 0 0) (w1.alloc (.cells (gridCells fun _ => 0) 83)) from
    ⟨HKK.out _ _ (bA.mono HB1.out.size) HK1.out, by rw [bG_start]; exact store_new w1, HB1.out.size, HB1.out.trans (bA.mono HB1.out.size)⟩)
  clear bA hz
  go_loopw [6, 13] (fun _ av wr => ∃ a : Nat, a ≤ N ∧ av = .int .i64 a ∧ RwG w (fun W => GridAt W p g) w1.heap.size (bG (liftB g) N a 0) wr) (fun _ av _ => N - (intOf av).toNat)
  case atStart => exact ⟨0, Nat.zero_le _, rfl, HST.out⟩
  case round =>
    obtain ⟨a, ha, rfl, ht⟩ := hrel
    have HT := Lib.hid ht
    clear HST ht
    by_cases hal : a < N
    · go_wp2
      go_loopw [7, 17] (fun _ bv wr => ∃ b : Nat, b ≤ N ∧ bv = .int .i64 b ∧ RwG w (fun W => GridAt W p g) w1.heap.size (bG (liftB g) N a b) wr) (fun _ bv _ => N - (intOf bv).toNat)
      case atStart => exact ⟨0, Nat.zero_le _, rfl, HT.out⟩
      case round =>
        obtain ⟨b, hb, rfl, ht⟩ := hrel
        have HK := Lib.hid ht
        clear ht HT
        by_cases hbl : b < N
        · have hcall := HBC.out a b hal hbl wr HK.out.kept
          cases hbit : (liftB g) a b with
          | false =>
            rw [hbit] at hcall
            have HE := Lib.hid (bG_no (N := N) hbit)
            clear hbit
            go_wp2_with (go_at_call 138; refine hcall.mono ?_; clear hcall; rintro e w2 ⟨rfl, hb2⟩; have H2 := Lib.hid (HK.out.step HKK.out hb2); clear hb2)
            go_roundw
            case rel => exact ⟨b + 1, by omega, by go_num, by rw [HE.out]; exact H2.out⟩
            case measure => simp [intOf]; omega
          | true =>
            rw [hbit] at hcall
            have HE := Lib.hid (bG_yes (N := N) hbit)
            have ha200 : a < 200 := by omega
            have hb200 : b < 200 := by omega
            have ha0 : (0 : Int) ≤ (a : Int) := by omega
            have ha1 : (a : Int) < 200 := by omega
            clear hbit
            go_wp2_with (first | (go_at_call 138; refine hcall.mono ?_; clear hcall; rintro e w2 ⟨rfl, hb2⟩; have H2 := Lib.hid (HK.out.step HKK.out hb2); have hadd := addTo_any w1.heap.size a b (b : Int) _ w2 H2.out.grid ha200 hb200 rfl; clear hb2) | (go_at_call 88; refine hadd.mono ?_; clear hadd; rintro e w3 ⟨rfl, m, rfl⟩))
            go_roundw
            case rel => exact ⟨b + 1, by omega, by go_num, by rw [HE.out]; exact H2.out.put HKK.out ha200 hb200 m⟩
            case measure => simp [intOf]; omega
        · obtain rfl : b = N := by omega
          go_wp2
          go_roundw
          case rel => exact ⟨a + 1, by omega, by go_num, by rw [← bG_next]; exact HK.out⟩
          case measure => simp [intOf]; omega
    · obtain rfl : a = N := by omega
      go_wp2
      go_ret2
      exact ⟨⟨w1.heap.size, rfl, HT.out.own, HT.out.grid⟩, HT.out.below⟩
theorem liftBuilt_yes (p n : Nat) (g : Nat → Nat) (N : Nat) (w : World) (hg : GridAt w p g) (hn : GridN g n) (hN : N = n + 1) (hN2 : N ≤ 200) (hT : Tab w) (hrf : ∀ q, q < N → (liftB g) q q = true) :
    Calls Tryd.prog 50 #[.iface 61 (.agg #[.iface 54 (.pointer (some ⟨p, 0, none⟩))])] w (RowsG N (fun q => bRow (liftB g) q N) true w) :=
  built_yes _ (liftB g) N w hT hN2 hrf fun W hB => liftRows_yes p n g N W (hg.below hB hg.lt) hn hN hN2
end Go.Proofs.YtkjncgnclogfeaaDoor

/- The program's DomainLift. -/
namespace Go.Proofs.YtkjncgnclogfeaaDoor
open Go.RowKit Go.Deep Go.Shelf

/-- What row a holds when b elements have been looked at. -/
def liftRow (g : Nat → Nat) (a b : Nat) : List Int := ((List.range b).filter fun k => liftB g a k).map fun k : Nat => (k : Int)
theorem liftRow_len (g : Nat → Nat) (a b : Nat) : (liftRow g a b).length ≤ b := by
  unfold liftRow
  rw [List.length_map]
  have := List.length_filter_le (fun k => liftB g a k) (List.range b)
  simpa using this
theorem lift_refl {rows : Rows2} (hok : Ok rows) : ∀ q, q < rows.length + 1 → liftB (gridF rows) q q = true := fun q hq => by
  unfold liftB
  by_cases h0 : q = 0
  · rw [decide_eq_true h0]; rfl
  · rw [hok.own (q - 1) (by omega), decide_eq_true (show 0 < q by omega)]
    simp
/-- What DomainLift answers. -/
noncomputable def liftOk (rows : Rows2) : Bool := domB rows && decide (rows.length < 200)
noncomputable def liftL (rows : Rows2) : Rows2 := if liftOk rows = true then (List.range (rows.length + 1)).map fun q => liftRow (gridF rows) q (rows.length + 1) else []
theorem liftL_yes {rows : Rows2} (h : liftOk rows = true) : (liftL rows).length = rows.length + 1 ∧ ∀ q, q < rows.length + 1 → rowsF (liftL rows) q = liftRow (gridF rows) q (rows.length + 1) := by
  unfold liftL
  rw [if_pos h]
  refine ⟨by simp, fun q hq => ?_⟩
  rw [rowsF_lt (by simpa using hq)]
  simp
theorem liftL_no {rows : Rows2} (h : liftOk rows = false) : liftL rows = [] := by unfold liftL; rw [if_neg (by rw [h]; simp)]

set_option maxRecDepth 100000 in
set_option maxHeartbeats 4000000 in
theorem implLift_any (v : Value) (rows : Rows2) (w : World) (hv : RowsAt w v rows) (hT : Tab w) (hn : bulk rows ≤ 1048576) :
    Calls Tryd.prog 16 #[.agg #[v]] w (OrderP (liftL rows) (liftOk rows) w) := by
  have b0 := ((Below.refl w.heap.size w).alloc (Nat.le_refl _) (.cells #[v] 26)).alloc (by simp) (.cells #[.slice none 0 0] 26)
  have hbx := Boxed.new (w.alloc (.cells #[v] 26)) 26 (.slice none 0 0)
  rw [World.size_alloc] at hbx
  have hc0 : ((w.alloc (.cells #[v] 26)).alloc (.cells #[.slice none 0 0] 26)).cell? ⟨w.heap.size, 0, none⟩ = some v := cell_alloc_any (one_new w v 26) _
  have hv0 := hv.below b0
  have hT0 := hT.below b0
  obtain ⟨A, C, rfl, _⟩ := hv
  have HBX := Lib.hid hbx
  have HB := Lib.hid b0
  clear b0 hbx
  cases hd : domB rows with
  | false =>
    have hcall := domainOf_no _ rows _ hv0 hT0 hn hd
    have HE := Lib.hid (show liftOk rows = false by unfold liftOk; rw [hd]; rfl)
    clear hd hv0 hT0
    go_enter Tryd.func16, Tryd.ntmps16
    go_wp2_with (go_at_call 49; refine hcall.mono ?_; clear hcall; rintro e w1 ⟨rfl, hb1⟩; have HBX1 : Hid (Boxed w1 (w.heap.size + 1) 26 (.slice none 0 0)) := Lib.hid ((hb1.block _ HBX.out.lt).trans HBX.out); have HB1 := Lib.hid (HB.out.trans (hb1.mono HB.out.size)); have hres := HBX1.out.cell; have hfr := HBX1.out.frozen; clear hb1)
    have hc9 := World.cell?_setCell_same' w1 ⟨w.heap.size + 1, 0, none⟩ (.slice none 0 0) (by rw [hres]; rfl)
    refine bodyPost_ret (v := .tuple #[.agg #[.slice none 0 0], .bool false]) (by simp [results, Tryd.results16, go_sem, hc9]) rfl ?_
    refine ⟨_, by rw [HE.out], ?_, HB1.out.setCell (p := ⟨w.heap.size + 1, 0, none⟩) (Nat.le_succ _) _⟩
    rw [liftL_no HE.out]
    exact OwnR.nil _ _ _ _ _ _
  | true =>
    have hok := ok_of_valid (show validB rows = true by have h := hd; unfold domB at h; rw [Bool.and_eq_true] at h; exact h.1)
    have hcall := domainOf_yes _ rows _ hv0 hT0 hn hd
    by_cases hl : rows.length < 200
    · have HE := Lib.hid (show liftOk rows = true by unfold liftOk; rw [hd, decide_eq_true hl]; rfl)
      have HC := Lib.hid (fun p W hg hB => liftBuilt_yes p rows.length (gridF rows) (rows.length + 1) W hg hok.gridN rfl (by omega) (hT.below hB) (lift_refl hok))
      clear hd hv0 hT0 hok
      go_enter Tryd.func16, Tryd.ntmps16
      go_wp2_with (first | (go_at_call 49; refine hcall.mono ?_; clear hcall; rintro e w1 ⟨⟨p, rfl, _, hg⟩, hb1⟩; have HG := Lib.hid hg; have HBX1 : Hid (Boxed w1 (w.heap.size + 1) 26 (.slice none 0 0)) := Lib.hid ((hb1.block _ HBX.out.lt).trans HBX.out); have HB1 := Lib.hid (HB.out.trans (hb1.mono HB.out.size)); clear hb1 hg) | (go_at_call 50; refine (HC.out p _ HG.out HB1.out).mono ?_; rintro e w2 ⟨u, rfl, hu, hb2⟩; obtain ⟨a2, C2, rfl⟩ := hu.form; have HU := Lib.hid hu; have HBX2 : Hid (Boxed w2 (w.heap.size + 1) 26 (.slice none 0 0)) := Lib.hid ((hb2.block _ HBX1.out.lt).trans HBX1.out); have HB2 := Lib.hid (HB1.out.trans (hb2.mono HB1.out.size)); have hres := HBX2.out.cell; have hfr := HBX2.out.frozen; clear hu hb2))
      have hc9 := World.cell?_setCell_same' w2 ⟨w.heap.size + 1, 0, none⟩ (.slice a2 (rows.length + 1) C2) (by rw [hres]; rfl)
      have hw1 : w.heap.size + 1 < w1.heap.size := HBX1.out.lt
      refine bodyPost_ret (v := .tuple #[.agg #[.slice a2 (rows.length + 1) C2], .bool true]) (by simp [results, Tryd.results16, go_sem, hc9]) rfl ?_
      obtain ⟨e1, e2⟩ := liftL_yes HE.out
      refine ⟨_, by rw [HE.out], ?_, HB2.out.setCell (p := ⟨w.heap.size + 1, 0, none⟩) (Nat.le_succ _) _⟩
      rw [e1, size_setCell]
      exact ((HU.out.kept fun b hb _ => Below.heap_setCell _ _ _ b (show b ≠ w.heap.size + 1 by omega)).wider (by omega) (Nat.le_refl _)).congr fun q hq => (e2 q hq).symm
    · have HE := Lib.hid (show liftOk rows = false by unfold liftOk; rw [hd, decide_eq_false hl]; rfl)
      have HC := Lib.hid (fun p W hg (_ : Below w.heap.size w W) => liftBuilt_no p rows.length (gridF rows) (rows.length + 1) W hg hok.gridN rfl (by omega))
      clear hd hv0 hT0 hok
      go_enter Tryd.func16, Tryd.ntmps16
      go_wp2_with (first | (go_at_call 49; refine hcall.mono ?_; clear hcall; rintro e w1 ⟨⟨p, rfl, _, hg⟩, hb1⟩; have HG := Lib.hid hg; have HBX1 : Hid (Boxed w1 (w.heap.size + 1) 26 (.slice none 0 0)) := Lib.hid ((hb1.block _ HBX.out.lt).trans HBX.out); have HB1 := Lib.hid (HB.out.trans (hb1.mono HB.out.size)); clear hb1 hg) | (go_at_call 50; refine (HC.out p _ HG.out HB1.out).mono ?_; rintro e w2 ⟨u, rfl, hu, hb2⟩; obtain ⟨a2, C2, rfl⟩ := hu.form; have HU := Lib.hid hu; have HBX2 : Hid (Boxed w2 (w.heap.size + 1) 26 (.slice none 0 0)) := Lib.hid ((hb2.block _ HBX1.out.lt).trans HBX1.out); have HB2 := Lib.hid (HB1.out.trans (hb2.mono HB1.out.size)); have hres := HBX2.out.cell; have hfr := HBX2.out.frozen; clear hu hb2))
      have hc9 := World.cell?_setCell_same' w2 ⟨w.heap.size + 1, 0, none⟩ (.slice a2 0 C2) (by rw [hres]; rfl)
      have hw1 : w.heap.size + 1 < w1.heap.size := HBX1.out.lt
      refine bodyPost_ret (v := .tuple #[.agg #[.slice a2 0 C2], .bool false]) (by simp [results, Tryd.results16, go_sem, hc9]) rfl ?_
      refine ⟨_, by rw [HE.out], ?_, HB2.out.setCell (p := ⟨w.heap.size + 1, 0, none⟩) (Nat.le_succ _) _⟩
      rw [liftL_no HE.out, size_setCell]
      exact ((HU.out.kept fun b hb _ => Below.heap_setCell _ _ _ b (show b ≠ w.heap.size + 1 by omega)).wider (by omega) (Nat.le_refl _)).congr fun q hq => absurd hq (Nat.not_lt_zero _)
end Go.Proofs.YtkjncgnclogfeaaDoor

/- The model's FunStrict. -/
namespace Go.Proofs.YtkjncgnclogfeaaDoor
open Go.RowKit Go.Deep

theorem leastI_nat {rows : Rows2} (h : 0 ≤ leastI rows) : ∃ m : Nat, m < rows.length ∧ leastI rows = m := by
  unfold leastI at h ⊢
  cases e : (List.range rows.length).find? (fun i => (rows.getD i []).length == rows.length) with
  | none => rw [e] at h; exact absurd h (by decide)
  | some m => exact ⟨m, List.mem_range.1 (List.mem_of_find?_eq_some e), rfl⟩
theorem dom_least {rows : Rows2} (h : domB rows = true) : ∃ m : Nat, m < rows.length ∧ leastI rows = m := by
  unfold domB domI at h
  rw [Bool.and_eq_true, Bool.and_eq_true, decide_eq_true_iff] at h
  exact leastI_nat h.2.1
theorem monoB_parts {rows rows' : Rows2} {f : List Int} (h : monoB rows rows' f = true) : domB rows = true ∧ domB rows' = true ∧ Mono rows rows' f := by
  classical
  unfold monoB monoI at h
  rw [Bool.and_eq_true, Bool.and_eq_true, decide_eq_true_iff] at h
  exact ⟨h.1.1, h.1.2, h.2⟩

/-- A monotone function that has the least element for the least one. -/
noncomputable def strictB (rows rows' : Rows2) (f : List Int) : Bool := monoB rows rows' f && decide (f.getD (leastI rows).toNat 0 = leastI rows')

end Go.Proofs.YtkjncgnclogfeaaDoor

/- The model's steps (l3Step), and its FunStep. -/
namespace Go.Proofs.YtkjncgnclogfeaaDoor
open Go.RowKit Go.Deep

theorem owns_weaker {W : World} {lo lo' n : Nat} {t : TypeId} {v : Value} {xs : List Value} (h : W.ownsRow lo t 1 v n xs) (hl : lo' ≤ lo) : W.ownsRow lo' t 1 v n xs := by
  obtain ⟨h1, h2 | ⟨g, c, cur, rfl, h3, h4⟩⟩ := h
  · exact ⟨h1, .inl h2⟩
  · exact ⟨h1, .inr ⟨g, c, cur, rfl, by omega, h4⟩⟩
/-- The numbers xs, in memory of their own. -/
def OwnQ (xs : List Int) (w : World) (e : Ending) (w' : World) : Prop :=
  ∃ v, e = .returned v ∧ OwnI 3 w' v xs w.heap.size w'.heap.size ∧ Below w.heap.size w w'

/-- What the step of a to b has for element i. -/
def stepAt (rows rows' : Rows2) (a : Nat) (b : Int) (i : Nat) : Int := if upB rows a (i : Int) = true then b else leastI rows'
def stepN (rows rows' : Rows2) (a : Nat) (b : Int) (k : Nat) : List Int := (List.range k).map (stepAt rows rows' a b)
theorem stepN_length (rows rows' : Rows2) (a : Nat) (b : Int) (k : Nat) : (stepN rows rows' a b k).length = k := by unfold stepN; simp
theorem stepN_succ (rows rows' : Rows2) (a : Nat) (b : Int) (k : Nat) : stepN rows rows' a b (k + 1) = stepN rows rows' a b k ++ [stepAt rows rows' a b k] := by
  unfold stepN
  rw [List.range_succ, List.map_append]
  rfl

/-- Behind an append to a list of the call's own. -/
theorem Two.grow {w : World} {v v' : Value} {rows rows' : Rows2} {W w1 : World} (h : Two w v v' rows rows' W) (hv : RowsAt w v rows) (hv' : RowsAt w v' rows') {u : Value} {n : Nat} {xs : List Value} (ho : W.ownsRow (w.heap.size + 2) 3 1 u n xs) (o : Obj) {row : Option Nat} (hg : (W.alloc o).grownBy w1 row) (hr : row = u.ownBlock := by rfl) : Two w v v' rows rows' w1 := by
  subst hr
  have hb1 : w.heap.size + 1 < W.heap.size := cell_lt h.c1
  have hb : Below (w.heap.size + 2) W w1 := ((Below.refl (w.heap.size + 2) W).alloc (by omega) o).grown hg (by rw [World.size_alloc]; omega) (fun b e => (ho.lt b e).1)
  have hw : Below w.heap.size w w1 := h.below.trans (hb.mono (by omega))
  exact ⟨(hb.cell (p := ⟨w.heap.size, 0, none⟩) (by show w.heap.size < w.heap.size + 2; omega)).trans h.c0, (hb.cell (p := ⟨w.heap.size + 1, 0, none⟩) (by show w.heap.size + 1 < w.heap.size + 2; omega)).trans h.c1, hv.below hw, hv'.below hw, hw⟩

/-- What FunStep answers. -/
noncomputable def stepOk (rows rows' : Rows2) (a b : Int) : Bool := domB rows && domB rows' && (decide (0 ≤ a ∧ a < rows.length) && decide (0 ≤ b ∧ b < rows'.length))
noncomputable def stepL (rows rows' : Rows2) (a b : Int) : List Int := if stepOk rows rows' a b = true then stepN rows rows' a.toNat b rows.length else []
/-- A list in memory of its own, and a Boolean. -/
def OwnB (xs : List Int) (t : Bool) (w : World) (e : Ending) (w' : World) : Prop :=
  ∃ v, e = .returned (.tuple #[v, .bool t]) ∧ OwnI 3 w' v xs w.heap.size w'.heap.size ∧ Below w.heap.size w w'
theorem stepOk_no1 {rows rows' : Rows2} {a b : Int} (h : domB rows = false) : stepOk rows rows' a b = false := by unfold stepOk; rw [h]; rfl
theorem stepOk_no2 {rows rows' : Rows2} {a b : Int} (h : domB rows' = false) : stepOk rows rows' a b = false := by unfold stepOk; rw [h]; simp
theorem stepOk_no3 {rows rows' : Rows2} {a b : Int} (h : ¬ (0 ≤ a ∧ a < rows.length)) : stepOk rows rows' a b = false := by unfold stepOk; rw [decide_eq_false h]; simp
theorem stepOk_no4 {rows rows' : Rows2} {a b : Int} (h : ¬ (0 ≤ b ∧ b < rows'.length)) : stepOk rows rows' a b = false := by unfold stepOk; rw [decide_eq_false h]; simp

/-- An empty list made by the call. -/
theorem ownB_none {rows rows' : Rows2} {a b : Int} {w W : World} (h : stepOk rows rows' a b = false) (hb : Below w.heap.size w W) : OwnB (stepL rows rows' a b) (stepOk rows rows' a b) w (.returned (.tuple #[.slice (some ⟨W.heap.size, 0, none⟩) 0 0, .bool false])) (W.alloc (.cells #[] 3)) := by
  unfold stepL
  rw [h]
  exact ⟨_, rfl, ⟨fun _ h => (by cases h), .inr ⟨W.heap.size, 0, fun _ => undef, rfl, Nat.le_refl _, Nat.zero_le _, hb.size, by rw [World.size_alloc]; omega, World.rowIs_alloc W #[] 3 (fun _ => undef) (fun _ h => absurd h (Nat.not_lt_zero _)), fun _ h => absurd h (Nat.not_lt_zero _)⟩⟩, hb.alloc hb.size _⟩

end Go.Proofs.YtkjncgnclogfeaaDoor

/- The model's l2Moved: a list, each number moved on. -/
namespace Go.Proofs.YtkjncgnclogfeaaDoor
open Go.RowKit Go.Deep

/-- The first k numbers, each moved on. -/
def movedN (xs : List Int) (by' : Int) (k : Nat) : List Int := (xs.take k).map fun x => x + by'
theorem movedN_length {xs : List Int} {y : Int} {k : Nat} (h : k ≤ xs.length) : (movedN xs y k).length = k := by unfold movedN; simp; omega
theorem movedN_succ {xs : List Int} {y : Int} {k : Nat} (h : k < xs.length) : movedN xs y (k + 1) = movedN xs y k ++ [xs[k] + y] := by
  unfold movedN
  rw [List.take_succ_eq_append_getElem h, List.map_append]
  rfl

set_option maxRecDepth 100000 in
set_option maxHeartbeats 4000000 in
theorem l2Moved_any (v : Value) (xs : List Int) (y : Int) (w : World) (hv : IntsAt w v xs) (hn : xs.length ≤ 1048576) (hr : ∀ x ∈ xs, 0 ≤ x + y ∧ x + y ≤ 1048576) :
    Calls Tryd.prog 78 #[v, .int .i64 y] w (OwnQ (movedN xs y xs.length) w) := by
  have HFA := Lib.hid (fun W (h : Below w.heap.size w W) => (by
    obtain ⟨a, C, e, h1, h2, h3, h4⟩ := hv
    exact ⟨a, C, e, h1, h2, h3, fun i hi => by
      obtain ⟨b, o, ea, hc⟩ := h4 i hi
      exact ⟨b, o, ea, (h.cell (p := ⟨b, o + i, none⟩) (cell_lt hc)).trans hc⟩⟩ : IntsAt W v xs))
  obtain ⟨A, C, rfl, hC, hm, _⟩ := hv
  unfold maxLen at hm
  obtain ⟨i0, hi0, hz0, hz1, hz2⟩ := info_parts infoInt
  have HO := Lib.hid (World.ownsRow_made (e := 3) (size := 1) w #[] 0 (base := w.heap.size) (Nat.le_refl _) (Nat.zero_le _) (by simp))
  have HB0 := Lib.hid ((Below.refl w.heap.size w).alloc (Nat.le_refl _) (.cells #[] 3))
  have HR := Lib.hid hr
  clear hr
  go_enter Tryd.func78, Tryd.ntmps78
  go_wp2
  go_loopw [5, 6] (fun ov kv wr => ∃ k : Nat, k ≤ xs.length ∧ kv = .int .i64 k ∧ wr.ownsRow w.heap.size 3 1 ov (movedN xs y k).length (cellsI (movedN xs y k)) ∧ Below w.heap.size w wr) (fun _ kv _ => xs.length - (intOf kv).toNat)
  case atStart => exact ⟨0, Nat.zero_le _, rfl, by unfold movedN; simpa using HO.out, HB0.out⟩
  case round =>
    obtain ⟨k, hk, rfl, hown, hB⟩ := hrel
    have HOWN := Lib.hid hown
    have HB := Lib.hid hB
    have hcl := Nat.le_of_eq (movedN_length (y := y) hk)
    clear hown hB HO HB0
    by_cases hlt : k < xs.length
    · obtain ⟨b1, o1, rfl, hcf⟩ := (HFA.out wr HB.out).get hlt
      have hr := HR.out _ (List.getElem_mem hlt)
      have hwr : IntKind.i64.wrap (xs[k] + y) = xs[k] + y := IntWalk.i64_in _ (by omega)
      have hbz := HB.out.size
      clear hr
      go_wp2_with (at_builtin; refine wpList_append_own _ rfl _ _ 39 rfl w.heap.size 3 i0 (.int .i64 0) 1 8 Tryd.underlying39 hi0 hz0 hz1 hz2 rfl (by decide) _ _ _ rfl (HOWN.out.alloc _) ⟨wr.heap.size, 0, none⟩ 1 1 [.int .i64 (xs[k] + y)] rfl rfl (cell_one_new _ _ _) (by simp [Value.oneCell']) (by unfold maxLen; omega) (by omega) (by simp; omega) ?_; intro v' w1 hown' hgrow _)
      go_roundw
      case rel =>
        refine ⟨k + 1, by omega, by go_num, ?_, (HB.out.alloc HB.out.size _).grown hgrow (by rw [World.size_alloc]; omega) (fun b e => (HOWN.out.lt b e).1)⟩
        rw [movedN_succ hlt, List.length_append, show cellsI (movedN xs y k ++ [xs[k] + y]) = cellsI (movedN xs y k) ++ [.int .i64 (xs[k] + y)] by simp]
        exact hown'
      case measure => simp [intOf]; omega
    · obtain rfl : k = xs.length := by omega
      go_wp2
      go_ret
      refine ⟨_, rfl, OwnI.of_owns HOWN.out ?_ (fun b hb => (HOWN.out.lt b hb).2), HB.out⟩
      intro z hz
      unfold movedN at hz
      rw [List.take_length] at hz
      obtain ⟨x, hx, rfl⟩ := List.mem_map.1 hz
      exact wf_int (HR.out x hx).1 (HR.out x hx).2
end Go.Proofs.YtkjncgnclogfeaaDoor

/- The rows of a lift, in numbers: the first one full, the others moved on by one. -/
namespace Go.Proofs.YtkjncgnclogfeaaDoor
open Go.RowKit Go.Deep

theorem liftRow_first (g : Nat → Nat) (N : Nat) : liftRow g 0 N = (List.range N).map fun k : Nat => (k : Int) := by
  unfold liftRow
  rw [List.filter_eq_self.2 (fun k _ => by unfold liftB; rfl)]
theorem filter_short {p : Nat → Bool} {n m : Nat} (h : ∀ k, p k = true → k < n) (hm : n ≤ m) : (List.range m).filter p = (List.range n).filter p := by
  obtain ⟨d, rfl⟩ : ∃ d, m = n + d := ⟨m - n, by omega⟩
  rw [List.range_add, List.filter_append]
  have e : ((List.range d).map fun x => n + x).filter p = [] := by
    rw [List.filter_eq_nil_iff]
    intro x hx hp
    obtain ⟨y, _, rfl⟩ := List.mem_map.1 hx
    have := h _ hp
    omega
  rw [e, List.append_nil]
theorem liftRow_next {rows : Rows2} (h : Ok rows) {i : Nat} (hi : i < rows.length) : liftRow (gridF rows) (i + 1) (rows.length + 1) = movedN rows[i] 1 rows[i].length := by
  unfold liftRow movedN
  rw [List.take_length, h.elems hi, List.range_succ_eq_map, List.filter_cons]
  have e0 : liftB (gridF rows) (i + 1) 0 = false := by unfold liftB; simp
  rw [e0, if_neg (by simp), List.filter_map]
  have e1 : (List.range rows.length).filter ((fun k => liftB (gridF rows) (i + 1) k) ∘ Nat.succ) = (List.range rows.length).filter (fun k => (gridF rows i).testBit k) := by
    congr 1
  have e2 : elems (gridF rows i) = (List.range rows.length).filter (fun k => (gridF rows i).testBit k) := by
    unfold elems
    exact filter_short (fun k hk => (h.bit_lt hk).2) (by have := h.len.2; omega)
  rw [e1, e2, List.map_map, List.map_map]
  apply List.map_congr_left
  intro k _
  simp
end Go.Proofs.YtkjncgnclogfeaaDoor

/- An order that is built row by row in a variable of its own: 'out.Up = append(out.Up, row)'. Plain facts on worlds: no function is walked here. -/
namespace Go.Proofs.YtkjncgnclogfeaaDoor
open Go.RowKit Go.Deep

/-- Rows are as they were if no block turns but one of another type. -/
theorem OwnR.kept_but {t u : TypeId} {W W' : World} {v : Value} {n : Nat} {R : Nat → List Int} {lo hi z : Nat} {tz : TypeId} {x : Value} (h : OwnR t u W v n R lo hi) (hz : Boxed W z tz x) (h1 : tz ≠ t) (h2 : tz ≠ u) (hb : ∀ b, b ≠ z → W'.heap[b]? = W.heap[b]?) : OwnR t u W' v n R lo hi := by
  obtain h | ⟨g, C, f, rfl, k1, k2, k3, k4, k5, k6, k7⟩ := h
  · exact .inl h
  · have hg : g ≠ z := fun e => by
      obtain ⟨c, k5, _⟩ := k5
      unfold Boxed at hz
      rw [e, hz] at k5
      injection k5 with k5
      injection k5 with _ k5
      exact h2 k5
    refine .inr ⟨g, C, f, rfl, k1, k2, k3, k4, k5.of_block (hb g hg), fun j hj => (k6 j hj).kept fun b e => hb b fun e2 => ?_, k7⟩
    obtain ⟨_, _, c, k8⟩ := (k6 j hj).block b e
    unfold Boxed at hz
    rw [e2, hz] at k8
    injection k8 with k8
    injection k8 with _ k8
    exact h1 k8

theorem ord_ne_int : (26 : TypeId) ≠ 3 := by decide
theorem ord_ne_ints : (26 : TypeId) ≠ 39 := by decide
theorem int_ne_ints : (3 : TypeId) ≠ 39 := by decide

/-- While an order is built in the box Z: n rows R are there. -/
structure Out (w0 : World) (Z : Nat) (u : Value) (n : Nat) (R : Nat → List Int) (W : World) : Prop where
  below : Below w0.heap.size w0 W
  out : Boxed W Z 26 u
  own : OwnR 3 39 W u n R w0.heap.size W.heap.size
  place : w0.heap.size ≤ Z
theorem Out.step {w0 : World} {Z : Nat} {u : Value} {n : Nat} {R : Nat → List Int} {W W' : World} (h : Out w0 Z u n R W) (hb : Below W.heap.size W W') : Out w0 Z u n R W' :=
  ⟨h.below.trans (hb.mono h.below.size), (hb.block _ h.out.lt).trans h.out, (h.own.below hb (Nat.le_refl _)).wider (Nat.le_refl _) hb.size, h.place⟩
theorem Out.congr {w0 : World} {Z : Nat} {u : Value} {n : Nat} {R R' : Nat → List Int} {W : World} (h : Out w0 Z u n R W) (he : ∀ j, j < n → R j = R' j) : Out w0 Z u n R' W :=
  ⟨h.below, h.out, h.own.congr he, h.place⟩

theorem Out.pushed {w0 : World} {Z : Nat} {u : Value} {n : Nat} {R : Nat → List Int} {wr w2 w3 : World} {f : Nat → Value} {v' u2 : Value} {xs : List Int} {o : Obj} (h : Out w0 Z u n R wr)
    (h0 : wr.ownsRow w0.heap.size 39 1 u n ((List.range n).map f)) (h1 : ∀ j, j < n → OwnI 3 wr (f j) (R j) w0.heap.size wr.heap.size) (h2 : ∀ i j, i < j → j < n → (f i).ownBlock = none ∨ (f i).ownBlock ≠ (f j).ownBlock)
    (hb : Below wr.heap.size wr w2) (hn : OwnI 3 w2 v' xs wr.heap.size w2.heap.size) (hown : w3.ownsRow w0.heap.size 39 1 u2 (n + 1) ((List.range n).map f ++ [v'])) (hgrow : (w2.alloc o).grownBy w3 u.ownBlock) :
    Out w0 Z u2 (n + 1) (fun q => if q = n then xs else R q) (w3.setCell ⟨Z, 0, none⟩ u2) := by
  have hs := h.step hb
  have hw := h.below.size
  have hz := hb.size
  obtain ⟨k1, k2, k3, k4, k5⟩ := Boxed.appended (tmp := o) hs.out ord_ne_ints (owns_below h0 hb) hs.below.size h.place hown hgrow
  have h1' : ∀ j, j < n → OwnI 3 w2 (f j) (R j) w0.heap.size wr.heap.size := fun j hj => (h1 j hj).kept fun b hb' => hb.block b ((h1 j hj).block b hb').2.1
  have hp := OwnR.pushed (W := w2) (mid := wr.heap.size) (lo := w0.heap.size) int_ne_ints (owns_below h0 hb) h1' h2 hw hz hn ((Below.refl _ w2).alloc (Nat.le_refl _) o) hown hgrow
  refine ⟨hs.below.trans k5, k2, ?_, h.place⟩
  rw [size_setCell]
  exact hp.kept_but k1 ord_ne_int ord_ne_ints fun b hb' => Below.heap_setCell _ _ _ b hb'
/-- The variable's cell, behind the append. -/
theorem Out.far {w0 : World} {Z : Nat} {u : Value} {n : Nat} {R : Nat → List Int} {w2 w3 : World} {xs : List Value} {o : Obj} (h : Out w0 Z u n R w2) (h0 : w2.ownsRow w0.heap.size 39 1 u n xs) (hgrow : (w2.alloc o).grownBy w3 u.ownBlock) : Boxed w3 Z 26 u :=
  (h.out.alloc o).kept hgrow (Boxed.not_row h.out ord_ne_ints h0)
/-- An order of one row, right behind. -/
theorem Out.one {w0 W : World} {v : Value} {xs : List Int} (hb : Below w0.heap.size w0 W) (hv : OwnI 3 W v xs w0.heap.size W.heap.size) :
    Out w0 (W.heap.size + 1) (.slice (some ⟨W.heap.size, 0, none⟩) 1 1) 1 (fun _ => xs) ((W.alloc (.cells #[v] 39)).alloc (.cells #[.slice (some ⟨W.heap.size, 0, none⟩) 1 1] 26)) := by
  have s1 : (W.alloc (.cells #[v] 39)).heap.size = W.heap.size + 1 := World.size_alloc _ _
  have hz := hb.size
  have b1 := (Below.refl W.heap.size W).alloc (Nat.le_refl _) (.cells #[v] 39)
  have b2 := b1.alloc (by rw [s1]; omega) (.cells #[.slice (some ⟨W.heap.size, 0, none⟩) 1 1] 26)
  have r1 := World.rowIs_alloc W #[v] 39 (fun _ => v) (fun i hi => by
    obtain rfl : i = 0 := by simpa using hi
    rfl)
  have bx := Boxed.new (W.alloc (.cells #[v] 39)) 26 (.slice (some ⟨W.heap.size, 0, none⟩) 1 1)
  rw [s1] at bx
  refine ⟨hb.trans (b2.mono hz), bx, .inr ⟨W.heap.size, 1, fun _ => v, rfl, Nat.le_refl _, by decide, hz, by rw [World.size_alloc, s1]; omega, r1.alloc _, fun j _ => ?_, fun i j hij hj => absurd hj (by omega)⟩, by omega⟩
  exact (hv.wider (Nat.le_refl _) (by rw [World.size_alloc, s1]; omega)).kept fun b e => b2.block b (hv.block b e).2.1
end Go.Proofs.YtkjncgnclogfeaaDoor

/- An order that is new; no row of it yet. Plain facts on worlds: no function is walked here. -/
namespace Go.Proofs.YtkjncgnclogfeaaDoor
open Go.RowKit Go.Deep

/-- An order in new memory. -/
def OrdNew (N : Nat) (R : Nat → List Int) (w : World) (e : Ending) (w' : World) : Prop :=
  ∃ v, e = .returned (.agg #[v]) ∧ OwnR 3 39 w' v N R w.heap.size w'.heap.size ∧ Below w.heap.size w w'
/-- No row yet. -/
theorem Out.empty (w0 : World) (R : Nat → List Int) : Out w0 (w0.heap.size + 1) (.slice (some ⟨w0.heap.size, 0, none⟩) 0 0) 0 R ((w0.alloc (.cells #[] 39)).alloc (.cells #[.slice (some ⟨w0.heap.size, 0, none⟩) 0 0] 26)) := by
  have s1 : (w0.alloc (.cells #[] 39)).heap.size = w0.heap.size + 1 := World.size_alloc _ _
  have b1 := (Below.refl w0.heap.size w0).alloc (Nat.le_refl _) (.cells #[] 39)
  have b2 := b1.alloc (by rw [s1]; omega) (.cells #[.slice (some ⟨w0.heap.size, 0, none⟩) 0 0] 26)
  have r1 := World.rowIs_alloc w0 #[] 39 (fun _ => undef) (fun _ h => absurd h (Nat.not_lt_zero _))
  have bx := Boxed.new (w0.alloc (.cells #[] 39)) 26 (.slice (some ⟨w0.heap.size, 0, none⟩) 0 0)
  rw [s1] at bx
  exact ⟨b2, bx, .inr ⟨w0.heap.size, 0, _, rfl, Nat.le_refl _, Nat.zero_le _, Nat.le_refl _, by rw [World.size_alloc, s1]; omega, r1.alloc _, fun j hj => absurd hj (Nat.not_lt_zero _), fun i j _ hj => absurd hj (Nat.not_lt_zero _)⟩, Nat.le_succ _⟩
end Go.Proofs.YtkjncgnclogfeaaDoor

/- The model's DomainLift. -/
namespace Go.Proofs.YtkjncgnclogfeaaDoor
open Go.RowKit Go.Deep

/-- The numbers from 0 on. -/
def uptoL (k : Nat) : List Int := (List.range k).map fun i : Nat => (i : Int)
theorem uptoL_length (k : Nat) : (uptoL k).length = k := by unfold uptoL; simp
theorem uptoL_succ (k : Nat) : uptoL (k + 1) = uptoL k ++ [(k : Int)] := by
  unfold uptoL
  rw [List.range_succ, List.map_append]
  rfl
theorem uptoL_wf {k : Nat} (h : k ≤ 1048576) : ∀ x ∈ uptoL k, (Lit.int .i64 x).wf = true := by
  intro x hx
  unfold uptoL at hx
  obtain ⟨i, hi, rfl⟩ := List.mem_map.1 hx
  rw [List.mem_range] at hi
  exact wf_int (by omega) (by omega)

/-- The rows of the lift, in the model's words. -/
def liftR (rows : Rows2) (q : Nat) : List Int := if q = 0 then uptoL (rows.length + 1) else movedN (rowsF rows (q - 1)) 1 (rowsF rows (q - 1)).length

set_option maxRecDepth 100000 in
set_option maxHeartbeats 4000000 in
theorem l2Lift_any (v : Value) (rows : Rows2) (w : World) (hv : RowsAt w v rows) (hok : Ok rows) (hl : rows.length < 200) :
    Calls Tryd.prog 47 #[.agg #[v]] w (OrdNew (rows.length + 1) (liftR rows) w) := by
  have s1 : (w.alloc (.cells #[v] 26)).heap.size = w.heap.size + 1 := World.size_alloc _ _
  have b2 := ((Below.refl w.heap.size w).alloc (Nat.le_refl _) (.cells #[v] 26)).alloc (by rw [s1]; omega) (.cells #[.slice none 0 0] 26)
  have hbA := (Boxed.new w 26 v).alloc (.cells #[.slice none 0 0] 26)
  have hbR := Boxed.new (w.alloc (.cells #[v] 26)) 26 (.slice none 0 0)
  have s2 : ((w.alloc (.cells #[v] 26)).alloc (.cells #[.slice none 0 0] 26)).heap.size = w.heap.size + 2 := by rw [World.size_alloc, s1]
  rw [s1] at hbR
  have HV := Lib.hid (fun W (h : Below w.heap.size w W) => hv.below h)
  have hlen := hok.len
  obtain ⟨A, C, rfl, hC, hm, hx⟩ := hv
  unfold maxLen at hm
  obtain ⟨b0, o0, _, rfl, _, _⟩ := hx 0 (by omega)
  generalize hw0 : ((w.alloc (.cells #[.slice (some ⟨b0, o0, none⟩) rows.length C] 26)).alloc (.cells #[.slice none 0 0] 26)) = w0 at b2 hbA hbR s2
  obtain ⟨i0, hi0, hz0, hz1, hz2⟩ := info_parts infoInt
  obtain ⟨j0, hj0, hy0, hy1, hy2⟩ := info_parts infoInts
  have hO := World.ownsRow_made (e := 3) (size := 1) w0 #[] 0 (base := w0.heap.size) (Nat.le_refl _) (Nat.zero_le _) (by simp)
  rw [s2] at hO
  have HO := Lib.hid hO
  have HB1 := Lib.hid ((Below.refl w0.heap.size w0).alloc (Nat.le_refl _) (.cells #[] 3))
  have B2 := Lib.hid b2
  have BA := Lib.hid hbA
  have BR := Lib.hid hbR
  have HOK := Lib.hid hok
  have S2 := Lib.hid s2
  clear b2 hbA hbR hok hx hO s1
  go_enter Tryd.func47, Tryd.ntmps47
  go_upto_region 2 with fail
  clear hw0 s2
  go_wp2
  go_loopw [3, 4] (fun fv iv wr => ∃ k : Nat, k ≤ rows.length + 1 ∧ iv = .int .i64 k ∧ wr.ownsRow (w.heap.size + 2) 3 1 fv (uptoL k).length (cellsI (uptoL k)) ∧ Below w0.heap.size w0 wr) (fun _ iv _ => rows.length + 1 - (intOf iv).toNat)
  case atStart => exact ⟨0, Nat.zero_le _, rfl, HO.out, HB1.out⟩
  case round =>
    obtain ⟨k, hk, rfl, hown, hB⟩ := hrel
    have HOWN := Lib.hid hown
    have HB := Lib.hid hB
    have hcl := Nat.le_of_eq (uptoL_length k)
    have hcell := (hB.cell (p := ⟨w.heap.size, 0, none⟩) (cell_lt BA.out.cell)).trans BA.out.cell
    have hbz : w.heap.size + 2 ≤ wr.heap.size := by have := hB.size; have := S2.out; omega
    clear hown hB HO HB1
    by_cases hlt : k < rows.length + 1
    · have hlz : (k : Int) ≤ (rows.length : Int) := by omega
      go_wp2_with (at_builtin; refine wpList_append_own _ rfl _ _ 39 rfl (w.heap.size + 2) 3 i0 (.int .i64 0) 1 8 Tryd.underlying39 hi0 hz0 hz1 hz2 rfl (by decide) _ _ _ rfl (HOWN.out.alloc _) ⟨wr.heap.size, 0, none⟩ 1 1 [.int .i64 (k : Int)] rfl rfl (cell_one_new _ _ _) (by simp [Value.oneCell']) (by unfold maxLen; omega) (by omega) (by simp; omega) ?_; intro v' w1 hown' hgrow _)
      go_roundw
      case rel =>
        refine ⟨k + 1, by omega, by go_num, ?_, (HB.out.alloc HB.out.size _).grown hgrow (by rw [World.size_alloc, S2.out]; omega) (fun b e => by rw [S2.out]; exact (HOWN.out.lt b e).1)⟩
        rw [uptoL_succ, List.length_append, show cellsI (uptoL k ++ [(k : Int)]) = cellsI (uptoL k) ++ [.int .i64 (k : Int)] by simp]
        exact hown'
      case measure => simp [intOf]; omega
    · obtain rfl : k = rows.length + 1 := by omega
      have hlz : ¬ (((rows.length + 1 : Nat) : Int) ≤ (rows.length : Int)) := by omega
      have hoi : OwnI 3 wr u3 (uptoL (rows.length + 1)) w0.heap.size wr.heap.size := by
        rw [S2.out]
        exact OwnI.of_owns HOWN.out (uptoL_wf (by omega)) (fun b hb => (HOWN.out.lt b hb).2)
      obtain ⟨a3, C3, rfl⟩ := hoi.form
      have HST := Lib.hid ((Out.one HB.out hoi).congr (R' := liftR rows) (fun j hj => by
        obtain rfl : j = 0 := by omega
        unfold liftR
        rw [if_pos rfl]))
      clear hoi HOWN
      have hzz : wr.heap.size + 1 < ((wr.alloc (.cells #[.slice a3 (uptoL (rows.length + 1)).length C3] 39)).alloc (.cells #[.slice (some ⟨wr.heap.size, 0, none⟩) 1 1] 26)).heap.size := by rw [World.size_alloc, World.size_alloc]; omega
      generalize hZ : wr.heap.size + 1 = Z at HST hzz
      go_wp2
      generalize ((wr.alloc (.cells #[.slice a3 (uptoL (rows.length + 1)).length C3] 39)).alloc (.cells #[.slice (some ⟨wr.heap.size, 0, none⟩) 1 1] 26)) = wq at HST hzz ⊢
      clear hcell hZ
      go_loopw [6] (fun iv wx => ∃ (i : Nat) (u : Value), i ≤ rows.length ∧ iv = .int .i64 i ∧ Out w0 Z u (i + 1) (liftR rows) wx) (fun iv _ => rows.length - (intOf iv).toNat)
      case atStart => exact ⟨0, _, Nat.zero_le _, rfl, HST.out⟩
      case round =>
        obtain ⟨i, u, hi, rfl, ho⟩ := hrel
        have HK := Lib.hid ho
        obtain ⟨au, Cu, rfl⟩ := ho.own.form
        have hcell := (ho.below.cell (p := ⟨w.heap.size, 0, none⟩) (cell_lt BA.out.cell)).trans BA.out.cell
        have hout := ho.out.cell
        have hZ2 := ho.out.lt
        have hb0 := ho.below.size
        have HA := Lib.hid ho.place
        clear HST hzz
        by_cases hlt : i < rows.length
        · have hltz : (i : Int) < (rows.length : Int) := by omega
          obtain ⟨A1, C1, hC1, hm1, hc, hyy⟩ := (HV.out wr (B2.out.trans (ho.below.mono (by rw [S2.out]; omega)))).row hlt
          have hran := (HOK.out.asc i hlt).2
          have hrow : IntsAt wr.drew (.slice A1 rows[i].length C1) rows[i] := ⟨A1, C1, rfl, hC1, hm1, fun x hx => by have := hran x hx; exact wf_int (by omega) (by omega), hyy⟩
          have hrl : rows[i].length ≤ 1048576 := by have := bulk_row hlt; have := HOK.out.bulk; omega
          have HMV := Lib.hid (l2Moved_any _ rows[i] 1 wr.drew hrow hrl (fun x hx => by have := hran x hx; omega))
          have hml : (movedN rows[i] 1 rows[i].length).length = rows[i].length := movedN_length (Nat.le_refl _)
          obtain ⟨f, hf0, hf1, hf2⟩ := ho.own.owns
          have HF0 := Lib.hid hf0
          have HF1 := Lib.hid hf1
          have HF2 := Lib.hid hf2
          have HLR := Lib.hid (show liftR rows (i + 1) = movedN rows[i] 1 rows[i].length by
            unfold liftR
            rw [if_neg (by omega), Nat.add_sub_cancel, rowsF_lt hlt])
          clear ho hf0 hf1 hf2 hyy hran hrow
          go_upto_region 10 with fail
          go_region_law (first | (go_simp; go_at_call 78; refine HMV.out.mono ?_; clear HMV; rintro e w2 ⟨v', rfl, hv', hb2⟩; obtain ⟨a2, C2, rfl⟩ := hv'.form; rw [hml] at hv'; have HV2 := Lib.hid hv'; have HB2 := Lib.hid ((below_drew wr _).trans hb2); have HK2 := Lib.hid (HK.out.step HB2.out); have HW0 := Lib.hid (owns_below HF0.out HB2.out); have hout2 := HK2.out.out.cell; have hout3 := cell_alloc_any hout2; have hz22 : wr.heap.size ≤ w2.heap.size := hb2.size; clear hv' hb2) | (refine step_append_lies _ (by rfl) _ _ 22 (by rfl) w0.heap.size 39 j0 (.slice none 0 0) 1 24 Tryd.underlying22 hj0 hy0 hy1 hy2 rfl (by decide) (.slice au (i + 1) Cu) (i + 1) ((List.range (i + 1)).map f) (by rfl) (HW0.out.alloc _) ⟨w2.heap.size, 0, none⟩ 1 1 [.slice a2 rows[i].length C2] (by rfl) rfl (World.news_of_block (heap_alloc_new w2 _)) (by simp [Value.oneCell']) (by omega) (by unfold maxLen; omega) (by omega) (by simp; omega) (w2.heap.size + 1) (by simp) ?_; intro g' cap' w3 hown hgrow hat hlt'; have hfar := HK2.out.far HW0.out hgrow; have hc3 := hfar.cell; have hf3 := hfar.frozen; clear hfar))
          all_goals
            go_wp2
            go_roundw
            case rel =>
              refine ⟨i + 1, _, by omega, by go_num, (HK.out.pushed HF0.out HF1.out HF2.out HB2.out HV2.out hown ⟨hgrow.os, hgrow.tape, hgrow.output, hgrow.size, hgrow.block⟩).congr fun j hj => ?_⟩
              by_cases e : j = i + 1
              · subst e; rw [if_pos rfl, HLR.out]
              · rw [if_neg e]
            case measure => simp [intOf]; omega
        · obtain rfl : i = rows.length := by omega
          have hres := (ho.below.block _ (by rw [S2.out]; omega)).trans BR.out
          have hrc := Boxed.cell hres
          have hrf := Boxed.frozen hres
          have hc9 := World.cell?_setCell_same' wr ⟨w.heap.size + 1, 0, none⟩ (.slice au (rows.length + 1) Cu) (by rw [hrc]; rfl)
          clear ho hres
          go_wp2
          refine bodyPost_ret (v := .agg #[.slice au (rows.length + 1) Cu]) (by simp [results, Tryd.results47, go_sem, hc9]) rfl ?_
          refine ⟨_, rfl, ?_, (B2.out.trans (HK.out.below.mono (by rw [S2.out]; omega))).setCell (p := ⟨w.heap.size + 1, 0, none⟩) (Nat.le_succ _) _⟩
          rw [size_setCell]
          exact (HK.out.own.kept fun b hb _ => Below.heap_setCell _ _ _ b (show b ≠ w.heap.size + 1 by have := S2.out; omega)).wider (by rw [S2.out]; omega) (Nat.le_refl _)

theorem liftR_row {rows : Rows2} (h : Ok rows) {q : Nat} (hq : q < rows.length + 1) : liftR rows q = liftRow (gridF rows) q (rows.length + 1) := by
  unfold liftR
  by_cases e : q = 0
  · subst e
    rw [if_pos rfl, liftRow_first]
    rfl
  · rw [if_neg e, rowsF_lt (by omega)]
    have := liftRow_next h (i := q - 1) (by omega)
    rw [show q - 1 + 1 = q by omega] at this
    exact this.symm

set_option maxRecDepth 100000 in
set_option maxHeartbeats 4000000 in
theorem specLift_any (v : Value) (rows : Rows2) (w : World) (hv : RowsAt w v rows) (hn : bulk rows ≤ 1048576) :
    Calls Tryd.prog 14 #[.agg #[v]] w (OrderP (liftL rows) (liftOk rows) w) := by
  have hH := (Held.start w 26 hv).below ((Below.refl _ _).alloc (Nat.le_refl _) (.cells #[.slice none 0 0] 26))
  have hbx := Boxed.new (w.alloc (.cells #[v] 26)) 26 (.slice none 0 0)
  rw [World.size_alloc] at hbx
  have hcall := specDom_any v rows _ hH.2.1 hn
  obtain ⟨A, C, rfl, _⟩ := hv
  have HH := Lib.hid hH
  have HBX := Lib.hid hbx
  clear hH hbx
  cases hd : domB rows with
  | false =>
    rw [hd] at hcall
    have HE := Lib.hid (show liftOk rows = false by unfold liftOk; rw [hd]; rfl)
    clear hd
    go_enter Tryd.func14, Tryd.ntmps14
    go_wp2_with (go_at_call 46; refine hcall.mono ?_; clear hcall; rintro e w1 ⟨rfl, hb1⟩; have H1 := Lib.hid (HH.out.below hb1); have BX1 : Hid (Boxed w1 (w.heap.size + 1) 26 (.slice none 0 0)) := Lib.hid ((hb1.block _ HBX.out.lt).trans HBX.out); have hc2 := BX1.out.cell; have hf2 := BX1.out.frozen; clear hb1)
    have hc9 := World.cell?_setCell_same' w1 ⟨w.heap.size + 1, 0, none⟩ (.slice none 0 0) (by rw [hc2]; rfl)
    refine bodyPost_ret (v := .tuple #[.agg #[.slice none 0 0], .bool false]) (by simp [results, Tryd.results14, go_sem, hc9]) rfl ?_
    refine ⟨_, by rw [HE.out], ?_, H1.out.2.2.1.setCell (p := ⟨w.heap.size + 1, 0, none⟩) (Nat.le_succ _) _⟩
    rw [liftL_no HE.out]
    exact OwnR.nil _ _ _ _ _ _
  | true =>
    rw [hd] at hcall
    have hok := ok_of_valid (show validB rows = true by have h := hd; unfold domB at h; rw [Bool.and_eq_true] at h; exact h.1)
    by_cases hl : rows.length < 200
    · have hlz : ¬ ((200 : Int) ≤ (rows.length : Int)) := by omega
      have HE := Lib.hid (show liftOk rows = true by unfold liftOk; rw [hd, decide_eq_true hl]; rfl)
      have HC := Lib.hid (fun W u h => l2Lift_any u rows W h hok hl)
      have HRR := Lib.hid (fun q (hq : q < rows.length + 1) => liftR_row hok hq)
      clear hd hok
      go_enter Tryd.func14, Tryd.ntmps14
      go_wp2_with (first | (go_at_call 46; refine hcall.mono ?_; clear hcall; rintro e w1 ⟨rfl, hb1⟩; have H1 := Lib.hid (HH.out.below hb1); have hc1 := H1.out.1; have BX1 : Hid (Boxed w1 (w.heap.size + 1) 26 (.slice none 0 0)) := Lib.hid ((hb1.block _ HBX.out.lt).trans HBX.out); clear hb1) | (go_at_call 47; refine (HC.out _ _ H1.out.2.1).mono ?_; rintro e w2 ⟨u, rfl, hu, hb2⟩; obtain ⟨a2, C2, rfl⟩ := hu.form; have HU := Lib.hid hu; have BX2 : Hid (Boxed w2 (w.heap.size + 1) 26 (.slice none 0 0)) := Lib.hid ((hb2.block _ BX1.out.lt).trans BX1.out); have HB2 := Lib.hid (H1.out.2.2.1.trans (hb2.mono H1.out.2.2.1.size)); have hres := BX2.out.cell; have hfr := BX2.out.frozen; clear hu hb2))
      have hc9 := World.cell?_setCell_same' w2 ⟨w.heap.size + 1, 0, none⟩ (.slice a2 (rows.length + 1) C2) (by rw [hres]; rfl)
      have hw1 : w.heap.size + 1 < w1.heap.size := BX1.out.lt
      refine bodyPost_ret (v := .tuple #[.agg #[.slice a2 (rows.length + 1) C2], .bool true]) (by simp [results, Tryd.results14, go_sem, hc9]) rfl ?_
      obtain ⟨e1, e2⟩ := liftL_yes HE.out
      refine ⟨_, by rw [HE.out], ?_, HB2.out.setCell (p := ⟨w.heap.size + 1, 0, none⟩) (Nat.le_succ _) _⟩
      rw [e1, size_setCell]
      exact ((HU.out.kept fun b hb _ => Below.heap_setCell _ _ _ b (show b ≠ w.heap.size + 1 by omega)).wider (by omega) (Nat.le_refl _)).congr fun q hq => (HRR.out q hq).trans (e2 q hq).symm
    · have hlz : (200 : Int) ≤ (rows.length : Int) := by omega
      have HE := Lib.hid (show liftOk rows = false by unfold liftOk; rw [hd, decide_eq_false hl]; rfl)
      clear hd hok
      go_enter Tryd.func14, Tryd.ntmps14
      go_wp2_with (go_at_call 46; refine hcall.mono ?_; clear hcall; rintro e w1 ⟨rfl, hb1⟩; have H1 := Lib.hid (HH.out.below hb1); have hc1 := H1.out.1; have BX1 : Hid (Boxed w1 (w.heap.size + 1) 26 (.slice none 0 0)) := Lib.hid ((hb1.block _ HBX.out.lt).trans HBX.out); have hc2 := BX1.out.cell; have hf2 := BX1.out.frozen; clear hb1)
      have hc9 := World.cell?_setCell_same' w1 ⟨w.heap.size + 1, 0, none⟩ (.slice none 0 0) (by rw [hc2]; rfl)
      refine bodyPost_ret (v := .tuple #[.agg #[.slice none 0 0], .bool false]) (by simp [results, Tryd.results14, go_sem, hc9]) rfl ?_
      refine ⟨_, by rw [HE.out], ?_, H1.out.2.2.1.setCell (p := ⟨w.heap.size + 1, 0, none⟩) (Nat.le_succ _) _⟩
      rw [liftL_no HE.out]
      exact OwnR.nil _ _ _ _ _ _

theorem lens_small {rows : Rows2} {m n : Nat} (hl : rows.length ≤ n) (h : ∀ r ∈ rows, r.length ≤ m) : bulk rows ≤ n + n * m := by
  unfold bulk
  have h1 := sum_le (m := m) (rows.map List.length) fun x hx => by
    obtain ⟨r, hr, rfl⟩ := List.mem_map.1 hx
    exact h r hr
  rw [List.length_map] at h1
  have h2 := Nat.mul_le_mul_right m hl
  omega
theorem lift_bulk (rows : Rows2) : bulk (liftL rows) ≤ 1048576 := by
  cases h : liftOk rows with
  | false => rw [liftL_no h]; simp [bulk]
  | true =>
    have hl : rows.length < 200 := by
      unfold liftOk at h
      rw [Bool.and_eq_true, decide_eq_true_iff] at h
      exact h.2
    have hb := lens_small (rows := liftL rows) (n := 200) (m := 200) (by rw [(liftL_yes h).1]; omega) (fun r hr => by
      unfold liftL at hr
      rw [if_pos h] at hr
      obtain ⟨q, _, rfl⟩ := List.mem_map.1 hr
      exact Nat.le_trans (liftRow_len _ _ _) (by omega))
    omega
end Go.Proofs.YtkjncgnclogfeaaDoor

/- The model's DomainSum. -/
namespace Go.Proofs.YtkjncgnclogfeaaDoor
open Go.RowKit Go.Deep

/-- The rows of the sum, in the model's words. -/
def sumR (rows rows' : Rows2) (q : Nat) : List Int :=
  if q = 0 then uptoL (1 + rows.length + rows'.length)
  else if q < 1 + rows.length then movedN (rowsF rows (q - 1)) 1 (rowsF rows (q - 1)).length
  else movedN (rowsF rows' (q - 1 - rows.length)) ((1 + rows.length : Nat) : Int) (rowsF rows' (q - 1 - rows.length)).length
theorem sumR_row {rows rows' : Rows2} (h : Ok rows) (h' : Ok rows') {q : Nat} (hq : q < 1 + rows.length + rows'.length) : sumR rows rows' q = sumRow rows rows' q := by
  unfold sumR sumRow bRow
  by_cases e : q = 0
  · subst e
    rw [if_pos rfl, List.filter_eq_self.2 (fun k _ => by unfold sumB; rw [if_pos rfl])]
    rfl
  · rw [if_neg e]
    by_cases e2 : q < 1 + rows.length
    · rw [if_pos e2, rowsF_lt (by omega)]
      have hn := liftRow_next h (i := q - 1) (by omega)
      rw [show q - 1 + 1 = q by omega] at hn
      rw [← hn]
      unfold liftRow
      have hp : ∀ k, sumB (gridF rows) (gridF rows') rows.length q k = liftB (gridF rows) q k := fun k => by
        unfold sumB liftB
        rw [if_neg e, if_pos (show q ≤ rows.length by omega), decide_eq_false e]
        by_cases hk : k = 0
        · subst hk; simp
        · rw [if_neg hk, decide_eq_true (show 0 < k by omega)]
          by_cases hk2 : k ≤ rows.length
          · rw [if_pos hk2]; simp
          · rw [if_neg hk2]
            cases hb : (gridF rows (q - 1)).testBit (k - 1) with
            | false => simp
            | true => have := (h.bit_lt hb).2; omega
      congr 1
      rw [show (fun k => sumB (gridF rows) (gridF rows') rows.length q k) = fun k => liftB (gridF rows) q k from funext hp]
      refine (filter_short (n := rows.length + 1) (m := 1 + rows.length + rows'.length) (fun k hk => ?_) (by omega)).symm
      unfold liftB at hk
      rw [decide_eq_false e, Bool.false_or, Bool.and_eq_true] at hk
      have := (h.bit_lt hk.2).2
      omega
    · rw [if_neg e2, rowsF_lt (by omega)]
      unfold movedN
      have hi : q - 1 - rows.length < rows'.length := by omega
      rw [List.take_length, h'.elems hi, List.range_add, List.filter_append]
      have e3 : (List.range (1 + rows.length)).filter (fun k => sumB (gridF rows) (gridF rows') rows.length q k) = [] := by
        rw [List.filter_eq_nil_iff]
        intro k hk
        rw [List.mem_range] at hk
        unfold sumB
        rw [if_neg e]
        by_cases hk0 : k = 0
        · rw [if_pos hk0]; simp
        · rw [if_neg hk0, if_neg (by omega), if_pos (by omega)]; simp
      have e4 : elems (gridF rows' (q - 1 - rows.length)) = (List.range rows'.length).filter (fun k => (gridF rows' (q - 1 - rows.length)).testBit k) := by
        unfold elems
        exact filter_short (fun k hk => (h'.bit_lt hk).2) (by have := h'.len.2; omega)
      have e5 : (fun k => sumB (gridF rows) (gridF rows') rows.length q k) ∘ (fun x => 1 + rows.length + x) = fun k => (gridF rows' (q - 1 - rows.length)).testBit k := by
        funext k
        show sumB (gridF rows) (gridF rows') rows.length q (1 + rows.length + k) = _
        unfold sumB
        rw [if_neg e, if_neg (by omega), if_neg (by omega), if_neg (by omega), show 1 + rows.length + k - 1 - rows.length = k by omega]
      rw [e3, List.nil_append, e4, List.filter_map, e5, List.map_map, List.map_map]
      apply List.map_congr_left
      intro k _
      simp
      omega

set_option maxRecDepth 100000 in
set_option maxHeartbeats 8000000 in
theorem l2Sum_any (v v' : Value) (rows rows' : Rows2) (w : World) (hv : RowsAt w v rows) (hv' : RowsAt w v' rows') (hok : Ok rows) (hok' : Ok rows') (hl : 1 + rows.length + rows'.length ≤ 200) :
    Calls Tryd.prog 52 #[.agg #[v], .agg #[v']] w (OrdNew (1 + rows.length + rows'.length) (sumR rows rows') w) := by
  have h0 := TwoR.start w hv hv'
  have HV := Lib.hid (fun W (h : Below w.heap.size w W) => hv.below h)
  have HV' := Lib.hid (fun W (h : Below w.heap.size w W) => hv'.below h)
  have hlen := hok.len
  have hlen' := hok'.len
  have s2 : (((w.alloc (.cells #[v] 26)).alloc (.cells #[v'] 26)).alloc (.cells #[.slice none 0 0] 26)).heap.size = w.heap.size + 3 := by rw [World.size_alloc, World.size_alloc, World.size_alloc]
  obtain ⟨A, C, rfl, hC, hm, hx⟩ := hv
  obtain ⟨A', C', rfl, hC', hm', hx'⟩ := hv'
  unfold maxLen at hm hm'
  obtain ⟨b0, o0, _, rfl, _, _⟩ := hx 0 (by omega)
  obtain ⟨b0', o0', _, rfl, _, _⟩ := hx' 0 (by omega)
  generalize hw0 : (((w.alloc (.cells #[.slice (some ⟨b0, o0, none⟩) rows.length C] 26)).alloc (.cells #[.slice (some ⟨b0', o0', none⟩) rows'.length C'] 26)).alloc (.cells #[.slice none 0 0] 26)) = w0 at h0 s2
  obtain ⟨i0, hi0, hz0, hz1, hz2⟩ := info_parts infoInt
  obtain ⟨j0, hj0, hy0, hy1, hy2⟩ := info_parts infoInts
  have hO := World.ownsRow_made (e := 3) (size := 1) w0 #[] 0 (base := w0.heap.size) (Nat.le_refl _) (Nat.zero_le _) (by simp)
  rw [s2] at hO
  have HO := Lib.hid hO
  have HB1 := Lib.hid ((Below.refl w0.heap.size w0).alloc (Nat.le_refl _) (.cells #[] 3))
  have H0 := Lib.hid h0
  have HOK := Lib.hid hok
  have HOK' := Lib.hid hok'
  have S2 := Lib.hid s2
  have HBW := Lib.hid (fun W (h : Below w0.heap.size w0 W) => h0.below.trans (h.mono (by rw [s2]; omega)))
  have hcA := h0.c0
  have hcA' := h0.c1
  clear h0 hok hok' hx hx' hO
  go_enter Tryd.func52, Tryd.ntmps52
  go_upto_region 3 with fail
  clear hw0 s2
  go_wp2
  clear hcA hcA'
  have hwA : IntKind.i64.wrap ((rows.length : Int) + (rows'.length : Int)) = (rows.length : Int) + (rows'.length : Int) := IntWalk.i64_in _ (by omega)
  go_loopw [6, 7] (fun fv iv wr => ∃ k : Nat, k ≤ 1 + rows.length + rows'.length ∧ iv = .int .i64 k ∧ wr.ownsRow (w.heap.size + 3) 3 1 fv (uptoL k).length (cellsI (uptoL k)) ∧ Below w0.heap.size w0 wr) (fun _ iv _ => 1 + rows.length + rows'.length - (intOf iv).toNat)
  case atStart => exact ⟨0, Nat.zero_le _, rfl, HO.out, HB1.out⟩
  case round =>
    obtain ⟨k, hk, rfl, hown, hB⟩ := hrel
    have HOWN := Lib.hid hown
    have HB := Lib.hid hB
    have hcl := Nat.le_of_eq (uptoL_length k)
    have hcell := (hB.cell (p := ⟨w.heap.size + 1, 0, none⟩) (cell_lt H0.out.c1)).trans H0.out.c1
    have hbz : w.heap.size + 3 ≤ wr.heap.size := by have := hB.size; have := S2.out; omega
    clear hown hB HO HB1
    by_cases hlt : k < 1 + rows.length + rows'.length
    · have hlz : (k : Int) ≤ (rows.length : Int) + (rows'.length : Int) := by omega
      go_wp2_with (at_builtin; refine wpList_append_own _ rfl _ _ 39 rfl (w.heap.size + 3) 3 i0 (.int .i64 0) 1 8 Tryd.underlying39 hi0 hz0 hz1 hz2 rfl (by decide) _ _ _ rfl (HOWN.out.alloc _) ⟨wr.heap.size, 0, none⟩ 1 1 [.int .i64 (k : Int)] rfl rfl (cell_one_new _ _ _) (by simp [Value.oneCell']) (by unfold maxLen; omega) (by omega) (by simp; omega) ?_; intro v' w1 hown' hgrow _)
      go_roundw
      case rel =>
        refine ⟨k + 1, by omega, by go_num, ?_, (HB.out.alloc HB.out.size _).grown hgrow (by rw [World.size_alloc, S2.out]; omega) (fun b e => by rw [S2.out]; exact (HOWN.out.lt b e).1)⟩
        rw [uptoL_succ, List.length_append, show cellsI (uptoL k ++ [(k : Int)]) = cellsI (uptoL k) ++ [.int .i64 (k : Int)] by simp]
        exact hown'
      case measure => simp [intOf]; omega
    · obtain rfl : k = 1 + rows.length + rows'.length := by omega
      have hlz : ¬ (((1 + rows.length + rows'.length : Nat) : Int) ≤ (rows.length : Int) + (rows'.length : Int)) := by omega
      have hoi : OwnI 3 wr u6 (uptoL (1 + rows.length + rows'.length)) w0.heap.size wr.heap.size := by
        rw [S2.out]
        exact OwnI.of_owns HOWN.out (uptoL_wf (by omega)) (fun b hb => (HOWN.out.lt b hb).2)
      obtain ⟨a3, C3, rfl⟩ := hoi.form
      have HST := Lib.hid ((Out.one HB.out hoi).congr (R' := sumR rows rows') (fun j hj => by
        obtain rfl : j = 0 := by omega
        unfold sumR
        rw [if_pos rfl]))
      clear hoi HOWN
      have hzz : wr.heap.size + 1 < ((wr.alloc (.cells #[.slice a3 (uptoL (1 + rows.length + rows'.length)).length C3] 39)).alloc (.cells #[.slice (some ⟨wr.heap.size, 0, none⟩) 1 1] 26)).heap.size := by rw [World.size_alloc, World.size_alloc]; omega
      generalize hZ : wr.heap.size + 1 = Z at HST hzz
      go_wp2
      generalize ((wr.alloc (.cells #[.slice a3 (uptoL (1 + rows.length + rows'.length)).length C3] 39)).alloc (.cells #[.slice (some ⟨wr.heap.size, 0, none⟩) 1 1] 26)) = wq at HST hzz ⊢
      clear hcell hZ
      go_loopw [9] (fun iv wx => ∃ (i : Nat) (u : Value), i ≤ rows.length ∧ iv = .int .i64 i ∧ Out w0 Z u (i + 1) (sumR rows rows') wx) (fun iv _ => rows.length - (intOf iv).toNat)
      case atStart => exact ⟨0, _, Nat.zero_le _, rfl, HST.out⟩
      case round =>
        obtain ⟨i, u, hi, rfl, ho⟩ := hrel
        have HK := Lib.hid ho
        obtain ⟨au, Cu, rfl⟩ := ho.own.form
        have hcell := (ho.below.cell (p := ⟨w.heap.size, 0, none⟩) (cell_lt H0.out.c0)).trans H0.out.c0
        have hout := ho.out.cell
        have hZ2 := ho.out.lt
        have hb0 := ho.below.size
        clear HST hzz
        by_cases hlt : i < rows.length
        · have hltz : (i : Int) < (rows.length : Int) := by omega
          obtain ⟨A1, C1, hC1, hm1, hc, hyy⟩ := (HV.out wr (HBW.out _ ho.below)).row hlt
          have hran := (HOK.out.asc i hlt).2
          have hrow : IntsAt wr.drew (.slice A1 rows[i].length C1) rows[i] := ⟨A1, C1, rfl, hC1, hm1, fun x hx => by have := hran x hx; exact wf_int (by omega) (by omega), hyy⟩
          have hrl : rows[i].length ≤ 1048576 := by have := bulk_row hlt; have := HOK.out.bulk; omega
          have HMV := Lib.hid (l2Moved_any _ rows[i] 1 wr.drew hrow hrl (fun x hx => by have := hran x hx; omega))
          have hml : (movedN rows[i] 1 rows[i].length).length = rows[i].length := movedN_length (Nat.le_refl _)
          obtain ⟨f, hf0, hf1, hf2⟩ := ho.own.owns
          have HF0 := Lib.hid hf0
          have HF1 := Lib.hid hf1
          have HF2 := Lib.hid hf2
          have HLR := Lib.hid (show sumR rows rows' (i + 1) = movedN rows[i] 1 rows[i].length by
            unfold sumR
            rw [if_neg (by omega), if_pos (by omega), Nat.add_sub_cancel, rowsF_lt hlt])
          clear ho hf0 hf1 hf2 hyy hran hrow
          go_upto_region 11 with fail
          go_region_law (first | (go_simp; go_at_call 78; refine HMV.out.mono ?_; clear HMV; rintro e w2 ⟨v', rfl, hv', hb2⟩; obtain ⟨a2, C2, rfl⟩ := hv'.form; rw [hml] at hv'; have HV2 := Lib.hid hv'; have HB2 := Lib.hid ((below_drew wr _).trans hb2); have HK2 := Lib.hid (HK.out.step HB2.out); have HW0 := Lib.hid (owns_below HF0.out HB2.out); have hout2 := HK2.out.out.cell; have hout3 := cell_alloc_any hout2; have hz22 : wr.heap.size ≤ w2.heap.size := hb2.size; clear hv' hb2) | (refine step_append_lies _ (by rfl) _ _ 22 (by rfl) w0.heap.size 39 j0 (.slice none 0 0) 1 24 Tryd.underlying22 hj0 hy0 hy1 hy2 rfl (by decide) (.slice au (i + 1) Cu) (i + 1) ((List.range (i + 1)).map f) (by rfl) (HW0.out.alloc _) ⟨w2.heap.size, 0, none⟩ 1 1 [.slice a2 rows[i].length C2] (by rfl) rfl (World.news_of_block (heap_alloc_new w2 _)) (by simp [Value.oneCell']) (by omega) (by unfold maxLen; omega) (by omega) (by simp; omega) (w2.heap.size + 1) (by simp) ?_; intro g' cap' w3 hown hgrow hat hlt'; have hfar := HK2.out.far HW0.out hgrow; have hc3 := hfar.cell; have hf3 := hfar.frozen; clear hfar))
          all_goals
            go_wp2
            go_roundw
            case rel =>
              refine ⟨i + 1, _, by omega, by go_num, (HK.out.pushed HF0.out HF1.out HF2.out HB2.out HV2.out hown ⟨hgrow.os, hgrow.tape, hgrow.output, hgrow.size, hgrow.block⟩).congr fun j hj => ?_⟩
              by_cases e : j = i + 1
              · subst e; rw [if_pos rfl, HLR.out]
              · rw [if_neg e]
            case measure => simp [intOf]; omega
        · obtain rfl : i = rows.length := by omega
          have hltz : ¬ ((rows.length : Int) < (rows.length : Int)) := by omega
          clear ho hcell hout hZ2 hb0
          go_wp2
          go_loopw [10] (fun iv wx => ∃ (i : Nat) (u : Value), i ≤ rows'.length ∧ iv = .int .i64 i ∧ Out w0 Z u (1 + rows.length + i) (sumR rows rows') wx) (fun iv _ => rows'.length - (intOf iv).toNat)
          case atStart => exact ⟨0, _, Nat.zero_le _, rfl, by rw [Nat.add_zero, Nat.add_comm 1]; exact HK.out⟩
          case round =>
            obtain ⟨i, u, hi, rfl, ho⟩ := hrel
            have HL := Lib.hid ho
            obtain ⟨au, Cu, rfl⟩ := ho.own.form
            have hcell := (ho.below.cell (p := ⟨w.heap.size + 1, 0, none⟩) (cell_lt H0.out.c1)).trans H0.out.c1
            have hout := ho.out.cell
            have hZ2 := ho.out.lt
            have hb0 := ho.below.size
            clear HK
            by_cases hlt : i < rows'.length
            · have hltz : (i : Int) < (rows'.length : Int) := by omega
              obtain ⟨A1, C1, hC1, hm1, hc, hyy⟩ := (HV'.out wr (HBW.out _ ho.below)).row hlt
              have hran := (HOK'.out.asc i hlt).2
              have hrow : IntsAt wr.drew (.slice A1 rows'[i].length C1) rows'[i] := ⟨A1, C1, rfl, hC1, hm1, fun x hx => by have := hran x hx; exact wf_int (by omega) (by omega), hyy⟩
              have hrl : rows'[i].length ≤ 1048576 := by have := bulk_row hlt; have := HOK'.out.bulk; omega
              have hwB : IntKind.i64.wrap (1 + (rows.length : Int)) = 1 + (rows.length : Int) := IntWalk.i64_in _ (by omega)
              have hmv := l2Moved_any _ rows'[i] (1 + (rows.length : Int)) wr.drew hrow hrl (fun x hx => by have := hran x hx; omega)
              have HMV := Lib.hid hmv
              have hml : (movedN rows'[i] (1 + (rows.length : Int)) rows'[i].length).length = rows'[i].length := movedN_length (Nat.le_refl _)
              obtain ⟨f, hf0, hf1, hf2⟩ := ho.own.owns
              have HF0 := Lib.hid hf0
              have HF1 := Lib.hid hf1
              have HF2 := Lib.hid hf2
              have HLR := Lib.hid (show sumR rows rows' (1 + rows.length + i) = movedN rows'[i] (1 + (rows.length : Int)) rows'[i].length by
                unfold sumR
                rw [if_neg (by omega), if_neg (by omega), show 1 + rows.length + i - 1 - rows.length = i by omega, rowsF_lt hlt, show ((1 + rows.length : Nat) : Int) = 1 + (rows.length : Int) by omega])
              clear ho hf0 hf1 hf2 hyy hran hrow hmv
              go_upto_region 15 with fail
              go_region_law (first | (go_simp; go_at_call 78; refine HMV.out.mono ?_; clear HMV; rintro e w2 ⟨v', rfl, hv', hb2⟩; obtain ⟨a2, C2, rfl⟩ := hv'.form; rw [hml] at hv'; have HV2 := Lib.hid hv'; have HB2 := Lib.hid ((below_drew wr _).trans hb2); have HK2 := Lib.hid (HL.out.step HB2.out); have HW0 := Lib.hid (owns_below HF0.out HB2.out); have hout2 := HK2.out.out.cell; have hout3 := cell_alloc_any hout2; have hz22 : wr.heap.size ≤ w2.heap.size := hb2.size; clear hv' hb2) | (refine step_append_lies _ (by rfl) _ _ 22 (by rfl) w0.heap.size 39 j0 (.slice none 0 0) 1 24 Tryd.underlying22 hj0 hy0 hy1 hy2 rfl (by decide) (.slice au (1 + rows.length + i) Cu) (1 + rows.length + i) ((List.range (1 + rows.length + i)).map f) (by rfl) (HW0.out.alloc _) ⟨w2.heap.size, 0, none⟩ 1 1 [.slice a2 rows'[i].length C2] (by rfl) rfl (World.news_of_block (heap_alloc_new w2 _)) (by simp [Value.oneCell']) (by omega) (by unfold maxLen; omega) (by omega) (by simp; omega) (w2.heap.size + 1) (by simp) ?_; intro g' cap' w3 hown hgrow hat hlt'; have hfar := HK2.out.far HW0.out hgrow; have hc3 := hfar.cell; have hf3 := hfar.frozen; clear hfar))
              all_goals
                go_wp2
                go_roundw
                case rel =>
                  refine ⟨i + 1, _, by omega, by go_num, (HL.out.pushed HF0.out HF1.out HF2.out HB2.out HV2.out hown ⟨hgrow.os, hgrow.tape, hgrow.output, hgrow.size, hgrow.block⟩).congr fun j hj => ?_⟩
                  by_cases e : j = 1 + rows.length + i
                  · subst e; rw [if_pos rfl, HLR.out]
                  · rw [if_neg e]
                case measure => simp [intOf]; omega
            · obtain rfl : i = rows'.length := by omega
              have hres := (ho.below.block _ (by rw [S2.out]; omega)).trans H0.out.res
              have hrc := Boxed.cell hres
              have hrf := Boxed.frozen hres
              have hc9 := World.cell?_setCell_same' wr ⟨w.heap.size + 2, 0, none⟩ (.slice au (1 + rows.length + rows'.length) Cu) (by rw [hrc]; rfl)
              clear ho hres
              go_wp2
              refine bodyPost_ret (v := .agg #[.slice au (1 + rows.length + rows'.length) Cu]) (by simp [results, Tryd.results52, go_sem, hc9]) rfl ?_
              refine ⟨_, rfl, ?_, (HBW.out _ HL.out.below).setCell (p := ⟨w.heap.size + 2, 0, none⟩) (by show w.heap.size ≤ w.heap.size + 2; omega) _⟩
              rw [size_setCell]
              exact (HL.out.own.kept fun b hb _ => Below.heap_setCell _ _ _ b (show b ≠ w.heap.size + 2 by have := S2.out; omega)).wider (by rw [S2.out]; omega) (Nat.le_refl _)

set_option maxRecDepth 100000 in
set_option maxHeartbeats 8000000 in
theorem specSum_any (v v' : Value) (rows rows' : Rows2) (w : World) (hv : RowsAt w v rows) (hv' : RowsAt w v' rows') (hn : bulk rows ≤ 1048576) (hn' : bulk rows' ≤ 1048576) :
    Calls Tryd.prog 22 #[.agg #[v], .agg #[v']] w (OrderP (sumL rows rows') (sumOk rows rows') w) := by
  have h0 := TwoR.start w hv hv'
  have hd1 := specDom_any _ rows _ h0.r0 hn
  have hc0 := h0.c0
  obtain ⟨A, C, rfl, _⟩ := hv
  obtain ⟨A', C', rfl, _⟩ := hv'
  have H0 := Lib.hid h0
  clear h0
  cases h1 : domB rows with
  | false =>
    rw [h1] at hd1
    have HE := Lib.hid (show sumOk rows rows' = false by unfold sumOk; rw [h1]; rfl)
    go_enter Tryd.func22, Tryd.ntmps22
    go_wp2_with (go_at_call 46; refine hd1.mono ?_; clear hd1; rintro e w1 ⟨rfl, hb1⟩; have H1 := Lib.hid (H0.out.step hb1); have hres := H1.out.res.cell; have hfr := H1.out.res.frozen; clear hb1 hc0)
    have hc9 := World.cell?_setCell_same' w1 ⟨w.heap.size + 2, 0, none⟩ (.slice none 0 0) (by rw [hres]; rfl)
    refine bodyPost_ret (v := .tuple #[.agg #[.slice none 0 0], .bool false]) (by simp [results, Tryd.results22, go_sem, hc9]) rfl ?_
    exact orderP_no (sumL_no HE.out) HE.out H1.out.below (by omega) _
  | true =>
    rw [h1] at hd1
    cases h2 : domB rows' with
    | false =>
      have HE := Lib.hid (show sumOk rows rows' = false by unfold sumOk; rw [h1, h2]; rfl)
      go_enter Tryd.func22, Tryd.ntmps22
      go_wp2_with (first | (go_at_call 46; refine hd1.mono ?_; clear hd1; rintro e w1 ⟨rfl, hb1⟩; have H1 := Lib.hid (H0.out.step hb1); have hc1 := H1.out.c1; have hd2 := specDom_any _ rows' _ H1.out.r1 hn'; rw [h2] at hd2; clear hb1 hc0) | (go_at_call 46; refine hd2.mono ?_; clear hd2; rintro e w2 ⟨rfl, hb2⟩; have H2 := Lib.hid (H1.out.step hb2); have hres := H2.out.res.cell; have hfr := H2.out.res.frozen; clear hb2 hc1))
      have hc9 := World.cell?_setCell_same' w2 ⟨w.heap.size + 2, 0, none⟩ (.slice none 0 0) (by rw [hres]; rfl)
      refine bodyPost_ret (v := .tuple #[.agg #[.slice none 0 0], .bool false]) (by simp [results, Tryd.results22, go_sem, hc9]) rfl ?_
      exact orderP_no (sumL_no HE.out) HE.out H2.out.below (by omega) _
    | true =>
      have hok := ok_of_valid (show validB rows = true by have h := h1; unfold domB at h; rw [Bool.and_eq_true] at h; exact h.1)
      have hok' := ok_of_valid (show validB rows' = true by have h := h2; unfold domB at h; rw [Bool.and_eq_true] at h; exact h.1)
      have hl1 := hok.len
      have hl2 := hok'.len
      have wA : IntKind.i64.wrap (1 + (rows.length : Int)) = 1 + (rows.length : Int) := IntWalk.i64_in _ (by omega)
      have wB : IntKind.i64.wrap (1 + (rows.length : Int) + (rows'.length : Int)) = 1 + (rows.length : Int) + (rows'.length : Int) := IntWalk.i64_in _ (by omega)
      by_cases hl : 1 + rows.length + rows'.length ≤ 200
      · have hlz : ¬ ((200 : Int) < 1 + (rows.length : Int) + (rows'.length : Int)) := by omega
        have HE := Lib.hid (show sumOk rows rows' = true by unfold sumOk; rw [h1, h2, decide_eq_true hl]; rfl)
        have HC := Lib.hid (fun W u u' a b => l2Sum_any u u' rows rows' W a b hok hok' hl)
        have HRR := Lib.hid (fun q (hq : q < 1 + rows.length + rows'.length) => sumR_row hok hok' hq)
        clear hok hok'
        go_enter Tryd.func22, Tryd.ntmps22
        go_wp2_with (first | (go_at_call 46; refine hd1.mono ?_; clear hd1; rintro e w1 ⟨rfl, hb1⟩; have H1 := Lib.hid (H0.out.step hb1); have hc1 := H1.out.c1; have hd2 := specDom_any _ rows' _ H1.out.r1 hn'; rw [h2] at hd2; clear hb1 hc0) | (go_at_call 46; refine hd2.mono ?_; clear hd2; rintro e w2 ⟨rfl, hb2⟩; have H2 := Lib.hid (H1.out.step hb2); have hc2 := H2.out.c0; have hc3 := H2.out.c1; clear hb2 hc1) | (go_at_call 52; refine (HC.out _ _ _ H2.out.r0 H2.out.r1).mono ?_; rintro e w3 ⟨u, rfl, hu, hb3⟩; obtain ⟨a3, C3, rfl⟩ := hu.form; have HU := Lib.hid hu; have H3 := Lib.hid (H2.out.step hb3); have hres := H3.out.res.cell; have hfr := H3.out.res.frozen; clear hu hb3))
        have hc9 := World.cell?_setCell_same' w3 ⟨w.heap.size + 2, 0, none⟩ (.slice a3 (1 + rows.length + rows'.length) C3) (by rw [hres]; rfl)
        have hw2 : w.heap.size + 2 < w2.heap.size := H2.out.res.lt
        refine bodyPost_ret (v := .tuple #[.agg #[.slice a3 (1 + rows.length + rows'.length) C3], .bool true]) (by simp [results, Tryd.results22, go_sem, hc9]) rfl ?_
        obtain ⟨e1, e2⟩ := sumL_yes HE.out
        refine ⟨_, by rw [HE.out], ?_, H3.out.below.setCell (p := ⟨w.heap.size + 2, 0, none⟩) (by show w.heap.size ≤ w.heap.size + 2; omega) _⟩
        rw [e1, size_setCell]
        exact ((HU.out.kept fun b hb _ => Below.heap_setCell _ _ _ b (show b ≠ w.heap.size + 2 by omega)).wider (by omega) (Nat.le_refl _)).congr fun q hq => (HRR.out q hq).trans (e2 q hq).symm
      · have hlz : (200 : Int) < 1 + (rows.length : Int) + (rows'.length : Int) := by omega
        have HE := Lib.hid (show sumOk rows rows' = false by unfold sumOk; rw [decide_eq_false hl, Bool.and_false])
        clear hok hok'
        go_enter Tryd.func22, Tryd.ntmps22
        go_wp2_with (first | (go_at_call 46; refine hd1.mono ?_; clear hd1; rintro e w1 ⟨rfl, hb1⟩; have H1 := Lib.hid (H0.out.step hb1); have hc1 := H1.out.c1; have hd2 := specDom_any _ rows' _ H1.out.r1 hn'; rw [h2] at hd2; clear hb1 hc0) | (go_at_call 46; refine hd2.mono ?_; clear hd2; rintro e w2 ⟨rfl, hb2⟩; have H2 := Lib.hid (H1.out.step hb2); have hc2 := H2.out.c0; have hc3 := H2.out.c1; have hres := H2.out.res.cell; have hfr := H2.out.res.frozen; clear hb2 hc1))
        have hc9 := World.cell?_setCell_same' w2 ⟨w.heap.size + 2, 0, none⟩ (.slice none 0 0) (by rw [hres]; rfl)
        refine bodyPost_ret (v := .tuple #[.agg #[.slice none 0 0], .bool false]) (by simp [results, Tryd.results22, go_sem, hc9]) rfl ?_
        exact orderP_no (sumL_no HE.out) HE.out H2.out.below (by omega) _

theorem sum_bulk (rows rows' : Rows2) : bulk (sumL rows rows') ≤ 1048576 := by
  cases h : sumOk rows rows' with
  | false => rw [sumL_no h]; simp [bulk]
  | true =>
    have hl : 1 + rows.length + rows'.length ≤ 200 := by
      unfold sumOk at h
      rw [Bool.and_eq_true, decide_eq_true_iff] at h
      exact h.2
    have hb := lens_small (rows := sumL rows rows') (n := 200) (m := 200) (by rw [(sumL_yes h).1]; omega) (fun r hr => by
      unfold sumL at hr
      rw [if_pos h] at hr
      obtain ⟨q, _, rfl⟩ := List.mem_map.1 hr
      exact Nat.le_trans (bRow_len _ _ _) (by omega))
    omega
end Go.Proofs.YtkjncgnclogfeaaDoor

/- What a law holds while it runs, as a list of things that lie one behind the other in memory: variables' boxes, copies, answers. Plain facts on worlds: no function is walked here. -/
namespace Go.Proofs.YtkjncgnclogfeaaDoor
open Go.RowKit Go.Deep

/-- A thing that lies between the blocks lo and hi, and hangs on these alone. -/
structure It where
  lo : Nat
  hi : Nat
  P : World → Prop
  loc : ∀ W W' : World, (∀ b, lo ≤ b → b < hi → W'.heap[b]? = W.heap[b]?) → P W → P W'

/-- A list of integers in memory of its own; rows likewise; a variable's box. -/
def ItI (v : Value) (xs : List Int) (lo hi : Nat) : It := ⟨lo, hi, fun W => OwnI 3 W v xs lo hi, fun _ _ h k => k.kept fun b e => h b (k.block b e).1 (k.block b e).2.1⟩
def ItR (v : Value) (n : Nat) (R : Nat → List Int) (lo hi : Nat) : It := ⟨lo, hi, fun W => OwnR 3 39 W v n R lo hi, fun _ _ h k => k.kept h⟩
def ItB (b : Nat) (t : TypeId) (v : Value) : It := ⟨b, b + 1, fun W => Boxed W b t v, fun _ _ h k => (h b (Nat.le_refl _) (Nat.lt_succ_self _)).trans k⟩

def Holds (W : World) : Nat → List It → Prop
  | n, [] => n ≤ W.heap.size
  | n, i :: is => n ≤ i.lo ∧ i.lo ≤ i.hi ∧ i.P W ∧ Holds W i.hi is

theorem Holds.le {W : World} : ∀ {is : List It} {n : Nat}, Holds W n is → n ≤ W.heap.size
  | [], _, h => h
  | _ :: _, _, h => Nat.le_trans h.1 (Nat.le_trans h.2.1 (Holds.le h.2.2.2))
theorem Holds.above {W W' : World} : ∀ {is : List It} {n : Nat}, Holds W n is → (∀ b, n ≤ b → b < W.heap.size → W'.heap[b]? = W.heap[b]?) → W.heap.size ≤ W'.heap.size → Holds W' n is
  | [], _, h, _, hz => Nat.le_trans h hz
  | i :: _, _, h, hb, hz => ⟨h.1, h.2.1, i.loc W W' (fun b hl hh => hb b (Nat.le_trans h.1 hl) (Nat.lt_of_lt_of_le hh h.2.2.2.le)) h.2.2.1, h.2.2.2.above (fun b hl hs => hb b (Nat.le_trans h.1 (Nat.le_trans h.2.1 hl)) hs) hz⟩
theorem Holds.step {W W' : World} {is : List It} {n : Nat} (h : Holds W n is) (hb : Below W.heap.size W W') : Holds W' n is := h.above (fun b _ hs => hb.block b hs) hb.size
theorem Holds.push {W W' : World} {it : It} (hb : Below W.heap.size W W') (h1 : W.heap.size ≤ it.lo) (h2 : it.lo ≤ it.hi) (h3 : it.hi ≤ W'.heap.size) (hP : it.P W') : ∀ {is : List It} {n : Nat}, Holds W n is → Holds W' n (is ++ [it])
  | [], _, h => ⟨Nat.le_trans h h1, h2, hP, h3⟩
  | i :: _, _, h => ⟨h.1, h.2.1, i.loc W W' (fun b _ hh => hb.block b (Nat.lt_of_lt_of_le hh h.2.2.2.le)) h.2.2.1, Holds.push hb h1 h2 h3 hP h.2.2.2⟩
theorem Holds.pop {W : World} {it : It} : ∀ {is : List It} {n : Nat}, Holds W n (is ++ [it]) → Holds W n is
  | [], _, h => Nat.le_trans h.1 (Nat.le_trans h.2.1 h.2.2.2)
  | _ :: _, _, h => ⟨h.1, h.2.1, h.2.2.1, Holds.pop h.2.2.2⟩
theorem Holds.take {W : World} : ∀ {is : List It} {n : Nat} (k : Nat), Holds W n is → Holds W n (is.take k)
  | [], _, k, h => by rw [List.take_nil]; exact h
  | _ :: _, _, 0, h => Nat.le_trans h.1 (Nat.le_trans h.2.1 h.2.2.2.le)
  | _ :: _, _, k + 1, h => ⟨h.1, h.2.1, h.2.2.1, Holds.take k h.2.2.2⟩
theorem Holds.get {W : World} {it : It} : ∀ {is : List It} {n : Nat} (k : Nat), is[k]? = some it → Holds W n is → n ≤ it.lo ∧ it.lo ≤ it.hi ∧ it.hi ≤ W.heap.size ∧ it.P W
  | [], _, k, e, _ => by simp at e
  | i :: is, n, 0, e, h => by
    obtain rfl : i = it := by simpa using e
    exact ⟨h.1, h.2.1, h.2.2.2.le, h.2.2.1⟩
  | i :: is, n, k + 1, e, h => by
    have e' : is[k]? = some it := by simpa using e
    obtain ⟨a, b, c, d⟩ := Holds.get k e' h.2.2.2
    exact ⟨Nat.le_trans h.1 (Nat.le_trans h.2.1 a), b, c, d⟩
theorem Holds.turn {W W' : World} {it it' : It} (hlo : it'.lo = it.lo) (hhi : it'.hi = it.hi) (ht : Turned it.lo it.hi W W') (hP : it'.P W') : ∀ {is : List It} {n : Nat} (k : Nat), is[k]? = some it → Holds W n is → Holds W' n (is.set k it')
  | [], _, k, e, _ => by simp at e
  | i :: is, n, 0, e, h => by
    obtain rfl : i = it := by simpa using e
    refine ⟨by rw [hlo]; exact h.1, by rw [hlo, hhi]; exact h.2.1, hP, ?_⟩
    rw [hhi]
    exact h.2.2.2.above (fun b hl hs => ht.above b hl hs) ht.below.size
  | i :: is, n, k + 1, e, h => by
    have e' : is[k]? = some it := by simpa using e
    have hg := Holds.get k e' h.2.2.2
    exact ⟨h.1, h.2.1, i.loc W W' (fun b _ hh => ht.below.block b (Nat.lt_of_lt_of_le hh hg.1)) h.2.2.1, Holds.turn hlo hhi ht hP k e' h.2.2.2⟩

/-- The world W, since w: all that lay there lies as it lay, and behind it lie these things. -/
structure St (w : World) (is : List It) (W : World) : Prop where
  below : Below w.heap.size w W
  holds : Holds W w.heap.size is

section
variable {w : World} {is : List It} {W W' : World}
theorem St.start (w : World) : St w [] w := ⟨Below.refl _ _, Nat.le_refl _⟩
theorem St.step (h : St w is W) (hb : Below W.heap.size W W') : St w is W' := ⟨h.below.trans (hb.mono h.below.size), h.holds.step hb⟩
theorem St.drew (h : St w is W) : St w is W.drew := h.step ⟨rfl, rfl, rfl, Nat.le_refl _, fun _ _ => rfl⟩
theorem St.drewN (h : St w is W) (n : Nat) : St w is (W.drewN n) := h.step ⟨rfl, rfl, rfl, Nat.le_refl _, fun _ _ => rfl⟩
theorem St.push {it : It} (h : St w is W) (hb : Below W.heap.size W W') (h1 : W.heap.size ≤ it.lo) (h2 : it.lo ≤ it.hi) (h3 : it.hi ≤ W'.heap.size) (hP : it.P W') : St w (is ++ [it]) W' :=
  ⟨h.below.trans (hb.mono h.below.size), h.holds.push hb h1 h2 h3 hP⟩
theorem St.pop {it : It} (h : St w (is ++ [it]) W) : St w is W := ⟨h.below, h.holds.pop⟩
theorem St.take (h : St w is W) (k : Nat) : St w (is.take k) W := ⟨h.below, h.holds.take k⟩
theorem St.box (h : St w is W) (t : TypeId) (v : Value) : St w (is ++ [ItB W.heap.size t v]) (W.alloc (.cells #[v] t)) :=
  h.push ((Below.refl _ _).alloc (Nat.le_refl _) _) (Nat.le_refl _) (Nat.le_succ _) (by rw [World.size_alloc]; exact Nat.le_refl _) (Boxed.new W t v)
theorem St.pushI {v : Value} {xs : List Int} (h : St w is W) (hb : Below W.heap.size W W') (ho : OwnI 3 W' v xs W.heap.size W'.heap.size) : St w (is ++ [ItI v xs W.heap.size W'.heap.size]) W' :=
  h.push hb (Nat.le_refl _) hb.size (Nat.le_refl _) ho
theorem St.pushR {v : Value} {n : Nat} {R : Nat → List Int} (h : St w is W) (hb : Below W.heap.size W W') (ho : OwnR 3 39 W' v n R W.heap.size W'.heap.size) : St w (is ++ [ItR v n R W.heap.size W'.heap.size]) W' :=
  h.push hb (Nat.le_refl _) hb.size (Nat.le_refl _) ho
/-- The copies that the laws make. -/
theorem St.copyR {g : Nat} {G : Nat → Nat} {rows : Rows2} (h : St w is W) (hn : bulk rows ≤ maxLen) (hg : W.heap.size ≤ g) (ho : OwnRows 3 39 W' g W'.heap.size G rows) (hb : Below W.heap.size W W') :
    St w (is ++ [ItR (whole g rows.length) rows.length (rowsF rows) W.heap.size W'.heap.size]) W' :=
  h.pushR hb ((ho.ownR hn).wider hg (Nat.le_refl _))
theorem OwnInts.ownI {t : TypeId} {g : Nat} {xs : List Int} {hi : Nat} (h : OwnInts t W g xs) (hn : xs.length ≤ maxLen) (hg : g < hi) : OwnI t W (whole g xs.length) xs g hi :=
  ⟨h.2, .inr ⟨g, _, _, rfl, Nat.le_refl _, hn, Nat.le_refl _, hg, h.1, fun _ hi => intCell_lt hi⟩⟩
theorem St.copyI {xs : List Int} (h : St w is W) (hn : xs.length ≤ maxLen) (ho : OwnInts 3 W' W.heap.size xs) (hz : W'.heap.size = W.heap.size + 1) (hb : Below W.heap.size W W') :
    St w (is ++ [ItI (whole W.heap.size xs.length) xs W.heap.size W'.heap.size]) W' :=
  h.pushI hb (ho.ownI hn (by omega))
theorem St.cell {b : Nat} {t : TypeId} {v : Value} (h : St w is W) (k : Nat) (e : is[k]? = some (ItB b t v)) : W.cell? ⟨b, 0, none⟩ = some v := Boxed.cell (h.holds.get k e).2.2.2
theorem St.lt {b : Nat} {t : TypeId} {v : Value} (h : St w is W) (k : Nat) (e : is[k]? = some (ItB b t v)) : b < W.heap.size := Boxed.lt (h.holds.get k e).2.2.2
theorem St.ownI {v : Value} {xs : List Int} {lo hi : Nat} (h : St w is W) (k : Nat) (e : is[k]? = some (ItI v xs lo hi)) : OwnI 3 W v xs lo hi := (h.holds.get k e).2.2.2
theorem St.ownR {v : Value} {n : Nat} {R : Nat → List Int} {lo hi : Nat} (h : St w is W) (k : Nat) (e : is[k]? = some (ItR v n R lo hi)) : OwnR 3 39 W v n R lo hi := (h.holds.get k e).2.2.2
theorem St.ints {v : Value} {xs : List Int} {lo hi : Nat} (h : St w is W) (k : Nat) (e : is[k]? = some (ItI v xs lo hi)) : IntsAt W v xs := (h.ownI k e).at
theorem St.rows {v : Value} {rows : Rows2} {lo hi : Nat} (h : St w is W) (k : Nat) (e : is[k]? = some (ItR v rows.length (rowsF rows) lo hi)) : RowsAt W v rows := (h.ownR k e).at
theorem St.boundsR {v : Value} {n : Nat} {R : Nat → List Int} {lo hi : Nat} (h : St w is W) (k : Nat) (e : is[k]? = some (ItR v n R lo hi)) : lo ≤ W.heap.size ∧ hi ≤ W.heap.size := ⟨Nat.le_trans (h.holds.get k e).2.1 (h.holds.get k e).2.2.1, (h.holds.get k e).2.2.1⟩
theorem St.turn {it it' : It} (h : St w is W) (k : Nat) (e : is[k]? = some it) (hlo : it'.lo = it.lo) (hhi : it'.hi = it.hi) (ht : Turned it.lo it.hi W W') (hP : it'.P W') : St w (is.set k it') W' :=
  ⟨h.below.trans (ht.below.mono (h.holds.get k e).1), h.holds.turn hlo hhi ht hP k e⟩
theorem St.turnR {v : Value} {n : Nat} {R R' : Nat → List Int} {lo hi : Nat} (h : St w is W) (k : Nat) (e : is[k]? = some (ItR v n R lo hi)) (ht : Turned lo hi W W') (ho : OwnR 3 39 W' v n R' lo hi) : St w (is.set k (ItR v n R' lo hi)) W' :=
  h.turn (it' := ItR v n R' lo hi) k e rfl rfl ht ho
theorem St.turnI {v : Value} {xs ys : List Int} {lo hi : Nat} (h : St w is W) (k : Nat) (e : is[k]? = some (ItI v xs lo hi)) (hg : W.grownBy W' v.ownBlock) (ho : OwnI 3 W' v ys lo hi) : St w (is.set k (ItI v ys lo hi)) W' :=
  have hk := h.holds.get k e
  h.turn (it' := ItI v ys lo hi) k e rfl rfl (Turned.of_grownBy hg (Nat.le_trans hk.2.1 hk.2.2.1) fun b e' => ⟨((h.ownI k e).block b e').1, ((h.ownI k e).block b e').2.1⟩) ho
end
theorem St.start1 (w : World) (t : TypeId) (v : Value) : St w [ItB w.heap.size t v] (w.alloc (.cells #[v] t)) := (St.start w).box t v
theorem St.start2 (w : World) (t t' : TypeId) (v v' : Value) : St w [ItB w.heap.size t v, ItB (w.heap.size + 1) t' v'] ((w.alloc (.cells #[v] t)).alloc (.cells #[v'] t')) := by
  have h := (St.start1 w t v).box t' v'
  rw [World.size_alloc] at h
  exact h
theorem St.start3 (w : World) (t t' t2 : TypeId) (v v' v2 : Value) : St w [ItB w.heap.size t v, ItB (w.heap.size + 1) t' v', ItB (w.heap.size + 2) t2 v2] (((w.alloc (.cells #[v] t)).alloc (.cells #[v'] t')).alloc (.cells #[v2] t2)) := by
  have h := (St.start2 w t t' v v').box t2 v2
  rw [World.size_alloc, World.size_alloc] at h
  exact h
end Go.Proofs.YtkjncgnclogfeaaDoor

/- An answer that is an order in a variable whose place is drawn: the box and the rows as one thing in memory. Plain facts on worlds. -/
namespace Go.Proofs.YtkjncgnclogfeaaDoor
open Go.RowKit Go.Deep

/-- A variable that holds an order, and the order's rows, between the blocks lo and hi. -/
def ItO (b : Nat) (u : Value) (n : Nat) (R : Nat → List Int) (lo hi : Nat) : It :=
  ⟨lo, hi, fun W => (lo ≤ b ∧ b < hi) ∧ Boxed W b 26 u ∧ OwnR 3 39 W u n R lo hi, fun _ _ h k => ⟨k.1, (h b k.1.1 k.1.2).trans k.2.1, k.2.2.kept h⟩⟩

theorem Holds.split {W : World} : ∀ {a b : List It} {n : Nat}, Holds W n (a ++ b) → ∃ m, (∀ it : It, m ≤ it.lo → it.lo ≤ it.hi → it.hi ≤ W.heap.size → it.P W → Holds W n (a ++ [it])) ∧ Holds W m b
  | [], _, n, h => ⟨n, fun _ h1 h2 h3 h4 => ⟨h1, h2, h4, h3⟩, h⟩
  | i :: a, b, n, h => by
    obtain ⟨m, hm, hb⟩ := Holds.split (a := a) h.2.2.2
    exact ⟨m, fun it h1 h2 h3 h4 => ⟨h.1, h.2.1, h.2.2.1, hm it h1 h2 h3 h4⟩, hb⟩

section
variable {w : World} {is : List It} {W W' : World}
theorem St.boxed {b : Nat} {t : TypeId} {v : Value} (h : St w is W) (k : Nat) (e : is[k]? = some (ItB b t v)) : Boxed W b t v := (h.holds.get k e).2.2.2
theorem St.cellO {b n lo hi : Nat} {u : Value} {R : Nat → List Int} (h : St w is W) (k : Nat) (e : is[k]? = some (ItO b u n R lo hi)) : W.cell? ⟨b, 0, none⟩ = some u := Boxed.cell (h.holds.get k e).2.2.2.2.1
theorem St.rowsO {b lo hi : Nat} {u : Value} {rows : Rows2} (h : St w is W) (k : Nat) (e : is[k]? = some (ItO b u rows.length (rowsF rows) lo hi)) : RowsAt W u rows := (h.holds.get k e).2.2.2.2.2.at
/-- A store into a variable. -/
theorem St.setB {b : Nat} {t : TypeId} {v : Value} (h : St w is W) (k : Nat) (e : is[k]? = some (ItB b t v)) (v' : Value) : St w (is.set k (ItB b t v')) (W.setCell ⟨b, 0, none⟩ v') := by
  have hb := h.boxed k e
  refine h.turn (it' := ItB b t v') k e rfl rfl ⟨(Below.refl b W).setCell (p := ⟨b, 0, none⟩) (Nat.le_refl _) _, fun x hx _ => ?_⟩ (hb.set v')
  exact Below.heap_setCell _ _ _ x (fun e2 => by
    subst e2
    exact absurd hx (Nat.not_le.2 (Nat.lt_succ_self _)))
theorem St.packO {b n lo hi : Nat} {u : Value} {R : Nat → List Int} (h : St w is W) (k i j : Nat) (hi' : k ≤ i) (hj' : k ≤ j) (e1 : is[i]? = some (ItB b 26 u)) (e2 : is[j]? = some (ItR u n R lo hi)) :
    ∃ lo' hi', St w (is.take k ++ [ItO b u n R lo' hi']) W := by
  have hs := h.holds
  rw [← List.take_append_drop k is] at hs
  obtain ⟨m, hm, hb⟩ := Holds.split hs
  have f1 : (is.drop k)[i - k]? = some (ItB b 26 u) := by rw [List.getElem?_drop, show k + (i - k) = i by omega]; exact e1
  have f2 : (is.drop k)[j - k]? = some (ItR u n R lo hi) := by rw [List.getElem?_drop, show k + (j - k) = j by omega]; exact e2
  have g1 : m ≤ b ∧ b ≤ b + 1 ∧ b + 1 ≤ W.heap.size ∧ Boxed W b 26 u := Holds.get _ f1 hb
  have g2 : m ≤ lo ∧ lo ≤ hi ∧ hi ≤ W.heap.size ∧ OwnR 3 39 W u n R lo hi := Holds.get _ f2 hb
  have hmn : min b lo ≤ b ∧ min b lo ≤ lo ∧ b + 1 ≤ max (b + 1) hi ∧ hi ≤ max (b + 1) hi := ⟨Nat.min_le_left _ _, Nat.min_le_right _ _, Nat.le_max_left _ _, Nat.le_max_right _ _⟩
  refine ⟨min b lo, max (b + 1) hi, h.below, hm _ (Nat.le_min.2 ⟨g1.1, g2.1⟩) (show min b lo ≤ max (b + 1) hi by omega) (Nat.max_le.2 ⟨g1.2.2.1, g2.2.2.1⟩) ?_⟩
  exact ⟨⟨hmn.1, by omega⟩, g1.2.2.2, g2.2.2.2.wider hmn.2.1 hmn.2.2.2⟩
theorem St.name (h : St w is W) : ∃ IS, IS = is ∧ St w IS W := ⟨is, rfl, h⟩
end
end Go.Proofs.YtkjncgnclogfeaaDoor

/- The law of DomainSum: model and program answer alike, the arguments are left alone, and the answer owns its memory. -/
namespace Go.Proofs.YtkjncgnclogfeaaDoor
open Go.RowKit Go.Deep

set_option maxRecDepth 100000 in
set_option maxHeartbeats 16000000 in
theorem law_sum (v0 : Value) (v1 : Value) (r0 : Rows2) (r1 : Rows2) (w : World) (h0 : RowsAt w v0 r0) (h1 : RowsAt w v1 r1) (hT : Tab w) :
    Calls Tryd.prog 5 #[.agg #[v0], .agg #[v1]] w (SaysN true w) := by
  have e0 := St.start2 w 24 24 v0 v1
  have H0 := Lib.hid h0
  have H1 := Lib.hid h1
  have HTT := Lib.hid hT
  obtain ⟨A0, C0, rfl, _⟩ := h0
  obtain ⟨A1, C1, rfl, _⟩ := h1
  have E0 := Lib.hid e0
  clear e0 hT
  have hdr : ∀ W : World, W.drew.heap = W.heap := fun _ => rfl
  go_enter Tryd.func5, Tryd.ntmps5
  have hc1 := E0.out.cell 0 rfl
  have hsz := szOrder_any _ r0 1048576 _ (H0.out.below E0.out.below) (by omega) (by omega)
  go_wp2_with fail
  refine hsz.mono ?_
  clear hsz
  rintro e w1 ⟨⟨q0, hr, rfl⟩, hb⟩
  have E1 := Lib.hid (E0.out.step hb)
  clear hb hc1 E0
  by_cases hneg0 : q0 < 0
  · go_wp2
    go_ret
    exact ⟨rfl, E1.out.below⟩
  have hq0 : 0 ≤ q0 ∧ q0 ≤ 1048576 ∧ bulk r0 ≤ 1048576 := by rcases hr with h | h <;> omega
  have HB0 := Lib.hid hq0.2.2
  have HM0 := Lib.hid (maxLen_ge HB0.out)
  have HL0 := Lib.hid (show lens r0 r0.length ≤ 1048576 by have := lens_all r0; have := HB0.out; omega)
  clear hr
  have hc2 := E1.out.cell 1 rfl
  have hsz := szOrder_any _ r1 q0 _ (H1.out.below E1.out.below) hq0.1 hq0.2.1
  go_wp2_with fail
  refine hsz.mono ?_
  clear hsz
  rintro e w2 ⟨⟨q1, hr, rfl⟩, hb⟩
  have E2 := Lib.hid (E1.out.step hb)
  clear hb hc2 E1
  by_cases hneg1 : q1 < 0
  · go_wp2
    go_ret
    exact ⟨rfl, E2.out.below⟩
  have hq1 : 0 ≤ q1 ∧ q1 ≤ 1048576 ∧ bulk r1 ≤ 1048576 := by rcases hr with h | h <;> omega
  have HB1 := Lib.hid hq1.2.2
  have HM1 := Lib.hid (maxLen_ge HB1.out)
  have HL1 := Lib.hid (show lens r1 r1.length ≤ 1048576 by have := lens_all r1; have := HB1.out; omega)
  clear hr
  clear hq0 hq1
  have hspec : ∀ W u0 u1, RowsAt W u0 r0 → RowsAt W u1 r1 → Calls Tryd.prog 22 #[.agg #[u0], .agg #[u1]] W (OrderP (sumL r0 r1) (sumOk r0 r1) W) := fun W u0 u1 k0 k1 => specSum_any u0 u1 r0 r1 W k0 k1 HB0.out HB1.out
  have himpl : ∀ W u0 u1, RowsAt W u0 r0 → RowsAt W u1 r1 → Tab W → Calls Tryd.prog 23 #[.agg #[u0], .agg #[u1]] W (OrderP (sumL r0 r1) (sumOk r0 r1) W) := fun W u0 u1 k0 k1 kT => implSum_any u0 u1 r0 r1 W k0 k1 kT HB0.out HB1.out
  have hxl := sum_bulk r0 r1
  generalize sumL r0 r1 = xs at hspec himpl hxl
  generalize sumOk r0 r1 = t at hspec himpl
  have HX := Lib.hid hxl
  have HXL := Lib.hid (show lens xs xs.length ≤ 1048576 by have := lens_all xs; have := HX.out; omega)
  have HS := Lib.hid hspec
  have HI := Lib.hid himpl
  have hne : (t != t) = false := bne_self_eq_false t
  clear hspec himpl hxl
  have hc3 := E2.out.cell 0 rfl
  have hc4 := E2.out.cell 1 rfl
  obtain ⟨IS, hIS, hI9⟩ := St.name E2.out
  have HIS := Lib.hid hIS
  clear hIS hI9
  go_upto_region 8 with fail
  go_cut [6, 7] (fun sb st wx => ∃ b lo hi a C, sb = .pointer (some ⟨b, 0, none⟩) ∧ st = .bool t ∧ St w (IS ++ [ItO b (.slice a xs.length C) xs.length (rowsF xs) lo hi]) wx)
  case first =>
    go_region_held3 (fun W' : World => W'.cell? ⟨w.heap.size, 0, none⟩ = some (.slice A0 r0.length C0) ∧ W'.cell? ⟨w.heap.size + 1, 0, none⟩ = some (.slice A1 r1.length C1)) (first | exact ⟨(E5.out.setB 2 rfl _).cell 0 rfl, (E5.out.setB 2 rfl _).cell 1 rfl⟩ | exact ⟨(E5.out.setB 3 rfl _).cell 0 rfl, (E5.out.setB 3 rfl _).cell 1 rfl⟩ | exact ⟨(E5.out.setB 4 rfl _).cell 0 rfl, (E5.out.setB 4 rfl _).cell 1 rfl⟩ | exact ⟨(E5.out.box 26 _).cell 0 rfl, (E5.out.box 26 _).cell 1 rfl⟩ | exact ⟨E5.out.cell 0 rfl, E5.out.cell 1 rfl⟩ | exact ⟨(E4.out.box 26 _).cell 0 rfl, (E4.out.box 26 _).cell 1 rfl⟩ | exact ⟨E4.out.cell 0 rfl, E4.out.cell 1 rfl⟩ | exact ⟨(E3.out.box 26 _).cell 0 rfl, (E3.out.box 26 _).cell 1 rfl⟩ | exact ⟨E3.out.cell 0 rfl, E3.out.cell 1 rfl⟩ | exact ⟨(E2.out.drew.box 26 _).cell 0 rfl, (E2.out.drew.box 26 _).cell 1 rfl⟩ | exact ⟨E2.out.drew.cell 0 rfl, E2.out.drew.cell 1 rfl⟩) (first | (go_at_call_of 15 (Value.slice A0 (List.length r0) C0); first | (refine (toOrder_any _ r0 _ (H0.out.below (E2.out.drew).below) HB0.out).mono ?_; rintro e w3 ⟨gw3, Gw3, rfl, hg, ho, hb⟩; have hE := (E2.out.drew).copyR HM0.out hg ho hb; simp only [List.cons_append, List.nil_append] at hE; have E3 := Lib.hid hE; clear hE hg ho hb) | (refine (toOrder_any _ r0 _ (H0.out.below ((E2.out.drew.box 26 (Value.slice none 0 0))).below) HB0.out).mono ?_; rintro e w3 ⟨gw3, Gw3, rfl, hg, ho, hb⟩; have hE := ((E2.out.drew.box 26 (Value.slice none 0 0))).copyR HM0.out hg ho hb; simp only [List.cons_append, List.nil_append] at hE; have E3 := Lib.hid hE; clear hE hg ho hb)) | (go_at_call_of 15 (Value.slice A1 (List.length r1) C1); first | (refine (toOrder_any _ r1 _ (H1.out.below (E3.out).below) HB1.out).mono ?_; rintro e w4 ⟨gw4, Gw4, rfl, hg, ho, hb⟩; have hE := (E3.out).copyR HM1.out hg ho hb; simp only [List.cons_append, List.nil_append] at hE; have E4 := Lib.hid hE; clear hE hg ho hb) | (refine (toOrder_any _ r1 _ (H1.out.below ((E3.out.box 26 (Value.slice none 0 0))).below) HB1.out).mono ?_; rintro e w4 ⟨gw4, Gw4, rfl, hg, ho, hb⟩; have hE := ((E3.out.box 26 (Value.slice none 0 0))).copyR HM1.out hg ho hb; simp only [List.cons_append, List.nil_append] at hE; have E4 := Lib.hid hE; clear hE hg ho hb)) | (go_at_call 22; first | (refine (HS.out _ _ _ (E4.out.rows 2 rfl) (E4.out.rows 3 rfl)).mono ?_; rintro e w5 ⟨u, rfl, hu, hb⟩; obtain ⟨aU, CU, rfl⟩ := hu.form; have hE := (E4.out).pushR hb hu; simp only [List.cons_append, List.nil_append] at hE; have E5 := Lib.hid hE; clear hE hb hu) | (refine (HS.out _ _ _ (E4.out.rows 3 rfl) (E4.out.rows 4 rfl)).mono ?_; rintro e w5 ⟨u, rfl, hu, hb⟩; obtain ⟨aU, CU, rfl⟩ := hu.form; have hE := (E4.out).pushR hb hu; simp only [List.cons_append, List.nil_append] at hE; have E5 := Lib.hid hE; clear hE hb hu; have hcb := (E5.out.boxed 2 rfl).cell; have hfb := (E5.out.boxed 2 rfl).frozen; try simp only [hdr] at hcb hfb) | (refine (HS.out _ _ _ (E4.out.rows 2 rfl) (E4.out.rows 4 rfl)).mono ?_; rintro e w5 ⟨u, rfl, hu, hb⟩; obtain ⟨aU, CU, rfl⟩ := hu.form; have hE := (E4.out).pushR hb hu; simp only [List.cons_append, List.nil_append] at hE; have E5 := Lib.hid hE; clear hE hb hu; have hcb := (E5.out.boxed 3 rfl).cell; have hfb := (E5.out.boxed 3 rfl).frozen; try simp only [hdr] at hcb hfb) | (refine (HS.out _ _ _ ((E4.out.box 26 (Value.slice none 0 0)).rows 2 rfl) ((E4.out.box 26 (Value.slice none 0 0)).rows 3 rfl)).mono ?_; rintro e w5 ⟨u, rfl, hu, hb⟩; obtain ⟨aU, CU, rfl⟩ := hu.form; have hE := ((E4.out.box 26 (Value.slice none 0 0))).pushR hb hu; simp only [List.cons_append, List.nil_append] at hE; have E5 := Lib.hid hE; clear hE hb hu; have hcb := (E5.out.boxed 4 rfl).cell; have hfb := (E5.out.boxed 4 rfl).frozen; try simp only [hdr] at hcb hfb)))
    all_goals
      go_wp2_with fail
      go_meet
    all_goals first | (obtain ⟨lo', hi', hE⟩ := (E5.out.box 26 _).packO 2 5 4 (by omega) (by omega) rfl rfl; exact ⟨_, _, _, _, _, rfl, rfl, by rw [HIS.out]; exact hE⟩) | (obtain ⟨lo', hi', hE⟩ := (E5.out.setB 2 rfl _).packO 2 2 5 (by omega) (by omega) rfl rfl; exact ⟨_, _, _, _, _, rfl, rfl, by rw [HIS.out]; exact hE⟩) | (obtain ⟨lo', hi', hE⟩ := (E5.out.setB 3 rfl _).packO 2 3 5 (by omega) (by omega) rfl rfl; exact ⟨_, _, _, _, _, rfl, rfl, by rw [HIS.out]; exact hE⟩) | (obtain ⟨lo', hi', hE⟩ := (E5.out.setB 4 rfl _).packO 2 4 5 (by omega) (by omega) rfl rfl; exact ⟨_, _, _, _, _, rfl, rfl, by rw [HIS.out]; exact hE⟩)
  obtain ⟨bU, loU, hiU, aU, CU, rfl, rfl, hE⟩ := hcut
  rw [HIS.out] at hE
  simp only [List.cons_append, List.nil_append] at hE
  have E6 := Lib.hid hE
  clear hE hc3 hc4
  clear E2 HIS IS
  have hc5 := E6.out.cell 0 rfl
  go_wp2_with fail
  refine (toOrder_any _ r0 _ (H0.out.below E6.out.below) HB0.out).mono ?_
  rintro e w7 ⟨gw7, Gw7, rfl, hg, ho, hb⟩
  have hE := (E6.out.copyR HM0.out hg ho hb).box 26 (whole gw7 r0.length)
  simp only [List.cons_append, List.nil_append] at hE
  have E7 := Lib.hid hE
  clear hE hg ho hb hc5 E6
  have hc6 := E7.out.cell 1 rfl
  go_wp2_with fail
  refine (toOrder_any _ r1 _ (H1.out.below E7.out.below) HB1.out).mono ?_
  rintro e w8 ⟨gw8, Gw8, rfl, hg, ho, hb⟩
  have hE := (E7.out.copyR HM1.out hg ho hb).box 26 (whole gw8 r1.length)
  simp only [List.cons_append, List.nil_append] at hE
  have E8 := Lib.hid hE
  clear hE hg ho hb hc6 E7
  have hc7 := E8.out.cell 4 rfl
  have hc8 := E8.out.cell 6 rfl
  go_wp2_with fail
  refine (HI.out _ _ _ (E8.out.rows 3 rfl) (E8.out.rows 5 rfl) (HTT.out.below E8.out.below)).mono ?_
  rintro e w9 ⟨u, rfl, hu, hb⟩
  obtain ⟨aG, CG, rfl⟩ := hu.form
  have hE := E8.out.pushR hb hu; simp only [List.cons_append, List.nil_append] at hE; have E9 := Lib.hid hE; clear hE
  clear hb hu E8 hc7 hc8
  have hE := E9.out.box 26 (Value.slice aG xs.length CG); simp only [List.cons_append, List.nil_append] at hE; have E10 := Lib.hid hE; clear hE
  clear E9
  have heq := eqOrder_any _ _ xs xs _ (E10.out.rows 7 rfl) (E10.out.rowsO 2 rfl)
  rw [decide_eq_true (rfl : xs = xs)] at heq
  have hc9 := E10.out.cell 8 rfl
  have hc10 := E10.out.cellO 2 rfl
  go_wp2_with fail
  refine heq.mono ?_
  clear heq
  rintro e w11 ⟨rfl, hb⟩
  have E11 := Lib.hid (E10.out.step hb)
  clear hb E10
  clear hc9 hc10
  have hc11 := E11.out.cell 4 rfl
  have hc12 := E11.out.cell 0 rfl
  go_wp2_with fail
  go_region_held3 (fun W' : World => W'.cell? ⟨w7.heap.size, 0, none⟩ = some (whole gw7 r0.length) ∧ W'.cell? ⟨w.heap.size, 0, none⟩ = some (.slice A0 r0.length C0)) (first | exact ⟨E13.out.cell 4 rfl, E13.out.cell 0 rfl⟩ | exact ⟨E12.out.cell 4 rfl, E12.out.cell 0 rfl⟩ | exact ⟨E11.out.drew.cell 4 rfl, E11.out.drew.cell 0 rfl⟩) (first | (go_at_call 15; refine (toOrder_any _ r0 _ (H0.out.below E11.out.drew.below) HB0.out).mono ?_; rintro e w12 ⟨gw12, Gw12, rfl, hg, ho, hb⟩; have hE := E11.out.drew.copyR HM0.out hg ho hb; simp only [List.cons_append, List.nil_append] at hE; have E12 := Lib.hid hE; clear hE; have heq := eqOrder_any _ _ r0 r0 w12 (E12.out.rows 3 rfl) (E12.out.rows 9 rfl); rw [decide_eq_true (rfl : r0 = r0)] at heq; have HEQ := Lib.hid heq; clear heq hg ho hb) | (go_at_call 17; refine HEQ.out.mono ?_; clear HEQ; rintro e w13 ⟨rfl, hb⟩; have hE := (E12.out.take 9).step hb; simp only [List.take_succ_cons, List.take_zero] at hE; have E13 := Lib.hid hE; clear hE; clear hb))
  clear hc11 hc12
  have hc13 := E13.out.cell 6 rfl
  have hc14 := E13.out.cell 1 rfl
  go_wp2_with fail
  go_region_held3 (fun W' : World => W'.cell? ⟨w8.heap.size, 0, none⟩ = some (whole gw8 r1.length) ∧ W'.cell? ⟨w.heap.size + 1, 0, none⟩ = some (.slice A1 r1.length C1)) (first | exact ⟨E15.out.cell 6 rfl, E15.out.cell 1 rfl⟩ | exact ⟨E14.out.cell 6 rfl, E14.out.cell 1 rfl⟩ | exact ⟨E13.out.drew.cell 6 rfl, E13.out.drew.cell 1 rfl⟩) (first | (go_at_call 15; refine (toOrder_any _ r1 _ (H1.out.below E13.out.drew.below) HB1.out).mono ?_; rintro e w14 ⟨gw14, Gw14, rfl, hg, ho, hb⟩; have hE := E13.out.drew.copyR HM1.out hg ho hb; simp only [List.cons_append, List.nil_append] at hE; have E14 := Lib.hid hE; clear hE; have heq := eqOrder_any _ _ r1 r1 w14 (E14.out.rows 5 rfl) (E14.out.rows 9 rfl); rw [decide_eq_true (rfl : r1 = r1)] at heq; have HEQ := Lib.hid heq; clear heq hg ho hb) | (go_at_call 17; refine HEQ.out.mono ?_; clear HEQ; rintro e w15 ⟨rfl, hb⟩; have hE := (E14.out.take 9).step hb; simp only [List.take_succ_cons, List.take_zero] at hE; have E15 := Lib.hid hE; clear hE; clear hb))
  clear hc13 hc14
  have hc15 := E15.out.cell 4 rfl
  have hmk := markOrder_any _ r0 (1) _ _ _ (E15.out.ownR 3 rfl) (E15.out.boundsR 3 rfl).1 (E15.out.boundsR 3 rfl).2 (by omega) (by have := HL0.out; have := HL1.out; omega)
  go_wp2_with fail
  refine hmk.mono ?_
  clear hmk
  rintro e w16 ⟨rfl, ho, ht⟩
  have hE := E15.out.turnR 3 rfl ht ho; simp only [List.set_cons_succ, List.set_cons_zero] at hE; have E16 := Lib.hid hE; clear hE
  clear ho ht hc15 E15
  have hc16 := E16.out.cell 6 rfl
  have hmk := markOrder_any _ r1 (1 + ((lens r0 r0.length : Nat) : Int)) _ _ _ (E16.out.ownR 5 rfl) (E16.out.boundsR 5 rfl).1 (E16.out.boundsR 5 rfl).2 (by omega) (by have := HL0.out; have := HL1.out; omega)
  go_wp2_with fail
  refine hmk.mono ?_
  clear hmk
  rintro e w17 ⟨rfl, ho, ht⟩
  have hE := E16.out.turnR 5 rfl ht ho; simp only [List.set_cons_succ, List.set_cons_zero] at hE; have E17 := Lib.hid hE; clear hE
  clear ho ht hc16 E16
  have hpos : ¬ (1 + ((lens r0 r0.length : Nat) : Int) + ((lens r1 r1.length : Nat) : Int) < 0) := by omega
  have heq := eqOrder_any _ _ xs xs _ (E17.out.rows 7 rfl) (E17.out.rowsO 2 rfl)
  rw [decide_eq_true (rfl : xs = xs)] at heq
  have hc17 := E17.out.cell 8 rfl
  have hc18 := E17.out.cellO 2 rfl
  go_wp2_with fail
  refine heq.mono ?_
  clear heq
  rintro e w18 ⟨rfl, hb⟩
  have E18 := Lib.hid (E17.out.step hb)
  clear hb E17
  clear hc17 hc18
  have hc19 := E18.out.cell 8 rfl
  have hmk := markOrder_any _ xs 1 _ _ _ (E18.out.ownR 7 rfl) (E18.out.boundsR 7 rfl).1 (E18.out.boundsR 7 rfl).2 (by omega) (by have := HXL.out; omega)
  go_wp2_with fail
  refine hmk.mono ?_
  clear hmk
  rintro e w19 ⟨rfl, ho, ht⟩
  have hE := E18.out.turnR 7 rfl ht ho; simp only [List.set_cons_succ, List.set_cons_zero] at hE; have E19 := Lib.hid hE; clear hE
  clear ho ht hc19 E18
  have hpos2 : ¬ (1 + ((lens xs xs.length : Nat) : Int) < 0) := by omega
  have hq : ((1 + ((lens xs xs.length : Nat) : Int)) != (1 + ((lens xs xs.length : Nat) : Int))) = false := bne_self_eq_false _
  have hc20 := E19.out.cell 8 rfl
  have hhd := heldOrder_any _ xs 1 _ _ _ (E19.out.ownR 7 rfl) (E19.out.boundsR 7 rfl).2 (by omega) (by have := HXL.out; omega)
  go_wp2_with fail
  refine hhd.mono ?_
  clear hhd
  rintro e w20 ⟨rfl, hb⟩
  have E20 := Lib.hid (E19.out.step hb)
  clear hb E19 hc20
  have HQ := Lib.hid hq
  have HPP := Lib.hid hpos2
  have HNE := Lib.hid hne
  clear hq hpos hpos2 hne
  have hc21 := E20.out.cell 0 rfl
  have hc22 := E20.out.cell 1 rfl
  obtain ⟨IS, hIS, hI9⟩ := St.name E20.out
  have HIS := Lib.hid hIS
  clear hIS hI9
  go_upto_region 31 with fail
  go_cut [15, 16] (fun sb st wx => ∃ b lo hi a C, sb = .pointer (some ⟨b, 0, none⟩) ∧ st = .bool t ∧ St w (IS ++ [ItO b (.slice a xs.length C) xs.length (rowsF xs) lo hi]) wx)
  case first =>
    go_region_held3 (fun W' : World => W'.cell? ⟨w.heap.size, 0, none⟩ = some (.slice A0 r0.length C0) ∧ W'.cell? ⟨w.heap.size + 1, 0, none⟩ = some (.slice A1 r1.length C1)) (first | exact ⟨(E23.out.setB 9 rfl _).cell 0 rfl, (E23.out.setB 9 rfl _).cell 1 rfl⟩ | exact ⟨(E23.out.setB 10 rfl _).cell 0 rfl, (E23.out.setB 10 rfl _).cell 1 rfl⟩ | exact ⟨(E23.out.setB 11 rfl _).cell 0 rfl, (E23.out.setB 11 rfl _).cell 1 rfl⟩ | exact ⟨(E23.out.box 26 _).cell 0 rfl, (E23.out.box 26 _).cell 1 rfl⟩ | exact ⟨E23.out.cell 0 rfl, E23.out.cell 1 rfl⟩ | exact ⟨(E22.out.box 26 _).cell 0 rfl, (E22.out.box 26 _).cell 1 rfl⟩ | exact ⟨E22.out.cell 0 rfl, E22.out.cell 1 rfl⟩ | exact ⟨(E21.out.box 26 _).cell 0 rfl, (E21.out.box 26 _).cell 1 rfl⟩ | exact ⟨E21.out.cell 0 rfl, E21.out.cell 1 rfl⟩ | exact ⟨(E20.out.drew.box 26 _).cell 0 rfl, (E20.out.drew.box 26 _).cell 1 rfl⟩ | exact ⟨E20.out.drew.cell 0 rfl, E20.out.drew.cell 1 rfl⟩) (first | (go_at_call_of 15 (Value.slice A0 (List.length r0) C0); first | (refine (toOrder_any _ r0 _ (H0.out.below (E20.out.drew).below) HB0.out).mono ?_; rintro e w21 ⟨gw21, Gw21, rfl, hg, ho, hb⟩; have hE := (E20.out.drew).copyR HM0.out hg ho hb; simp only [List.cons_append, List.nil_append] at hE; have E21 := Lib.hid hE; clear hE hg ho hb) | (refine (toOrder_any _ r0 _ (H0.out.below ((E20.out.drew.box 26 (Value.slice none 0 0))).below) HB0.out).mono ?_; rintro e w21 ⟨gw21, Gw21, rfl, hg, ho, hb⟩; have hE := ((E20.out.drew.box 26 (Value.slice none 0 0))).copyR HM0.out hg ho hb; simp only [List.cons_append, List.nil_append] at hE; have E21 := Lib.hid hE; clear hE hg ho hb)) | (go_at_call_of 15 (Value.slice A1 (List.length r1) C1); first | (refine (toOrder_any _ r1 _ (H1.out.below (E21.out).below) HB1.out).mono ?_; rintro e w22 ⟨gw22, Gw22, rfl, hg, ho, hb⟩; have hE := (E21.out).copyR HM1.out hg ho hb; simp only [List.cons_append, List.nil_append] at hE; have E22 := Lib.hid hE; clear hE hg ho hb) | (refine (toOrder_any _ r1 _ (H1.out.below ((E21.out.box 26 (Value.slice none 0 0))).below) HB1.out).mono ?_; rintro e w22 ⟨gw22, Gw22, rfl, hg, ho, hb⟩; have hE := ((E21.out.box 26 (Value.slice none 0 0))).copyR HM1.out hg ho hb; simp only [List.cons_append, List.nil_append] at hE; have E22 := Lib.hid hE; clear hE hg ho hb)) | (go_at_call 23; first | (refine (HI.out _ _ _ (E22.out.rows 9 rfl) (E22.out.rows 10 rfl) (HTT.out.below (E22.out).below)).mono ?_; rintro e w23 ⟨u, rfl, hu, hb⟩; obtain ⟨aV, CV, rfl⟩ := hu.form; have hE := (E22.out).pushR hb hu; simp only [List.cons_append, List.nil_append] at hE; have E23 := Lib.hid hE; clear hE hb hu) | (refine (HI.out _ _ _ (E22.out.rows 10 rfl) (E22.out.rows 11 rfl) (HTT.out.below (E22.out).below)).mono ?_; rintro e w23 ⟨u, rfl, hu, hb⟩; obtain ⟨aV, CV, rfl⟩ := hu.form; have hE := (E22.out).pushR hb hu; simp only [List.cons_append, List.nil_append] at hE; have E23 := Lib.hid hE; clear hE hb hu; have hcb := (E23.out.boxed 9 rfl).cell; have hfb := (E23.out.boxed 9 rfl).frozen; try simp only [hdr] at hcb hfb) | (refine (HI.out _ _ _ (E22.out.rows 9 rfl) (E22.out.rows 11 rfl) (HTT.out.below (E22.out).below)).mono ?_; rintro e w23 ⟨u, rfl, hu, hb⟩; obtain ⟨aV, CV, rfl⟩ := hu.form; have hE := (E22.out).pushR hb hu; simp only [List.cons_append, List.nil_append] at hE; have E23 := Lib.hid hE; clear hE hb hu; have hcb := (E23.out.boxed 10 rfl).cell; have hfb := (E23.out.boxed 10 rfl).frozen; try simp only [hdr] at hcb hfb) | (refine (HI.out _ _ _ ((E22.out.box 26 (Value.slice none 0 0)).rows 9 rfl) ((E22.out.box 26 (Value.slice none 0 0)).rows 10 rfl) (HTT.out.below ((E22.out.box 26 (Value.slice none 0 0))).below)).mono ?_; rintro e w23 ⟨u, rfl, hu, hb⟩; obtain ⟨aV, CV, rfl⟩ := hu.form; have hE := ((E22.out.box 26 (Value.slice none 0 0))).pushR hb hu; simp only [List.cons_append, List.nil_append] at hE; have E23 := Lib.hid hE; clear hE hb hu; have hcb := (E23.out.boxed 11 rfl).cell; have hfb := (E23.out.boxed 11 rfl).frozen; try simp only [hdr] at hcb hfb)))
    all_goals
      go_wp2_with fail
      go_meet
    all_goals first | (obtain ⟨lo', hi', hE⟩ := (E23.out.box 26 _).packO 9 12 11 (by omega) (by omega) rfl rfl; exact ⟨_, _, _, _, _, rfl, rfl, by rw [HIS.out]; exact hE⟩) | (obtain ⟨lo', hi', hE⟩ := (E23.out.setB 9 rfl _).packO 9 9 12 (by omega) (by omega) rfl rfl; exact ⟨_, _, _, _, _, rfl, rfl, by rw [HIS.out]; exact hE⟩) | (obtain ⟨lo', hi', hE⟩ := (E23.out.setB 10 rfl _).packO 9 10 12 (by omega) (by omega) rfl rfl; exact ⟨_, _, _, _, _, rfl, rfl, by rw [HIS.out]; exact hE⟩) | (obtain ⟨lo', hi', hE⟩ := (E23.out.setB 11 rfl _).packO 9 11 12 (by omega) (by omega) rfl rfl; exact ⟨_, _, _, _, _, rfl, rfl, by rw [HIS.out]; exact hE⟩)
  obtain ⟨bV, loV, hiV, aV, CV, rfl, rfl, hE⟩ := hcut
  rw [HIS.out] at hE
  simp only [List.cons_append, List.nil_append] at hE
  have E24 := Lib.hid hE
  clear hE hc21 hc22
  clear E20 HIS IS
  have hq := HQ.out
  have hpos2 := HPP.out
  have hne := HNE.out
  have heq := eqOrder_any _ _ xs xs _ (E24.out.rowsO 9 rfl) (E24.out.rowsO 2 rfl)
  rw [decide_eq_true (rfl : xs = xs)] at heq
  have hc23 := E24.out.cellO 9 rfl
  have hc24 := E24.out.cellO 2 rfl
  go_wp2_with fail
  refine heq.mono ?_
  clear heq
  rintro e w25 ⟨rfl, hb⟩
  have E25 := Lib.hid (E24.out.step hb)
  clear hb E24
  clear hc23 hc24
  have hc25 := E25.out.cell 8 rfl
  have hhd := heldOrder_any _ xs 1 _ _ _ (E25.out.ownR 7 rfl) (E25.out.boundsR 7 rfl).2 (by omega) (by have := HXL.out; omega)
  go_wp2_with fail
  refine hhd.mono ?_
  clear hhd
  rintro e w26 ⟨rfl, hb⟩
  have E26 := Lib.hid (E25.out.step hb)
  clear hb E25 hc25
  go_wp2
  go_ret
  exact ⟨rfl, E26.out.below⟩
end Go.Proofs.YtkjncgnclogfeaaDoor
