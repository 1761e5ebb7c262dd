/- The laws' own marks: an answer is written full of numbers, and looked at again (markIntS, markIntSS, markOrder, heldIntS, heldIntSS, heldOrder). -/
import Derived.Test.YtkhhbpeheikmfaaDoorProg
import Derived.Test.YtkhhbpeheikmfaaDoorAns
import Derived.Test.YtkhhbpeheikmfaaDoorEq
import Derived.Test.YtkhhbpeheikmfaaDoorTo
import Derived.StillTailTactics
namespace Go.Proofs.YtkhhbpeheikmfaaDoor
open Go.RowKit Go.Deep

theorem grownBy_trans {a b c : World} {row : Option Nat} (h : a.grownBy b row) (k : b.grownBy c row) : a.grownBy c row :=
  ⟨k.os.trans h.os, k.tape.trans h.tape, k.output.trans h.output, Nat.le_trans h.size k.size, fun i hi hr => (k.block i (Nat.lt_of_lt_of_le hi h.size) hr).trans (h.block i hi hr)⟩
theorem grownBy_set (W : World) (g o : Nat) (v : Value) : W.grownBy (W.setCell ⟨g, o, none⟩ v) (some g) :=
  ⟨rfl, rfl, rfl, by simp [World.setCell], fun k _ hk => Below.heap_setCell _ _ _ k (fun e => hk (by rw [e]))⟩

/-- The slice v has been marked from k on. -/
def MarkI (v : Value) (xs : List Int) (k : Int) (lo hi : Nat) (w : World) (e : Ending) (w' : World) : Prop :=
  e = .returned (.int .i64 (k + xs.length)) ∧ OwnI 3 w' v (marks k xs.length) lo hi ∧ w.grownBy w' v.ownBlock

set_option maxHeartbeats 1000000 in
theorem markIntS_any (v : Value) (xs : List Int) (k : Int) (lo hi : Nat) (w : World) (h : OwnI 3 w v xs lo hi) (h0 : 0 ≤ k) (h1 : k + xs.length ≤ 1099511627776) :
    Calls Tryd.prog 27 #[v, .int .i64 k] w (MarkI v xs k lo hi w) := by
  have hwf := marks_wf (k := k) (n := xs.length) h0 h1
  have HWF := Lib.hid hwf
  clear hwf
  obtain ⟨_, ⟨rfl, rfl⟩ | ⟨g, C, f, rfl, hC, hm, hlo, hhi, hr, hf⟩⟩ := h
  · go_enter Tryd.func27, Tryd.ntmps27
    go_wp2
    refine wp_loop_rounds 1 ?_
    rw [rounds_succ]
    go_wp2
    go_ret
    exact ⟨by simp, OwnI.nil _ _ _ _, ⟨rfl, rfl, rfl, Nat.le_refl _, fun _ _ _ => rfl⟩⟩
  · unfold maxLen at hm
    have HF := Lib.hid hf
    clear hf
    go_enter Tryd.func27, Tryd.ntmps27
    go_wp2
    go_loopw [1, 5] (fun kv iv wr => ∃ j : Nat, j ≤ xs.length ∧ iv = .int .i64 j ∧ kv = .int .i64 (k + j) ∧ wr.rowIs g 3 C (fun i => if i < j then .int .i64 (k + i) else f i) ∧ w.grownBy wr (some g)) (fun _ iv _ => xs.length - (intOf iv).toNat)
    case atStart =>
      exact ⟨0, Nat.zero_le _, rfl, by simp, hr.congr (fun i _ => by simp), ⟨rfl, rfl, rfl, Nat.le_refl _, fun _ _ _ => rfl⟩⟩
    case round =>
      obtain ⟨j, hj, rfl, rfl, hrow, hg⟩ := hrel
      by_cases hlt : j < xs.length
      · obtain ⟨v3, h3⟩ : ∃ v3, wr.cell? ⟨g, j, none⟩ = some v3 := ⟨_, hrow.cell (by omega)⟩
        have hfr := hrow.frozen j
        have HR := Lib.hid hrow
        have HG := Lib.hid hg
        clear hrow hg hr
        go_wp2
        go_roundw
        case rel =>
          refine ⟨j + 1, by omega, by go_num, by first | go_num | (congr 1; omega), (HR.out.set j _).congr (fun i _ => ?_), grownBy_trans HG.out (grownBy_set _ _ _ _)⟩
          by_cases e : i = j
          · subst e; rw [if_pos rfl, if_pos (by omega)]
          · rw [if_neg e]
            by_cases h : i < j
            · rw [if_pos h, if_pos (by omega)]
            · rw [if_neg h, if_neg (by omega)]
        case measure => simp [intOf]; omega
      · obtain rfl : j = xs.length := by omega
        have HR := Lib.hid hrow
        have HG := Lib.hid hg
        clear hrow hg hr
        go_wp2
        go_ret
        refine ⟨rfl, ⟨HWF.out, .inr ⟨g, C, _, by rw [marks_length], by rw [marks_length]; exact hC, by unfold maxLen; exact hm, hlo, hhi, HR.out, fun i hi => ?_⟩⟩, HG.out⟩
        rw [marks_length] at hi
        rw [if_pos hi, marks_at]

/-- The number k, and a world that parts from w in draws alone. -/
def SaysK (k : Int) (w : World) (e : Ending) (w' : World) : Prop := e = .returned (.int .i64 k) ∧ ∃ n, w' = w.drewN n

set_option maxHeartbeats 1000000 in
theorem heldIntS_any (v : Value) (k : Int) (n : Nat) (w : World) (h : IntsAt w v (marks k n)) (h0 : 0 ≤ k) (h1 : k + n ≤ 1099511627776) :
    Calls Tryd.prog 28 #[v, .int .i64 k] w (SaysK (k + n) w) := by
  obtain ⟨a, C, rfl, hC, hm, _, hx⟩ := h
  have hx' : ∀ i, i < n → ∃ b o, a = some ⟨b, o, none⟩ ∧ w.cell? ⟨b, o + i, none⟩ = some (.int .i64 (k + i)) := fun i hi => by
    obtain ⟨b, o, h1, h2⟩ := hx i (by rw [marks_length]; exact hi)
    exact ⟨b, o, h1, by rw [h2, marks_at]⟩
  have HX := Lib.hid hx'
  rw [marks_length] at *
  unfold maxLen at hm
  clear hx hx'
  go_enter Tryd.func28, Tryd.ntmps28
  go_wp2
  go_loopw [1, 5] (fun kv iv wr => ∃ j m : Nat, j ≤ n ∧ iv = .int .i64 j ∧ kv = .int .i64 (k + j) ∧ wr = w.drewN m) (fun _ iv _ => n - (intOf iv).toNat)
  case atStart => exact ⟨0, 0, Nat.zero_le _, rfl, by simp, rfl⟩
  case round =>
    obtain ⟨j, m, hj, rfl, rfl, hw⟩ := hrel
    by_cases hlt : j < n
    · obtain ⟨b, o, rfl, hc⟩ := HX.out j hlt
      replace hc : wr.cell? ⟨b, o + j, none⟩ = some (.int .i64 (k + j)) := by rw [hw]; exact hc
      have HW := Lib.hid hw
      clear hw
      go_wp2
      go_roundw
      case rel => exact ⟨j + 1, _, by omega, by go_num, by first | go_num | (congr 1; omega), by rw [HW.out]⟩
      case measure => simp [intOf]; omega
    · obtain rfl : j = n := by omega
      have HW := Lib.hid hw
      clear hw
      go_wp2
      go_ret
      exact ⟨rfl, _, HW.out⟩

theorem type_ne : (3 : TypeId) ≠ 37 := by decide

/-- The rows of the slice v have been marked from m on. -/
def MarkR (v : Value) (rows : Rows2) (m : Int) (lo hi : Nat) (w : World) (e : Ending) (w' : World) : Prop :=
  e = .returned (.int .i64 (m + (lens rows rows.length : Nat))) ∧ OwnR 3 37 w' v rows.length (marked m rows rows.length) lo hi ∧ Turned lo hi w w'

theorem marked_zero (m : Int) (rows : Rows2) (j : Nat) : marked m rows 0 j = rowsF rows j := by unfold marked; rw [if_neg (by omega)]
theorem lens_mono {rows : Rows2} {i : Nat} : ∀ {j : Nat}, i ≤ j → j ≤ rows.length → lens rows i ≤ lens rows j
  | 0, h, _ => by obtain rfl : i = 0 := (by omega); exact Nat.le_refl _
  | j + 1, h, hj => by
    by_cases e : i = j + 1
    · subst e; exact Nat.le_refl _
    · have := lens_mono (rows := rows) (i := i) (j := j) (by omega) (by omega)
      rw [lens_succ (by omega)]; omega

set_option maxHeartbeats 1000000 in
theorem markIntSS_any (v : Value) (rows : Rows2) (m : Int) (lo hi : Nat) (w : World) (h : OwnR 3 37 w v rows.length (rowsF rows) lo hi) (hlo : lo ≤ w.heap.size) (h0 : 0 ≤ m) (h1 : m + (lens rows rows.length : Nat) ≤ 1099511627776) :
    Calls Tryd.prog 19 #[v, .int .i64 m] w (MarkR v rows m lo hi w) := by
  obtain ⟨rfl, hz⟩ | ⟨g, C, f, rfl, hC, hm, hl, hh, hr, hI, hD⟩ := h
  · obtain rfl : rows = [] := List.length_eq_zero_iff.1 hz
    go_enter Tryd.func19, Tryd.ntmps19
    go_wp2
    refine wp_loop_rounds 1 ?_
    rw [rounds_succ]
    go_wp2
    go_ret
    exact ⟨by simp [lens], OwnR.nil _ _ _ _ _ _, Turned.refl _ _ _⟩
  · unfold maxLen at hm
    have HI := Lib.hid hI
    have HD := Lib.hid hD
    have HR := Lib.hid hr
    clear hI hD hr
    go_enter Tryd.func19, Tryd.ntmps19
    go_wp2
    go_loopw [1, 5] (fun kv iv wr => ∃ j : Nat, j ≤ rows.length ∧ iv = .int .i64 j ∧ kv = .int .i64 (m + (lens rows j : Nat)) ∧ wr.rowIs g 37 C f ∧ (∀ i, i < rows.length → OwnI 3 wr (f i) (marked m rows j i) lo hi) ∧ Turned lo hi w wr) (fun _ iv _ => rows.length - (intOf iv).toNat)
    case atStart => exact ⟨0, Nat.zero_le _, rfl, by simp [lens], HR.out, fun i hi => by rw [marked_zero]; exact HI.out i hi, Turned.refl _ _ _⟩
    case round =>
      obtain ⟨j, hj, rfl, rfl, hrow, hrows, ht⟩ := hrel
      have HS := Lib.hid hrows
      have HT := Lib.hid ht
      have HW := Lib.hid hrow
      by_cases hlt : j < rows.length
      · have hc : wr.cell? ⟨g, j, none⟩ = some (f j) := hrow.cell (by omega)
        have hj0 := hrows j hlt
        have e0 : marked m rows j j = rows[j] := by unfold marked; rw [if_neg (by omega), rowsF_lt hlt]
        rw [e0] at hj0
        have hls := lens_succ hlt
        have hmono := lens_mono (rows := rows) (i := j + 1) (j := rows.length) (by omega) (Nat.le_refl _)
        have hcall := markIntS_any (f j) rows[j] (m + (lens rows j : Nat)) lo hi wr hj0 (by omega) (by omega)
        have HLS := Lib.hid hls
        clear hrow hrows ht e0 hj0 hls
        go_wp2_with (go_at_call 27; refine hcall.mono ?_; clear hcall; rintro e w1 ⟨rfl, ho, hg⟩; have HO := Lib.hid ho; have HG := Lib.hid hg; clear ho hg)
        go_roundw
        case rel =>
          have hls := HLS.out
          have hgt : ∀ b, (f j).ownBlock = some b → lo ≤ b ∧ b < hi := fun b hb => by
            obtain ⟨x, y, _⟩ := HO.out.block b hb
            exact ⟨x, y⟩
          refine ⟨j + 1, by omega, by go_num, by rw [hls]; first | go_num | (congr 1; omega), ?_, fun i hi' => ?_, HT.out.trans (Turned.of_grownBy HG.out (Nat.le_trans hlo HT.out.below.size) hgt)⟩
          · refine HW.out.of_block (HG.out.block g HW.out.lt (fun e => ?_))
            obtain ⟨_, _, c, hcb⟩ := HO.out.block g e.symm
            obtain ⟨_, _, c0, hc0⟩ := (HS.out j hlt).block g e.symm
            obtain ⟨c1, hc1, _⟩ := HW.out
            rw [hc0] at hc1
            have e3 := Option.some.inj hc1
            injection e3 with _ e4
            exact type_ne e4
          · by_cases e : i = j
            · subst e
              have e1 : marked m rows (i + 1) i = marks (m + (lens rows i : Nat)) rows[i].length := by unfold marked; rw [if_pos (by omega), rowsF_lt hlt]
              rw [e1]; exact HO.out
            · have e1 : marked m rows (j + 1) i = marked m rows j i := by
                unfold marked
                by_cases h : i < j
                · rw [if_pos h, if_pos (by omega)]
                · rw [if_neg h, if_neg (by omega)]
              rw [e1]
              refine (HS.out i hi').kept fun b hb => HG.out.block b ?_ fun e2 => ?_
              · obtain ⟨_, _, c, hcb⟩ := (HS.out i hi').block b hb
                exact (Array.getElem?_eq_some_iff.1 hcb).1
              · rcases Nat.lt_or_gt_of_ne e with hij | hij
                · rcases HD.out i j hij hlt with h3 | h3
                  · rw [h3] at hb; cases hb
                  · exact h3 (hb.trans e2)
                · rcases HD.out j i hij hi' with h3 | h3
                  · rw [h3] at e2; cases e2
                  · exact h3 (e2.symm.trans hb.symm)
        case measure => simp [intOf]; omega
      · obtain rfl : j = rows.length := by omega
        clear hrow hrows ht
        go_wp2
        go_ret
        exact ⟨rfl, .inr ⟨g, C, f, rfl, hC, by unfold maxLen; exact hm, hl, hh, HW.out, HS.out, HD.out⟩, HT.out⟩

set_option maxHeartbeats 1000000 in
theorem heldIntSS_any (v : Value) (rows : Rows2) (m : Int) (lo hi : Nat) (w : World) (h : OwnR 3 37 w v rows.length (marked m rows rows.length) lo hi) (h0 : 0 ≤ m) (h1 : m + (lens rows rows.length : Nat) ≤ 1099511627776) :
    Calls Tryd.prog 20 #[v, .int .i64 m] w (SaysK (m + (lens rows rows.length : Nat)) w) := by
  obtain ⟨rfl, hz⟩ | ⟨g, C, f, rfl, hC, hm, hl, hh, hr, hI, hD⟩ := h
  · obtain rfl : rows = [] := List.length_eq_zero_iff.1 hz
    go_enter Tryd.func20, Tryd.ntmps20
    go_wp2
    refine wp_loop_rounds 1 ?_
    rw [rounds_succ]
    go_wp2
    go_ret
    exact ⟨by simp [lens], 0, rfl⟩
  · unfold maxLen at hm
    have HI := Lib.hid hI
    have HR := Lib.hid hr
    clear hI hD hr
    go_enter Tryd.func20, Tryd.ntmps20
    go_wp2
    go_loopw [1, 5] (fun kv iv wr => ∃ j d : Nat, j ≤ rows.length ∧ iv = .int .i64 j ∧ kv = .int .i64 (m + (lens rows j : Nat)) ∧ wr = w.drewN d) (fun _ iv _ => rows.length - (intOf iv).toNat)
    case atStart => exact ⟨0, 0, Nat.zero_le _, rfl, by simp [lens], rfl⟩
    case round =>
      obtain ⟨j, d, hj, rfl, rfl, hw⟩ := hrel
      by_cases hlt : j < rows.length
      · have hc : wr.cell? ⟨g, j, none⟩ = some (f j) := by rw [hw]; exact HR.out.cell (by omega)
        have e0 : marked m rows rows.length j = marks (m + (lens rows j : Nat)) rows[j].length := by unfold marked; rw [if_pos hlt, rowsF_lt hlt]
        have hj0 : IntsAt wr (f j) (marks (m + (lens rows j : Nat)) rows[j].length) := by rw [hw, ← e0]; exact (HI.out j hlt).at
        have hls := lens_succ hlt
        have hmono := lens_mono (rows := rows) (i := j + 1) (j := rows.length) (by omega) (Nat.le_refl _)
        have hcall := heldIntS_any (f j) (m + (lens rows j : Nat)) rows[j].length wr hj0 (by omega) (by omega)
        have HLS := Lib.hid hls
        have HW := Lib.hid hw
        have hpos : ¬ (m + (lens rows j : Nat) + (rows[j].length : Int) < 0) := by omega
        clear hw e0 hj0 hls
        go_wp2_with (go_at_call 28; refine hcall.mono ?_; clear hcall; rintro e w1 ⟨rfl, d1, rfl⟩)
        go_roundw
        case rel => exact ⟨j + 1, _, by omega, by go_num, by rw [HLS.out]; first | go_num | (congr 1; omega), by rw [HW.out, World.drewN_drewN]⟩
        case measure => simp [intOf]; omega
      · obtain rfl : j = rows.length := by omega
        have HW := Lib.hid hw
        clear hw
        go_wp2
        go_ret
        exact ⟨rfl, _, HW.out⟩

/-- The number k, and a world in which nothing that was there has turned. -/
def SaysJ (k : Int) (w : World) (e : Ending) (w' : World) : Prop := e = .returned (.int .i64 k) ∧ Below w.heap.size w w'

theorem turned_alloc (lo hi : Nat) (w : World) (o : Obj) (h : lo ≤ w.heap.size) : Turned lo hi w (w.alloc o) := ⟨(Below.refl _ w).alloc h o, fun _ _ hb => Below.heap_alloc _ _ _ hb⟩

set_option maxHeartbeats 1000000 in
theorem markOrder_any (v : Value) (rows : Rows2) (m : Int) (lo hi : Nat) (w : World) (h : OwnR 3 37 w v rows.length (rowsF rows) lo hi) (hlo : lo ≤ w.heap.size) (hhi : hi ≤ w.heap.size) (h0 : 0 ≤ m) (h1 : m + (lens rows rows.length : Nat) ≤ 1099511627776) :
    Calls Tryd.prog 14 #[.agg #[v], .int .i64 m] w (MarkR v rows m lo hi w) := by
  have ht := turned_alloc lo hi w (.cells #[v] 26) hlo
  have hcall := markIntSS_any v rows m lo hi _ (h.below ((Below.refl _ w).alloc (Nat.le_refl _) (.cells #[v] 26)) hhi) (by rw [World.size_alloc]; omega) h0 h1
  have HT := Lib.hid ht
  obtain ⟨a, C, rfl, _⟩ := h.at
  clear ht h
  go_enter Tryd.func14, Tryd.ntmps14
  go_wp2_with (go_at_call 19; refine hcall.mono ?_; clear hcall; rintro e w1 ⟨rfl, ho, ht⟩; have HO := Lib.hid ho; have HT1 := Lib.hid ht; clear ho ht)
  go_ret
  exact ⟨rfl, HO.out, HT.out.trans HT1.out⟩

set_option maxHeartbeats 1000000 in
theorem heldOrder_any (v : Value) (rows : Rows2) (m : Int) (lo hi : Nat) (w : World) (h : OwnR 3 37 w v rows.length (marked m rows rows.length) lo hi) (hhi : hi ≤ w.heap.size) (h0 : 0 ≤ m) (h1 : m + (lens rows rows.length : Nat) ≤ 1099511627776) :
    Calls Tryd.prog 15 #[.agg #[v], .int .i64 m] w (SaysJ (m + (lens rows rows.length : Nat)) w) := by
  have hb := (Below.refl _ w).alloc (Nat.le_refl _) (.cells #[v] 26)
  have hcall := heldIntSS_any v rows m lo hi _ (h.below hb hhi) h0 h1
  have HB := Lib.hid hb
  have hpos : ¬ (m + (lens rows rows.length : Nat) < 0) := by omega
  have hv : ∃ a n C, v = .slice a n C := by
    obtain ⟨rfl, _⟩ | ⟨g, C, f, rfl, _⟩ := h
    · exact ⟨_, _, _, rfl⟩
    · exact ⟨_, _, _, rfl⟩
  obtain ⟨a, n, C, rfl⟩ := hv
  clear hb h
  go_enter Tryd.func15, Tryd.ntmps15
  go_wp2_with (go_at_call 20; refine hcall.mono ?_; clear hcall; rintro e w1 ⟨rfl, d, rfl⟩)
  go_ret
  exact ⟨rfl, HB.out.trans (below_drewN' _ _ _)⟩
end Go.Proofs.YtkhhbpeheikmfaaDoor
