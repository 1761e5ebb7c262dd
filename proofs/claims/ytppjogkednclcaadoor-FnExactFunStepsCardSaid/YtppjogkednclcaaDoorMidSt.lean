/- The model's FunStrict. -/
import Derived.Test.YtppjogkednclcaaDoorMonoS
import Derived.Lib.QuietBelow
import Derived.BigQuiet
import Derived.Test.YtppjogkednclcaaDoorOwnA
import Derived.Test.YtppjogkednclcaaDoorProg
import Derived.Test.YtppjogkednclcaaDoorAns
import Derived.Test.YtppjogkednclcaaDoorEq
import Derived.Test.YtppjogkednclcaaDoorTo
import Derived.StillTailTactics
import Derived.Test.YtppjogkednclcaaDoorMem
import Derived.LoopTactic
import Derived.RegionTactic
import Derived.Outline
import Derived.Test.YtppjogkednclcaaDoorValid
import Derived.Test.YtppjogkednclcaaDoorFirst
import Derived.RangeFuncBox
import Derived.Test.YtppjogkednclcaaDoorJoinS
import Derived.Maps.AppendAt
import Derived.Test.YtppjogkednclcaaDoorBottom
import Derived.Test.YtppjogkednclcaaDoorIsMono
import Derived.Test.YtppjogkednclcaaDoorImplDom
import Derived.Test.YtppjogkednclcaaDoorIsEl
import Derived.Deep.RegionHeld3
import Derived.Laws.Tables
import Derived.Test.YtppjogkednclcaaDoorTops
namespace Go.Proofs.YtppjogkednclcaaDoor
open Go.RowKit Go.Deep

theorem leastI_nat {rows : Rows2} (h : 0 ≤ leastI rows) : ∃ m : Nat, m < rows.length ∧ leastI rows = m := by
  unfold leastI at h ⊢
  cases e : (List.range rows.length).find? (fun i => (rows.getD i []).length == rows.length) with
  | none => rw [e] at h; exact absurd h (by decide)
  | some m => exact ⟨m, List.mem_range.1 (List.mem_of_find?_eq_some e), rfl⟩
theorem dom_least {rows : Rows2} (h : domB rows = true) : ∃ m : Nat, m < rows.length ∧ leastI rows = m := by
  unfold domB domI at h
  rw [Bool.and_eq_true, Bool.and_eq_true, decide_eq_true_iff] at h
  exact leastI_nat h.2.1
theorem monoB_parts {rows rows' : Rows2} {f : List Int} (h : monoB rows rows' f = true) : domB rows = true ∧ domB rows' = true ∧ Mono rows rows' f := by
  classical
  unfold monoB monoI at h
  rw [Bool.and_eq_true, Bool.and_eq_true, decide_eq_true_iff] at h
  exact ⟨h.1.1, h.1.2, h.2⟩

/-- A monotone function that has the least element for the least one. -/
noncomputable def strictB (rows rows' : Rows2) (f : List Int) : Bool := monoB rows rows' f && decide (f.getD (leastI rows).toNat 0 = leastI rows')

end Go.Proofs.YtppjogkednclcaaDoor

/- A slice of slices in memory of its own grows by a row. Plain facts on worlds: no function is walked here. -/
namespace Go.Proofs.YtppjogkednclcaaDoor
open Go.RowKit Go.Deep

theorem rowIs_owns {u : TypeId} {W : World} {g C n lo : Nat} {f : Nat → Value} (h : W.rowIs g u C f) (hC : n ≤ C) (hm : C ≤ maxLen) (hlo : lo ≤ g) : W.ownsRow lo u 1 (.slice (some ⟨g, 0, none⟩) n C) n ((List.range n).map f) := by
  obtain ⟨c, h5, h6, h7⟩ := h
  refine ⟨by simp, .inr ⟨g, C, c, rfl, hlo, h5, hC, hm, by omega, ?_⟩⟩
  apply List.ext_getElem?
  intro i
  rw [List.getElem?_take, Nat.mul_one]
  by_cases hi : i < n
  · rw [if_pos hi, Array.getElem?_toList, h7 i (by omega)]
    simp [hi]
  · rw [if_neg hi]
    rw [List.getElem?_eq_none (by simp; omega)]
theorem owns_rowIs {u : TypeId} {W : World} {v : Value} {n lo : Nat} {f : Nat → Value} (h : W.ownsRow lo u 1 v n ((List.range n).map f)) (hn : 0 < n) :
    ∃ g C f', v = .slice (some ⟨g, 0, none⟩) n C ∧ n ≤ C ∧ C ≤ maxLen ∧ lo ≤ g ∧ g < W.heap.size ∧ W.rowIs g u C f' ∧ ∀ i, i < n → f' i = f i := by
  obtain ⟨_, ⟨rfl, h0⟩ | ⟨g, C, c, rfl, h3, h5, h1, h2, h6, h7⟩⟩ := h
  · omega
  · refine ⟨g, C, fun i => c[i]?.getD (.int .i64 0), rfl, h1, h2, h3, (Array.getElem?_eq_some_iff.1 h5).1, ⟨c, h5, by omega, fun i hi => ?_⟩, fun i hi => ?_⟩
    · dsimp only
      rw [Array.getElem?_eq_getElem (by omega)]
      rfl
    · have h8 := congrArg (fun l => l[i]?) h7
      rw [List.getElem?_take, Nat.mul_one, if_pos hi, Array.getElem?_toList] at h8
      dsimp only
      rw [h8]
      simp [hi]

/-- What is known of rows, their cells named. -/
theorem OwnR.owns {t u : TypeId} {W : World} {v : Value} {n : Nat} {R : Nat → List Int} {lo hi : Nat} (h : OwnR t u W v n R lo hi) :
    ∃ f, W.ownsRow lo u 1 v n ((List.range n).map f) ∧ (∀ j, j < n → OwnI t W (f j) (R j) lo hi) ∧ (∀ i j, i < j → j < n → (f i).ownBlock = none ∨ (f i).ownBlock ≠ (f j).ownBlock) := by
  obtain ⟨rfl, rfl⟩ | ⟨g, C, f, rfl, h1, h2, h3, h4, h5, h6, h7⟩ := h
  · exact ⟨fun _ => .slice none 0 0, World.ownsRow_nil _ _ _ _, fun j hj => absurd hj (Nat.not_lt_zero _), fun i j _ hj => absurd hj (Nat.not_lt_zero _)⟩
  · exact ⟨f, rowIs_owns h5 h1 h2 h3, h6, h7⟩

/-- A row is added behind. -/
theorem OwnR.pushed {t u : TypeId} {W W1 W2 : World} {v v' v2 : Value} {n lo mid : Nat} {R : Nat → List Int} {f : Nat → Value} {xs : List Int} (htu : t ≠ u)
    (h0 : W.ownsRow lo u 1 v n ((List.range n).map f)) (h1 : ∀ j, j < n → OwnI t W (f j) (R j) lo mid) (h2 : ∀ i j, i < j → j < n → (f i).ownBlock = none ∨ (f i).ownBlock ≠ (f j).ownBlock)
    (hlo : lo ≤ mid) (hmid : mid ≤ W.heap.size) (hn : OwnI t W v' xs mid W.heap.size) (hb1 : Below W.heap.size W W1)
    (hown : W2.ownsRow lo u 1 v2 (n + 1) ((List.range n).map f ++ [v'])) (hgrow : W1.grownBy W2 v.ownBlock) :
    OwnR t u W2 v2 (n + 1) (fun q => if q = n then xs else R q) lo W2.heap.size := by
  have hz : W.heap.size ≤ W2.heap.size := Nat.le_trans hb1.size hgrow.size
  have hvt : ∀ b, v.ownBlock = some b → ∃ c, W.heap[b]? = some (.cells c u (0, 0)) := fun b hb => by
    obtain ⟨_, ⟨rfl, _⟩ | ⟨g, C, c, rfl, _, h5, _⟩⟩ := h0
    · simp [Value.ownBlock] at hb
    · simp [Value.ownBlock] at hb; subst hb; exact ⟨c, h5⟩
  have hkeep : ∀ (b : Nat) (c : Array Value), W.heap[b]? = some (Obj.cells c t (0, 0)) → W2.heap[b]? = W.heap[b]? := fun b c hb => by
    have hlt : b < W.heap.size := (Array.getElem?_eq_some_iff.1 hb).1
    refine (hgrow.block b (Nat.lt_of_lt_of_le hlt hb1.size) (fun e => ?_)).trans (hb1.block b hlt)
    obtain ⟨c', hc'⟩ := hvt b e.symm
    rw [hb] at hc'
    injection hc' with hc'
    injection hc' with _ h5
    exact htu h5
  have hf : (List.range (n + 1)).map (fun q => if q = n then v' else f q) = (List.range n).map f ++ [v'] := by
    rw [List.range_succ, List.map_append]
    congr 1
    · apply List.map_congr_left
      intro q hq
      have : q ≠ n := by have := List.mem_range.1 hq; omega
      rw [if_neg this]
    · simp
  rw [← hf] at hown
  obtain ⟨g, C, f', rfl, k1, k2, k3, k4, k5, k6⟩ := owns_rowIs hown (Nat.succ_pos n)
  refine .inr ⟨g, C, f', rfl, k1, k2, k3, k4, k5, fun q hq => ?_, fun p q hpq hq => ?_⟩
  · rw [k6 q hq]
    dsimp only
    by_cases e : q = n
    · subst e
      rw [if_pos rfl, if_pos rfl]
      refine (hn.wider hlo hz).kept fun b hb => ?_
      obtain ⟨_, _, c, hc⟩ := hn.block b hb
      exact hkeep b c hc
    · rw [if_neg e, if_neg e]
      have hq' : q < n := by omega
      refine ((h1 q hq').wider (Nat.le_refl _) (by omega)).kept fun b hb => ?_
      obtain ⟨_, _, c, hc⟩ := (h1 q hq').block b hb
      exact hkeep b c hc
  · rw [k6 p (by omega), k6 q hq]
    have hp' : p ≠ n := by omega
    rw [if_neg hp']
    by_cases e : q = n
    · rw [if_pos e]
      cases hb : (f p).ownBlock with
      | none => exact .inl rfl
      | some b =>
        right
        intro e2
        have := ((h1 p (by omega)).block b hb).2.1
        have := (hn.block b e2.symm).1
        omega
    · rw [if_neg e]
      exact h2 p q hpq (by omega)

theorem owns_below {t : TypeId} {W W' : World} {lo n : Nat} {v : Value} {xs : List Value} (h : W.ownsRow lo t 1 v n xs) (hb : Below W.heap.size W W') : W'.ownsRow lo t 1 v n xs := by
  refine h.kept (row := none) ⟨hb.os, hb.tape, hb.output, hb.size, fun k hk _ => hb.block k hk⟩ ?_
  cases hv : v.ownBlock with
  | none => exact .inl rfl
  | some b => exact .inr (by simp)
theorem wf_int {y : Int} (h0 : 0 ≤ y) (h1 : y ≤ 1048576) : (Lit.int .i64 y).wf = true := by
  have e1 : IntKind.i64.min = -9223372036854775808 := rfl
  have e2 : IntKind.i64.max = 9223372036854775807 := rfl
  simp [Lit.wf, e1, e2]
  omega
end Go.Proofs.YtppjogkednclcaaDoor

/- The laws' own marks: an answer is written full of numbers, and looked at again (markIntS, markIntSS, markOrder, heldIntS, heldIntSS, heldOrder). -/
namespace Go.Proofs.YtppjogkednclcaaDoor
open Go.RowKit Go.Deep

theorem grownBy_trans {a b c : World} {row : Option Nat} (h : a.grownBy b row) (k : b.grownBy c row) : a.grownBy c row :=
  ⟨k.os.trans h.os, k.tape.trans h.tape, k.output.trans h.output, Nat.le_trans h.size k.size, fun i hi hr => (k.block i (Nat.lt_of_lt_of_le hi h.size) hr).trans (h.block i hi hr)⟩
theorem grownBy_set (W : World) (g o : Nat) (v : Value) : W.grownBy (W.setCell ⟨g, o, none⟩ v) (some g) :=
  ⟨rfl, rfl, rfl, by simp [World.setCell], fun k _ hk => Below.heap_setCell _ _ _ k (fun e => hk (by rw [e]))⟩

/-- The slice v has been marked from k on. -/
def MarkI (v : Value) (xs : List Int) (k : Int) (lo hi : Nat) (w : World) (e : Ending) (w' : World) : Prop :=
  e = .returned (.int .i64 (k + xs.length)) ∧ OwnI 3 w' v (marks k xs.length) lo hi ∧ w.grownBy w' v.ownBlock

set_option maxHeartbeats 1000000 in
theorem markIntS_any (v : Value) (xs : List Int) (k : Int) (lo hi : Nat) (w : World) (h : OwnI 3 w v xs lo hi) (h0 : 0 ≤ k) (h1 : k + xs.length ≤ 1099511627776) :
    Calls Tryd.prog 18 #[v, .int .i64 k] w (MarkI v xs k lo hi w) := by
  have hwf := marks_wf (k := k) (n := xs.length) h0 h1
  have HWF := Lib.hid hwf
  clear hwf
  obtain ⟨_, ⟨rfl, rfl⟩ | ⟨g, C, f, rfl, hC, hm, hlo, hhi, hr, hf⟩⟩ := h
  · go_enter Tryd.func18, Tryd.ntmps18
    go_wp2
    refine wp_loop_rounds 1 ?_
    rw [rounds_succ]
    go_wp2
    go_ret
    exact ⟨by simp, OwnI.nil _ _ _ _, ⟨rfl, rfl, rfl, Nat.le_refl _, fun _ _ _ => rfl⟩⟩
  · unfold maxLen at hm
    have HF := Lib.hid hf
    clear hf
    go_enter Tryd.func18, Tryd.ntmps18
    go_wp2
    go_loopw [1, 5] (fun kv iv wr => ∃ j : Nat, j ≤ xs.length ∧ iv = .int .i64 j ∧ kv = .int .i64 (k + j) ∧ wr.rowIs g 3 C (fun i => if i < j then .int .i64 (k + i) else f i) ∧ w.grownBy wr (some g)) (fun _ iv _ => xs.length - (intOf iv).toNat)
    case atStart =>
      exact ⟨0, Nat.zero_le _, rfl, by simp, hr.congr (fun i _ => by simp), ⟨rfl, rfl, rfl, Nat.le_refl _, fun _ _ _ => rfl⟩⟩
    case round =>
      obtain ⟨j, hj, rfl, rfl, hrow, hg⟩ := hrel
      by_cases hlt : j < xs.length
      · obtain ⟨v3, h3⟩ : ∃ v3, wr.cell? ⟨g, j, none⟩ = some v3 := ⟨_, hrow.cell (by omega)⟩
        have hfr := hrow.frozen j
        have HR := Lib.hid hrow
        have HG := Lib.hid hg
        clear hrow hg hr
        go_wp2
        go_roundw
        case rel =>
          refine ⟨j + 1, by omega, by go_num, by first | go_num | (congr 1; omega), (HR.out.set j _).congr (fun i _ => ?_), grownBy_trans HG.out (grownBy_set _ _ _ _)⟩
          by_cases e : i = j
          · subst e; rw [if_pos rfl, if_pos (by omega)]
          · rw [if_neg e]
            by_cases h : i < j
            · rw [if_pos h, if_pos (by omega)]
            · rw [if_neg h, if_neg (by omega)]
        case measure => simp [intOf]; omega
      · obtain rfl : j = xs.length := by omega
        have HR := Lib.hid hrow
        have HG := Lib.hid hg
        clear hrow hg hr
        go_wp2
        go_ret
        refine ⟨rfl, ⟨HWF.out, .inr ⟨g, C, _, by rw [marks_length], by rw [marks_length]; exact hC, by unfold maxLen; exact hm, hlo, hhi, HR.out, fun i hi => ?_⟩⟩, HG.out⟩
        rw [marks_length] at hi
        rw [if_pos hi, marks_at]

/-- The number k, and a world that parts from w in draws alone. -/
def SaysK (k : Int) (w : World) (e : Ending) (w' : World) : Prop := e = .returned (.int .i64 k) ∧ ∃ n, w' = w.drewN n

set_option maxHeartbeats 1000000 in
theorem heldIntS_any (v : Value) (k : Int) (n : Nat) (w : World) (h : IntsAt w v (marks k n)) (h0 : 0 ≤ k) (h1 : k + n ≤ 1099511627776) :
    Calls Tryd.prog 19 #[v, .int .i64 k] w (SaysK (k + n) w) := by
  obtain ⟨a, C, rfl, hC, hm, _, hx⟩ := h
  have hx' : ∀ i, i < n → ∃ b o, a = some ⟨b, o, none⟩ ∧ w.cell? ⟨b, o + i, none⟩ = some (.int .i64 (k + i)) := fun i hi => by
    obtain ⟨b, o, h1, h2⟩ := hx i (by rw [marks_length]; exact hi)
    exact ⟨b, o, h1, by rw [h2, marks_at]⟩
  have HX := Lib.hid hx'
  rw [marks_length] at *
  unfold maxLen at hm
  clear hx hx'
  go_enter Tryd.func19, Tryd.ntmps19
  go_wp2
  go_loopw [1, 5] (fun kv iv wr => ∃ j m : Nat, j ≤ n ∧ iv = .int .i64 j ∧ kv = .int .i64 (k + j) ∧ wr = w.drewN m) (fun _ iv _ => n - (intOf iv).toNat)
  case atStart => exact ⟨0, 0, Nat.zero_le _, rfl, by simp, rfl⟩
  case round =>
    obtain ⟨j, m, hj, rfl, rfl, hw⟩ := hrel
    by_cases hlt : j < n
    · obtain ⟨b, o, rfl, hc⟩ := HX.out j hlt
      replace hc : wr.cell? ⟨b, o + j, none⟩ = some (.int .i64 (k + j)) := by rw [hw]; exact hc
      have HW := Lib.hid hw
      clear hw
      go_wp2
      go_roundw
      case rel => exact ⟨j + 1, _, by omega, by go_num, by first | go_num | (congr 1; omega), by rw [HW.out]⟩
      case measure => simp [intOf]; omega
    · obtain rfl : j = n := by omega
      have HW := Lib.hid hw
      clear hw
      go_wp2
      go_ret
      exact ⟨rfl, _, HW.out⟩

theorem type_ne : (3 : TypeId) ≠ 33 := by decide

/-- The rows of the slice v have been marked from m on. -/
def MarkR (v : Value) (rows : Rows2) (m : Int) (lo hi : Nat) (w : World) (e : Ending) (w' : World) : Prop :=
  e = .returned (.int .i64 (m + (lens rows rows.length : Nat))) ∧ OwnR 3 33 w' v rows.length (marked m rows rows.length) lo hi ∧ Turned lo hi w w'

theorem marked_zero (m : Int) (rows : Rows2) (j : Nat) : marked m rows 0 j = rowsF rows j := by unfold marked; rw [if_neg (by omega)]
theorem lens_mono {rows : Rows2} {i : Nat} : ∀ {j : Nat}, i ≤ j → j ≤ rows.length → lens rows i ≤ lens rows j
  | 0, h, _ => by obtain rfl : i = 0 := (by omega); exact Nat.le_refl _
  | j + 1, h, hj => by
    by_cases e : i = j + 1
    · subst e; exact Nat.le_refl _
    · have := lens_mono (rows := rows) (i := i) (j := j) (by omega) (by omega)
      rw [lens_succ (by omega)]; omega

set_option maxHeartbeats 1000000 in
theorem markIntSS_any (v : Value) (rows : Rows2) (m : Int) (lo hi : Nat) (w : World) (h : OwnR 3 33 w v rows.length (rowsF rows) lo hi) (hlo : lo ≤ w.heap.size) (h0 : 0 ≤ m) (h1 : m + (lens rows rows.length : Nat) ≤ 1099511627776) :
    Calls Tryd.prog 36 #[v, .int .i64 m] w (MarkR v rows m lo hi w) := by
  obtain ⟨rfl, hz⟩ | ⟨g, C, f, rfl, hC, hm, hl, hh, hr, hI, hD⟩ := h
  · obtain rfl : rows = [] := List.length_eq_zero_iff.1 hz
    go_enter Tryd.func36, Tryd.ntmps36
    go_wp2
    refine wp_loop_rounds 1 ?_
    rw [rounds_succ]
    go_wp2
    go_ret
    exact ⟨by simp [lens], OwnR.nil _ _ _ _ _ _, Turned.refl _ _ _⟩
  · unfold maxLen at hm
    have HI := Lib.hid hI
    have HD := Lib.hid hD
    have HR := Lib.hid hr
    clear hI hD hr
    go_enter Tryd.func36, Tryd.ntmps36
    go_wp2
    go_loopw [1, 5] (fun kv iv wr => ∃ j : Nat, j ≤ rows.length ∧ iv = .int .i64 j ∧ kv = .int .i64 (m + (lens rows j : Nat)) ∧ wr.rowIs g 33 C f ∧ (∀ i, i < rows.length → OwnI 3 wr (f i) (marked m rows j i) lo hi) ∧ Turned lo hi w wr) (fun _ iv _ => rows.length - (intOf iv).toNat)
    case atStart => exact ⟨0, Nat.zero_le _, rfl, by simp [lens], HR.out, fun i hi => by rw [marked_zero]; exact HI.out i hi, Turned.refl _ _ _⟩
    case round =>
      obtain ⟨j, hj, rfl, rfl, hrow, hrows, ht⟩ := hrel
      have HS := Lib.hid hrows
      have HT := Lib.hid ht
      have HW := Lib.hid hrow
      by_cases hlt : j < rows.length
      · have hc : wr.cell? ⟨g, j, none⟩ = some (f j) := hrow.cell (by omega)
        have hj0 := hrows j hlt
        have e0 : marked m rows j j = rows[j] := by unfold marked; rw [if_neg (by omega), rowsF_lt hlt]
        rw [e0] at hj0
        have hls := lens_succ hlt
        have hmono := lens_mono (rows := rows) (i := j + 1) (j := rows.length) (by omega) (Nat.le_refl _)
        have hcall := markIntS_any (f j) rows[j] (m + (lens rows j : Nat)) lo hi wr hj0 (by omega) (by omega)
        have HLS := Lib.hid hls
        clear hrow hrows ht e0 hj0 hls
        go_wp2_with (go_at_call 18; refine hcall.mono ?_; clear hcall; rintro e w1 ⟨rfl, ho, hg⟩; have HO := Lib.hid ho; have HG := Lib.hid hg; clear ho hg)
        go_roundw
        case rel =>
          have hls := HLS.out
          have hgt : ∀ b, (f j).ownBlock = some b → lo ≤ b ∧ b < hi := fun b hb => by
            obtain ⟨x, y, _⟩ := HO.out.block b hb
            exact ⟨x, y⟩
          refine ⟨j + 1, by omega, by go_num, by rw [hls]; first | go_num | (congr 1; omega), ?_, fun i hi' => ?_, HT.out.trans (Turned.of_grownBy HG.out (Nat.le_trans hlo HT.out.below.size) hgt)⟩
          · refine HW.out.of_block (HG.out.block g HW.out.lt (fun e => ?_))
            obtain ⟨_, _, c, hcb⟩ := HO.out.block g e.symm
            obtain ⟨_, _, c0, hc0⟩ := (HS.out j hlt).block g e.symm
            obtain ⟨c1, hc1, _⟩ := HW.out
            rw [hc0] at hc1
            have e3 := Option.some.inj hc1
            injection e3 with _ e4
            exact type_ne e4
          · by_cases e : i = j
            · subst e
              have e1 : marked m rows (i + 1) i = marks (m + (lens rows i : Nat)) rows[i].length := by unfold marked; rw [if_pos (by omega), rowsF_lt hlt]
              rw [e1]; exact HO.out
            · have e1 : marked m rows (j + 1) i = marked m rows j i := by
                unfold marked
                by_cases h : i < j
                · rw [if_pos h, if_pos (by omega)]
                · rw [if_neg h, if_neg (by omega)]
              rw [e1]
              refine (HS.out i hi').kept fun b hb => HG.out.block b ?_ fun e2 => ?_
              · obtain ⟨_, _, c, hcb⟩ := (HS.out i hi').block b hb
                exact (Array.getElem?_eq_some_iff.1 hcb).1
              · rcases Nat.lt_or_gt_of_ne e with hij | hij
                · rcases HD.out i j hij hlt with h3 | h3
                  · rw [h3] at hb; cases hb
                  · exact h3 (hb.trans e2)
                · rcases HD.out j i hij hi' with h3 | h3
                  · rw [h3] at e2; cases e2
                  · exact h3 (e2.symm.trans hb.symm)
        case measure => simp [intOf]; omega
      · obtain rfl : j = rows.length := by omega
        clear hrow hrows ht
        go_wp2
        go_ret
        exact ⟨rfl, .inr ⟨g, C, f, rfl, hC, by unfold maxLen; exact hm, hl, hh, HW.out, HS.out, HD.out⟩, HT.out⟩

set_option maxHeartbeats 1000000 in
theorem heldIntSS_any (v : Value) (rows : Rows2) (m : Int) (lo hi : Nat) (w : World) (h : OwnR 3 33 w v rows.length (marked m rows rows.length) lo hi) (h0 : 0 ≤ m) (h1 : m + (lens rows rows.length : Nat) ≤ 1099511627776) :
    Calls Tryd.prog 37 #[v, .int .i64 m] w (SaysK (m + (lens rows rows.length : Nat)) w) := by
  obtain ⟨rfl, hz⟩ | ⟨g, C, f, rfl, hC, hm, hl, hh, hr, hI, hD⟩ := h
  · obtain rfl : rows = [] := List.length_eq_zero_iff.1 hz
    go_enter Tryd.func37, Tryd.ntmps37
    go_wp2
    refine wp_loop_rounds 1 ?_
    rw [rounds_succ]
    go_wp2
    go_ret
    exact ⟨by simp [lens], 0, rfl⟩
  · unfold maxLen at hm
    have HI := Lib.hid hI
    have HR := Lib.hid hr
    clear hI hD hr
    go_enter Tryd.func37, Tryd.ntmps37
    go_wp2
    go_loopw [1, 5] (fun kv iv wr => ∃ j d : Nat, j ≤ rows.length ∧ iv = .int .i64 j ∧ kv = .int .i64 (m + (lens rows j : Nat)) ∧ wr = w.drewN d) (fun _ iv _ => rows.length - (intOf iv).toNat)
    case atStart => exact ⟨0, 0, Nat.zero_le _, rfl, by simp [lens], rfl⟩
    case round =>
      obtain ⟨j, d, hj, rfl, rfl, hw⟩ := hrel
      by_cases hlt : j < rows.length
      · have hc : wr.cell? ⟨g, j, none⟩ = some (f j) := by rw [hw]; exact HR.out.cell (by omega)
        have e0 : marked m rows rows.length j = marks (m + (lens rows j : Nat)) rows[j].length := by unfold marked; rw [if_pos hlt, rowsF_lt hlt]
        have hj0 : IntsAt wr (f j) (marks (m + (lens rows j : Nat)) rows[j].length) := by rw [hw, ← e0]; exact (HI.out j hlt).at
        have hls := lens_succ hlt
        have hmono := lens_mono (rows := rows) (i := j + 1) (j := rows.length) (by omega) (Nat.le_refl _)
        have hcall := heldIntS_any (f j) (m + (lens rows j : Nat)) rows[j].length wr hj0 (by omega) (by omega)
        have HLS := Lib.hid hls
        have HW := Lib.hid hw
        have hpos : ¬ (m + (lens rows j : Nat) + (rows[j].length : Int) < 0) := by omega
        clear hw e0 hj0 hls
        go_wp2_with (go_at_call 19; refine hcall.mono ?_; clear hcall; rintro e w1 ⟨rfl, d1, rfl⟩)
        go_roundw
        case rel => exact ⟨j + 1, _, by omega, by go_num, by rw [HLS.out]; first | go_num | (congr 1; omega), by rw [HW.out, World.drewN_drewN]⟩
        case measure => simp [intOf]; omega
      · obtain rfl : j = rows.length := by omega
        have HW := Lib.hid hw
        clear hw
        go_wp2
        go_ret
        exact ⟨rfl, _, HW.out⟩

/-- The number k, and a world in which nothing that was there has turned. -/
def SaysJ (k : Int) (w : World) (e : Ending) (w' : World) : Prop := e = .returned (.int .i64 k) ∧ Below w.heap.size w w'

theorem turned_alloc (lo hi : Nat) (w : World) (o : Obj) (h : lo ≤ w.heap.size) : Turned lo hi w (w.alloc o) := ⟨(Below.refl _ w).alloc h o, fun _ _ hb => Below.heap_alloc _ _ _ hb⟩

set_option maxHeartbeats 1000000 in
theorem markOrder_any (v : Value) (rows : Rows2) (m : Int) (lo hi : Nat) (w : World) (h : OwnR 3 33 w v rows.length (rowsF rows) lo hi) (hlo : lo ≤ w.heap.size) (hhi : hi ≤ w.heap.size) (h0 : 0 ≤ m) (h1 : m + (lens rows rows.length : Nat) ≤ 1099511627776) :
    Calls Tryd.prog 12 #[.agg #[v], .int .i64 m] w (MarkR v rows m lo hi w) := by
  have ht := turned_alloc lo hi w (.cells #[v] 26) hlo
  have hcall := markIntSS_any v rows m lo hi _ (h.below ((Below.refl _ w).alloc (Nat.le_refl _) (.cells #[v] 26)) hhi) (by rw [World.size_alloc]; omega) h0 h1
  have HT := Lib.hid ht
  obtain ⟨a, C, rfl, _⟩ := h.at
  clear ht h
  go_enter Tryd.func12, Tryd.ntmps12
  go_wp2_with (go_at_call 36; refine hcall.mono ?_; clear hcall; rintro e w1 ⟨rfl, ho, ht⟩; have HO := Lib.hid ho; have HT1 := Lib.hid ht; clear ho ht)
  go_ret
  exact ⟨rfl, HO.out, HT.out.trans HT1.out⟩

set_option maxHeartbeats 1000000 in
theorem heldOrder_any (v : Value) (rows : Rows2) (m : Int) (lo hi : Nat) (w : World) (h : OwnR 3 33 w v rows.length (marked m rows rows.length) lo hi) (hhi : hi ≤ w.heap.size) (h0 : 0 ≤ m) (h1 : m + (lens rows rows.length : Nat) ≤ 1099511627776) :
    Calls Tryd.prog 13 #[.agg #[v], .int .i64 m] w (SaysJ (m + (lens rows rows.length : Nat)) w) := by
  have hb := (Below.refl _ w).alloc (Nat.le_refl _) (.cells #[v] 26)
  have hcall := heldIntSS_any v rows m lo hi _ (h.below hb hhi) h0 h1
  have HB := Lib.hid hb
  have hpos : ¬ (m + (lens rows rows.length : Nat) < 0) := by omega
  have hv : ∃ a n C, v = .slice a n C := by
    obtain ⟨rfl, _⟩ | ⟨g, C, f, rfl, _⟩ := h
    · exact ⟨_, _, _, rfl⟩
    · exact ⟨_, _, _, rfl⟩
  obtain ⟨a, n, C, rfl⟩ := hv
  clear hb h
  go_enter Tryd.func13, Tryd.ntmps13
  go_wp2_with (go_at_call 37; refine hcall.mono ?_; clear hcall; rintro e w1 ⟨rfl, d, rfl⟩)
  go_ret
  exact ⟨rfl, HB.out.trans (below_drewN' _ _ _)⟩
end Go.Proofs.YtppjogkednclcaaDoor

/- The laws' own measures of an argument's size (szIntS, szIntSS, szOrder): what is left, or less than 0. -/
namespace Go.Proofs.YtppjogkednclcaaDoor
open Go.RowKit Go.Deep

set_option maxHeartbeats 400000 in
theorem szIntS_any (a : Option Addr) (n C : Nat) (left : Int) (w : World) (hn : n ≤ maxLen) (h0 : 0 ≤ left) (h1 : left ≤ 1048576) :
    Calls Tryd.prog 51 #[.slice a n C, .int .i64 left] w fun e w' => e = .returned (.int .i64 (if left < n then -1 else left - n)) ∧ w = w' := by
  unfold maxLen at hn
  by_cases h : left < n
  · rw [if_pos h]
    go_enter Tryd.func51, Tryd.ntmps51
    go_wp2
    go_ret
    exact ⟨rfl, rfl⟩
  · rw [if_neg h]
    go_enter Tryd.func51, Tryd.ntmps51
    go_wp2
    go_ret
    exact ⟨rfl, rfl⟩

/-- What is left of 'left' when the rows are taken off, or -1 where they are too many. -/
def SzPost (rows : Rows2) (left : Int) (P : World → Prop) (e : Ending) (w' : World) : Prop :=
  (∃ r : Int, (r = -1 ∨ (0 ≤ r ∧ r ≤ left ∧ bulk rows ≤ left)) ∧ e = .returned (.int .i64 r)) ∧ P w'
theorem SzPost.no {rows : Rows2} {left : Int} {P : World → Prop} {w' : World} (h : P w') : SzPost rows left P (.returned (.int .i64 (-1))) w' := ⟨⟨-1, .inl rfl, rfl⟩, h⟩
theorem SzPost.yes {rows : Rows2} {left r : Int} {P : World → Prop} {w' : World} (h0 : 0 ≤ r) (h1 : r ≤ left) (h2 : bulk rows ≤ left) (h : P w') : SzPost rows left P (.returned (.int .i64 r)) w' := ⟨⟨r, .inr ⟨h0, h1, h2⟩, rfl⟩, h⟩

set_option maxHeartbeats 1000000 in
theorem szIntSS_any (v : Value) (rows : Rows2) (left : Int) (w : World) (hv : RowsAt w v rows) (h0 : 0 ≤ left) (h1 : left ≤ 1048576) :
    Calls Tryd.prog 24 #[v, .int .i64 left] w (SzPost rows left fun w' => w = w') := by
  obtain ⟨a, C, rfl, hC, hm, hrow⟩ := hv
  unfold maxLen at hm
  go_enter Tryd.func24, Tryd.ntmps24
  by_cases h : left < rows.length
  · go_wp2
    go_ret
    exact SzPost.no rfl
  · go_wp2
    go_loop [1, 5] (fun l i => ∃ k : Nat, k ≤ rows.length ∧ i = .int .i64 k ∧ (rows.length : Int) + (lens rows k : Nat) ≤ left ∧ l = .int .i64 (left - rows.length - (lens rows k : Nat))) (fun _ i => rows.length - (intOf i).toNat)
    case atStart => exact ⟨0, Nat.zero_le _, rfl, by simp [lens_zero]; omega, by simp [lens_zero]⟩
    case round =>
      obtain ⟨k, hk, rfl, hl, rfl⟩ := hrel
      by_cases hlt : k < rows.length
      · obtain ⟨b, o, u, rfl, hc, hu⟩ := hrow k hlt
        obtain ⟨a', C', rfl, h2, h3, _, _⟩ := hu
        unfold maxLen at h3
        have hs := lens_succ hlt
        by_cases hlast : left - rows.length - (lens rows k : Nat) < rows[k].length
        · go_wp2_with (go_at_call 51; refine (szIntS_any _ _ _ _ _ (by unfold maxLen; omega) (by omega) (by omega)).mono ?_; rw [if_pos hlast]; rintro e w' ⟨rfl, rfl⟩)
          go_ret
          exact SzPost.no rfl
        · go_wp2_with (go_at_call 51; refine (szIntS_any _ _ _ _ _ (by unfold maxLen; omega) (by omega) (by omega)).mono ?_; rw [if_neg hlast]; rintro e w' ⟨rfl, rfl⟩)
          go_round
          case rel => exact ⟨k + 1, by omega, by go_num, by omega, by rw [hs]; go_num⟩
          case measure => simp [intOf]; omega
      · obtain rfl : k = rows.length := by omega
        have ha := lens_all rows
        go_wp2
        go_ret
        exact SzPost.yes (by omega) (by omega) (by omega) rfl

set_option maxHeartbeats 1000000 in
theorem szOrder_any (v : Value) (rows : Rows2) (left : Int) (w : World) (hv : RowsAt w v rows) (h0 : 0 ≤ left) (h1 : left ≤ 1048576) :
    Calls Tryd.prog 7 #[.agg #[v], .int .i64 left] w (SzPost rows left (Below w.heap.size w)) := by
  go_enter Tryd.func7, Tryd.ntmps7
  have hv' := hv.below ((Below.refl _ w).alloc (Nat.le_refl _) (.cells #[v] 24))
  obtain ⟨a, C, rfl, _⟩ := hv
  go_wp2_with (go_at_call 24; refine (szIntSS_any _ _ _ _ hv' h0 h1).mono ?_; rintro e w' ⟨⟨r, hr, rfl⟩, rfl⟩)
  all_goals
    go_ret
    rcases hr with rfl | ⟨h2, h3, h4⟩
    · first | omega | exact SzPost.no ((Below.refl _ w).alloc (Nat.le_refl _) _)
    · first | omega | exact SzPost.yes h2 h3 h4 ((Below.refl _ w).alloc (Nat.le_refl _) _)
theorem below_drew (w : World) (B : Nat) : Below B w w.drew := ⟨rfl, rfl, rfl, Nat.le_refl _, fun _ _ => rfl⟩
theorem maxLen_ge {n : Nat} (h : n ≤ 1048576) : n ≤ maxLen := by unfold maxLen; omega
end Go.Proofs.YtppjogkednclcaaDoor

/- What a law holds while it looks at an answer that is an order: the argument, the model's answer, the copy that the program had, the program's answer, all in memory of their own. Plain facts on worlds. -/
namespace Go.Proofs.YtppjogkednclcaaDoor
open Go.RowKit Go.Deep

/-- The rows res as an order in memory of its own, and the Boolean t. -/
def OrderP (res : Rows2) (t : Bool) (w : World) (e : Ending) (w' : World) : Prop :=
  ∃ v, e = .returned (.tuple #[.agg #[v], .bool t]) ∧ OwnR 3 33 w' v res.length (rowsF res) w.heap.size w'.heap.size ∧ Below w.heap.size w w'


/-- The places of the answers. -/
structure Places where
  lo1 : Nat
  hi1 : Nat
  lo2 : Nat
  hi2 : Nat
  lo3 : Nat
  hi3 : Nat

structure Lw (w : World) (v : Value) (rows res : Rows2) (p : Places) (v1 v2 v3 : Value) (R2 R3 : Nat → List Int) (W : World) : Prop where
  base : RowsAt w v rows
  tab0 : Tab w
  arg : W.cell? ⟨w.heap.size, 0, none⟩ = some v
  below : Below w.heap.size w W
  b4 : Boxed W p.hi1 26 v1
  o4 : OwnR 3 33 W v1 res.length (rowsF res) p.lo1 p.hi1
  b6 : Boxed W p.hi2 26 v2
  o6 : OwnR 3 33 W v2 rows.length R2 p.lo2 p.hi2
  b7 : Boxed W p.hi3 26 v3
  o7 : OwnR 3 33 W v3 res.length R3 p.lo3 p.hi3
  ord : w.heap.size < p.lo1 ∧ p.lo1 ≤ p.hi1 ∧ p.hi1 < p.lo2 ∧ p.lo2 ≤ p.hi2 ∧ p.hi2 < p.lo3 ∧ p.lo3 ≤ p.hi3 ∧ p.hi3 < W.heap.size

section
variable {w : World} {v v1 v2 v3 : Value} {rows res : Rows2} {p : Places} {R2 R3 : Nat → List Int} {W W' : World}
theorem Lw.rowsAt (h : Lw w v rows res p v1 v2 v3 R2 R3 W) : RowsAt W v rows := h.base.below h.below
theorem Lw.tab (h : Lw w v rows res p v1 v2 v3 R2 R3 W) : Tab W := h.tab0.below h.below
theorem Lw.step (h : Lw w v rows res p v1 v2 v3 R2 R3 W) (hb : Below W.heap.size W W') : Lw w v rows res p v1 v2 v3 R2 R3 W' := by
  have ho := h.ord
  have hz := hb.size
  exact ⟨h.base, h.tab0, (hb.cell (p := ⟨w.heap.size, 0, none⟩) (cell_lt h.arg)).trans h.arg, h.below.trans (hb.mono h.below.size), (hb.block _ h.b4.lt).trans h.b4, h.o4.below hb (by omega), (hb.block _ h.b6.lt).trans h.b6, h.o6.below hb (by omega), (hb.block _ h.b7.lt).trans h.b7, h.o7.below hb (by omega), by omega⟩
/-- The copy has been marked. -/
theorem Lw.mark2 {R2' : Nat → List Int} (h : Lw w v rows res p v1 v2 v3 R2 R3 W) (ht : Turned p.lo2 p.hi2 W W') (ho : OwnR 3 33 W' v2 rows.length R2' p.lo2 p.hi2) : Lw w v rows res p v1 v2 v3 R2' R3 W' := by
  have hd := h.ord
  have hz := ht.below.size
  have hbl : ∀ b, b < p.lo2 → W'.heap[b]? = W.heap[b]? := fun b hb => ht.below.block b hb
  have hab : ∀ b, p.hi2 ≤ b → b < W.heap.size → W'.heap[b]? = W.heap[b]? := ht.above
  exact ⟨h.base, h.tab0, (World.cell?_of_block (hbl w.heap.size (by omega))).trans h.arg, h.below.trans (ht.below.mono (by omega)), (hbl _ (by omega)).trans h.b4, h.o4.kept fun b _ hb => hbl b (by omega), (hab _ (by omega) (by omega)).trans h.b6, ho, (hab _ (by omega) (by omega)).trans h.b7, h.o7.kept fun b hb hb' => hab b (by omega) (by omega), by omega⟩
/-- The program's answer has been marked. -/
theorem Lw.mark3 {R3' : Nat → List Int} (h : Lw w v rows res p v1 v2 v3 R2 R3 W) (ht : Turned p.lo3 p.hi3 W W') (ho : OwnR 3 33 W' v3 res.length R3' p.lo3 p.hi3) : Lw w v rows res p v1 v2 v3 R2 R3' W' := by
  have hd := h.ord
  have hz := ht.below.size
  have hbl : ∀ b, b < p.lo3 → W'.heap[b]? = W.heap[b]? := fun b hb => ht.below.block b hb
  have hab : ∀ b, p.hi3 ≤ b → b < W.heap.size → W'.heap[b]? = W.heap[b]? := ht.above
  exact ⟨h.base, h.tab0, (World.cell?_of_block (hbl w.heap.size (by omega))).trans h.arg, h.below.trans (ht.below.mono (by omega)), (hbl _ (by omega)).trans h.b4, h.o4.kept fun b _ hb => hbl b (by omega), (hbl _ (by omega)).trans h.b6, h.o6.kept fun b _ hb => hbl b (by omega), (hab _ (by omega) (by omega)).trans h.b7, ho, by omega⟩
end
end Go.Proofs.YtppjogkednclcaaDoor

/- The model's steps (l3Step), and its FunStep. -/
namespace Go.Proofs.YtppjogkednclcaaDoor
open Go.RowKit Go.Deep

theorem owns_weaker {W : World} {lo lo' n : Nat} {t : TypeId} {v : Value} {xs : List Value} (h : W.ownsRow lo t 1 v n xs) (hl : lo' ≤ lo) : W.ownsRow lo' t 1 v n xs := by
  obtain ⟨h1, h2 | ⟨g, c, cur, rfl, h3, h4⟩⟩ := h
  · exact ⟨h1, .inl h2⟩
  · exact ⟨h1, .inr ⟨g, c, cur, rfl, by omega, h4⟩⟩
/-- The numbers xs, in memory of their own. -/
def OwnQ (xs : List Int) (w : World) (e : Ending) (w' : World) : Prop :=
  ∃ v, e = .returned v ∧ OwnI 3 w' v xs w.heap.size w'.heap.size ∧ Below w.heap.size w w'

/-- What the step of a to b has for element i. -/
def stepAt (rows rows' : Rows2) (a : Nat) (b : Int) (i : Nat) : Int := if upB rows a (i : Int) = true then b else leastI rows'
def stepN (rows rows' : Rows2) (a : Nat) (b : Int) (k : Nat) : List Int := (List.range k).map (stepAt rows rows' a b)
theorem stepN_length (rows rows' : Rows2) (a : Nat) (b : Int) (k : Nat) : (stepN rows rows' a b k).length = k := by unfold stepN; simp
theorem stepN_succ (rows rows' : Rows2) (a : Nat) (b : Int) (k : Nat) : stepN rows rows' a b (k + 1) = stepN rows rows' a b k ++ [stepAt rows rows' a b k] := by
  unfold stepN
  rw [List.range_succ, List.map_append]
  rfl

/-- Behind an append to a list of the call's own. -/
theorem Two.grow {w : World} {v v' : Value} {rows rows' : Rows2} {W w1 : World} (h : Two w v v' rows rows' W) (hv : RowsAt w v rows) (hv' : RowsAt w v' rows') {u : Value} {n : Nat} {xs : List Value} (ho : W.ownsRow (w.heap.size + 2) 3 1 u n xs) (o : Obj) {row : Option Nat} (hg : (W.alloc o).grownBy w1 row) (hr : row = u.ownBlock := by rfl) : Two w v v' rows rows' w1 := by
  subst hr
  have hb1 : w.heap.size + 1 < W.heap.size := cell_lt h.c1
  have hb : Below (w.heap.size + 2) W w1 := ((Below.refl (w.heap.size + 2) W).alloc (by omega) o).grown hg (by rw [World.size_alloc]; omega) (fun b e => (ho.lt b e).1)
  have hw : Below w.heap.size w w1 := h.below.trans (hb.mono (by omega))
  exact ⟨(hb.cell (p := ⟨w.heap.size, 0, none⟩) (by show w.heap.size < w.heap.size + 2; omega)).trans h.c0, (hb.cell (p := ⟨w.heap.size + 1, 0, none⟩) (by show w.heap.size + 1 < w.heap.size + 2; omega)).trans h.c1, hv.below hw, hv'.below hw, hw⟩

/-- What FunStep answers. -/
noncomputable def stepOk (rows rows' : Rows2) (a b : Int) : Bool := domB rows && domB rows' && (decide (0 ≤ a ∧ a < rows.length) && decide (0 ≤ b ∧ b < rows'.length))
noncomputable def stepL (rows rows' : Rows2) (a b : Int) : List Int := if stepOk rows rows' a b = true then stepN rows rows' a.toNat b rows.length else []
/-- A list in memory of its own, and a Boolean. -/
def OwnB (xs : List Int) (t : Bool) (w : World) (e : Ending) (w' : World) : Prop :=
  ∃ v, e = .returned (.tuple #[v, .bool t]) ∧ OwnI 3 w' v xs w.heap.size w'.heap.size ∧ Below w.heap.size w w'
theorem stepOk_no1 {rows rows' : Rows2} {a b : Int} (h : domB rows = false) : stepOk rows rows' a b = false := by unfold stepOk; rw [h]; rfl
theorem stepOk_no2 {rows rows' : Rows2} {a b : Int} (h : domB rows' = false) : stepOk rows rows' a b = false := by unfold stepOk; rw [h]; simp
theorem stepOk_no3 {rows rows' : Rows2} {a b : Int} (h : ¬ (0 ≤ a ∧ a < rows.length)) : stepOk rows rows' a b = false := by unfold stepOk; rw [decide_eq_false h]; simp
theorem stepOk_no4 {rows rows' : Rows2} {a b : Int} (h : ¬ (0 ≤ b ∧ b < rows'.length)) : stepOk rows rows' a b = false := by unfold stepOk; rw [decide_eq_false h]; simp

/-- An empty list made by the call. -/
theorem ownB_none {rows rows' : Rows2} {a b : Int} {w W : World} (h : stepOk rows rows' a b = false) (hb : Below w.heap.size w W) : OwnB (stepL rows rows' a b) (stepOk rows rows' a b) w (.returned (.tuple #[.slice (some ⟨W.heap.size, 0, none⟩) 0 0, .bool false])) (W.alloc (.cells #[] 3)) := by
  unfold stepL
  rw [h]
  exact ⟨_, rfl, ⟨fun _ h => (by cases h), .inr ⟨W.heap.size, 0, fun _ => undef, rfl, Nat.le_refl _, Nat.zero_le _, hb.size, by rw [World.size_alloc]; omega, World.rowIs_alloc W #[] 3 (fun _ => undef) (fun _ h => absurd h (Nat.not_lt_zero _)), fun _ h => absurd h (Nat.not_lt_zero _)⟩⟩, hb.alloc hb.size _⟩

end Go.Proofs.YtppjogkednclcaaDoor

/- The model's FunAfter. -/
namespace Go.Proofs.YtppjogkednclcaaDoor
open Go.RowKit Go.Deep

/-- The one function behind the other, for the first k elements. -/
def afterN (f g : List Int) (k : Nat) : List Int := (List.range k).map fun i => g.getD (f.getD i 0).toNat 0
theorem afterN_length (f g : List Int) (k : Nat) : (afterN f g k).length = k := by unfold afterN; simp
theorem afterN_succ (f g : List Int) (k : Nat) : afterN f g (k + 1) = afterN f g k ++ [g.getD (f.getD k 0).toNat 0] := by
  unfold afterN
  rw [List.range_succ, List.map_append]
  rfl
noncomputable def afterOk (rows rows' rows2 : Rows2) (f g : List Int) : Bool := monoB rows rows' f && monoB rows' rows2 g
noncomputable def afterL (rows rows' rows2 : Rows2) (f g : List Int) : List Int := if afterOk rows rows' rows2 f g = true then afterN f g f.length else []

/-- Three orders lie in the variables at blocks w.heap.size and the next two. -/
structure Thr (w : World) (v v' v2 : Value) (rows rows' rows2 : Rows2) (W : World) : Prop where
  two : Two w v v' rows rows' W
  c2 : W.cell? ⟨w.heap.size + 2, 0, none⟩ = some v2
  r2 : RowsAt W v2 rows2
theorem Thr.step {w : World} {v v' v2 : Value} {rows rows' rows2 : Rows2} {W W' : World} (h : Thr w v v' v2 rows rows' rows2 W) (hb : Below W.heap.size W W') : Thr w v v' v2 rows rows' rows2 W' :=
  ⟨h.two.step hb, (hb.cell (p := ⟨w.heap.size + 2, 0, none⟩) (cell_lt h.c2)).trans h.c2, h.r2.below hb⟩
theorem Thr.start (w : World) {v v' v2 : Value} {rows rows' rows2 : Rows2} (t : TypeId) (hv : RowsAt w v rows) (hv' : RowsAt w v' rows') (hv2 : RowsAt w v2 rows2) : Thr w v v' v2 rows rows' rows2 (((w.alloc (.cells #[v] t)).alloc (.cells #[v'] t)).alloc (.cells #[v2] t)) := by
  have h := Two.start w t t hv hv'
  have s2 : ((w.alloc (.cells #[v] t)).alloc (.cells #[v'] t)).heap.size = w.heap.size + 2 := by rw [World.size_alloc, World.size_alloc]
  have b := (Below.refl ((w.alloc (.cells #[v] t)).alloc (.cells #[v'] t)).heap.size ((w.alloc (.cells #[v] t)).alloc (.cells #[v'] t))).alloc (Nat.le_refl _) (.cells #[v2] t)
  have hc := (World.rowIs_alloc ((w.alloc (.cells #[v] t)).alloc (.cells #[v'] t)) #[v2] t (fun _ => v2) (fun i hi => by simp at hi; subst hi; rfl)).cell (i := 0) (by simp)
  rw [s2] at hc
  exact ⟨h.step b, hc, (hv2.below h.below).below b⟩
/-- And two lists. -/
structure ThrL (w : World) (v v' v2 vf vg : Value) (rows rows' rows2 : Rows2) (f g : List Int) (W : World) : Prop where
  thr : Thr w v v' v2 rows rows' rows2 W
  f : IntsAt W vf f
  g : IntsAt W vg g
theorem ThrL.step {w : World} {v v' v2 vf vg : Value} {rows rows' rows2 : Rows2} {f g : List Int} {W W' : World} (h : ThrL w v v' v2 vf vg rows rows' rows2 f g W) (hb : Below W.heap.size W W') : ThrL w v v' v2 vf vg rows rows' rows2 f g W' := ⟨h.thr.step hb, h.f.below hb, h.g.below hb⟩
theorem ThrL.below {w : World} {v v' v2 vf vg : Value} {rows rows' rows2 : Rows2} {f g : List Int} {W : World} (h : ThrL w v v' v2 vf vg rows rows' rows2 f g W) : Below w.heap.size w W := h.thr.two.below
theorem ThrL.start (w : World) {v v' v2 vf vg : Value} {rows rows' rows2 : Rows2} {f g : List Int} (t : TypeId) (hv : RowsAt w v rows) (hv' : RowsAt w v' rows') (hv2 : RowsAt w v2 rows2) (hf : IntsAt w vf f) (hg : IntsAt w vg g) : ThrL w v v' v2 vf vg rows rows' rows2 f g (((w.alloc (.cells #[v] t)).alloc (.cells #[v'] t)).alloc (.cells #[v2] t)) :=
  have h := Thr.start w t hv hv' hv2
  ⟨h, hf.below h.two.below, hg.below h.two.below⟩

theorem dom_len {rows : Rows2} (h : domB rows = true) : rows.length ≤ 200 :=
  (ok_of_valid (show validB rows = true by unfold domB at h; rw [Bool.and_eq_true] at h; exact h.1)).len.2
theorem empty_own (W : World) {lo : Nat} (hlo : lo ≤ W.heap.size) : OwnI 3 (W.alloc (.cells #[] 3)) (.slice (some ⟨W.heap.size, 0, none⟩) 0 0) [] lo (W.alloc (.cells #[] 3)).heap.size :=
  ⟨fun _ h => (by cases h), .inr ⟨W.heap.size, 0, fun _ => undef, rfl, Nat.le_refl _, Nat.zero_le _, hlo, by rw [World.size_alloc]; omega, World.rowIs_alloc W #[] 3 (fun _ => undef) (fun _ h => absurd h (Nat.not_lt_zero _)), fun _ h => absurd h (Nat.not_lt_zero _)⟩⟩

end Go.Proofs.YtppjogkednclcaaDoor

/- The model's FunSteps. -/
namespace Go.Proofs.YtppjogkednclcaaDoor
open Go.RowKit Go.Deep

/-- Does element k leave i a start? -/
def startP (rows : Rows2) (f : List Int) (i k : Nat) : Bool := (k == i) || !upB rows k (i : Int) || !(f.getD k 0 == f.getD i 0)
/-- Does the function start at i to have what it has? The first m elements have been looked at. -/
def startT (rows : Rows2) (f : List Int) (least : Int) (i m : Nat) : Bool := !(f.getD i 0 == least) && (List.range m).all (startP rows f i)
theorem startT_succ (rows : Rows2) (f : List Int) (least : Int) (i m : Nat) : startT rows f least i (m + 1) = (startT rows f least i m && startP rows f i m) := by
  unfold startT
  rw [List.range_succ, List.all_append, Bool.and_assoc]
  simp
theorem startT_false {rows : Rows2} {f : List Int} {least : Int} {i m n : Nat} (h : startT rows f least i m = false) (hm : m ≤ n) : startT rows f least i n = false := by
  induction n with
  | zero => obtain rfl : m = 0 := by omega
            exact h
  | succ n ih =>
    rcases Nat.lt_or_ge n m with h1 | h1
    · obtain rfl : m = n + 1 := by omega
      exact h
    · rw [startT_succ, ih h1]
      rfl
def startsN (rows rows' : Rows2) (f : List Int) (k : Nat) : List Int := ((List.range k).filter fun i => startT rows f (leastI rows') i f.length).map fun i : Nat => (i : Int)
theorem startsN_succ (rows rows' : Rows2) (f : List Int) (k : Nat) : startsN rows rows' f (k + 1) = if startT rows f (leastI rows') k f.length = true then startsN rows rows' f k ++ [(k : Int)] else startsN rows rows' f k := by
  unfold startsN
  rw [List.range_succ, List.filter_append, List.map_append, List.filter_cons]
  cases startT rows f (leastI rows') k f.length with
  | true => rfl
  | false => simp
theorem startsN_le (rows rows' : Rows2) (f : List Int) (k : Nat) : (startsN rows rows' f k).length ≤ k := by
  unfold startsN
  rw [List.length_map]
  have := List.length_filter_le (fun i => startT rows f (leastI rows') i f.length) (List.range k)
  simpa using this
noncomputable def startsL (rows rows' : Rows2) (f : List Int) : List Int := if monoB rows rows' f = true then startsN rows rows' f f.length else []

/-- Behind what turns no memory of the variables. -/
theorem TwoF.far {w : World} {v v' vf : Value} {rows rows' : Rows2} {f : List Int} {W W' : World} (h : TwoF w v v' vf rows rows' f W) (hv : RowsAt w v rows) (hv' : RowsAt w v' rows') (hf : IntsAt w vf f) (hb : Below (w.heap.size + 2) W W') : TwoF w v v' vf rows rows' f W' := by
  have hw : Below w.heap.size w W' := h.1.below.trans (hb.mono (by omega))
  exact ⟨⟨(hb.cell (p := ⟨w.heap.size, 0, none⟩) (by show w.heap.size < w.heap.size + 2; omega)).trans h.1.c0, (hb.cell (p := ⟨w.heap.size + 1, 0, none⟩) (by show w.heap.size + 1 < w.heap.size + 2; omega)).trans h.1.c1, hv.below hw, hv'.below hw, hw⟩, hf.below hw⟩

set_option maxRecDepth 100000 in
set_option maxHeartbeats 8000000 in
theorem specSteps_any (v v' vf : Value) (rows rows' : Rows2) (f : List Int) (w : World) (hv : RowsAt w v rows) (hv' : RowsAt w v' rows') (hf : IntsAt w vf f) (hn : bulk rows ≤ 1048576) (hn' : bulk rows' ≤ 1048576) :
    Calls Tryd.prog 14 #[.agg #[v], .agg #[v'], vf] w (OwnB (startsL rows rows' f) (monoB rows rows' f) w) := by
  have HV := Lib.hid hv
  have HV' := Lib.hid hv'
  have HF := Lib.hid hf
  have hT0 := TwoF.start w 26 26 hv hv' hf
  have hs2 : ((w.alloc (.cells #[v] 26)).alloc (.cells #[v'] 26)).heap.size = w.heap.size + 2 := by rw [World.size_alloc, World.size_alloc]
  have hO := World.ownsRow_made (e := 3) (size := 1) ((w.alloc (.cells #[v] 26)).alloc (.cells #[v'] 26)) #[] 0 (base := w.heap.size + 2) (by rw [hs2]; omega) (Nat.zero_le _) (by simp)
  rw [hs2] at hO
  have hT := hT0.step ((Below.refl _ _).alloc (Nat.le_refl _) (.cells #[] 3))
  have hcM := specMono_any _ _ _ rows rows' f _ hT.1.r0 hT.1.r1 hT.2 hn hn'
  obtain ⟨A, C, rfl, _⟩ := hv
  obtain ⟨A', C', rfl, _⟩ := hv'
  obtain ⟨Af, Cf, rfl, _⟩ := hf
  have H0 := Lib.hid hT
  have HO := Lib.hid hO
  have hc0 := hT.1.c0
  have hc1 := hT.1.c1
  obtain ⟨i0, hi0, hz0, hz1, hz2⟩ := info_parts infoInt
  clear hT0 hT hO hs2
  cases hm : monoB rows rows' f with
  | false =>
    rw [hm] at hcM
    have HE := Lib.hid (show startsL rows rows' f = [] by unfold startsL; rw [hm]; rfl)
    clear hm
    go_enter Tryd.func14, Tryd.ntmps14
    go_wp2_with (go_at_call 38; refine hcM.mono ?_; clear hcM; rintro e w1 ⟨rfl, hb1⟩; have H1 := Lib.hid (H0.out.step hb1); have HO1 := Lib.hid (owns_below HO.out hb1); clear hb1)
    go_ret2
    refine ⟨_, rfl, ?_, H1.out.1.below⟩
    rw [HE.out]
    exact OwnI.of_owns (owns_weaker HO1.out (Nat.le_add_right _ _)) (fun y hy => by cases hy) (fun b hb => (HO1.out.lt b hb).2)
  | true =>
    rw [hm] at hcM
    have HE := Lib.hid (show startsL rows rows' f = startsN rows rows' f f.length by unfold startsL; rw [if_pos hm])
    obtain ⟨hd, hd', hmo⟩ := monoB_parts hm
    have hok := ok_of_valid (show validB rows = true by unfold domB at hd; rw [Bool.and_eq_true] at hd; exact hd.1)
    have hfl : f.length ≤ 200 := by rw [hmo.1]; exact hok.len.2
    have HFR := Lib.hid hmo.1
    have HOK := Lib.hid hok
    clear hm hd hd' hmo hok
    go_enter Tryd.func14, Tryd.ntmps14
    go_wp2_with (go_at_call 38; refine hcM.mono ?_; clear hcM; rintro e w1 ⟨rfl, hb1⟩; have H1 := Lib.hid (H0.out.step hb1); have HO1 := Lib.hid (owns_below HO.out hb1); clear hb1)
    clear hc0 hc1
    go_loopw [8, 9] (fun ov iv wr => ∃ i : Nat, i ≤ f.length ∧ iv = .int .i64 i ∧ wr.ownsRow (w.heap.size + 2) 3 1 ov (startsN rows rows' f i).length (cellsI (startsN rows rows' f i)) ∧ TwoF w (.slice A rows.length C) (.slice A' rows'.length C') (.slice Af f.length Cf) rows rows' f wr) (fun _ iv _ => f.length - (intOf iv).toNat)
    case atStart => exact ⟨0, Nat.zero_le _, rfl, HO1.out, H1.out⟩
    case round =>
      obtain ⟨i, hi, rfl, hown, hh⟩ := hrel
      obtain ⟨wo, hwo⟩ : ∃ wo : World, wo = wr := ⟨_, rfl⟩
      subst hwo
      have HOWN := Lib.hid hown
      have HK := Lib.hid hh
      have hcl := startsN_le rows rows' f i
      clear hown hh H1 HO1
      by_cases hlt : i < f.length
      · have hltz : (i : Int) < (f.length : Int) := by omega
        obtain ⟨bf, o_f, rfl, hcf⟩ := HK.out.2.get hlt
        have HCF := Lib.hid hcf
        have hq0 := fun d os => cell_regrown HK.out.1.c1 d os
        have hq1 := fun d os => cell_regrown hcf d os
        have hcL := fun d os => Calls.regrown_of (d := d) (os := os) (l1Least_any _ rows' _ (HK.out.step (below_regrown wo d os)).1.r1 hn')
        have e1 : f.getD i 0 = f[i] := getD_lt 0 hlt
        generalize hle : leastI rows' = le at hcL
        obtain ⟨s0, hs0⟩ : ∃ s0 : Bool, (f[i] != le) = s0 := ⟨_, rfl⟩
        have HS0 := Lib.hid (show startT rows f le i 0 = s0 by unfold startT; rw [e1, ← hs0]; simp [bne])
        have HLE := Lib.hid hle
        clear hcf e1 hle
        go_upto_region 7 with fail
        refine wp_region_quiet_below (by kernel_rfl) (by kernel_rfl) ?_
        repeat (go_big_quiet_step (first | (go_at_call 39; exact hcL _ _)))
        refine wpQuiet_nil ?_
        intro _ hw'
        obtain ⟨⟨dq, osq⟩, hw''⟩ := hw'
        subst hw''
        clear hcL hq0 hq1
        have HK1 := Lib.hid (HK.out.step (below_regrown wo dq osq))
        have HOW1 := Lib.hid (owns_below HOWN.out (below_regrown wo dq osq))
        generalize «Sort».grow (redrawn wo dq) osq = wa at HK1 HOW1 ⊢
        go_wp2
        go_loopw [10, 11] (fun tv kv wx => ∃ k : Nat, k ≤ f.length ∧ kv = .int .i64 k ∧ tv = .bool (startT rows f le i k) ∧ Below wa.heap.size wa wx) (fun _ kv _ => f.length - (intOf kv).toNat)
        case atStart => exact ⟨0, Nat.zero_le _, rfl, by rw [HS0.out], Below.refl _ _⟩
        case round =>
          obtain ⟨k, hk, rfl, rfl, hB⟩ := hrel
          have HB := Lib.hid hB
          have HKX := Lib.hid (HK1.out.step hB)
          have HOX := Lib.hid (owns_below HOW1.out hB)
          have hbz := HKX.out.1.below.size
          clear hB
          cases ht : startT rows f le i k with
          | false =>
            have HEN := Lib.hid (startT_false ht hk)
            clear ht
            have hend : wr.ownsRow (w.heap.size + 2) 3 1 u8 (startsN rows rows' f (i + 1)).length (cellsI (startsN rows rows' f (i + 1))) := by
              rw [startsN_succ, HLE.out, HEN.out, if_neg (by simp)]
              exact HOX.out
            have HND := Lib.hid hend
            clear hend
            by_cases hkl : k < f.length
            · have hkz : (k : Int) < (f.length : Int) := by omega
              go_wp2
              go_roundw
              case rel => exact ⟨i + 1, by omega, by go_num, HND.out, HKX.out⟩
              case measure => simp [intOf]; omega
            · have hkz : ¬ ((k : Int) < (f.length : Int)) := by omega
              go_wp2
              go_roundw
              case rel => exact ⟨i + 1, by omega, by go_num, HND.out, HKX.out⟩
              case measure => simp [intOf]; omega
          | true =>
            have HT := Lib.hid ht
            clear ht
            by_cases hkl : k < f.length
            · have hkz : (k : Int) < (f.length : Int) := by omega
              have hkr : k < rows.length := by have := HFR.out; omega
              obtain ⟨b2, o2, e2, hck⟩ := HKX.out.2.get hkl
              obtain ⟨b3, o3, e3, hci⟩ := HKX.out.2.get hlt
              injection e2 with e2
              injection e2 with e4 e5 _
              injection e3 with e3
              injection e3 with e6 e7 _
              subst e4 e5 e6 e7
              have hq2 := fun d os => cell_regrown HKX.out.1.c0 d os
              have hq3 := fun d os => cell_regrown hck d os
              have hq4 := fun d os => cell_regrown hci d os
              have hcE := fun d os => Calls.regrown_of (d := d) (os := os) (l1Le_any _ rows (k : Int) k (i : Int) _ (HKX.out.step (below_regrown wr d os)).1.r0 hkr rfl (HOK.out.asc k hkr).1 hn)
              clear hck hci
              by_cases hki : k = i
              · have q1 : ((k : Int) == (i : Int)) = true := by rw [beq_iff_eq]; omega
                have q2 : (k == i) = true := by rw [beq_iff_eq]; exact hki
                have HP := Lib.hid (show startP rows f i k = true by unfold startP; rw [q2]; rfl)
                clear hki
                try clear HST
                go_upto_region 11 with fail
                refine wp_region_quiet_below (by kernel_rfl) (by kernel_rfl) ?_
                repeat (go_big_quiet_step (first | (go_at_call 27; exact hcE _ _)))
                refine wpQuiet_nil ?_
                intro _ hw'
                obtain ⟨⟨dq2, osq2⟩, hw2⟩ := hw'
                subst hw2
                clear hcE hq2 hq3 hq4
                go_wp2
                go_roundw
                case rel => exact ⟨k + 1, by omega, by go_num, by rw [startT_succ, HT.out, HP.out, Bool.true_and], HB.out.trans ((below_regrown wr dq2 osq2).mono HB.out.size)⟩
                case measure => simp [intOf]; omega
              · have q1 : ((k : Int) == (i : Int)) = false := by rw [beq_eq_false_iff_ne]; omega
                have q2 : (k == i) = false := by rw [beq_eq_false_iff_ne]; exact hki
                cases hup : upB rows k (i : Int) with
                | false =>
                  have HP := Lib.hid (show startP rows f i k = true by unfold startP; rw [hup]; simp)
                  simp only [hup] at hcE
                  clear hup hki
                  try clear HST
                  go_upto_region 11 with fail
                  refine wp_region_quiet_below (by kernel_rfl) (by kernel_rfl) ?_
                  repeat (go_big_quiet_step (first | (go_at_call 27; exact hcE _ _)))
                  refine wpQuiet_nil ?_
                  intro _ hw'
                  obtain ⟨⟨dq2, osq2⟩, hw2⟩ := hw'
                  subst hw2
                  clear hcE hq2 hq3 hq4
                  go_wp2
                  go_roundw
                  case rel => exact ⟨k + 1, by omega, by go_num, by rw [startT_succ, HT.out, HP.out, Bool.true_and], HB.out.trans ((below_regrown wr dq2 osq2).mono HB.out.size)⟩
                  case measure => simp [intOf]; omega
                | true =>
                  simp only [hup] at hcE
                  have e1 : f.getD k 0 = f[k] := getD_lt 0 hkl
                  have e2 : f.getD i 0 = f[i] := getD_lt 0 hlt
                  obtain ⟨s1, hs1⟩ : ∃ s1 : Bool, (f[k] != f[i]) = s1 := ⟨_, rfl⟩
                  have HP := Lib.hid (show startP rows f i k = s1 by unfold startP; rw [q2, hup, e1, e2, ← hs1]; simp [bne])
                  clear hup hki e1 e2
                  try clear HST
                  go_upto_region 11 with fail
                  refine wp_region_quiet_below (by kernel_rfl) (by kernel_rfl) ?_
                  repeat (go_big_quiet_step (first | (go_at_call 27; exact hcE _ _)))
                  refine wpQuiet_nil ?_
                  intro _ hw'
                  obtain ⟨⟨dq2, osq2⟩, hw2⟩ := hw'
                  subst hw2
                  clear hcE hq2 hq3 hq4
                  go_wp2
                  go_roundw
                  case rel => exact ⟨k + 1, by omega, by go_num, by rw [startT_succ, HT.out, HP.out, Bool.true_and], HB.out.trans ((below_regrown wr dq2 osq2).mono HB.out.size)⟩
                  case measure => simp [intOf]; omega
            · obtain rfl : k = f.length := by omega
              have hkz : ¬ ((f.length : Int) < (f.length : Int)) := by omega
              have hst : startsN rows rows' f (i + 1) = startsN rows rows' f i ++ [(i : Int)] := by rw [startsN_succ, HLE.out, HT.out, if_pos rfl]
              have HST := Lib.hid hst
              have hz9 : w.heap.size + 2 ≤ wr.heap.size := by have := HKX.out.1.c1; have := cell_lt this; exact this
              clear hst
              go_wp2_with (at_builtin; refine wpList_append_own _ rfl _ _ 33 rfl (w.heap.size + 2) 3 i0 (.int .i64 0) 1 8 Tryd.underlying33 hi0 hz0 hz1 hz2 rfl (by decide) _ _ _ rfl (HOX.out.alloc _) ⟨wr.heap.size, 0, none⟩ 1 1 [.int .i64 (i : Int)] rfl rfl (cell_one_new _ _ _) (by simp [Value.oneCell']) (by unfold maxLen; omega) (by omega) (by simp; omega) ?_; intro v' w1 hown' hgrow _)
              go_roundw
              case rel =>
                refine ⟨i + 1, by omega, by go_num, ?_, ?_⟩
                · rw [HST.out, List.length_append, show cellsI (startsN rows rows' f i ++ [(i : Int)]) = cellsI (startsN rows rows' f i) ++ [.int .i64 (i : Int)] by simp]
                  exact hown'
                · have hb : Below (w.heap.size + 2) wr w1 := (((Below.refl (w.heap.size + 2) wr).alloc hz9 _).grown hgrow (by rw [World.size_alloc]; omega) (fun b e => (HOX.out.lt b e).1))
                  exact HKX.out.far HV.out HV'.out HF.out hb
              case measure => simp [intOf]; omega
      · obtain rfl : i = f.length := by omega
        have hltz : ¬ ((f.length : Int) < (f.length : Int)) := by omega
        go_wp2
        go_ret2
        refine ⟨_, rfl, ?_, HK.out.1.below⟩
        rw [HE.out]
        refine OwnI.of_owns (owns_weaker HOWN.out (Nat.le_add_right _ _)) (fun y hy => ?_) (fun b hb => (HOWN.out.lt b hb).2)
        unfold startsN at hy
        obtain ⟨q, hq, rfl⟩ := List.mem_map.1 hy
        have := List.mem_range.1 (List.mem_filter.1 hq).1
        exact wf_int (by omega) (by omega)
end Go.Proofs.YtppjogkednclcaaDoor

/- The program's look for what a function has on a set (fun.hasOn). -/
namespace Go.Proofs.YtppjogkednclcaaDoor
open Go.RowKit Go.Deep Go.Shelf
attribute [local go_sem] Oper.semAt_some

/-- Has the function the element k for some element of the set s? -/
def onB (f : List Int) (s : Nat) (k : Int) : Bool := (elems s).any fun i => f.getD i 0 == k
def NoneOn (f : List Int) (s : Nat) (k : Int) (pre : List (Bt s)) : Prop := ∀ y ∈ pre, f.getD y.1 0 ≠ k
theorem on_none {f : List Int} {s : Nat} {k : Int} (hp : NoneOn f s k (eList s)) : onB f s k = false := by
  unfold onB
  rw [List.any_eq_false, ← natsOf_all]
  intro i hi
  obtain ⟨z, hz, rfl⟩ := List.mem_map.1 hi
  simpa using hp z hz
theorem on_found {f : List Int} {s : Nat} {k : Int} {pre rest : List (Bt s)} {y : Bt s} (hall : eList s = (pre ++ [y]) ++ rest) (hy : f.getD y.1 0 = k) : onB f s k = true := by
  unfold onB
  rw [List.any_eq_true, ← natsOf_all]
  exact ⟨y.1, List.mem_map.2 ⟨y, by rw [hall]; simp, rfl⟩, by simpa using hy⟩

set_option maxRecDepth 100000 in
set_option maxHeartbeats 4000000 in
theorem hasOn_any (vf : Value) (f : List Int) (s : Nat) (k : Int) (w : World) (hf : IntsAt w vf f) (hT : Tab w) (hs : s < 2 ^ 256) (hel : ∀ i ∈ elems s, i < f.length) :
    Calls Tryd.prog 61 #[vf, rowV s, .int .i64 k] w (SaysN (onB f s k) w) := by
  have htab : 0 < w.heap.size := cell_lt (hT 0 (by omega))
  have HF := Lib.hid (fun W (h : Below w.heap.size w W) => hf.below h)
  obtain ⟨Af, Cf, rfl, _⟩ := hf
  have HEL := Lib.hid hel
  have HT := Lib.hid hT
  have HS := Lib.hid hs
  clear hel hT hs
  refine (callsIn_wide (n := 8)).1 ?_
  refine callsIn_of_wp_marks Tryd.func61 rfl trivial ?_ rfl
  simp only [Tryd.ntmps61, List.size_toArray, List.length_cons, List.length_nil, Nat.reduceAdd, Nat.reduceSub, Array.replicate_succ, Array.replicate_zero, List.push_toArray, List.append_toArray, List.nil_append, List.cons_append]
  gi_wp2
  refine ⟨trivial, (callsIn_wide.2 (elements_any s _)).mono ?_⟩
  rintro e w1 ⟨rfl, rfl⟩
  gi_wp2
  have r2 : RowIn (((((w.alloc (.cells #[.slice Af f.length Cf] 72)).alloc (.cells #[.int .u64 ((word s 0 : Nat) : Int), .int .u64 ((word s 1 : Nat) : Int), .int .u64 ((word s 2 : Nat) : Int), .int .u64 ((word s 3 : Nat) : Int)] 56)).alloc (.cells #[.int .i64 k] 3)).alloc (.cells #[.bool false] 4)).alloc (.cells #[.int .u64 ((word s 0 : Nat) : Int), .int .u64 ((word s 1 : Nat) : Int), .int .u64 ((word s 2 : Nat) : Int), .int .u64 ((word s 3 : Nat) : Int)] 56)) (w.heap.size + 4) s := by
    have h := RowIn.alloc ((((w.alloc (.cells #[.slice Af f.length Cf] 72)).alloc (.cells #[.int .u64 ((word s 0 : Nat) : Int), .int .u64 ((word s 1 : Nat) : Int), .int .u64 ((word s 2 : Nat) : Int), .int .u64 ((word s 3 : Nat) : Int)] 56)).alloc (.cells #[.int .i64 k] 3)).alloc (.cells #[.bool false] 4)) HS.out
    simpa only [World.size_alloc, Nat.add_assoc, Nat.reduceAdd] using h
  obtain ⟨w4, hw4⟩ : ∃ w4, (((((w.alloc (.cells #[.slice Af f.length Cf] 72)).alloc (.cells #[.int .u64 ((word s 0 : Nat) : Int), .int .u64 ((word s 1 : Nat) : Int), .int .u64 ((word s 2 : Nat) : Int), .int .u64 ((word s 3 : Nat) : Int)] 56)).alloc (.cells #[.int .i64 k] 3)).alloc (.cells #[.bool false] 4)).alloc (.cells #[.int .u64 ((word s 0 : Nat) : Int), .int .u64 ((word s 1 : Nat) : Int), .int .u64 ((word s 2 : Nat) : Int), .int .u64 ((word s 3 : Nat) : Int)] 56)) = w4 := ⟨_, rfl⟩
  have hsz : w4.heap.size = w.heap.size + 5 := by rw [← hw4]; simp
  have hB0 : Below w.heap.size w w4 := by rw [← hw4]; exact (((((Below.refl _ w).alloc (Nat.le_refl _) _).alloc (by simp) _).alloc (by simp; omega) _).alloc (by simp; omega) _).alloc (by simp; omega) _
  have p0 : Boxed w4 w.heap.size 72 (.slice Af f.length Cf) := by rw [← hw4]; exact ((((Boxed.new w _ _).alloc _).alloc _).alloc _).alloc _
  have p2 : Boxed w4 (w.heap.size + 2) 3 (.int .i64 k) := by
    have h := Boxed.new ((w.alloc (.cells #[.slice Af f.length Cf] 72)).alloc (.cells #[.int .u64 ((word s 0 : Nat) : Int), .int .u64 ((word s 1 : Nat) : Int), .int .u64 ((word s 2 : Nat) : Int), .int .u64 ((word s 3 : Nat) : Int)] 56)) 3 (.int .i64 k)
    simp only [World.size_alloc, Nat.add_assoc, Nat.reduceAdd] at h
    rw [← hw4]
    exact (h.alloc _).alloc _
  have p3 : Boxed w4 (w.heap.size + 3) 4 (.bool false) := by
    have h := Boxed.new (((w.alloc (.cells #[.slice Af f.length Cf] 72)).alloc (.cells #[.int .u64 ((word s 0 : Nat) : Int), .int .u64 ((word s 1 : Nat) : Int), .int .u64 ((word s 2 : Nat) : Int), .int .u64 ((word s 3 : Nat) : Int)] 56)).alloc (.cells #[.int .i64 k] 3)) 4 (.bool false)
    simp only [World.size_alloc, Nat.add_assoc, Nat.reduceAdd] at h
    rw [← hw4]
    exact h.alloc _
  have r2' : RowIn w4 (w.heap.size + 4) s := by rw [← hw4]; exact r2
  have T4 : Tab w4 := HT.out.below hB0
  have HW4 := Lib.hid hw4
  simp only [Nat.add_assoc, Nat.reduceAdd]
  rw [hw4]
  clear hw4 r2
  refine wpIn_rangeFunc_ownG rfl (by omega) (gf := 74) (lb := #[.pointer (some ⟨w.heap.size + 4, 0, none⟩)]) rfl trivial (enters_of Tryd.func74 (by kernel_rfl) rfl)
    (elements1_stops _ w.heap.size (w.heap.size + 4) s w4 (by omega) HS.out r2' (by omega) htab T4) belowK_t (belowK_b (by omega)) (Below.refl _ _) (fun _ => rfl)
    (fun pre W => (NoneOn f s k pre ∧ Boxed W w.heap.size 72 (.slice Af f.length Cf) ∧ Boxed W (w.heap.size + 2) 3 (.int .i64 k) ∧ Boxed W (w.heap.size + 3) 4 (.bool false)) ∧ Below w.heap.size w W)
    (fun c pre W => (c = .ret ∧ ∃ ini last, pre = ini ++ [last] ∧ f.getD last.1 0 = k ∧ W.cell? ⟨w.heap.size + 3, 0, none⟩ = some (.bool true)) ∧ Below w.heap.size w W)
    (OwnFrom.and (Own.from (fun _ A B row hs hg hr => ⟨hs.1, blk_kept hs.2.1 hg hr, blk_kept hs.2.2.1 hg hr, blk_kept hs.2.2.2 hg hr⟩) _) (ownFrom_below (Nat.le_refl _) (by omega)))
    (fun c => OwnFrom.and (Own.from (fun _ A B row hs hg hr => by obtain ⟨hc, ini, last, e1, e3, e4⟩ := hs; exact ⟨hc, ini, last, e1, e3, cell_kept e4 hg hr⟩) _) (ownFrom_below (Nat.le_refl _) (by omega)))
    ⟨⟨fun _ h => (by cases h), p0, p2, p3⟩, hB0⟩
    (fun x => { tmps := #[.slice Af f.length Cf, rowV s, .int .i64 k, .pointer (some ⟨w.heap.size, 0, none⟩), .pointer (some ⟨w.heap.size + 1, 0, none⟩), .pointer (some ⟨w.heap.size + 2, 0, none⟩), .pointer (some ⟨w.heap.size + 3, 0, none⟩), .int .i64 ((x.1 : Nat) : Int), rowV s, .func (.func 74) #[] #[.pointer (some ⟨w.heap.size + 4, 0, none⟩)], .int .i64 ((x.1 : Nat) : Int), undef, undef, undef, undef, undef, undef], defers := [] }) ?assign ?body ?done ?stop
  case assign =>
    intro l x W K hK
    unfold encBt
    gi_wp2
    exact hK
  case body =>
    rintro l pre x W ⟨⟨hp, q0, q2, q3⟩, hB⟩ _
    obtain ⟨i, him⟩ := x
    dsimp only
    have hi := HEL.out i him
    have hiz : (i : Int) < (f.length : Int) := by omega
    obtain ⟨bf, o_f, rfl, hcf⟩ := (HF.out W hB).get hi
    have e1 : f.getD i 0 = f[i] := getD_lt 0 hi
    have b0 := q0.cell
    have b2 := q2.cell
    have hf := q3.frozen
    have hc3 := q3.cell
    have hmx : Tryd.prog.follows .mixedOrders = true := by kernel_rfl
    have HP := Lib.hid hp
    have HB := Lib.hid hB
    have Q0 := Lib.hid q0
    have Q2 := Lib.hid q2
    have Q3 := Lib.hid q3
    have HE1 := Lib.hid e1
    clear hp hB q0 q2 q3 e1
    by_cases he : f[i] = k
    · have heq : (f[i] == k) = true := by rw [beq_iff_eq]; exact he
      have HE := Lib.hid he
      clear he
      gi_wp2
      gi_region_with_o (fail)
      all_goals gi_wp2
      all_goals
        exact ⟨((KeepsOthers.setCell _ _ _).trans (KeepsOthers.drew _)).from _, ⟨rfl, pre, ⟨i, him⟩, rfl, HE1.out.trans HE.out, World.cell?_setCell_same' _ _ _ (by rw [hc3]; rfl)⟩, (HB.out.setCell (p := ⟨w.heap.size + 3, 0, none⟩) (by simp) _).drew⟩
    · have heq : (f[i] == k) = false := by rw [beq_eq_false_iff_ne]; exact he
      have HE := Lib.hid he
      clear he
      gi_wp2
      gi_region_with_o (fail)
      all_goals gi_wp2
      all_goals
        exact ⟨(KeepsOthers.drew _).from _, (Below.refl _ W).drew, ⟨fun y hy => (List.mem_append.1 hy).elim (HP.out y) (fun e e' => by simp at e; subst e; exact HE.out (HE1.out.symm.trans e')), Q0.out, Q2.out, Q3.out⟩, HB.out.drew⟩
  case done =>
    rintro D ys W hD rfl ⟨⟨hne, q0, q2, q3⟩, hB⟩ hK
    have HN := Lib.hid (on_none hne)
    have hcr := q3.cell
    have hfr := q3.frozen
    clear hne q0 q2
    gi_wp2
    have hK' := (KeepsOthers.setCell W ⟨w.heap.size + 3, 0, none⟩ (.bool false)).same D _ hK rfl
    refine ⟨by simp, .inl ⟨_, _, rfl, run_takeDeferred hK', ?_⟩⟩
    have hc5 := cell_kept (World.cell?_setCell_same' W ⟨w.heap.size + 3, 0, none⟩ (.bool false) (by rw [hcr]; rfl)) (grownBy_putObj' _ D (.deferred none)) (fun r e => by cases e; exact ⟨_, hK', rfl⟩)
    refine ⟨.bool false, ?_, by rw [HN.out], (hB.setCell (p := ⟨w.heap.size + 3, 0, none⟩) (by simp) _).trans (belowK_b (w := w) (Nat.le_refl _) _ D _ _ (by omega) hK' rfl rfl)⟩
    simp [results, Tryd.f61, go_sem, hc5]
  case stop =>
    rintro D c pre W hD hpre ⟨⟨rfl, ini, last, e1, e3, hcr⟩, hB⟩ hK
    obtain ⟨rest, hrest⟩ := hpre
    have HN := Lib.hid (on_found (k := k) (pre := ini) (rest := rest) (y := last) (by rw [← hrest, e1]) e3)
    gi_wp2
    refine ⟨by simp, .inl ⟨_, _, rfl, run_takeDeferred hK, ?_⟩⟩
    have hc5 := cell_kept hcr (grownBy_putObj' _ D (.deferred none)) (fun r e => by cases e; exact ⟨_, hK, rfl⟩)
    refine ⟨.bool true, ?_, by rw [HN.out], hB.trans (belowK_b (w := w) (Nat.le_refl _) W D _ _ (by omega) hK rfl rfl)⟩
    simp [results, Tryd.f61, go_sem, hc5]
end Go.Proofs.YtppjogkednclcaaDoor

/- The program's domainOf and funTypeOf. -/
namespace Go.Proofs.YtppjogkednclcaaDoor
open Go.RowKit Go.Deep Go.Shelf

theorem upB_grid {rows : Rows2} (h : Ok rows) {a b : Nat} (ha : a < rows.length) : (gridF rows a).testBit b = upB rows a b := (h.up ha b).symm
theorem mono_grid {rows rows' : Rows2} (h : Ok rows) (h' : Ok rows') (f : List Int) : monoI rows rows' f = true ↔ MonoG (gridF rows) (gridF rows') rows.length rows'.length f := by
  classical
  unfold monoI
  rw [decide_eq_true_iff]
  have e : ∀ x ∈ f, outN rows'.length x = false ↔ (0 ≤ x ∧ x < rows'.length) := fun x _ => by
    unfold outN
    rw [Bool.or_eq_false_iff, decide_eq_false_iff_not, decide_eq_false_iff_not]
    omega
  constructor
  · rintro ⟨h1, h2, h3⟩
    refine ⟨h1, fun x hx => (e x hx).2 (h2 x hx), fun a b ha hb hab => ?_⟩
    rw [upB_grid h ha] at hab
    have h4 := h3 a b ha hb hab
    have hfa := h2 _ (getD_lt 0 (h1 ▸ ha) ▸ List.getElem_mem (h1 ▸ ha))
    have hfb := h2 _ (getD_lt 0 (h1 ▸ hb) ▸ List.getElem_mem (h1 ▸ hb))
    rw [upB_grid h' (by omega), Int.toNat_of_nonneg hfb.1]
    exact h4
  · rintro ⟨h1, h2, h3⟩
    refine ⟨h1, fun x hx => (e x hx).1 (h2 x hx), fun a b ha hb hab => ?_⟩
    rw [← upB_grid h ha] at hab
    have h4 := h3 a b ha hb hab
    have ma : f.getD a 0 ∈ f := getD_lt 0 (h1 ▸ ha) ▸ List.getElem_mem (h1 ▸ ha)
    have mb : f.getD b 0 ∈ f := getD_lt 0 (h1 ▸ hb) ▸ List.getElem_mem (h1 ▸ hb)
    have hfa := (e _ ma).1 (h2 _ ma)
    have hfb := (e _ mb).1 (h2 _ mb)
    rw [upB_grid h' (by omega), Int.toNat_of_nonneg hfb.1] at h4
    exact h4

/-- What domainOf answers: the grid of a domain, in memory of its own. -/
def DomNo (w : World) (e : Ending) (w' : World) : Prop := e = .returned (.tuple #[.pointer none, .bool false]) ∧ Below w.heap.size w w'
def DomYes (rows : Rows2) (w : World) (e : Ending) (w' : World) : Prop :=
  (∃ p : Nat, e = .returned (.tuple #[.pointer (some ⟨p, 0, none⟩), .bool true]) ∧ w.heap.size ≤ p ∧ GridAt w' p (gridF rows)) ∧ Below w.heap.size w w'

set_option maxRecDepth 100000 in
set_option maxHeartbeats 4000000 in
theorem domainOf_no (v : Value) (rows : Rows2) (w : World) (hv : RowsAt w v rows) (hT : Tab w) (hn : bulk rows ≤ 1048576) (hd : domB rows = false) :
    Calls Tryd.prog 30 #[.agg #[v]] w (DomNo w) := by
  have hH := Held.start w 26 hv
  have hT1 := hT.below ((Below.refl _ w).alloc (Nat.le_refl _) (.cells #[v] 26))
  have hcall := fun t h => gridOf_t v rows _ hH.2.1 hT1 hn (t := t) h
  have hz := (zero_of_info zeroGrid).1
  obtain ⟨A, C, rfl, _⟩ := hv
  have HH := Lib.hid hH
  have HT := Lib.hid hT1
  clear hH hT hT1
  unfold domB at hd
  cases hval : validB rows with
  | false =>
    have hc := hcall false hval
    clear hval hcall hd
    go_enter Tryd.func30, Tryd.ntmps30
    go_wp2_with (first | (go_at_call 54; refine hc.mono ?_; clear hc; rintro e w1 ⟨⟨g, hg, rfl⟩, hb1⟩; have HG := Lib.hid hg; have H1 := Lib.hid (HH.out.below hb1); clear hg hb1) | (refine wpList_store_row rfl 58 (.tmp 4) (.tmp 9) rfl w1.heap.size (gridCells g) rfl rfl 58 (gridCells fun _ => 0) (store_new w1).1 (by rw [gridCells_size]; exact sizeGrid) (by rw [gridCells_size, gridCells_size]) (gridCells_one _) ?_))
    go_ret2
    exact ⟨rfl, (H1.out.below (newGrid_below g w1)).2.2.1⟩
  | true =>
    have hok := ok_of_valid hval
    have hc := hcall true hval
    have hde := isDomF_eq hok
    rw [hval, Bool.true_and, ← hde] at hd
    have HEL := Lib.hid (fun i (_ : i < rows.length) k (hk : k ∈ elems (gridF rows i)) => hok.lt200 ((mem_elems (hok.lt i)).1 hk))
    have HN := Lib.hid hok.gridN
    clear hval hcall hde hok
    go_enter Tryd.func30, Tryd.ntmps30
    go_wp2_with (first | (go_at_call 54; refine hc.mono ?_; clear hc; rintro e w1 ⟨⟨g, hg, rfl⟩, hb1⟩; obtain ⟨hg1, hg2⟩ := hg; obtain rfl := hg2 rfl; clear hg2; have HG := Lib.hid hg1; have H1 := Lib.hid (HH.out.below hb1); have T1 := Lib.hid (HT.out.below hb1); clear hg1 hb1; have H2 := Lib.hid (H1.out.below (newGrid_below (gridF rows) w1)); have T2 := Lib.hid (T1.out.below (newGrid_below (gridF rows) w1)); have G2 := Lib.hid (newGrid_at HG.out w1)) | (refine wpList_store_row rfl 58 (.tmp 4) (.tmp 9) rfl w1.heap.size (gridCells (gridF rows)) rfl rfl 58 (gridCells fun _ => 0) (store_new w1).1 (by rw [gridCells_size]; exact sizeGrid) (by rw [gridCells_size, gridCells_size]) (gridCells_one _) ?_) | (go_at_call 55; have hcd := isDomain_any w1.heap.size rows.length (gridF rows) _ G2.out T2.out HN.out HEL.out; rw [hd] at hcd; refine hcd.mono ?_; clear hcd; rintro e w3 ⟨rfl, hb3⟩; have H3 := Lib.hid (H2.out.below hb3); clear hb3))
    go_ret2
    exact ⟨rfl, H3.out.2.2.1⟩

set_option maxRecDepth 100000 in
set_option maxHeartbeats 4000000 in
theorem domainOf_yes (v : Value) (rows : Rows2) (w : World) (hv : RowsAt w v rows) (hT : Tab w) (hn : bulk rows ≤ 1048576) (hd : domB rows = true) :
    Calls Tryd.prog 30 #[.agg #[v]] w (DomYes rows w) := by
  have hH := Held.start w 26 hv
  have hT1 := hT.below ((Below.refl _ w).alloc (Nat.le_refl _) (.cells #[v] 26))
  have hcall := fun t h => gridOf_t v rows _ hH.2.1 hT1 hn (t := t) h
  have hz := (zero_of_info zeroGrid).1
  obtain ⟨A, C, rfl, _⟩ := hv
  have HH := Lib.hid hH
  have HT := Lib.hid hT1
  clear hH hT hT1
  unfold domB at hd
  rw [Bool.and_eq_true] at hd
  obtain ⟨hval, hd⟩ := hd
  have hok := ok_of_valid hval
  have hc := hcall true hval
  have hde := isDomF_eq hok
  rw [← hde] at hd
  have HEL := Lib.hid (fun i (_ : i < rows.length) k (hk : k ∈ elems (gridF rows i)) => hok.lt200 ((mem_elems (hok.lt i)).1 hk))
  have HN := Lib.hid hok.gridN
  clear hval hcall hde hok
  go_enter Tryd.func30, Tryd.ntmps30
  go_wp2_with (first | (go_at_call 54; refine hc.mono ?_; clear hc; rintro e w1 ⟨⟨g, hg, rfl⟩, hb1⟩; obtain ⟨hg1, hg2⟩ := hg; obtain rfl := hg2 rfl; clear hg2; have HG := Lib.hid hg1; have H1 := Lib.hid (HH.out.below hb1); have T1 := Lib.hid (HT.out.below hb1); clear hg1 hb1; have H2 := Lib.hid (H1.out.below (newGrid_below (gridF rows) w1)); have T2 := Lib.hid (T1.out.below (newGrid_below (gridF rows) w1)); have G2 := Lib.hid (newGrid_at HG.out w1)) | (refine wpList_store_row rfl 58 (.tmp 4) (.tmp 9) rfl w1.heap.size (gridCells (gridF rows)) rfl rfl 58 (gridCells fun _ => 0) (store_new w1).1 (by rw [gridCells_size]; exact sizeGrid) (by rw [gridCells_size, gridCells_size]) (gridCells_one _) ?_) | (go_at_call 55; have hcd := isDomain_any w1.heap.size rows.length (gridF rows) _ G2.out T2.out HN.out HEL.out; rw [hd] at hcd; refine hcd.mono ?_; clear hcd; rintro e w3 ⟨rfl, hb3⟩; have H3 := Lib.hid (H2.out.below hb3); have G3 := Lib.hid (G2.out.below hb3 G2.out.lt); clear hb3))
  go_ret2
  exact ⟨⟨w1.heap.size, rfl, H1.out.2.2.1.size, G3.out⟩, H3.out.2.2.1⟩
end Go.Proofs.YtppjogkednclcaaDoor

/- The program's look for the starts of a function (fun.starts). -/
namespace Go.Proofs.YtppjogkednclcaaDoor
open Go.RowKit Go.Deep Go.Shelf

/-- A variable of two cells, the first new block of a call. -/
structure Bx (w : World) (a b : Value) (W : World) : Prop where
  c0 : W.cell? ⟨w.heap.size, 0, none⟩ = some a
  c1 : W.cell? ⟨w.heap.size, 1, none⟩ = some b
  below : Below w.heap.size w W
theorem Bx.lt {w : World} {a b : Value} {W : World} (h : Bx w a b W) : w.heap.size + 1 ≤ W.heap.size := cell_lt h.c0
theorem Bx.far {w : World} {a b : Value} {W W' : World} (h : Bx w a b W) (hb : Below (w.heap.size + 1) W W') : Bx w a b W' :=
  ⟨(hb.cell (p := ⟨w.heap.size, 0, none⟩) (Nat.lt_succ_self _)).trans h.c0, (hb.cell (p := ⟨w.heap.size, 1, none⟩) (Nat.lt_succ_self _)).trans h.c1, h.below.trans (hb.mono (Nat.le_succ _))⟩
theorem Bx.step {w : World} {a b : Value} {W W' : World} (h : Bx w a b W) (hb : Below W.heap.size W W') : Bx w a b W' := h.far (hb.mono h.lt)
theorem Bx.start (w : World) (a b : Value) (t : TypeId) : Bx w a b (w.alloc (.cells #[a, b] t)) :=
  ⟨by rw [cell_of_row _ w.heap.size 0 _ _ _ (heap_alloc_new _ _)]; rfl, by rw [cell_of_row _ w.heap.size 1 _ _ _ (heap_alloc_new _ _)]; rfl, (Below.refl _ w).alloc (Nat.le_refl _) _⟩

/-- A store of a whole array into a variable, as one step of a region that draws. -/
theorem step_store_row {P : Program} {ops : Array Oper} {o : Oper} {a : Act} {w : World} {K : Act → World → Prop} {Q : Exit → Act → World → Prop} {E : Prop} (hgd : o.guard = none) (ty : TypeId) (x y : Operand) (ho : o.op = .store ty x y)
    (g : Nat) (cells : Array Value) (hx : a.eval x = .pointer (some ⟨g, 0, none⟩)) (hy : a.eval y = .agg cells)
    (t : TypeId) (old : Array Value) (hg : w.heap[g]? = some (.cells old t (0, 0))) (hi : (P.info? ty).map (·.size) = some cells.size)
    (hold : old.size = cells.size) (h1 : cells.all (·.oneCell') = true)
    (h : K (a.put o.dst undef) (w.setRow g cells)) : if Region.wanted o (yielded ops a.tmps) = true then Oper.wp P o a w K Q else E := by
  have hw : Region.wanted o (yielded ops a.tmps) = true := by simp [Region.wanted, hgd]
  rw [if_pos hw]
  exact wp_store_row ty x y ho g cells hx hy t old hg hi hold h1 h

theorem starts_eq {rows : Rows2} (h : Ok rows) {f : List Int} (hf : f.length = rows.length) {le : Int} {i : Nat} (hi : i < f.length) :
    startT rows f le i f.length = (!(f[i] == le) && !onB f (diff (gridF (backRows rows) i) (2 ^ i)) f[i]) := by
  unfold startT
  rw [getD_lt 0 hi]
  congr 1
  have hbit : ∀ k, (diff (gridF (backRows rows) i) (2 ^ i)).testBit k = ((gridF rows k).testBit i && !decide (i = k)) := fun k => by
    rw [testBit_diff, back_bit h, Nat.testBit_two_pow]
  have hlt : diff (gridF (backRows rows) i) (2 ^ i) < 2 ^ 256 := diff_lt _ (h.back.lt i)
  rw [Bool.eq_iff_iff, List.all_eq_true, Bool.not_eq_true', ← Bool.not_eq_true]
  unfold onB
  rw [List.any_eq_true]
  constructor
  · rintro hall ⟨k, hk, he⟩
    rw [mem_elems hlt, hbit, Bool.and_eq_true, Bool.not_eq_true', decide_eq_false_iff_not] at hk
    have hkl := (h.bit_lt hk.1).1
    have hp := hall k (List.mem_range.2 (by omega))
    unfold startP at hp
    rw [h.up hkl, hk.1, getD_lt 0 hi, he, show (k == i) = false by rw [beq_eq_false_iff_ne]; omega] at hp
    cases hp
  · intro hno k hk
    rw [List.mem_range] at hk
    unfold startP
    by_cases e : k = i
    · rw [show (k == i) = true by rw [beq_iff_eq]; exact e]; rfl
    · cases hu : upB rows k (i : Int) with
      | false => simp
      | true =>
        cases hq : (f.getD k 0 == f.getD i 0) with
        | false => simp
        | true =>
          exfalso
          rw [h.up (by omega)] at hu
          rw [getD_lt 0 hi] at hq
          exact hno ⟨k, (mem_elems hlt).2 (by rw [hbit, hu, decide_eq_false (fun e2 => e e2.symm)]; rfl), hq⟩

set_option maxRecDepth 100000 in
set_option maxHeartbeats 8000000 in
theorem starts_any (vf : Value) (f : List Int) (p p' : Nat) (rows rows' : Rows2) (w : World) (hf : IntsAt w vf f) (hg : GridAt w p (gridF rows)) (hg' : GridAt w p' (gridF rows')) (hT : Tab w) (hok : Ok rows) (hok' : Ok rows') (hfl : f.length = rows.length) :
    Calls Tryd.prog 41 #[vf, .agg #[.pointer (some ⟨p, 0, none⟩), .pointer (some ⟨p', 0, none⟩)]] w (OwnQ (startsN rows rows' f f.length) w) := by
  have hE := Bx.start w (.pointer (some ⟨p, 0, none⟩)) (.pointer (some ⟨p', 0, none⟩)) 69
  have HLE := Lib.hid (fun W (h : Bx w (.pointer (some ⟨p, 0, none⟩)) (.pointer (some ⟨p', 0, none⟩)) W) => (show Calls Tryd.prog 60 #[.pointer (some ⟨p', 0, none⟩)] W (SaysI (leastI rows') W) by
    rw [least_eq hok']
    exact least_any p' rows'.length (gridF rows') W (hg'.below h.below hg'.lt) (hT.below h.below) hok'.gridN))
  have HBK := Lib.hid (fun W (h : Bx w (.pointer (some ⟨p, 0, none⟩)) (.pointer (some ⟨p', 0, none⟩)) W) => (show Calls Tryd.prog 32 #[.pointer (some ⟨p, 0, none⟩)] W (SaysG (gridF (backRows rows)) W) by
    rw [← backN_rows hok]
    exact back_any p rows.length (gridF rows) W (hg.below h.below hg.lt) (hT.below h.below) hok.gridN (fun i _ k hk => hok.lt200 ((mem_elems (hok.lt i)).1 hk))))
  have hz := (zero_of_info zeroGrid).1
  have HLT := Lib.hid hok.back.lt
  have HFA := Lib.hid (fun W (h : Below w.heap.size w W) => hf.below h)
  have HTA := Lib.hid (fun W (h : Below w.heap.size w W) => hT.below h)
  have HEQ := Lib.hid (fun i (hi : i < f.length) => starts_eq (le := leastI rows') hok hfl hi)
  have HEL := Lib.hid (fun (i : Nat) (_ : i < f.length) j (hj : j ∈ elems (diff (gridF (backRows rows) i) (2 ^ i))) => (show j < f.length by
    rw [mem_elems (diff_lt _ (hok.back.lt i)), testBit_diff, Bool.and_eq_true] at hj
    have := (hok.back.bit_lt hj.1).2
    rw [backRows_len] at this
    omega))
  have hn200 : f.length ≤ 200 := by rw [hfl]; exact hok.len.2
  obtain ⟨Af, Cf, rfl, hCf, hmf, _⟩ := hf
  unfold maxLen at hmf
  obtain ⟨i0, hi0, hz0, hz1, hz2⟩ := info_parts infoInt
  generalize hle : leastI rows' = le at HLE HEQ
  have HLQ := Lib.hid hle
  obtain ⟨WB, hWB⟩ : ∃ WB, WB = w.alloc (.cells #[.pointer (some ⟨p, 0, none⟩), .pointer (some ⟨p', 0, none⟩)] 69) := ⟨_, rfl⟩
  rw [← hWB] at hE
  have HE := Lib.hid hE
  clear hE hg hg' hT hok hok' hfl hle
  go_enter Tryd.func41, Tryd.ntmps41
  go_upto_region 1 with fail
  rw [← hWB]
  clear hWB
  go_cut [5, 6] (fun lv pv wx => ∃ G, lv = .int .i64 le ∧ pv = .pointer (some ⟨G, 0, none⟩) ∧ w.heap.size + 1 ≤ G ∧ GridAt wx G (gridF (backRows rows)) ∧ Bx w (.pointer (some ⟨p, 0, none⟩)) (.pointer (some ⟨p', 0, none⟩)) wx)
  case first =>
    refine wp_region_held_drew (S := fun W' : World => W'.cell? ⟨w.heap.size, 0, none⟩ = some (.pointer (some ⟨p, 0, none⟩)) ∧ W'.cell? ⟨w.heap.size, 1, none⟩ = some (.pointer (some ⟨p', 0, none⟩))) (by kernel_rfl) ⟨HE.out.c0, HE.out.c1⟩ (fun hHeld => ?_)
    have E0 := Lib.hid (HE.out.step (below_drew WB _))
    generalize WB.drew = W0 at E0 hHeld ⊢
    refine wpAnyH_take (i := 0) (v := .pointer (some ⟨w.heap.size, 1, none⟩)) rfl (by kernel_rfl) (by kernel_rfl) (by kernel_rfl) (fun _ _ _ h => h) (Or.inl ⟨by rfl, ?_⟩) (by assumption) ?_
    · (intro W hSw; obtain ⟨hS0, hS1⟩ := hSw; go_simp)
    try dsimp only [Act.put]
    refine wpAnyH_take (i := 1) (v := .pointer (some ⟨p', 0, none⟩)) rfl (by kernel_rfl) (by kernel_rfl) (by kernel_rfl) (fun _ _ _ h => h) (Or.inl ⟨by rfl, ?_⟩) (by assumption) ?_
    · (intro W hSw; obtain ⟨hS0, hS1⟩ := hSw; go_simp)
    try dsimp only [Act.put]
    refine wpAnyH_take (i := 3) (v := .pointer (some ⟨w.heap.size, 0, none⟩)) rfl (by kernel_rfl) (by kernel_rfl) (by kernel_rfl) (fun _ _ _ h => h) (Or.inl ⟨by rfl, ?_⟩) (by assumption) ?_
    · (intro W hSw; obtain ⟨hS0, hS1⟩ := hSw; go_simp)
    try dsimp only [Act.put]
    refine wpAnyH_take (i := 4) (v := .pointer (some ⟨p, 0, none⟩)) rfl (by kernel_rfl) (by kernel_rfl) (by kernel_rfl) (fun _ _ _ h => h) (Or.inl ⟨by rfl, ?_⟩) (by assumption) ?_
    · (intro W hSw; obtain ⟨hS0, hS1⟩ := hSw; go_simp)
    try dsimp only [Act.put]
    refine wpAnyH_ready (rs := [2, 6]) (by kernel_rfl) (by simp) ?_
    refine AllReadyH.cons rfl (fun K hK => ?_) ?_
    · go_simp
      refine (HLE.out _ E0.out).mono ?_
      rintro e w1 ⟨rfl, hb⟩
      have E1 := Lib.hid (E0.out.step hb)
      clear hb
      go_wp2_with fail
      refine hK.out _ _ (⟨E1.out.c0, E1.out.c1⟩) (fun hHeld => ?_)
      clear hK K
      try dsimp only [Act.put]
      refine wpAnyH_ready (rs := [5, 6]) (by kernel_rfl) (by simp) ?_
      refine AllReadyH.cons rfl (fun K hK => ?_) ?_
      · go_simp
        refine (HBK.out _ E1.out).mono ?_
        rintro e w2 ⟨rfl, hb⟩
        have E2 := Lib.hid (E1.out.step hb)
        clear hb
        obtain ⟨V, hV⟩ : ∃ V, V = Value.agg (gridCells (gridF (backRows rows))) := ⟨_, rfl⟩
        rw [← hV]
        have HV := Lib.hid hV
        clear hV
        go_wp2_with fail
        refine hK.out _ _ (⟨E2.out.c0, E2.out.c1⟩) (fun hHeld => ?_)
        clear hK K
        try dsimp only [Act.put]
        refine wpAnyH_ready (rs := [6]) (by kernel_rfl) (by simp) ?_
        refine AllReadyH.cons rfl (fun K hK => ?_) ?_
        · go_simp
          have hb := (Below.refl w2.heap.size w2).alloc (Nat.le_refl _) (.cells (gridCells fun _ => 0) 58)
          have E3 := Lib.hid (E2.out.step hb)
          clear hb
          have Z3 := Lib.hid (store_new w2)
          have HG3 := Lib.hid (show w.heap.size + 1 ≤ w2.heap.size from E2.out.lt)
          generalize hwq3 : w2.heap.size = G at Z3 HG3 ⊢
          generalize (w2.alloc (.cells (gridCells fun _ => 0) 58)) = w3 at E3 Z3 ⊢
          clear hwq3
          refine hK.out _ _ (⟨E3.out.c0, E3.out.c1⟩) (fun hHeld => ?_)
          clear hK K
          try dsimp only [Act.put]
          refine wpAnyH_ready (rs := [7]) (by kernel_rfl) (by simp) ?_
          refine AllReadyH.cons rfl (fun K hK => ?_) ?_
          · go_simp
            refine hK.out _ _ (by assumption) (fun hHeld => ?_)
            clear hK K
            try dsimp only [Act.put]
            refine wpAnyH_ready (rs := [8]) (by kernel_rfl) (by simp) ?_
            refine AllReadyH.cons (o := { dst := none, op := .store 58 (.tmp 6) (.tmp 15), type := _, pos := _, after := _, guard := none }) rfl (fun K hK => ?_) ?_
            · refine step_store_row rfl 58 (.tmp 6) (.tmp 15) rfl G (gridCells (gridF (backRows rows))) rfl HV.out 58 (gridCells fun _ => 0) Z3.out.1 (by rw [gridCells_size]; exact sizeGrid) (by rw [gridCells_size, gridCells_size]) (gridCells_one _) ?_
              have EF := Lib.hid (E3.out.far (below_setRow' (Below.refl (w.heap.size + 1) w3) HG3.out (gridCells (gridF (backRows rows)))))
              have ZF := Lib.hid (GridAt.setRow Z3.out HLT.out)
              refine hK.out _ _ (⟨EF.out.c0, EF.out.c1⟩) (fun hHeld => ?_)
              clear hK K
              try dsimp only [Act.put]
              refine wpAnyH_done (by kernel_rfl) ?_ _
              go_wp2_with fail
              go_meet
              exact ⟨G, rfl, rfl, HG3.out, ZF.out, EF.out⟩
            exact AllReadyH.nil
          exact AllReadyH.nil
        exact AllReadyH.nil
      refine AllReadyH.cons rfl (fun K hK => ?_) ?_
      · go_simp
        have hb := (Below.refl w1.heap.size w1).alloc (Nat.le_refl _) (.cells (gridCells fun _ => 0) 58)
        have E2 := Lib.hid (E1.out.step hb)
        clear hb
        have Z2 := Lib.hid (store_new w1)
        have HG2 := Lib.hid (show w.heap.size + 1 ≤ w1.heap.size from E1.out.lt)
        generalize hwq2 : w1.heap.size = G at Z2 HG2 ⊢
        generalize (w1.alloc (.cells (gridCells fun _ => 0) 58)) = w2 at E2 Z2 ⊢
        clear hwq2
        refine hK.out _ _ (⟨E2.out.c0, E2.out.c1⟩) (fun hHeld => ?_)
        clear hK K
        try dsimp only [Act.put]
        refine wpAnyH_ready (rs := [5]) (by kernel_rfl) (by simp) ?_
        refine AllReadyH.cons rfl (fun K hK => ?_) ?_
        · go_simp
          refine (HBK.out _ E2.out).mono ?_
          rintro e w3 ⟨rfl, hb⟩
          have E3 := Lib.hid (E2.out.step hb)
          have Z3 := Lib.hid (Z2.out.below hb Z2.out.lt)
          clear hb
          obtain ⟨V, hV⟩ : ∃ V, V = Value.agg (gridCells (gridF (backRows rows))) := ⟨_, rfl⟩
          rw [← hV]
          have HV := Lib.hid hV
          clear hV
          go_wp2_with fail
          refine hK.out _ _ (⟨E3.out.c0, E3.out.c1⟩) (fun hHeld => ?_)
          clear hK K
          try dsimp only [Act.put]
          refine wpAnyH_ready (rs := [7]) (by kernel_rfl) (by simp) ?_
          refine AllReadyH.cons rfl (fun K hK => ?_) ?_
          · go_simp
            refine hK.out _ _ (by assumption) (fun hHeld => ?_)
            clear hK K
            try dsimp only [Act.put]
            refine wpAnyH_ready (rs := [8]) (by kernel_rfl) (by simp) ?_
            refine AllReadyH.cons (o := { dst := none, op := .store 58 (.tmp 6) (.tmp 15), type := _, pos := _, after := _, guard := none }) rfl (fun K hK => ?_) ?_
            · refine step_store_row rfl 58 (.tmp 6) (.tmp 15) rfl G (gridCells (gridF (backRows rows))) rfl HV.out 58 (gridCells fun _ => 0) Z3.out.1 (by rw [gridCells_size]; exact sizeGrid) (by rw [gridCells_size, gridCells_size]) (gridCells_one _) ?_
              have EF := Lib.hid (E3.out.far (below_setRow' (Below.refl (w.heap.size + 1) w3) HG2.out (gridCells (gridF (backRows rows)))))
              have ZF := Lib.hid (GridAt.setRow Z3.out HLT.out)
              refine hK.out _ _ (⟨EF.out.c0, EF.out.c1⟩) (fun hHeld => ?_)
              clear hK K
              try dsimp only [Act.put]
              refine wpAnyH_done (by kernel_rfl) ?_ _
              go_wp2_with fail
              go_meet
              exact ⟨G, rfl, rfl, HG2.out, ZF.out, EF.out⟩
            exact AllReadyH.nil
          exact AllReadyH.nil
        exact AllReadyH.nil
      exact AllReadyH.nil
    refine AllReadyH.cons rfl (fun K hK => ?_) ?_
    · go_simp
      have hb := (Below.refl W0.heap.size W0).alloc (Nat.le_refl _) (.cells (gridCells fun _ => 0) 58)
      have E1 := Lib.hid (E0.out.step hb)
      clear hb
      have Z1 := Lib.hid (store_new W0)
      have HG1 := Lib.hid (show w.heap.size + 1 ≤ W0.heap.size from E0.out.lt)
      generalize hwq1 : W0.heap.size = G at Z1 HG1 ⊢
      generalize (W0.alloc (.cells (gridCells fun _ => 0) 58)) = w1 at E1 Z1 ⊢
      clear hwq1
      refine hK.out _ _ (⟨E1.out.c0, E1.out.c1⟩) (fun hHeld => ?_)
      clear hK K
      try dsimp only [Act.put]
      refine wpAnyH_ready (rs := [2]) (by kernel_rfl) (by simp) ?_
      refine AllReadyH.cons rfl (fun K hK => ?_) ?_
      · go_simp
        refine (HLE.out _ E1.out).mono ?_
        rintro e w2 ⟨rfl, hb⟩
        have E2 := Lib.hid (E1.out.step hb)
        have Z2 := Lib.hid (Z1.out.below hb Z1.out.lt)
        clear hb
        go_wp2_with fail
        refine hK.out _ _ (⟨E2.out.c0, E2.out.c1⟩) (fun hHeld => ?_)
        clear hK K
        try dsimp only [Act.put]
        refine wpAnyH_ready (rs := [5]) (by kernel_rfl) (by simp) ?_
        refine AllReadyH.cons rfl (fun K hK => ?_) ?_
        · go_simp
          refine (HBK.out _ E2.out).mono ?_
          rintro e w3 ⟨rfl, hb⟩
          have E3 := Lib.hid (E2.out.step hb)
          have Z3 := Lib.hid (Z2.out.below hb Z2.out.lt)
          clear hb
          obtain ⟨V, hV⟩ : ∃ V, V = Value.agg (gridCells (gridF (backRows rows))) := ⟨_, rfl⟩
          rw [← hV]
          have HV := Lib.hid hV
          clear hV
          go_wp2_with fail
          refine hK.out _ _ (⟨E3.out.c0, E3.out.c1⟩) (fun hHeld => ?_)
          clear hK K
          try dsimp only [Act.put]
          refine wpAnyH_ready (rs := [7]) (by kernel_rfl) (by simp) ?_
          refine AllReadyH.cons rfl (fun K hK => ?_) ?_
          · go_simp
            refine hK.out _ _ (by assumption) (fun hHeld => ?_)
            clear hK K
            try dsimp only [Act.put]
            refine wpAnyH_ready (rs := [8]) (by kernel_rfl) (by simp) ?_
            refine AllReadyH.cons (o := { dst := none, op := .store 58 (.tmp 6) (.tmp 15), type := _, pos := _, after := _, guard := none }) rfl (fun K hK => ?_) ?_
            · refine step_store_row rfl 58 (.tmp 6) (.tmp 15) rfl G (gridCells (gridF (backRows rows))) rfl HV.out 58 (gridCells fun _ => 0) Z3.out.1 (by rw [gridCells_size]; exact sizeGrid) (by rw [gridCells_size, gridCells_size]) (gridCells_one _) ?_
              have EF := Lib.hid (E3.out.far (below_setRow' (Below.refl (w.heap.size + 1) w3) HG1.out (gridCells (gridF (backRows rows)))))
              have ZF := Lib.hid (GridAt.setRow Z3.out HLT.out)
              refine hK.out _ _ (⟨EF.out.c0, EF.out.c1⟩) (fun hHeld => ?_)
              clear hK K
              try dsimp only [Act.put]
              refine wpAnyH_done (by kernel_rfl) ?_ _
              go_wp2_with fail
              go_meet
              exact ⟨G, rfl, rfl, HG1.out, ZF.out, EF.out⟩
            exact AllReadyH.nil
          exact AllReadyH.nil
        exact AllReadyH.nil
      exact AllReadyH.nil
    exact AllReadyH.nil
  obtain ⟨G, rfl, rfl, hGw, hgr, hbx⟩ := hcut
  have HGR := Lib.hid hgr
  have HBX := Lib.hid hbx
  clear hgr hbx hGw
  go_wp2
  go_loopw [7, 8, 9, 18] (fun ov _ _ kv wr => ∃ k : Nat, k ≤ f.length ∧ kv = .int .i64 k ∧ wr.ownsRow wc.heap.size 3 1 ov (startsN rows rows' f k).length (cellsI (startsN rows rows' f k)) ∧ Below wc.heap.size wc wr) (fun _ _ _ kv _ => f.length - (intOf kv).toNat)
  case atStart => exact ⟨0, Nat.zero_le _, rfl, World.ownsRow_nil _ _ _ _, Below.refl _ _⟩
  case round =>
    obtain ⟨i, hi, rfl, hown, hB⟩ := hrel
    have HOWN := Lib.hid hown
    have HB := Lib.hid hB
    have hcl := startsN_le rows rows' f i
    have hBw := HBX.out.below.trans (HB.out.mono HBX.out.below.size)
    have HBW := Lib.hid hBw
    clear hown hB hBw
    by_cases hlt : i < f.length
    · have hltz : (i : Int) < (f.length : Int) := by omega
      obtain ⟨bf, o_f, rfl, hcf⟩ := (HFA.out wr HBW.out).get hlt
      have heq := HEQ.out i hlt
      have HS := Lib.hid (startsN_succ rows rows' f i)
      rw [HLQ.out] at HS
      obtain ⟨s0, hs0⟩ : ∃ s0 : Bool, (f[i] == le) = s0 := ⟨_, rfl⟩
      rw [hs0] at heq
      have hs1 : (f[i] != le) = !s0 := by unfold bne; rw [hs0]
      have hin0 : (0 : Int) ≤ (i : Int) := by omega
      have hin1 : (i : Int) < 200 := by omega
      obtain ⟨c0, c1, c2, c3⟩ := (HGR.out.below HB.out HGR.out.lt).row i (by omega)
      have hk0 := fun d os => cell_regrown c0 d os
      have hk1 := fun d os => cell_regrown c1 d os
      have hk2 := fun d os => cell_regrown c2 d os
      have hk3 := fun d os => cell_regrown c3 d os
      have hxR := fun d os => Calls.regrown_of (w := wr) (d := d) (os := os) (rowOf_any (i : Int) i _ rfl (by omega))
      have hxW := fun d os => Calls.regrown_of (w := wr) (d := d) (os := os) (without_any (gridF (backRows rows) i) (2 ^ i) _)
      have hxH := fun d os => Calls.regrown_of (w := wr) (d := d) (os := os) (hasOn_any (.slice (some ⟨bf, o_f, none⟩) f.length Cf) f (diff (gridF (backRows rows) i) (2 ^ i)) f[i] _ (HFA.out _ (HBW.out.trans ((below_regrown wr d os).mono HBW.out.size))) (HTA.out _ (HBW.out.trans ((below_regrown wr d os).mono HBW.out.size))) (diff_lt _ (HLT.out i)) (HEL.out i hlt))
      clear c0 c1 c2 c3
      cases s0 with
      | true =>
        have HN := Lib.hid (show startsN rows rows' f (i + 1) = startsN rows rows' f i by rw [HS.out, heq]; rfl)
        clear heq hs0
        go_upto_region 6 with fail
        refine wp_region_quiet_below (by kernel_rfl) (by kernel_rfl) ?_
        repeat (go_big_quiet_step (first | (go_at_call 63; exact hxR _ _) | (go_at_call 62; exact hxW _ _) | (go_at_call 61; exact hxH _ _)))
        refine wpQuiet_nil ?_
        intro _ hw'
        obtain ⟨⟨dq, osq⟩, hw''⟩ := hw'
        subst hw''
        clear hxR hxW hxH hk0 hk1 hk2 hk3
        have HBQ := Lib.hid (HB.out.trans ((below_regrown wr dq osq).mono HB.out.size))
        have HOQ := Lib.hid (owns_below HOWN.out (below_regrown wr dq osq))
        go_wp2
        go_roundw
        case rel => exact ⟨i + 1, by omega, by go_num, by rw [HN.out]; exact HOQ.out, HBQ.out⟩
        case measure => simp [intOf]; omega
      | false =>
        obtain ⟨t, ht⟩ : ∃ t, onB f (diff (gridF (backRows rows) i) (2 ^ i)) f[i] = t := ⟨_, rfl⟩
        rw [ht] at heq
        simp only [ht] at hxH
        have HT := Lib.hid ht
        clear hs0 ht
        cases t with
        | true =>
        have HN := Lib.hid (show startsN rows rows' f (i + 1) = startsN rows rows' f i by rw [HS.out, heq]; rfl)
        clear heq
        go_upto_region 6 with fail
        refine wp_region_quiet_below (by kernel_rfl) (by kernel_rfl) ?_
        repeat (go_big_quiet_step (first | (go_at_call 63; exact hxR _ _) | (go_at_call 62; exact hxW _ _) | (go_at_call 61; exact hxH _ _)))
        refine wpQuiet_nil ?_
        intro _ hw'
        obtain ⟨⟨dq, osq⟩, hw''⟩ := hw'
        subst hw''
        clear hxR hxW hxH hk0 hk1 hk2 hk3
        have HBQ := Lib.hid (HB.out.trans ((below_regrown wr dq osq).mono HB.out.size))
        have HOQ := Lib.hid (owns_below HOWN.out (below_regrown wr dq osq))
        go_wp2
        go_roundw
        case rel => exact ⟨i + 1, by omega, by go_num, by rw [HN.out]; exact HOQ.out, HBQ.out⟩
        case measure => simp [intOf]; omega
        | false =>
        have HN := Lib.hid (show startsN rows rows' f (i + 1) = startsN rows rows' f i ++ [(i : Int)] by rw [HS.out, heq]; rfl)
        clear heq
        go_upto_region 6 with fail
        refine wp_region_quiet_below (by kernel_rfl) (by kernel_rfl) ?_
        repeat (go_big_quiet_step (first | (go_at_call 63; exact hxR _ _) | (go_at_call 62; exact hxW _ _) | (go_at_call 61; exact hxH _ _)))
        refine wpQuiet_nil ?_
        intro _ hw'
        obtain ⟨⟨dq, osq⟩, hw''⟩ := hw'
        subst hw''
        clear hxR hxW hxH hk0 hk1 hk2 hk3
        have HBQ := Lib.hid (HB.out.trans ((below_regrown wr dq osq).mono HB.out.size))
        have HOQ := Lib.hid (owns_below HOWN.out (below_regrown wr dq osq))
        have hbz := HBQ.out.size
        generalize «Sort».grow (redrawn wr dq) osq = wq at HBQ HOQ hbz ⊢
        go_wp2_with (at_builtin; refine wpList_append_own _ rfl _ _ 33 rfl wc.heap.size 3 i0 (.int .i64 0) 1 8 Tryd.underlying33 hi0 hz0 hz1 hz2 rfl (by decide) _ _ _ rfl (HOQ.out.alloc _) ⟨wq.heap.size, 0, none⟩ 1 1 [.int .i64 (i : Int)] rfl rfl (cell_one_new _ _ _) (by simp [Value.oneCell']) (by unfold maxLen; omega) (by omega) (by simp; omega) ?_; intro v' w9 hown' hgrow _)
        go_roundw
        case rel =>
          refine ⟨i + 1, by omega, by go_num, ?_, (HBQ.out.alloc hbz _).grown hgrow (by rw [World.size_alloc]; omega) (fun b e => (HOQ.out.lt b e).1)⟩
          rw [HN.out, List.length_append, show cellsI (startsN rows rows' f i ++ [(i : Int)]) = cellsI (startsN rows rows' f i) ++ [.int .i64 (i : Int)] by simp]
          exact hown'
        case measure => simp [intOf]; omega
    · obtain rfl : i = f.length := by omega
      have hltz : ¬ ((f.length : Int) < (f.length : Int)) := by omega
      go_wp2
      go_ret
      refine ⟨_, rfl, OwnI.of_owns (owns_weaker HOWN.out HBX.out.below.size) (fun y hy => ?_) (fun b hb => (HOWN.out.lt b hb).2), HBW.out⟩
      unfold startsN at hy
      obtain ⟨j, hj, rfl⟩ := List.mem_map.1 hy
      have := List.mem_range.1 (List.mem_filter.1 hj).1
      exact wf_int (by omega) (by omega)
end Go.Proofs.YtppjogkednclcaaDoor

/- The program's funTypeOf: two domains, and lists that are monotone functions between them. -/
namespace Go.Proofs.YtppjogkednclcaaDoor
open Go.RowKit Go.Deep Go.Shelf

/-- Two domains, and monotone functions between them. -/
noncomputable def ftB (rows rows' : Rows2) (fs : List (List Int)) : Bool := domB rows && domB rows' && fs.all fun f => monoI rows rows' f
theorem ftB_one (rows rows' : Rows2) (f : List Int) : ftB rows rows' [f] = monoB rows rows' f := by unfold ftB monoB; simp
theorem ftB_no {rows rows' : Rows2} {fs : List (List Int)} {i : Nat} (hi : i < fs.length) (h : monoI rows rows' fs[i] = false) : ftB rows rows' fs = false := by
  unfold ftB
  rw [Bool.and_eq_false_iff]
  right
  rw [List.all_eq_false]
  exact ⟨_, List.getElem_mem hi, by rw [h]; simp⟩
theorem ftB_yes {rows rows' : Rows2} {fs : List (List Int)} (h1 : domB rows = true) (h2 : domB rows' = true) (h : ∀ i (hi : i < fs.length), monoI rows rows' fs[i] = true) : ftB rows rows' fs = true := by
  unfold ftB
  rw [h1, h2, Bool.true_and, Bool.true_and, List.all_eq_true]
  intro x hx
  obtain ⟨i, hi, rfl⟩ := List.getElem_of_mem hx
  exact h i hi

/-- What funTypeOf answers. -/
def FtP (t : Bool) (rows rows' : Rows2) (w : World) (e : Ending) (w' : World) : Prop :=
  (∃ q q' : Option Addr, e = .returned (.tuple #[.agg #[.pointer q, .pointer q'], .bool t]) ∧
    (t = true → ∃ p p' : Nat, q = some ⟨p, 0, none⟩ ∧ q' = some ⟨p', 0, none⟩ ∧ w.heap.size ≤ p ∧ w.heap.size ≤ p' ∧ GridAt w' p (gridF rows) ∧ GridAt w' p' (gridF rows'))) ∧ Below w.heap.size w w'
theorem FtP.no {t : Bool} {rows rows' : Rows2} {w w' : World} (ht : t = false) (hb : Below w.heap.size w w') : FtP t rows rows' w (.returned (.tuple #[.agg #[.pointer none, .pointer none], .bool false])) w' :=
  ⟨⟨none, none, by rw [ht], fun h => (by rw [ht] at h; cases h)⟩, hb⟩

/-- The variable of the result, as it begins. -/
def Zero2 (r : Nat) (W : World) : Prop := W.heap[r]? = some (.cells #[.pointer none, .pointer none] 69 (0, 0))
theorem Zero2.lt {r : Nat} {W : World} (h : Zero2 r W) : r < W.heap.size := by
  obtain ⟨hlt, _⟩ := Array.getElem?_eq_some_iff.1 h
  exact hlt
theorem Zero2.below {r : Nat} {W W' : World} (h : Zero2 r W) (hb : Below W.heap.size W W') : Zero2 r W' := by
  unfold Zero2
  rw [hb.block r h.lt]
  exact h
theorem Zero2.cells {r : Nat} {W : World} (h : Zero2 r W) : W.cell? ⟨r, 0, none⟩ = some (.pointer none) ∧ W.cell? ⟨r, 1, none⟩ = some (.pointer none) ∧ ∀ o, W.frozen? ⟨r, o, none⟩ = false :=
  ⟨by rw [cell_of_row W r _ _ _ _ h]; rfl, by rw [cell_of_row W r _ _ _ _ h]; rfl, fun o => frozen_of_row W r o _ _ h⟩

/-- While funTypeOf runs. -/
structure Ft (w : World) (v v' vl : Value) (rows rows' fs : Rows2) (W : World) : Prop where
  two : Two w v v' rows rows' W
  zero : Zero2 (w.heap.size + 2) W
  lists : RowsAt W vl fs
  tab : Tab W
theorem Ft.step {w : World} {v v' vl : Value} {rows rows' fs : Rows2} {W W' : World} (h : Ft w v v' vl rows rows' fs W) (hb : Below W.heap.size W W') : Ft w v v' vl rows rows' fs W' :=
  ⟨h.two.step hb, h.zero.below hb, h.lists.below hb, h.tab.below hb⟩
theorem Ft.start (w : World) {v v' vl : Value} {rows rows' fs : Rows2} (hv : RowsAt w v rows) (hv' : RowsAt w v' rows') (hl : RowsAt w vl fs) (hT : Tab w) :
    Ft w v v' vl rows rows' fs (((w.alloc (.cells #[v] 26)).alloc (.cells #[v'] 26)).alloc (.cells #[.pointer none, .pointer none] 69)) := by
  have h2 := Two.start w 26 26 hv hv'
  have s2 : ((w.alloc (.cells #[v] 26)).alloc (.cells #[v'] 26)).heap.size = w.heap.size + 2 := by rw [World.size_alloc, World.size_alloc]
  have b3 := (Below.refl ((w.alloc (.cells #[v] 26)).alloc (.cells #[v'] 26)).heap.size ((w.alloc (.cells #[v] 26)).alloc (.cells #[v'] 26))).alloc (Nat.le_refl _) (.cells #[.pointer none, .pointer none] 69)
  refine ⟨h2.step b3, ?_, (hl.below h2.below).below b3, (hT.below h2.below).below b3⟩
  have h := heap_alloc_new ((w.alloc (.cells #[v] 26)).alloc (.cells #[v'] 26)) (.cells #[.pointer none, .pointer none] 69)
  rw [s2] at h
  exact h

set_option maxRecDepth 100000 in
set_option maxHeartbeats 4000000 in
theorem funTypeOf_any (v v' vl : Value) (rows rows' fs : Rows2) (w : World) (hv : RowsAt w v rows) (hv' : RowsAt w v' rows') (hl : RowsAt w vl fs) (hT : Tab w) (hn : bulk rows ≤ 1048576) (hn' : bulk rows' ≤ 1048576) :
    Calls Tryd.prog 40 #[.agg #[v], .agg #[v'], vl] w (FtP (ftB rows rows' fs) rows rows' w) := by
  have hF := Ft.start w hv hv' hl hT
  obtain ⟨A, C, rfl, _⟩ := hv
  obtain ⟨A', C', rfl, _⟩ := hv'
  obtain ⟨Al, Cl, rfl, hCl, hml, _⟩ := hl
  unfold maxLen at hml
  have H0 := Lib.hid hF
  have hc0 := hF.two.c0
  clear hF hT
  cases h1 : domB rows with
  | false =>
    have hd := domainOf_no _ rows _ H0.out.two.r0 H0.out.tab hn h1
    have HE := Lib.hid (show ftB rows rows' fs = false by unfold ftB; rw [h1]; rfl)
    go_enter Tryd.func40, Tryd.ntmps40
    cases h2 : domB rows' with
    | false =>
      go_wp2_with (first | (go_at_call 30; refine hd.mono ?_; clear hd; rintro e w1 ⟨rfl, hb1⟩; have H1 := Lib.hid (H0.out.step hb1); have hc1 := H1.out.two.c1; have hd2 := domainOf_no _ rows' _ H1.out.two.r1 H1.out.tab hn' h2; clear hb1) | (go_at_call 30; refine hd2.mono ?_; clear hd2; rintro e w2 ⟨rfl, hb2⟩; have H2 := Lib.hid (H1.out.step hb2); obtain ⟨z0, z1, z2⟩ := H2.out.zero.cells; clear hb2))
      refine bodyPost_ret (v := .tuple #[.agg #[.pointer none, .pointer none], .bool false]) (by simp [results, Tryd.results40, go_sem, z0, z1]) rfl ?_
      exact FtP.no HE.out (H2.out.two.below.setCell (by show w.heap.size ≤ w.heap.size + 2; omega) _ |>.setCell (by show w.heap.size ≤ w.heap.size + 2; omega) _)
    | true =>
      go_wp2_with (first | (go_at_call 30; refine hd.mono ?_; clear hd; rintro e w1 ⟨rfl, hb1⟩; have H1 := Lib.hid (H0.out.step hb1); have hc1 := H1.out.two.c1; have hd2 := domainOf_yes _ rows' _ H1.out.two.r1 H1.out.tab hn' h2; clear hb1) | (go_at_call 30; refine hd2.mono ?_; clear hd2; rintro e w2 ⟨⟨p, rfl, _⟩, hb2⟩; have H2 := Lib.hid (H1.out.step hb2); obtain ⟨z0, z1, z2⟩ := H2.out.zero.cells; clear hb2))
      refine bodyPost_ret (v := .tuple #[.agg #[.pointer none, .pointer none], .bool false]) (by simp [results, Tryd.results40, go_sem, z0, z1]) rfl ?_
      exact FtP.no HE.out (H2.out.two.below.setCell (by show w.heap.size ≤ w.heap.size + 2; omega) _ |>.setCell (by show w.heap.size ≤ w.heap.size + 2; omega) _)
  | true =>
    have hd := domainOf_yes _ rows _ H0.out.two.r0 H0.out.tab hn h1
    cases h2 : domB rows' with
    | false =>
      have HE := Lib.hid (show ftB rows rows' fs = false by unfold ftB; rw [h1, h2]; rfl)
      go_enter Tryd.func40, Tryd.ntmps40
      go_wp2_with (first | (go_at_call 30; refine hd.mono ?_; clear hd; rintro e w1 ⟨⟨p, rfl, _⟩, hb1⟩; have H1 := Lib.hid (H0.out.step hb1); have hc1 := H1.out.two.c1; have hd2 := domainOf_no _ rows' _ H1.out.two.r1 H1.out.tab hn' h2; clear hb1) | (go_at_call 30; refine hd2.mono ?_; clear hd2; rintro e w2 ⟨rfl, hb2⟩; have H2 := Lib.hid (H1.out.step hb2); obtain ⟨z0, z1, z2⟩ := H2.out.zero.cells; clear hb2))
      refine bodyPost_ret (v := .tuple #[.agg #[.pointer none, .pointer none], .bool false]) (by simp [results, Tryd.results40, go_sem, z0, z1]) rfl ?_
      exact FtP.no HE.out (H2.out.two.below.setCell (by show w.heap.size ≤ w.heap.size + 2; omega) _ |>.setCell (by show w.heap.size ≤ w.heap.size + 2; omega) _)
    | true =>
      have hok := ok_of_valid (show validB rows = true by unfold domB at h1; rw [Bool.and_eq_true] at h1; exact h1.1)
      have hok' := ok_of_valid (show validB rows' = true by unfold domB at h2; rw [Bool.and_eq_true] at h2; exact h2.1)
      have HMONO := Lib.hid (fun p p' vf f W hg hg' hf => isMonotone_any p p' rows.length rows'.length (gridF rows) (gridF rows') vf f W hg hg' hok.gridN hok'.gridN hf (monoI rows rows' f) (mono_grid hok hok' f))
      have HY := Lib.hid (fun h => ftB_yes (fs := fs) h1 h2 h)
      have hsz : (((w.alloc (.cells #[.slice A rows.length C] 26)).alloc (.cells #[.slice A' rows'.length C'] 26)).alloc (.cells #[.pointer none, .pointer none] 69)).heap.size = w.heap.size + 3 := by rw [World.size_alloc, World.size_alloc, World.size_alloc]
      have HSZ := Lib.hid hsz
      clear hok hok' hsz
      go_enter Tryd.func40, Tryd.ntmps40
      go_wp2_with (first | (go_at_call 30; refine hd.mono ?_; clear hd; rintro e w1 ⟨⟨p, rfl, hp, hg⟩, hb1⟩; have H1 := Lib.hid (H0.out.step hb1); have hc1 := H1.out.two.c1; have hd2 := domainOf_yes _ rows' _ H1.out.two.r1 H1.out.tab hn' h2; have HP := Lib.hid (show w.heap.size + 3 ≤ p by rw [← HSZ.out]; exact hp); have HP1 := Lib.hid (Nat.le_trans (Nat.le_of_eq HSZ.out.symm) hb1.size); have HG := Lib.hid hg; clear hb1 hp hg) | (go_at_call 30; refine hd2.mono ?_; clear hd2; rintro e w2 ⟨⟨p', rfl, hp', hg'⟩, hb2⟩; have H2 := Lib.hid (H1.out.step hb2); have HP' := Lib.hid (Nat.le_trans HP1.out hp'); have HG2 := Lib.hid (HG.out.below hb2 HG.out.lt); have HG' := Lib.hid hg'; clear hb2 hp' hg'))
      go_loopw [13, 33] (fun _ kv wr => ∃ k : Nat, k ≤ fs.length ∧ kv = .int .i64 k ∧ (∀ i (hi : i < fs.length), i < k → monoI rows rows' fs[i] = true) ∧ GridAt wr p (gridF rows) ∧ GridAt wr p' (gridF rows') ∧ Ft w (.slice A rows.length C) (.slice A' rows'.length C') (.slice Al fs.length Cl) rows rows' fs wr) (fun _ kv _ => fs.length - (intOf kv).toNat)
      case atStart => exact ⟨0, Nat.zero_le _, rfl, fun _ _ h => absurd h (Nat.not_lt_zero _), HG2.out, HG'.out, H2.out⟩
      case round =>
        obtain ⟨k, hk, rfl, hall, hg, hg', hh⟩ := hrel
        have HA := Lib.hid hall
        have HGk := Lib.hid hg
        have HGk' := Lib.hid hg'
        have HK := Lib.hid hh
        clear hall hg hg'
        by_cases hlt : k < fs.length
        · obtain ⟨_, _, e0, _, _, hx⟩ := hh.lists
          cases e0
          obtain ⟨b0, o0, u, rfl, hcu, hu⟩ := hx k hlt
          clear hh hx
          have hcall := HMONO.out p p' u fs[k] wr HGk.out HGk'.out hu
          obtain ⟨Au, Cu, rfl, _⟩ := hu
          cases hm : monoI rows rows' fs[k] with
          | true =>
            rw [hm] at hcall
            have HM := Lib.hid hm
            clear hm
            go_wp2_with (go_at_call 48; refine hcall.mono ?_; clear hcall; rintro e w3 ⟨rfl, hb3⟩; have H3 := Lib.hid (HK.out.step hb3); have HG3 := Lib.hid (HGk.out.below hb3 HGk.out.lt); have HG3' := Lib.hid (HGk'.out.below hb3 HGk'.out.lt); clear hb3)
            go_roundw
            case rel =>
              refine ⟨k + 1, by omega, by go_num, fun i hi hlt' => ?_, HG3.out, HG3'.out, H3.out⟩
              by_cases e : i = k
              · subst e; exact HM.out
              · exact HA.out i hi (by omega)
            case measure => simp [intOf]; omega
          | false =>
            rw [hm] at hcall
            have HE := Lib.hid (ftB_no hlt hm)
            clear hm
            go_wp2_with (go_at_call 48; refine hcall.mono ?_; clear hcall; rintro e w3 ⟨rfl, hb3⟩; have H3 := Lib.hid (HK.out.step hb3); obtain ⟨z0, z1, z2⟩ := H3.out.zero.cells; clear hb3)
            refine bodyPost_ret (v := .tuple #[.agg #[.pointer none, .pointer none], .bool false]) (by simp [results, Tryd.results40, go_sem, z0, z1]) rfl ?_
            exact FtP.no HE.out (H3.out.two.below.setCell (by show w.heap.size ≤ w.heap.size + 2; omega) _ |>.setCell (by show w.heap.size ≤ w.heap.size + 2; omega) _)
        · obtain rfl : k = fs.length := by omega
          have HE := Lib.hid (HY.out fun i hi => HA.out i hi hi)
          obtain ⟨z0, z1, z2⟩ := HK.out.zero.cells
          clear hh
          go_wp2
          refine bodyPost_ret (v := .tuple #[.agg #[.pointer (some ⟨p, 0, none⟩), .pointer (some ⟨p', 0, none⟩)], .bool true]) (by simp [results, Tryd.results40, go_sem, z0, z1]) rfl ?_
          refine ⟨⟨_, _, by rw [HE.out], fun _ => ⟨p, p', rfl, rfl, by have := HP.out; omega, by have := HP'.out; omega, ?_, ?_⟩⟩, (HK.out.two.below.setCell (by show w.heap.size ≤ w.heap.size + 2; omega) _ |>.setCell (by show w.heap.size ≤ w.heap.size + 2; omega) _)⟩
          · exact (HGk.out.setOther (by have := HP.out; show p ≠ w.heap.size + 2; omega) _).setOther (by have := HP.out; show p ≠ w.heap.size + 2; omega) _
          · exact (HGk'.out.setOther (by have := HP'.out; show p' ≠ w.heap.size + 2; omega) _).setOther (by have := HP'.out; show p' ≠ w.heap.size + 2; omega) _
end Go.Proofs.YtppjogkednclcaaDoor

/- The program's FunMonotone. -/
namespace Go.Proofs.YtppjogkednclcaaDoor
open Go.RowKit Go.Deep Go.Shelf

theorem rows_one {w : World} {vf : Value} {f : List Int} (hf : IntsAt w vf f) : RowsAt (w.alloc (.cells #[vf] 33)) (.slice (some ⟨w.heap.size, 0, none⟩) 1 1) [f] := by
  refine ⟨some ⟨w.heap.size, 0, none⟩, 1, rfl, Nat.le_refl _, by unfold maxLen; omega, fun i hi => ?_⟩
  obtain rfl : i = 0 := by simpa using hi
  exact ⟨w.heap.size, 0, vf, rfl, (World.rowIs_alloc w #[vf] 33 (fun _ => vf) (fun i hi => by simp at hi; subst hi; rfl)).cell (i := 0) (by simp), hf.below ((Below.refl _ w).alloc (Nat.le_refl _) _)⟩
theorem rows_two {w : World} {vf vg : Value} {f g : List Int} (hf : IntsAt w vf f) (hg : IntsAt w vg g) : RowsAt (w.alloc (.cells #[vf, vg] 33)) (.slice (some ⟨w.heap.size, 0, none⟩) 2 2) [f, g] := by
  have hr := World.rowIs_alloc w #[vf, vg] 33 (fun i => if i = 0 then vf else vg) (fun i hi => by
    have hi' : i < 2 := by simpa using hi
    obtain rfl | rfl : i = 0 ∨ i = 1 := by omega
    · rfl
    · rfl)
  refine ⟨some ⟨w.heap.size, 0, none⟩, 2, rfl, Nat.le_refl _, by unfold maxLen; omega, fun i hi => ?_⟩
  have hi' : i < 2 := by simpa using hi
  have hc := hr.cell (i := i) (by simpa using hi')
  obtain rfl | rfl : i = 0 ∨ i = 1 := by omega
  · exact ⟨w.heap.size, 0, vf, rfl, by simp, hf.below ((Below.refl _ w).alloc (Nat.le_refl _) _)⟩
  · exact ⟨w.heap.size, 0, vg, rfl, by simp, hg.below ((Below.refl _ w).alloc (Nat.le_refl _) _)⟩

end Go.Proofs.YtppjogkednclcaaDoor

/- The program's FunStrict. -/
namespace Go.Proofs.YtppjogkednclcaaDoor
open Go.RowKit Go.Deep Go.Shelf

/-- What funTypeOf answers where both are domains and the lists monotone functions. -/
def FtYes (rows rows' : Rows2) (w : World) (e : Ending) (w' : World) : Prop :=
  (∃ p p' : Nat, e = .returned (.tuple #[.agg #[.pointer (some ⟨p, 0, none⟩), .pointer (some ⟨p', 0, none⟩)], .bool true]) ∧ w.heap.size ≤ p ∧ w.heap.size ≤ p' ∧ GridAt w' p (gridF rows) ∧ GridAt w' p' (gridF rows')) ∧ Below w.heap.size w w'
theorem FtP.yes {rows rows' : Rows2} {w w' : World} {e : Ending} (h : FtP true rows rows' w e w') : FtYes rows rows' w e w' := by
  obtain ⟨⟨q, q', he, h⟩, hb⟩ := h
  obtain ⟨p, p', rfl, rfl, h1, h2, h3, h4⟩ := h rfl
  exact ⟨⟨p, p', he, h1, h2, h3, h4⟩, hb⟩
theorem monoB_ok {rows rows' : Rows2} {f : List Int} (h : monoB rows rows' f = true) : Ok rows ∧ Ok rows' ∧ Mono rows rows' f := by
  obtain ⟨h1, h2, h3⟩ := monoB_parts h
  unfold domB at h1 h2
  rw [Bool.and_eq_true] at h1 h2
  exact ⟨ok_of_valid h1.1, ok_of_valid h2.1, h3⟩
theorem leastG {rows : Rows2} (h : Ok rows) (b : Nat) (w : World) (hg : GridAt w b (gridF rows)) (hT : Tab w) :
    Calls Tryd.prog 60 #[.pointer (some ⟨b, 0, none⟩)] w (SaysI (leastI rows) w) := by
  rw [least_eq h]
  exact least_any b rows.length (gridF rows) w hg hT h.gridN

end Go.Proofs.YtppjogkednclcaaDoor

/- The program's FunSteps. -/
namespace Go.Proofs.YtppjogkednclcaaDoor
open Go.RowKit Go.Deep Go.Shelf

theorem startsL_no {rows rows' : Rows2} {f : List Int} (h : monoB rows rows' f = false) : startsL rows rows' f = [] := by unfold startsL; rw [if_neg (by rw [h]; simp)]
theorem startsL_yes {rows rows' : Rows2} {f : List Int} (h : monoB rows rows' f = true) : startsL rows rows' f = startsN rows rows' f f.length := by unfold startsL; rw [if_pos h]

set_option maxRecDepth 100000 in
set_option maxHeartbeats 8000000 in
theorem implSteps_any (v v' vf : Value) (rows rows' : Rows2) (f : List Int) (w : World) (hv : RowsAt w v rows) (hv' : RowsAt w v' rows') (hf : IntsAt w vf f) (hT : Tab w) (hn : bulk rows ≤ 1048576) (hn' : bulk rows' ≤ 1048576) :
    Calls Tryd.prog 16 #[.agg #[v], .agg #[v'], vf] w (OwnB (startsL rows rows' f) (monoB rows rows' f) w) := by
  have h0 := TwoF.start w 26 26 hv hv' hf
  have hl := rows_one h0.2
  have b1 := (Below.refl ((w.alloc (.cells #[v] 26)).alloc (.cells #[v'] 26)).heap.size ((w.alloc (.cells #[v] 26)).alloc (.cells #[v'] 26))).alloc (Nat.le_refl _) (.cells #[vf] 33)
  have h1 := h0.step b1
  have hT1 := (hT.below h0.1.below).below b1
  have hcall := funTypeOf_any v v' _ rows rows' [f] _ h1.1.r0 h1.1.r1 hl hT1 hn hn'
  have hs : ((w.alloc (.cells #[v] 26)).alloc (.cells #[v'] 26)).heap.size = w.heap.size + 2 := by rw [World.size_alloc, World.size_alloc]
  rw [ftB_one, hs] at hcall
  have hc0 := h0.1.c0
  have hc1 := h0.1.c1
  obtain ⟨A, C, rfl, _⟩ := hv
  obtain ⟨A', C', rfl, _⟩ := hv'
  obtain ⟨Af, Cf, rfl, _⟩ := hf
  have H1 := Lib.hid h1
  have T1 := Lib.hid hT1
  clear h0 hl b1 h1 hT1 hs hT
  cases hm : monoB rows rows' f with
  | false =>
    rw [hm] at hcall
    have HE := Lib.hid (startsL_no hm)
    clear hm
    go_enter Tryd.func16, Tryd.ntmps16
    go_wp2_with (go_at_call 40; refine hcall.mono ?_; clear hcall; rintro e w1 ⟨⟨q, q', rfl, _⟩, hb1⟩; have H2 := Lib.hid ((H1.out.step hb1).step ((Below.refl _ w1).alloc (Nat.le_refl _) (.cells #[.pointer q, .pointer q'] 69))); clear hb1)
    go_ret2
    exact ⟨_, rfl, by rw [HE.out]; exact OwnI.nil _ _ _ _, H2.out.1.below⟩
  | true =>
    rw [hm] at hcall
    have HE := Lib.hid (startsL_yes hm)
    obtain ⟨hok, hok', hmo⟩ := monoB_ok hm
    have HS := Lib.hid (fun p p' W h1 h2 h3 h4 => starts_any (.slice Af f.length Cf) f p p' rows rows' W h1 h2 h3 h4 hok hok' hmo.1)
    have hcall2 := hcall.mono (fun e w' h => h.yes)
    clear hm hok hok' hmo hcall
    go_enter Tryd.func16, Tryd.ntmps16
    go_wp2_with (first | (go_at_call 40; refine hcall2.mono ?_; clear hcall2; rintro e w1 ⟨⟨p, p', rfl, _, _, hg, hg'⟩, hb1⟩; have B2 := Lib.hid ((Below.refl w1.heap.size w1).alloc (Nat.le_refl _) (.cells #[.pointer (some ⟨p, 0, none⟩), .pointer (some ⟨p', 0, none⟩)] 69)); have H2 := Lib.hid ((H1.out.step hb1).step B2.out); have T2 := Lib.hid ((T1.out.below hb1).below B2.out); have GR := Lib.hid (hg.below B2.out hg.lt); have GR2 := Lib.hid (hg'.below B2.out hg'.lt); have hbx := Bx.start w1 (.pointer (some ⟨p, 0, none⟩)) (.pointer (some ⟨p', 0, none⟩)) 69; have hl0 := hbx.c0; have hl1 := hbx.c1; clear hb1 hg hg' hbx) | (go_at_call 41; refine (HS.out p p' _ H2.out.2 GR.out GR2.out T2.out).mono ?_; rintro e w3 ⟨u, rfl, hu, hb3⟩; obtain ⟨a3, C3, rfl⟩ := hu.form; have HU := Lib.hid hu; have HB3 := Lib.hid hb3; clear hu hb3))
    go_ret2
    rw [HE.out]
    exact ⟨_, rfl, HU.out.wider H2.out.1.below.size (Nat.le_refl _), H2.out.1.below.trans (HB3.out.mono H2.out.1.below.size)⟩
end Go.Proofs.YtppjogkednclcaaDoor

/- What a law holds while it runs, as a list of things that lie one behind the other in memory: variables' boxes, copies, answers. Plain facts on worlds: no function is walked here. -/
namespace Go.Proofs.YtppjogkednclcaaDoor
open Go.RowKit Go.Deep

/-- A thing that lies between the blocks lo and hi, and hangs on these alone. -/
structure It where
  lo : Nat
  hi : Nat
  P : World → Prop
  loc : ∀ W W' : World, (∀ b, lo ≤ b → b < hi → W'.heap[b]? = W.heap[b]?) → P W → P W'

/-- A list of integers in memory of its own; rows likewise; a variable's box. -/
def ItI (v : Value) (xs : List Int) (lo hi : Nat) : It := ⟨lo, hi, fun W => OwnI 3 W v xs lo hi, fun _ _ h k => k.kept fun b e => h b (k.block b e).1 (k.block b e).2.1⟩
def ItR (v : Value) (n : Nat) (R : Nat → List Int) (lo hi : Nat) : It := ⟨lo, hi, fun W => OwnR 3 33 W v n R lo hi, fun _ _ h k => k.kept h⟩
def ItB (b : Nat) (t : TypeId) (v : Value) : It := ⟨b, b + 1, fun W => Boxed W b t v, fun _ _ h k => (h b (Nat.le_refl _) (Nat.lt_succ_self _)).trans k⟩

def Holds (W : World) : Nat → List It → Prop
  | n, [] => n ≤ W.heap.size
  | n, i :: is => n ≤ i.lo ∧ i.lo ≤ i.hi ∧ i.P W ∧ Holds W i.hi is

theorem Holds.le {W : World} : ∀ {is : List It} {n : Nat}, Holds W n is → n ≤ W.heap.size
  | [], _, h => h
  | _ :: _, _, h => Nat.le_trans h.1 (Nat.le_trans h.2.1 (Holds.le h.2.2.2))
theorem Holds.above {W W' : World} : ∀ {is : List It} {n : Nat}, Holds W n is → (∀ b, n ≤ b → b < W.heap.size → W'.heap[b]? = W.heap[b]?) → W.heap.size ≤ W'.heap.size → Holds W' n is
  | [], _, h, _, hz => Nat.le_trans h hz
  | i :: _, _, h, hb, hz => ⟨h.1, h.2.1, i.loc W W' (fun b hl hh => hb b (Nat.le_trans h.1 hl) (Nat.lt_of_lt_of_le hh h.2.2.2.le)) h.2.2.1, h.2.2.2.above (fun b hl hs => hb b (Nat.le_trans h.1 (Nat.le_trans h.2.1 hl)) hs) hz⟩
theorem Holds.step {W W' : World} {is : List It} {n : Nat} (h : Holds W n is) (hb : Below W.heap.size W W') : Holds W' n is := h.above (fun b _ hs => hb.block b hs) hb.size
theorem Holds.push {W W' : World} {it : It} (hb : Below W.heap.size W W') (h1 : W.heap.size ≤ it.lo) (h2 : it.lo ≤ it.hi) (h3 : it.hi ≤ W'.heap.size) (hP : it.P W') : ∀ {is : List It} {n : Nat}, Holds W n is → Holds W' n (is ++ [it])
  | [], _, h => ⟨Nat.le_trans h h1, h2, hP, h3⟩
  | i :: _, _, h => ⟨h.1, h.2.1, i.loc W W' (fun b _ hh => hb.block b (Nat.lt_of_lt_of_le hh h.2.2.2.le)) h.2.2.1, Holds.push hb h1 h2 h3 hP h.2.2.2⟩
theorem Holds.pop {W : World} {it : It} : ∀ {is : List It} {n : Nat}, Holds W n (is ++ [it]) → Holds W n is
  | [], _, h => Nat.le_trans h.1 (Nat.le_trans h.2.1 h.2.2.2)
  | _ :: _, _, h => ⟨h.1, h.2.1, h.2.2.1, Holds.pop h.2.2.2⟩
theorem Holds.take {W : World} : ∀ {is : List It} {n : Nat} (k : Nat), Holds W n is → Holds W n (is.take k)
  | [], _, k, h => by rw [List.take_nil]; exact h
  | _ :: _, _, 0, h => Nat.le_trans h.1 (Nat.le_trans h.2.1 h.2.2.2.le)
  | _ :: _, _, k + 1, h => ⟨h.1, h.2.1, h.2.2.1, Holds.take k h.2.2.2⟩
theorem Holds.get {W : World} {it : It} : ∀ {is : List It} {n : Nat} (k : Nat), is[k]? = some it → Holds W n is → n ≤ it.lo ∧ it.lo ≤ it.hi ∧ it.hi ≤ W.heap.size ∧ it.P W
  | [], _, k, e, _ => by simp at e
  | i :: is, n, 0, e, h => by
    obtain rfl : i = it := by simpa using e
    exact ⟨h.1, h.2.1, h.2.2.2.le, h.2.2.1⟩
  | i :: is, n, k + 1, e, h => by
    have e' : is[k]? = some it := by simpa using e
    obtain ⟨a, b, c, d⟩ := Holds.get k e' h.2.2.2
    exact ⟨Nat.le_trans h.1 (Nat.le_trans h.2.1 a), b, c, d⟩
theorem Holds.turn {W W' : World} {it it' : It} (hlo : it'.lo = it.lo) (hhi : it'.hi = it.hi) (ht : Turned it.lo it.hi W W') (hP : it'.P W') : ∀ {is : List It} {n : Nat} (k : Nat), is[k]? = some it → Holds W n is → Holds W' n (is.set k it')
  | [], _, k, e, _ => by simp at e
  | i :: is, n, 0, e, h => by
    obtain rfl : i = it := by simpa using e
    refine ⟨by rw [hlo]; exact h.1, by rw [hlo, hhi]; exact h.2.1, hP, ?_⟩
    rw [hhi]
    exact h.2.2.2.above (fun b hl hs => ht.above b hl hs) ht.below.size
  | i :: is, n, k + 1, e, h => by
    have e' : is[k]? = some it := by simpa using e
    have hg := Holds.get k e' h.2.2.2
    exact ⟨h.1, h.2.1, i.loc W W' (fun b _ hh => ht.below.block b (Nat.lt_of_lt_of_le hh hg.1)) h.2.2.1, Holds.turn hlo hhi ht hP k e' h.2.2.2⟩

/-- The world W, since w: all that lay there lies as it lay, and behind it lie these things. -/
structure St (w : World) (is : List It) (W : World) : Prop where
  below : Below w.heap.size w W
  holds : Holds W w.heap.size is

section
variable {w : World} {is : List It} {W W' : World}
theorem St.start (w : World) : St w [] w := ⟨Below.refl _ _, Nat.le_refl _⟩
theorem St.step (h : St w is W) (hb : Below W.heap.size W W') : St w is W' := ⟨h.below.trans (hb.mono h.below.size), h.holds.step hb⟩
theorem St.drew (h : St w is W) : St w is W.drew := h.step ⟨rfl, rfl, rfl, Nat.le_refl _, fun _ _ => rfl⟩
theorem St.drewN (h : St w is W) (n : Nat) : St w is (W.drewN n) := h.step ⟨rfl, rfl, rfl, Nat.le_refl _, fun _ _ => rfl⟩
theorem St.push {it : It} (h : St w is W) (hb : Below W.heap.size W W') (h1 : W.heap.size ≤ it.lo) (h2 : it.lo ≤ it.hi) (h3 : it.hi ≤ W'.heap.size) (hP : it.P W') : St w (is ++ [it]) W' :=
  ⟨h.below.trans (hb.mono h.below.size), h.holds.push hb h1 h2 h3 hP⟩
theorem St.pop {it : It} (h : St w (is ++ [it]) W) : St w is W := ⟨h.below, h.holds.pop⟩
theorem St.take (h : St w is W) (k : Nat) : St w (is.take k) W := ⟨h.below, h.holds.take k⟩
theorem St.box (h : St w is W) (t : TypeId) (v : Value) : St w (is ++ [ItB W.heap.size t v]) (W.alloc (.cells #[v] t)) :=
  h.push ((Below.refl _ _).alloc (Nat.le_refl _) _) (Nat.le_refl _) (Nat.le_succ _) (by rw [World.size_alloc]; exact Nat.le_refl _) (Boxed.new W t v)
theorem St.pushI {v : Value} {xs : List Int} (h : St w is W) (hb : Below W.heap.size W W') (ho : OwnI 3 W' v xs W.heap.size W'.heap.size) : St w (is ++ [ItI v xs W.heap.size W'.heap.size]) W' :=
  h.push hb (Nat.le_refl _) hb.size (Nat.le_refl _) ho
theorem St.pushR {v : Value} {n : Nat} {R : Nat → List Int} (h : St w is W) (hb : Below W.heap.size W W') (ho : OwnR 3 33 W' v n R W.heap.size W'.heap.size) : St w (is ++ [ItR v n R W.heap.size W'.heap.size]) W' :=
  h.push hb (Nat.le_refl _) hb.size (Nat.le_refl _) ho
/-- The copies that the laws make. -/
theorem St.copyR {g : Nat} {G : Nat → Nat} {rows : Rows2} (h : St w is W) (hn : bulk rows ≤ maxLen) (hg : W.heap.size ≤ g) (ho : OwnRows 3 33 W' g W'.heap.size G rows) (hb : Below W.heap.size W W') :
    St w (is ++ [ItR (whole g rows.length) rows.length (rowsF rows) W.heap.size W'.heap.size]) W' :=
  h.pushR hb ((ho.ownR hn).wider hg (Nat.le_refl _))
theorem OwnInts.ownI {t : TypeId} {g : Nat} {xs : List Int} {hi : Nat} (h : OwnInts t W g xs) (hn : xs.length ≤ maxLen) (hg : g < hi) : OwnI t W (whole g xs.length) xs g hi :=
  ⟨h.2, .inr ⟨g, _, _, rfl, Nat.le_refl _, hn, Nat.le_refl _, hg, h.1, fun _ hi => intCell_lt hi⟩⟩
theorem St.copyI {xs : List Int} (h : St w is W) (hn : xs.length ≤ maxLen) (ho : OwnInts 3 W' W.heap.size xs) (hz : W'.heap.size = W.heap.size + 1) (hb : Below W.heap.size W W') :
    St w (is ++ [ItI (whole W.heap.size xs.length) xs W.heap.size W'.heap.size]) W' :=
  h.pushI hb (ho.ownI hn (by omega))
theorem St.cell {b : Nat} {t : TypeId} {v : Value} (h : St w is W) (k : Nat) (e : is[k]? = some (ItB b t v)) : W.cell? ⟨b, 0, none⟩ = some v := Boxed.cell (h.holds.get k e).2.2.2
theorem St.lt {b : Nat} {t : TypeId} {v : Value} (h : St w is W) (k : Nat) (e : is[k]? = some (ItB b t v)) : b < W.heap.size := Boxed.lt (h.holds.get k e).2.2.2
theorem St.ownI {v : Value} {xs : List Int} {lo hi : Nat} (h : St w is W) (k : Nat) (e : is[k]? = some (ItI v xs lo hi)) : OwnI 3 W v xs lo hi := (h.holds.get k e).2.2.2
theorem St.ownR {v : Value} {n : Nat} {R : Nat → List Int} {lo hi : Nat} (h : St w is W) (k : Nat) (e : is[k]? = some (ItR v n R lo hi)) : OwnR 3 33 W v n R lo hi := (h.holds.get k e).2.2.2
theorem St.ints {v : Value} {xs : List Int} {lo hi : Nat} (h : St w is W) (k : Nat) (e : is[k]? = some (ItI v xs lo hi)) : IntsAt W v xs := (h.ownI k e).at
theorem St.rows {v : Value} {rows : Rows2} {lo hi : Nat} (h : St w is W) (k : Nat) (e : is[k]? = some (ItR v rows.length (rowsF rows) lo hi)) : RowsAt W v rows := (h.ownR k e).at
theorem St.boundsR {v : Value} {n : Nat} {R : Nat → List Int} {lo hi : Nat} (h : St w is W) (k : Nat) (e : is[k]? = some (ItR v n R lo hi)) : lo ≤ W.heap.size ∧ hi ≤ W.heap.size := ⟨Nat.le_trans (h.holds.get k e).2.1 (h.holds.get k e).2.2.1, (h.holds.get k e).2.2.1⟩
theorem St.turn {it it' : It} (h : St w is W) (k : Nat) (e : is[k]? = some it) (hlo : it'.lo = it.lo) (hhi : it'.hi = it.hi) (ht : Turned it.lo it.hi W W') (hP : it'.P W') : St w (is.set k it') W' :=
  ⟨h.below.trans (ht.below.mono (h.holds.get k e).1), h.holds.turn hlo hhi ht hP k e⟩
theorem St.turnR {v : Value} {n : Nat} {R R' : Nat → List Int} {lo hi : Nat} (h : St w is W) (k : Nat) (e : is[k]? = some (ItR v n R lo hi)) (ht : Turned lo hi W W') (ho : OwnR 3 33 W' v n R' lo hi) : St w (is.set k (ItR v n R' lo hi)) W' :=
  h.turn (it' := ItR v n R' lo hi) k e rfl rfl ht ho
theorem St.turnI {v : Value} {xs ys : List Int} {lo hi : Nat} (h : St w is W) (k : Nat) (e : is[k]? = some (ItI v xs lo hi)) (hg : W.grownBy W' v.ownBlock) (ho : OwnI 3 W' v ys lo hi) : St w (is.set k (ItI v ys lo hi)) W' :=
  have hk := h.holds.get k e
  h.turn (it' := ItI v ys lo hi) k e rfl rfl (Turned.of_grownBy hg (Nat.le_trans hk.2.1 hk.2.2.1) fun b e' => ⟨((h.ownI k e).block b e').1, ((h.ownI k e).block b e').2.1⟩) ho
end
theorem St.start1 (w : World) (t : TypeId) (v : Value) : St w [ItB w.heap.size t v] (w.alloc (.cells #[v] t)) := (St.start w).box t v
theorem St.start2 (w : World) (t t' : TypeId) (v v' : Value) : St w [ItB w.heap.size t v, ItB (w.heap.size + 1) t' v'] ((w.alloc (.cells #[v] t)).alloc (.cells #[v'] t')) := by
  have h := (St.start1 w t v).box t' v'
  rw [World.size_alloc] at h
  exact h
theorem St.start3 (w : World) (t t' t2 : TypeId) (v v' v2 : Value) : St w [ItB w.heap.size t v, ItB (w.heap.size + 1) t' v', ItB (w.heap.size + 2) t2 v2] (((w.alloc (.cells #[v] t)).alloc (.cells #[v'] t')).alloc (.cells #[v2] t2)) := by
  have h := (St.start2 w t t' v v').box t2 v2
  rw [World.size_alloc, World.size_alloc] at h
  exact h
end Go.Proofs.YtppjogkednclcaaDoor

/- The law of FunSteps: model and program answer alike, the arguments are left alone, and the answer owns its memory. -/
namespace Go.Proofs.YtppjogkednclcaaDoor
open Go.RowKit Go.Deep

theorem steps_short (rows rows' : Rows2) (f : List Int) (hf : f.length ≤ 1048576) : (startsL rows rows' f).length ≤ 1048576 := by
  unfold startsL
  split
  · exact Nat.le_trans (startsN_le _ _ _ _) hf
  · exact Nat.zero_le _

set_option maxRecDepth 100000 in
set_option maxHeartbeats 16000000 in
theorem law_steps (v0 : Value) (v1 : Value) (v2 : Value) (r0 : Rows2) (r1 : Rows2) (x2 : List Int) (w : World) (h0 : RowsAt w v0 r0) (h1 : RowsAt w v1 r1) (h2 : IntsAt w v2 x2) (hT : Tab w) :
    Calls Tryd.prog 4 #[.agg #[v0], .agg #[v1], v2] w (SaysN true w) := by
  have e0 := St.start2 w 24 24 v0 v1
  have H0 := Lib.hid h0
  have H1 := Lib.hid h1
  have H2 := Lib.hid h2
  have HTT := Lib.hid hT
  obtain ⟨A0, C0, rfl, _⟩ := h0
  obtain ⟨A1, C1, rfl, _⟩ := h1
  obtain ⟨A2, C2, rfl, _⟩ := h2
  have E0 := Lib.hid e0
  clear e0 hT
  have hdr : ∀ W : World, W.drew.heap = W.heap := fun _ => rfl
  by_cases hf2 : (1048576 : Int) < (x2.length : Int)
  · go_enter Tryd.func4, Tryd.ntmps4
    go_wp2
    go_ret
    exact ⟨rfl, E0.out.below⟩
  have HL2 := Lib.hid (show x2.length ≤ 1048576 by omega)
  have HM2 := Lib.hid (maxLen_ge HL2.out)
  go_enter Tryd.func4, Tryd.ntmps4
  have hc1 := E0.out.cell 0 rfl
  have hsz := szOrder_any _ r0 1048576 _ (H0.out.below E0.out.below) (by omega) (by omega)
  go_wp2_with fail
  refine hsz.mono ?_
  clear hsz
  rintro e w1 ⟨⟨q0, hr, rfl⟩, hb⟩
  have E1 := Lib.hid (E0.out.step hb)
  clear hb hc1 E0
  by_cases hneg0 : q0 < 0
  · go_wp2
    go_ret
    exact ⟨rfl, E1.out.below⟩
  have hq0 : 0 ≤ q0 ∧ q0 ≤ 1048576 ∧ bulk r0 ≤ 1048576 := by rcases hr with h | h <;> omega
  have HB0 := Lib.hid hq0.2.2
  have HM0 := Lib.hid (maxLen_ge HB0.out)
  have HL0 := Lib.hid (show lens r0 r0.length ≤ 1048576 by have := lens_all r0; have := HB0.out; omega)
  clear hr
  have hc2 := E1.out.cell 1 rfl
  have hsz := szOrder_any _ r1 q0 _ (H1.out.below E1.out.below) hq0.1 hq0.2.1
  go_wp2_with fail
  refine hsz.mono ?_
  clear hsz
  rintro e w2 ⟨⟨q1, hr, rfl⟩, hb⟩
  have E2 := Lib.hid (E1.out.step hb)
  clear hb hc2 E1
  by_cases hneg1 : q1 < 0
  · go_wp2
    go_ret
    exact ⟨rfl, E2.out.below⟩
  have hq1 : 0 ≤ q1 ∧ q1 ≤ 1048576 ∧ bulk r1 ≤ 1048576 := by rcases hr with h | h <;> omega
  have HB1 := Lib.hid hq1.2.2
  have HM1 := Lib.hid (maxLen_ge HB1.out)
  have HL1 := Lib.hid (show lens r1 r1.length ≤ 1048576 by have := lens_all r1; have := HB1.out; omega)
  clear hr
  clear hq0 hq1
  have hspec : ∀ W u0 u1 u2, RowsAt W u0 r0 → RowsAt W u1 r1 → IntsAt W u2 x2 → Calls Tryd.prog 14 #[.agg #[u0], .agg #[u1], u2] W (OwnB (startsL r0 r1 x2) (monoB r0 r1 x2) W) := fun W u0 u1 u2 k0 k1 k2 => specSteps_any u0 u1 u2 r0 r1 x2 W k0 k1 k2 HB0.out HB1.out
  have himpl : ∀ W u0 u1 u2, RowsAt W u0 r0 → RowsAt W u1 r1 → IntsAt W u2 x2 → Tab W → Calls Tryd.prog 16 #[.agg #[u0], .agg #[u1], u2] W (OwnB (startsL r0 r1 x2) (monoB r0 r1 x2) W) := fun W u0 u1 u2 k0 k1 k2 kT => implSteps_any u0 u1 u2 r0 r1 x2 W k0 k1 k2 kT HB0.out HB1.out
  have hxl := steps_short r0 r1 x2 HL2.out
  generalize startsL r0 r1 x2 = xs at hspec himpl hxl
  generalize monoB r0 r1 x2 = t at hspec himpl
  have HX := Lib.hid hxl
  have HS := Lib.hid hspec
  have HI := Lib.hid himpl
  have hne : (t != t) = false := bne_self_eq_false t
  clear hspec himpl hxl
  have hc3 := E2.out.cell 0 rfl
  have hc4 := E2.out.cell 1 rfl
  go_wp2_with fail
  go_region_held3 (fun W' : World => W'.cell? ⟨w.heap.size, 0, none⟩ = some (.slice A0 r0.length C0) ∧ W'.cell? ⟨w.heap.size + 1, 0, none⟩ = some (.slice A1 r1.length C1)) (first | exact ⟨E6.out.cell 0 rfl, E6.out.cell 1 rfl⟩ | exact ⟨E5.out.cell 0 rfl, E5.out.cell 1 rfl⟩ | exact ⟨E4.out.cell 0 rfl, E4.out.cell 1 rfl⟩ | exact ⟨E3.out.cell 0 rfl, E3.out.cell 1 rfl⟩ | exact ⟨E2.out.drew.cell 0 rfl, E2.out.drew.cell 1 rfl⟩) (first | (go_at_call_of 9 (Value.slice A0 (List.length r0) C0); refine (toOrder_any _ r0 _ (H0.out.below E2.out.drew.below) HB0.out).mono ?_; rintro e w3 ⟨gw3, Gw3, rfl, hg, ho, hb⟩; have hE := E2.out.drew.copyR HM0.out hg ho hb; simp only [List.cons_append, List.nil_append] at hE; have E3 := Lib.hid hE; clear hE; clear hg ho hb) | (go_at_call_of 9 (Value.slice A1 (List.length r1) C1); refine (toOrder_any _ r1 _ (H1.out.below E3.out.below) HB1.out).mono ?_; rintro e w4 ⟨gw4, Gw4, rfl, hg, ho, hb⟩; have hE := E3.out.copyR HM1.out hg ho hb; simp only [List.cons_append, List.nil_append] at hE; have E4 := Lib.hid hE; clear hE; clear hg ho hb) | (go_at_call_of 15 (Value.slice A2 (List.length x2) C2); refine (toIntS_any _ x2 _ (H2.out.below E4.out.below) HL2.out).mono ?_; rintro e w5 ⟨rfl, ho, hz, hb⟩; have hE := E4.out.copyI HM2.out ho hz hb; simp only [List.cons_append, List.nil_append] at hE; have E5 := Lib.hid hE; clear hE; clear ho hz hb) | (go_at_call 14; refine (HS.out _ _ _ _ (E5.out.rows 2 rfl) (E5.out.rows 3 rfl) (E5.out.ints 4 rfl)).mono ?_; rintro e w6 ⟨u, rfl, hu, hb⟩; obtain ⟨aU, CU, rfl⟩ := hu.form; have hE := (E5.out.take 2).pushI hb hu; simp only [List.cons_append, List.nil_append, List.take_succ_cons, List.take_zero] at hE; have E6 := Lib.hid hE; clear hE; clear hb hu))
  clear hc3 hc4
  have hc5 := E6.out.cell 0 rfl
  go_wp2_with fail
  refine (toOrder_any _ r0 _ (H0.out.below E6.out.below) HB0.out).mono ?_
  rintro e w7 ⟨gw7, Gw7, rfl, hg, ho, hb⟩
  have hE := (E6.out.copyR HM0.out hg ho hb).box 26 (whole gw7 r0.length)
  simp only [List.cons_append, List.nil_append] at hE
  have E7 := Lib.hid hE
  clear hE hg ho hb hc5 E6
  have hc6 := E7.out.cell 1 rfl
  go_wp2_with fail
  refine (toOrder_any _ r1 _ (H1.out.below E7.out.below) HB1.out).mono ?_
  rintro e w8 ⟨gw8, Gw8, rfl, hg, ho, hb⟩
  have hE := (E7.out.copyR HM1.out hg ho hb).box 26 (whole gw8 r1.length)
  simp only [List.cons_append, List.nil_append] at hE
  have E8 := Lib.hid hE
  clear hE hg ho hb hc6 E7
  go_wp2_with fail
  refine (toIntS_any _ x2 _ (H2.out.below E8.out.below) HL2.out).mono ?_
  rintro e w9 ⟨rfl, ho, hz, hb⟩
  have hE := E8.out.copyI HM2.out ho hz hb
  simp only [World.size_alloc] at hE
  simp only [List.cons_append, List.nil_append] at hE
  have E9 := Lib.hid hE
  clear hE ho hz hb E8
  have hc7 := E9.out.cell 4 rfl
  have hc8 := E9.out.cell 6 rfl
  go_wp2_with fail
  refine (HI.out _ _ _ _ (E9.out.rows 3 rfl) (E9.out.rows 5 rfl) (E9.out.ints 7 rfl) (HTT.out.below E9.out.below)).mono ?_
  rintro e w10 ⟨u, rfl, hu, hb⟩
  obtain ⟨aG, CG, rfl⟩ := hu.form
  have hE := E9.out.pushI hb hu; simp only [List.cons_append, List.nil_append] at hE; have E10 := Lib.hid hE; clear hE
  clear hb hu E9 hc7 hc8
  have heq := eqIntS_any _ _ xs xs _ (E10.out.ints 8 rfl) (E10.out.ints 2 rfl)
  rw [decide_eq_true (rfl : xs = xs)] at heq
  go_wp2_with fail
  refine heq.mono ?_
  clear heq
  rintro e w11 ⟨rfl, nw11, rfl⟩
  have hE := E10.out.drewN nw11
  generalize World.drewN _ nw11 = Ww11 at hE ⊢
  have E11 := Lib.hid hE
  clear hE E10
  have hc9 := E11.out.cell 4 rfl
  have hc10 := E11.out.cell 0 rfl
  go_wp2_with fail
  go_region_held3 (fun W' : World => W'.cell? ⟨w7.heap.size, 0, none⟩ = some (whole gw7 r0.length) ∧ W'.cell? ⟨w.heap.size, 0, none⟩ = some (.slice A0 r0.length C0)) (first | exact ⟨E13.out.cell 4 rfl, E13.out.cell 0 rfl⟩ | exact ⟨E12.out.cell 4 rfl, E12.out.cell 0 rfl⟩ | exact ⟨E11.out.drew.cell 4 rfl, E11.out.drew.cell 0 rfl⟩) (first | (go_at_call 9; refine (toOrder_any _ r0 _ (H0.out.below E11.out.drew.below) HB0.out).mono ?_; rintro e w12 ⟨gw12, Gw12, rfl, hg, ho, hb⟩; have hE := E11.out.drew.copyR HM0.out hg ho hb; simp only [List.cons_append, List.nil_append] at hE; have E12 := Lib.hid hE; clear hE; have heq := eqOrder_any _ _ r0 r0 w12 (E12.out.rows 3 rfl) (E12.out.rows 9 rfl); rw [decide_eq_true (rfl : r0 = r0)] at heq; have HEQ := Lib.hid heq; clear heq hg ho hb) | (go_at_call 11; refine HEQ.out.mono ?_; clear HEQ; rintro e w13 ⟨rfl, hb⟩; have hE := (E12.out.take 9).step hb; simp only [List.take_succ_cons, List.take_zero] at hE; have E13 := Lib.hid hE; clear hE; clear hb))
  clear hc9 hc10
  have hc11 := E13.out.cell 6 rfl
  have hc12 := E13.out.cell 1 rfl
  go_wp2_with fail
  go_region_held3 (fun W' : World => W'.cell? ⟨w8.heap.size, 0, none⟩ = some (whole gw8 r1.length) ∧ W'.cell? ⟨w.heap.size + 1, 0, none⟩ = some (.slice A1 r1.length C1)) (first | exact ⟨E15.out.cell 6 rfl, E15.out.cell 1 rfl⟩ | exact ⟨E14.out.cell 6 rfl, E14.out.cell 1 rfl⟩ | exact ⟨E13.out.drew.cell 6 rfl, E13.out.drew.cell 1 rfl⟩) (first | (go_at_call 9; refine (toOrder_any _ r1 _ (H1.out.below E13.out.drew.below) HB1.out).mono ?_; rintro e w14 ⟨gw14, Gw14, rfl, hg, ho, hb⟩; have hE := E13.out.drew.copyR HM1.out hg ho hb; simp only [List.cons_append, List.nil_append] at hE; have E14 := Lib.hid hE; clear hE; have heq := eqOrder_any _ _ r1 r1 w14 (E14.out.rows 5 rfl) (E14.out.rows 9 rfl); rw [decide_eq_true (rfl : r1 = r1)] at heq; have HEQ := Lib.hid heq; clear heq hg ho hb) | (go_at_call 11; refine HEQ.out.mono ?_; clear HEQ; rintro e w15 ⟨rfl, hb⟩; have hE := (E14.out.take 9).step hb; simp only [List.take_succ_cons, List.take_zero] at hE; have E15 := Lib.hid hE; clear hE; clear hb))
  clear hc11 hc12
  go_wp2_with fail
  refine (toIntS_any _ x2 _ (H2.out.below E15.out.below) HL2.out).mono ?_
  rintro e w16 ⟨rfl, ho, hz, hb⟩
  have hE := E15.out.copyI HM2.out ho hz hb; simp only [List.cons_append, List.nil_append] at hE; have E16 := Lib.hid hE; clear hE
  have heq := eqIntS_any _ _ x2 x2 w16 (E16.out.ints 7 rfl) (E16.out.ints 9 rfl)
  rw [decide_eq_true (rfl : x2 = x2)] at heq
  clear ho hz hb E15
  go_wp2_with fail
  refine heq.mono ?_
  clear heq
  rintro e w17 ⟨rfl, nw17, rfl⟩
  have hE := (E16.out.take 9).drewN nw17
  simp only [List.take_succ_cons, List.take_zero] at hE
  generalize World.drewN _ nw17 = Ww17 at hE ⊢
  have E17 := Lib.hid hE
  clear hE E16
  have hc13 := E17.out.cell 4 rfl
  have hmk := markOrder_any _ r0 (1) _ _ _ (E17.out.ownR 3 rfl) (E17.out.boundsR 3 rfl).1 (E17.out.boundsR 3 rfl).2 (by omega) (by have := HL0.out; have := HL1.out; have := HL2.out; omega)
  go_wp2_with fail
  refine hmk.mono ?_
  clear hmk
  rintro e w18 ⟨rfl, ho, ht⟩
  have hE := E17.out.turnR 3 rfl ht ho; simp only [List.set_cons_succ, List.set_cons_zero] at hE; have E18 := Lib.hid hE; clear hE
  clear ho ht hc13 E17
  have hc14 := E18.out.cell 6 rfl
  have hmk := markOrder_any _ r1 (1 + ((lens r0 r0.length : Nat) : Int)) _ _ _ (E18.out.ownR 5 rfl) (E18.out.boundsR 5 rfl).1 (E18.out.boundsR 5 rfl).2 (by omega) (by have := HL0.out; have := HL1.out; have := HL2.out; omega)
  go_wp2_with fail
  refine hmk.mono ?_
  clear hmk
  rintro e w19 ⟨rfl, ho, ht⟩
  have hE := E18.out.turnR 5 rfl ht ho; simp only [List.set_cons_succ, List.set_cons_zero] at hE; have E19 := Lib.hid hE; clear hE
  clear ho ht hc14 E18
  have hmk := markIntS_any _ x2 (1 + ((lens r0 r0.length : Nat) : Int) + ((lens r1 r1.length : Nat) : Int)) _ _ _ (E19.out.ownI 7 rfl) (by omega) (by have := HL0.out; have := HL1.out; have := HL2.out; omega)
  go_wp2_with fail
  refine hmk.mono ?_
  clear hmk
  rintro e w20 ⟨rfl, ho, hg⟩
  have hE := E19.out.turnI 7 rfl hg ho; simp only [List.set_cons_succ, List.set_cons_zero] at hE; have E20 := Lib.hid hE; clear hE
  clear ho hg E19
  have hpos : ¬ (1 + ((lens r0 r0.length : Nat) : Int) + ((lens r1 r1.length : Nat) : Int) + (x2.length : Int) < 0) := by omega
  have heq := eqIntS_any _ _ xs xs _ (E20.out.ints 8 rfl) (E20.out.ints 2 rfl)
  rw [decide_eq_true (rfl : xs = xs)] at heq
  go_wp2_with fail
  refine heq.mono ?_
  clear heq
  rintro e w21 ⟨rfl, nw21, rfl⟩
  have hE := E20.out.drewN nw21
  generalize World.drewN _ nw21 = Ww21 at hE ⊢
  have E21 := Lib.hid hE
  clear hE E20
  have hmk := markIntS_any _ xs 1 _ _ _ (E21.out.ownI 8 rfl) (by omega) (by have := HX.out; omega)
  go_wp2_with fail
  refine hmk.mono ?_
  clear hmk
  rintro e w22 ⟨rfl, ho, hg⟩
  have hE := E21.out.turnI 8 rfl hg ho; simp only [List.set_cons_succ, List.set_cons_zero] at hE; have E22 := Lib.hid hE; clear hE
  clear ho hg E21
  have hpos2 : ¬ (1 + (xs.length : Int) < 0) := by omega
  have hq : ((1 + (xs.length : Int)) != (1 + (xs.length : Int))) = false := bne_self_eq_false _
  have hhd := heldIntS_any _ 1 xs.length _ (E22.out.ints 8 rfl) (by omega) (by have := HX.out; omega)
  go_wp2_with fail
  refine hhd.mono ?_
  clear hhd
  rintro e w23 ⟨rfl, nw23, rfl⟩
  have hE := E22.out.drewN nw23
  generalize World.drewN _ nw23 = Ww23 at hE ⊢
  have E23 := Lib.hid hE
  clear hE E22
  have HQ := Lib.hid hq
  have HPP := Lib.hid hpos2
  have HNE := Lib.hid hne
  clear hq hpos hpos2 hne
  have hc15 := E23.out.cell 0 rfl
  have hc16 := E23.out.cell 1 rfl
  go_wp2_with fail
  go_region_held3 (fun W' : World => W'.cell? ⟨w.heap.size, 0, none⟩ = some (.slice A0 r0.length C0) ∧ W'.cell? ⟨w.heap.size + 1, 0, none⟩ = some (.slice A1 r1.length C1)) (first | exact ⟨E27.out.cell 0 rfl, E27.out.cell 1 rfl⟩ | exact ⟨E26.out.cell 0 rfl, E26.out.cell 1 rfl⟩ | exact ⟨E25.out.cell 0 rfl, E25.out.cell 1 rfl⟩ | exact ⟨E24.out.cell 0 rfl, E24.out.cell 1 rfl⟩ | exact ⟨E23.out.drew.cell 0 rfl, E23.out.drew.cell 1 rfl⟩) (first | (go_at_call_of 9 (Value.slice A0 (List.length r0) C0); refine (toOrder_any _ r0 _ (H0.out.below E23.out.drew.below) HB0.out).mono ?_; rintro e w24 ⟨gw24, Gw24, rfl, hg, ho, hb⟩; have hE := E23.out.drew.copyR HM0.out hg ho hb; simp only [List.cons_append, List.nil_append] at hE; have E24 := Lib.hid hE; clear hE; clear hg ho hb) | (go_at_call_of 9 (Value.slice A1 (List.length r1) C1); refine (toOrder_any _ r1 _ (H1.out.below E24.out.below) HB1.out).mono ?_; rintro e w25 ⟨gw25, Gw25, rfl, hg, ho, hb⟩; have hE := E24.out.copyR HM1.out hg ho hb; simp only [List.cons_append, List.nil_append] at hE; have E25 := Lib.hid hE; clear hE; clear hg ho hb) | (go_at_call_of 15 (Value.slice A2 (List.length x2) C2); refine (toIntS_any _ x2 _ (H2.out.below E25.out.below) HL2.out).mono ?_; rintro e w26 ⟨rfl, ho, hz, hb⟩; have hE := E25.out.copyI HM2.out ho hz hb; simp only [List.cons_append, List.nil_append] at hE; have E26 := Lib.hid hE; clear hE; clear ho hz hb) | (go_at_call 16; refine (HI.out _ _ _ _ (E26.out.rows 9 rfl) (E26.out.rows 10 rfl) (E26.out.ints 11 rfl) (HTT.out.below E26.out.below)).mono ?_; rintro e w27 ⟨u, rfl, hu, hb⟩; obtain ⟨aV, CV, rfl⟩ := hu.form; have hE := (E26.out.take 9).pushI hb hu; simp only [List.cons_append, List.nil_append, List.take_succ_cons, List.take_zero] at hE; have E27 := Lib.hid hE; clear hE; clear hb hu))
  clear hc15 hc16
  have hq := HQ.out
  have hpos2 := HPP.out
  have hne := HNE.out
  have heq := eqIntS_any _ _ xs xs _ (E27.out.ints 9 rfl) (E27.out.ints 2 rfl)
  rw [decide_eq_true (rfl : xs = xs)] at heq
  go_wp2_with fail
  refine heq.mono ?_
  clear heq
  rintro e w28 ⟨rfl, nw28, rfl⟩
  have hE := E27.out.drewN nw28
  generalize World.drewN _ nw28 = Ww28 at hE ⊢
  have E28 := Lib.hid hE
  clear hE E27
  have hhd := heldIntS_any _ 1 xs.length _ (E28.out.ints 8 rfl) (by omega) (by have := HX.out; omega)
  go_wp2_with fail
  refine hhd.mono ?_
  clear hhd
  rintro e w29 ⟨rfl, nw29, rfl⟩
  have hE := E28.out.drewN nw29
  generalize World.drewN _ nw29 = Ww29 at hE ⊢
  have E29 := Lib.hid hE
  clear hE E28
  go_wp2
  go_ret
  exact ⟨rfl, E29.out.below⟩
end Go.Proofs.YtppjogkednclcaaDoor
