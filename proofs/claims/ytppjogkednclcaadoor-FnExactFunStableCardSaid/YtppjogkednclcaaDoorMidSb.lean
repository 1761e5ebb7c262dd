/- The model's FunStrict. -/
import Derived.Test.YtppjogkednclcaaDoorMonoS
import Derived.Lib.QuietBelow
import Derived.BigQuiet
import Derived.Test.YtppjogkednclcaaDoorOwnA
import Derived.Test.YtppjogkednclcaaDoorProg
import Derived.Test.YtppjogkednclcaaDoorAns
import Derived.Test.YtppjogkednclcaaDoorEq
import Derived.Test.YtppjogkednclcaaDoorTo
import Derived.StillTailTactics
import Derived.Test.YtppjogkednclcaaDoorMem
import Derived.LoopTactic
import Derived.RegionTactic
import Derived.Outline
import Derived.Test.YtppjogkednclcaaDoorValid
import Derived.Test.YtppjogkednclcaaDoorFirst
import Derived.RangeFuncBox
import Derived.Test.YtppjogkednclcaaDoorJoinS
import Derived.Maps.AppendAt
import Derived.Test.YtppjogkednclcaaDoorBottom
import Derived.Test.YtppjogkednclcaaDoorIsMono
import Derived.Test.YtppjogkednclcaaDoorImplDom
import Derived.Test.YtppjogkednclcaaDoorIsEl
import Derived.Deep.RegionHeld3
import Derived.Laws.Tables
import Derived.Test.YtppjogkednclcaaDoorRow
import Derived.IntWalk
import Derived.Test.YtppjogkednclcaaDoorElems
import Derived.Test.YtppjogkednclcaaDoorMarks
import Derived.Laws.MakeOwn
import Derived.Test.YtppjogkednclcaaDoorGrid
import Derived.Test.YtppjogkednclcaaDoorOkG
import Derived.Test.YtppjogkednclcaaDoorBackS
import Derived.Deep.AppendLies
import Derived.Test.YtppjogkednclcaaDoorTops
namespace Go.Proofs.YtppjogkednclcaaDoor
open Go.RowKit Go.Deep

theorem leastI_nat {rows : Rows2} (h : 0 ≤ leastI rows) : ∃ m : Nat, m < rows.length ∧ leastI rows = m := by
  unfold leastI at h ⊢
  cases e : (List.range rows.length).find? (fun i => (rows.getD i []).length == rows.length) with
  | none => rw [e] at h; exact absurd h (by decide)
  | some m => exact ⟨m, List.mem_range.1 (List.mem_of_find?_eq_some e), rfl⟩
theorem dom_least {rows : Rows2} (h : domB rows = true) : ∃ m : Nat, m < rows.length ∧ leastI rows = m := by
  unfold domB domI at h
  rw [Bool.and_eq_true, Bool.and_eq_true, decide_eq_true_iff] at h
  exact leastI_nat h.2.1
theorem monoB_parts {rows rows' : Rows2} {f : List Int} (h : monoB rows rows' f = true) : domB rows = true ∧ domB rows' = true ∧ Mono rows rows' f := by
  classical
  unfold monoB monoI at h
  rw [Bool.and_eq_true, Bool.and_eq_true, decide_eq_true_iff] at h
  exact ⟨h.1.1, h.1.2, h.2⟩

/-- A monotone function that has the least element for the least one. -/
noncomputable def strictB (rows rows' : Rows2) (f : List Int) : Bool := monoB rows rows' f && decide (f.getD (leastI rows).toNat 0 = leastI rows')

end Go.Proofs.YtppjogkednclcaaDoor

/- A slice of slices in memory of its own grows by a row. Plain facts on worlds: no function is walked here. -/
namespace Go.Proofs.YtppjogkednclcaaDoor
open Go.RowKit Go.Deep

theorem rowIs_owns {u : TypeId} {W : World} {g C n lo : Nat} {f : Nat → Value} (h : W.rowIs g u C f) (hC : n ≤ C) (hm : C ≤ maxLen) (hlo : lo ≤ g) : W.ownsRow lo u 1 (.slice (some ⟨g, 0, none⟩) n C) n ((List.range n).map f) := by
  obtain ⟨c, h5, h6, h7⟩ := h
  refine ⟨by simp, .inr ⟨g, C, c, rfl, hlo, h5, hC, hm, by omega, ?_⟩⟩
  apply List.ext_getElem?
  intro i
  rw [List.getElem?_take, Nat.mul_one]
  by_cases hi : i < n
  · rw [if_pos hi, Array.getElem?_toList, h7 i (by omega)]
    simp [hi]
  · rw [if_neg hi]
    rw [List.getElem?_eq_none (by simp; omega)]
theorem owns_rowIs {u : TypeId} {W : World} {v : Value} {n lo : Nat} {f : Nat → Value} (h : W.ownsRow lo u 1 v n ((List.range n).map f)) (hn : 0 < n) :
    ∃ g C f', v = .slice (some ⟨g, 0, none⟩) n C ∧ n ≤ C ∧ C ≤ maxLen ∧ lo ≤ g ∧ g < W.heap.size ∧ W.rowIs g u C f' ∧ ∀ i, i < n → f' i = f i := by
  obtain ⟨_, ⟨rfl, h0⟩ | ⟨g, C, c, rfl, h3, h5, h1, h2, h6, h7⟩⟩ := h
  · omega
  · refine ⟨g, C, fun i => c[i]?.getD (.int .i64 0), rfl, h1, h2, h3, (Array.getElem?_eq_some_iff.1 h5).1, ⟨c, h5, by omega, fun i hi => ?_⟩, fun i hi => ?_⟩
    · dsimp only
      rw [Array.getElem?_eq_getElem (by omega)]
      rfl
    · have h8 := congrArg (fun l => l[i]?) h7
      rw [List.getElem?_take, Nat.mul_one, if_pos hi, Array.getElem?_toList] at h8
      dsimp only
      rw [h8]
      simp [hi]

/-- What is known of rows, their cells named. -/
theorem OwnR.owns {t u : TypeId} {W : World} {v : Value} {n : Nat} {R : Nat → List Int} {lo hi : Nat} (h : OwnR t u W v n R lo hi) :
    ∃ f, W.ownsRow lo u 1 v n ((List.range n).map f) ∧ (∀ j, j < n → OwnI t W (f j) (R j) lo hi) ∧ (∀ i j, i < j → j < n → (f i).ownBlock = none ∨ (f i).ownBlock ≠ (f j).ownBlock) := by
  obtain ⟨rfl, rfl⟩ | ⟨g, C, f, rfl, h1, h2, h3, h4, h5, h6, h7⟩ := h
  · exact ⟨fun _ => .slice none 0 0, World.ownsRow_nil _ _ _ _, fun j hj => absurd hj (Nat.not_lt_zero _), fun i j _ hj => absurd hj (Nat.not_lt_zero _)⟩
  · exact ⟨f, rowIs_owns h5 h1 h2 h3, h6, h7⟩

/-- A row is added behind. -/
theorem OwnR.pushed {t u : TypeId} {W W1 W2 : World} {v v' v2 : Value} {n lo mid : Nat} {R : Nat → List Int} {f : Nat → Value} {xs : List Int} (htu : t ≠ u)
    (h0 : W.ownsRow lo u 1 v n ((List.range n).map f)) (h1 : ∀ j, j < n → OwnI t W (f j) (R j) lo mid) (h2 : ∀ i j, i < j → j < n → (f i).ownBlock = none ∨ (f i).ownBlock ≠ (f j).ownBlock)
    (hlo : lo ≤ mid) (hmid : mid ≤ W.heap.size) (hn : OwnI t W v' xs mid W.heap.size) (hb1 : Below W.heap.size W W1)
    (hown : W2.ownsRow lo u 1 v2 (n + 1) ((List.range n).map f ++ [v'])) (hgrow : W1.grownBy W2 v.ownBlock) :
    OwnR t u W2 v2 (n + 1) (fun q => if q = n then xs else R q) lo W2.heap.size := by
  have hz : W.heap.size ≤ W2.heap.size := Nat.le_trans hb1.size hgrow.size
  have hvt : ∀ b, v.ownBlock = some b → ∃ c, W.heap[b]? = some (.cells c u (0, 0)) := fun b hb => by
    obtain ⟨_, ⟨rfl, _⟩ | ⟨g, C, c, rfl, _, h5, _⟩⟩ := h0
    · simp [Value.ownBlock] at hb
    · simp [Value.ownBlock] at hb; subst hb; exact ⟨c, h5⟩
  have hkeep : ∀ (b : Nat) (c : Array Value), W.heap[b]? = some (Obj.cells c t (0, 0)) → W2.heap[b]? = W.heap[b]? := fun b c hb => by
    have hlt : b < W.heap.size := (Array.getElem?_eq_some_iff.1 hb).1
    refine (hgrow.block b (Nat.lt_of_lt_of_le hlt hb1.size) (fun e => ?_)).trans (hb1.block b hlt)
    obtain ⟨c', hc'⟩ := hvt b e.symm
    rw [hb] at hc'
    injection hc' with hc'
    injection hc' with _ h5
    exact htu h5
  have hf : (List.range (n + 1)).map (fun q => if q = n then v' else f q) = (List.range n).map f ++ [v'] := by
    rw [List.range_succ, List.map_append]
    congr 1
    · apply List.map_congr_left
      intro q hq
      have : q ≠ n := by have := List.mem_range.1 hq; omega
      rw [if_neg this]
    · simp
  rw [← hf] at hown
  obtain ⟨g, C, f', rfl, k1, k2, k3, k4, k5, k6⟩ := owns_rowIs hown (Nat.succ_pos n)
  refine .inr ⟨g, C, f', rfl, k1, k2, k3, k4, k5, fun q hq => ?_, fun p q hpq hq => ?_⟩
  · rw [k6 q hq]
    dsimp only
    by_cases e : q = n
    · subst e
      rw [if_pos rfl, if_pos rfl]
      refine (hn.wider hlo hz).kept fun b hb => ?_
      obtain ⟨_, _, c, hc⟩ := hn.block b hb
      exact hkeep b c hc
    · rw [if_neg e, if_neg e]
      have hq' : q < n := by omega
      refine ((h1 q hq').wider (Nat.le_refl _) (by omega)).kept fun b hb => ?_
      obtain ⟨_, _, c, hc⟩ := (h1 q hq').block b hb
      exact hkeep b c hc
  · rw [k6 p (by omega), k6 q hq]
    have hp' : p ≠ n := by omega
    rw [if_neg hp']
    by_cases e : q = n
    · rw [if_pos e]
      cases hb : (f p).ownBlock with
      | none => exact .inl rfl
      | some b =>
        right
        intro e2
        have := ((h1 p (by omega)).block b hb).2.1
        have := (hn.block b e2.symm).1
        omega
    · rw [if_neg e]
      exact h2 p q hpq (by omega)

theorem owns_below {t : TypeId} {W W' : World} {lo n : Nat} {v : Value} {xs : List Value} (h : W.ownsRow lo t 1 v n xs) (hb : Below W.heap.size W W') : W'.ownsRow lo t 1 v n xs := by
  refine h.kept (row := none) ⟨hb.os, hb.tape, hb.output, hb.size, fun k hk _ => hb.block k hk⟩ ?_
  cases hv : v.ownBlock with
  | none => exact .inl rfl
  | some b => exact .inr (by simp)
theorem wf_int {y : Int} (h0 : 0 ≤ y) (h1 : y ≤ 1048576) : (Lit.int .i64 y).wf = true := by
  have e1 : IntKind.i64.min = -9223372036854775808 := rfl
  have e2 : IntKind.i64.max = 9223372036854775807 := rfl
  simp [Lit.wf, e1, e2]
  omega
end Go.Proofs.YtppjogkednclcaaDoor

/- The laws' own marks: an answer is written full of numbers, and looked at again (markIntS, markIntSS, markOrder, heldIntS, heldIntSS, heldOrder). -/
namespace Go.Proofs.YtppjogkednclcaaDoor
open Go.RowKit Go.Deep

theorem grownBy_trans {a b c : World} {row : Option Nat} (h : a.grownBy b row) (k : b.grownBy c row) : a.grownBy c row :=
  ⟨k.os.trans h.os, k.tape.trans h.tape, k.output.trans h.output, Nat.le_trans h.size k.size, fun i hi hr => (k.block i (Nat.lt_of_lt_of_le hi h.size) hr).trans (h.block i hi hr)⟩
theorem grownBy_set (W : World) (g o : Nat) (v : Value) : W.grownBy (W.setCell ⟨g, o, none⟩ v) (some g) :=
  ⟨rfl, rfl, rfl, by simp [World.setCell], fun k _ hk => Below.heap_setCell _ _ _ k (fun e => hk (by rw [e]))⟩

/-- The slice v has been marked from k on. -/
def MarkI (v : Value) (xs : List Int) (k : Int) (lo hi : Nat) (w : World) (e : Ending) (w' : World) : Prop :=
  e = .returned (.int .i64 (k + xs.length)) ∧ OwnI 3 w' v (marks k xs.length) lo hi ∧ w.grownBy w' v.ownBlock

set_option maxHeartbeats 1000000 in
theorem markIntS_any (v : Value) (xs : List Int) (k : Int) (lo hi : Nat) (w : World) (h : OwnI 3 w v xs lo hi) (h0 : 0 ≤ k) (h1 : k + xs.length ≤ 1099511627776) :
    Calls Tryd.prog 18 #[v, .int .i64 k] w (MarkI v xs k lo hi w) := by
  have hwf := marks_wf (k := k) (n := xs.length) h0 h1
  have HWF := Lib.hid hwf
  clear hwf
  obtain ⟨_, ⟨rfl, rfl⟩ | ⟨g, C, f, rfl, hC, hm, hlo, hhi, hr, hf⟩⟩ := h
  · go_enter Tryd.func18, Tryd.ntmps18
    go_wp2
    refine wp_loop_rounds 1 ?_
    rw [rounds_succ]
    go_wp2
    go_ret
    exact ⟨by simp, OwnI.nil _ _ _ _, ⟨rfl, rfl, rfl, Nat.le_refl _, fun _ _ _ => rfl⟩⟩
  · unfold maxLen at hm
    have HF := Lib.hid hf
    clear hf
    go_enter Tryd.func18, Tryd.ntmps18
    go_wp2
    go_loopw [1, 5] (fun kv iv wr => ∃ j : Nat, j ≤ xs.length ∧ iv = .int .i64 j ∧ kv = .int .i64 (k + j) ∧ wr.rowIs g 3 C (fun i => if i < j then .int .i64 (k + i) else f i) ∧ w.grownBy wr (some g)) (fun _ iv _ => xs.length - (intOf iv).toNat)
    case atStart =>
      exact ⟨0, Nat.zero_le _, rfl, by simp, hr.congr (fun i _ => by simp), ⟨rfl, rfl, rfl, Nat.le_refl _, fun _ _ _ => rfl⟩⟩
    case round =>
      obtain ⟨j, hj, rfl, rfl, hrow, hg⟩ := hrel
      by_cases hlt : j < xs.length
      · obtain ⟨v3, h3⟩ : ∃ v3, wr.cell? ⟨g, j, none⟩ = some v3 := ⟨_, hrow.cell (by omega)⟩
        have hfr := hrow.frozen j
        have HR := Lib.hid hrow
        have HG := Lib.hid hg
        clear hrow hg hr
        go_wp2
        go_roundw
        case rel =>
          refine ⟨j + 1, by omega, by go_num, by first | go_num | (congr 1; omega), (HR.out.set j _).congr (fun i _ => ?_), grownBy_trans HG.out (grownBy_set _ _ _ _)⟩
          by_cases e : i = j
          · subst e; rw [if_pos rfl, if_pos (by omega)]
          · rw [if_neg e]
            by_cases h : i < j
            · rw [if_pos h, if_pos (by omega)]
            · rw [if_neg h, if_neg (by omega)]
        case measure => simp [intOf]; omega
      · obtain rfl : j = xs.length := by omega
        have HR := Lib.hid hrow
        have HG := Lib.hid hg
        clear hrow hg hr
        go_wp2
        go_ret
        refine ⟨rfl, ⟨HWF.out, .inr ⟨g, C, _, by rw [marks_length], by rw [marks_length]; exact hC, by unfold maxLen; exact hm, hlo, hhi, HR.out, fun i hi => ?_⟩⟩, HG.out⟩
        rw [marks_length] at hi
        rw [if_pos hi, marks_at]

/-- The number k, and a world that parts from w in draws alone. -/
def SaysK (k : Int) (w : World) (e : Ending) (w' : World) : Prop := e = .returned (.int .i64 k) ∧ ∃ n, w' = w.drewN n

set_option maxHeartbeats 1000000 in
theorem heldIntS_any (v : Value) (k : Int) (n : Nat) (w : World) (h : IntsAt w v (marks k n)) (h0 : 0 ≤ k) (h1 : k + n ≤ 1099511627776) :
    Calls Tryd.prog 19 #[v, .int .i64 k] w (SaysK (k + n) w) := by
  obtain ⟨a, C, rfl, hC, hm, _, hx⟩ := h
  have hx' : ∀ i, i < n → ∃ b o, a = some ⟨b, o, none⟩ ∧ w.cell? ⟨b, o + i, none⟩ = some (.int .i64 (k + i)) := fun i hi => by
    obtain ⟨b, o, h1, h2⟩ := hx i (by rw [marks_length]; exact hi)
    exact ⟨b, o, h1, by rw [h2, marks_at]⟩
  have HX := Lib.hid hx'
  rw [marks_length] at *
  unfold maxLen at hm
  clear hx hx'
  go_enter Tryd.func19, Tryd.ntmps19
  go_wp2
  go_loopw [1, 5] (fun kv iv wr => ∃ j m : Nat, j ≤ n ∧ iv = .int .i64 j ∧ kv = .int .i64 (k + j) ∧ wr = w.drewN m) (fun _ iv _ => n - (intOf iv).toNat)
  case atStart => exact ⟨0, 0, Nat.zero_le _, rfl, by simp, rfl⟩
  case round =>
    obtain ⟨j, m, hj, rfl, rfl, hw⟩ := hrel
    by_cases hlt : j < n
    · obtain ⟨b, o, rfl, hc⟩ := HX.out j hlt
      replace hc : wr.cell? ⟨b, o + j, none⟩ = some (.int .i64 (k + j)) := by rw [hw]; exact hc
      have HW := Lib.hid hw
      clear hw
      go_wp2
      go_roundw
      case rel => exact ⟨j + 1, _, by omega, by go_num, by first | go_num | (congr 1; omega), by rw [HW.out]⟩
      case measure => simp [intOf]; omega
    · obtain rfl : j = n := by omega
      have HW := Lib.hid hw
      clear hw
      go_wp2
      go_ret
      exact ⟨rfl, _, HW.out⟩

theorem type_ne : (3 : TypeId) ≠ 33 := by decide

/-- The rows of the slice v have been marked from m on. -/
def MarkR (v : Value) (rows : Rows2) (m : Int) (lo hi : Nat) (w : World) (e : Ending) (w' : World) : Prop :=
  e = .returned (.int .i64 (m + (lens rows rows.length : Nat))) ∧ OwnR 3 33 w' v rows.length (marked m rows rows.length) lo hi ∧ Turned lo hi w w'

theorem marked_zero (m : Int) (rows : Rows2) (j : Nat) : marked m rows 0 j = rowsF rows j := by unfold marked; rw [if_neg (by omega)]
theorem lens_mono {rows : Rows2} {i : Nat} : ∀ {j : Nat}, i ≤ j → j ≤ rows.length → lens rows i ≤ lens rows j
  | 0, h, _ => by obtain rfl : i = 0 := (by omega); exact Nat.le_refl _
  | j + 1, h, hj => by
    by_cases e : i = j + 1
    · subst e; exact Nat.le_refl _
    · have := lens_mono (rows := rows) (i := i) (j := j) (by omega) (by omega)
      rw [lens_succ (by omega)]; omega

set_option maxHeartbeats 1000000 in
theorem markIntSS_any (v : Value) (rows : Rows2) (m : Int) (lo hi : Nat) (w : World) (h : OwnR 3 33 w v rows.length (rowsF rows) lo hi) (hlo : lo ≤ w.heap.size) (h0 : 0 ≤ m) (h1 : m + (lens rows rows.length : Nat) ≤ 1099511627776) :
    Calls Tryd.prog 36 #[v, .int .i64 m] w (MarkR v rows m lo hi w) := by
  obtain ⟨rfl, hz⟩ | ⟨g, C, f, rfl, hC, hm, hl, hh, hr, hI, hD⟩ := h
  · obtain rfl : rows = [] := List.length_eq_zero_iff.1 hz
    go_enter Tryd.func36, Tryd.ntmps36
    go_wp2
    refine wp_loop_rounds 1 ?_
    rw [rounds_succ]
    go_wp2
    go_ret
    exact ⟨by simp [lens], OwnR.nil _ _ _ _ _ _, Turned.refl _ _ _⟩
  · unfold maxLen at hm
    have HI := Lib.hid hI
    have HD := Lib.hid hD
    have HR := Lib.hid hr
    clear hI hD hr
    go_enter Tryd.func36, Tryd.ntmps36
    go_wp2
    go_loopw [1, 5] (fun kv iv wr => ∃ j : Nat, j ≤ rows.length ∧ iv = .int .i64 j ∧ kv = .int .i64 (m + (lens rows j : Nat)) ∧ wr.rowIs g 33 C f ∧ (∀ i, i < rows.length → OwnI 3 wr (f i) (marked m rows j i) lo hi) ∧ Turned lo hi w wr) (fun _ iv _ => rows.length - (intOf iv).toNat)
    case atStart => exact ⟨0, Nat.zero_le _, rfl, by simp [lens], HR.out, fun i hi => by rw [marked_zero]; exact HI.out i hi, Turned.refl _ _ _⟩
    case round =>
      obtain ⟨j, hj, rfl, rfl, hrow, hrows, ht⟩ := hrel
      have HS := Lib.hid hrows
      have HT := Lib.hid ht
      have HW := Lib.hid hrow
      by_cases hlt : j < rows.length
      · have hc : wr.cell? ⟨g, j, none⟩ = some (f j) := hrow.cell (by omega)
        have hj0 := hrows j hlt
        have e0 : marked m rows j j = rows[j] := by unfold marked; rw [if_neg (by omega), rowsF_lt hlt]
        rw [e0] at hj0
        have hls := lens_succ hlt
        have hmono := lens_mono (rows := rows) (i := j + 1) (j := rows.length) (by omega) (Nat.le_refl _)
        have hcall := markIntS_any (f j) rows[j] (m + (lens rows j : Nat)) lo hi wr hj0 (by omega) (by omega)
        have HLS := Lib.hid hls
        clear hrow hrows ht e0 hj0 hls
        go_wp2_with (go_at_call 18; refine hcall.mono ?_; clear hcall; rintro e w1 ⟨rfl, ho, hg⟩; have HO := Lib.hid ho; have HG := Lib.hid hg; clear ho hg)
        go_roundw
        case rel =>
          have hls := HLS.out
          have hgt : ∀ b, (f j).ownBlock = some b → lo ≤ b ∧ b < hi := fun b hb => by
            obtain ⟨x, y, _⟩ := HO.out.block b hb
            exact ⟨x, y⟩
          refine ⟨j + 1, by omega, by go_num, by rw [hls]; first | go_num | (congr 1; omega), ?_, fun i hi' => ?_, HT.out.trans (Turned.of_grownBy HG.out (Nat.le_trans hlo HT.out.below.size) hgt)⟩
          · refine HW.out.of_block (HG.out.block g HW.out.lt (fun e => ?_))
            obtain ⟨_, _, c, hcb⟩ := HO.out.block g e.symm
            obtain ⟨_, _, c0, hc0⟩ := (HS.out j hlt).block g e.symm
            obtain ⟨c1, hc1, _⟩ := HW.out
            rw [hc0] at hc1
            have e3 := Option.some.inj hc1
            injection e3 with _ e4
            exact type_ne e4
          · by_cases e : i = j
            · subst e
              have e1 : marked m rows (i + 1) i = marks (m + (lens rows i : Nat)) rows[i].length := by unfold marked; rw [if_pos (by omega), rowsF_lt hlt]
              rw [e1]; exact HO.out
            · have e1 : marked m rows (j + 1) i = marked m rows j i := by
                unfold marked
                by_cases h : i < j
                · rw [if_pos h, if_pos (by omega)]
                · rw [if_neg h, if_neg (by omega)]
              rw [e1]
              refine (HS.out i hi').kept fun b hb => HG.out.block b ?_ fun e2 => ?_
              · obtain ⟨_, _, c, hcb⟩ := (HS.out i hi').block b hb
                exact (Array.getElem?_eq_some_iff.1 hcb).1
              · rcases Nat.lt_or_gt_of_ne e with hij | hij
                · rcases HD.out i j hij hlt with h3 | h3
                  · rw [h3] at hb; cases hb
                  · exact h3 (hb.trans e2)
                · rcases HD.out j i hij hi' with h3 | h3
                  · rw [h3] at e2; cases e2
                  · exact h3 (e2.symm.trans hb.symm)
        case measure => simp [intOf]; omega
      · obtain rfl : j = rows.length := by omega
        clear hrow hrows ht
        go_wp2
        go_ret
        exact ⟨rfl, .inr ⟨g, C, f, rfl, hC, by unfold maxLen; exact hm, hl, hh, HW.out, HS.out, HD.out⟩, HT.out⟩

set_option maxHeartbeats 1000000 in
theorem heldIntSS_any (v : Value) (rows : Rows2) (m : Int) (lo hi : Nat) (w : World) (h : OwnR 3 33 w v rows.length (marked m rows rows.length) lo hi) (h0 : 0 ≤ m) (h1 : m + (lens rows rows.length : Nat) ≤ 1099511627776) :
    Calls Tryd.prog 37 #[v, .int .i64 m] w (SaysK (m + (lens rows rows.length : Nat)) w) := by
  obtain ⟨rfl, hz⟩ | ⟨g, C, f, rfl, hC, hm, hl, hh, hr, hI, hD⟩ := h
  · obtain rfl : rows = [] := List.length_eq_zero_iff.1 hz
    go_enter Tryd.func37, Tryd.ntmps37
    go_wp2
    refine wp_loop_rounds 1 ?_
    rw [rounds_succ]
    go_wp2
    go_ret
    exact ⟨by simp [lens], 0, rfl⟩
  · unfold maxLen at hm
    have HI := Lib.hid hI
    have HR := Lib.hid hr
    clear hI hD hr
    go_enter Tryd.func37, Tryd.ntmps37
    go_wp2
    go_loopw [1, 5] (fun kv iv wr => ∃ j d : Nat, j ≤ rows.length ∧ iv = .int .i64 j ∧ kv = .int .i64 (m + (lens rows j : Nat)) ∧ wr = w.drewN d) (fun _ iv _ => rows.length - (intOf iv).toNat)
    case atStart => exact ⟨0, 0, Nat.zero_le _, rfl, by simp [lens], rfl⟩
    case round =>
      obtain ⟨j, d, hj, rfl, rfl, hw⟩ := hrel
      by_cases hlt : j < rows.length
      · have hc : wr.cell? ⟨g, j, none⟩ = some (f j) := by rw [hw]; exact HR.out.cell (by omega)
        have e0 : marked m rows rows.length j = marks (m + (lens rows j : Nat)) rows[j].length := by unfold marked; rw [if_pos hlt, rowsF_lt hlt]
        have hj0 : IntsAt wr (f j) (marks (m + (lens rows j : Nat)) rows[j].length) := by rw [hw, ← e0]; exact (HI.out j hlt).at
        have hls := lens_succ hlt
        have hmono := lens_mono (rows := rows) (i := j + 1) (j := rows.length) (by omega) (Nat.le_refl _)
        have hcall := heldIntS_any (f j) (m + (lens rows j : Nat)) rows[j].length wr hj0 (by omega) (by omega)
        have HLS := Lib.hid hls
        have HW := Lib.hid hw
        have hpos : ¬ (m + (lens rows j : Nat) + (rows[j].length : Int) < 0) := by omega
        clear hw e0 hj0 hls
        go_wp2_with (go_at_call 19; refine hcall.mono ?_; clear hcall; rintro e w1 ⟨rfl, d1, rfl⟩)
        go_roundw
        case rel => exact ⟨j + 1, _, by omega, by go_num, by rw [HLS.out]; first | go_num | (congr 1; omega), by rw [HW.out, World.drewN_drewN]⟩
        case measure => simp [intOf]; omega
      · obtain rfl : j = rows.length := by omega
        have HW := Lib.hid hw
        clear hw
        go_wp2
        go_ret
        exact ⟨rfl, _, HW.out⟩

/-- The number k, and a world in which nothing that was there has turned. -/
def SaysJ (k : Int) (w : World) (e : Ending) (w' : World) : Prop := e = .returned (.int .i64 k) ∧ Below w.heap.size w w'

theorem turned_alloc (lo hi : Nat) (w : World) (o : Obj) (h : lo ≤ w.heap.size) : Turned lo hi w (w.alloc o) := ⟨(Below.refl _ w).alloc h o, fun _ _ hb => Below.heap_alloc _ _ _ hb⟩

set_option maxHeartbeats 1000000 in
theorem markOrder_any (v : Value) (rows : Rows2) (m : Int) (lo hi : Nat) (w : World) (h : OwnR 3 33 w v rows.length (rowsF rows) lo hi) (hlo : lo ≤ w.heap.size) (hhi : hi ≤ w.heap.size) (h0 : 0 ≤ m) (h1 : m + (lens rows rows.length : Nat) ≤ 1099511627776) :
    Calls Tryd.prog 12 #[.agg #[v], .int .i64 m] w (MarkR v rows m lo hi w) := by
  have ht := turned_alloc lo hi w (.cells #[v] 26) hlo
  have hcall := markIntSS_any v rows m lo hi _ (h.below ((Below.refl _ w).alloc (Nat.le_refl _) (.cells #[v] 26)) hhi) (by rw [World.size_alloc]; omega) h0 h1
  have HT := Lib.hid ht
  obtain ⟨a, C, rfl, _⟩ := h.at
  clear ht h
  go_enter Tryd.func12, Tryd.ntmps12
  go_wp2_with (go_at_call 36; refine hcall.mono ?_; clear hcall; rintro e w1 ⟨rfl, ho, ht⟩; have HO := Lib.hid ho; have HT1 := Lib.hid ht; clear ho ht)
  go_ret
  exact ⟨rfl, HO.out, HT.out.trans HT1.out⟩

set_option maxHeartbeats 1000000 in
theorem heldOrder_any (v : Value) (rows : Rows2) (m : Int) (lo hi : Nat) (w : World) (h : OwnR 3 33 w v rows.length (marked m rows rows.length) lo hi) (hhi : hi ≤ w.heap.size) (h0 : 0 ≤ m) (h1 : m + (lens rows rows.length : Nat) ≤ 1099511627776) :
    Calls Tryd.prog 13 #[.agg #[v], .int .i64 m] w (SaysJ (m + (lens rows rows.length : Nat)) w) := by
  have hb := (Below.refl _ w).alloc (Nat.le_refl _) (.cells #[v] 26)
  have hcall := heldIntSS_any v rows m lo hi _ (h.below hb hhi) h0 h1
  have HB := Lib.hid hb
  have hpos : ¬ (m + (lens rows rows.length : Nat) < 0) := by omega
  have hv : ∃ a n C, v = .slice a n C := by
    obtain ⟨rfl, _⟩ | ⟨g, C, f, rfl, _⟩ := h
    · exact ⟨_, _, _, rfl⟩
    · exact ⟨_, _, _, rfl⟩
  obtain ⟨a, n, C, rfl⟩ := hv
  clear hb h
  go_enter Tryd.func13, Tryd.ntmps13
  go_wp2_with (go_at_call 37; refine hcall.mono ?_; clear hcall; rintro e w1 ⟨rfl, d, rfl⟩)
  go_ret
  exact ⟨rfl, HB.out.trans (below_drewN' _ _ _)⟩
end Go.Proofs.YtppjogkednclcaaDoor

/- The laws' own measures of an argument's size (szIntS, szIntSS, szOrder): what is left, or less than 0. -/
namespace Go.Proofs.YtppjogkednclcaaDoor
open Go.RowKit Go.Deep

set_option maxHeartbeats 400000 in
theorem szIntS_any (a : Option Addr) (n C : Nat) (left : Int) (w : World) (hn : n ≤ maxLen) (h0 : 0 ≤ left) (h1 : left ≤ 1048576) :
    Calls Tryd.prog 51 #[.slice a n C, .int .i64 left] w fun e w' => e = .returned (.int .i64 (if left < n then -1 else left - n)) ∧ w = w' := by
  unfold maxLen at hn
  by_cases h : left < n
  · rw [if_pos h]
    go_enter Tryd.func51, Tryd.ntmps51
    go_wp2
    go_ret
    exact ⟨rfl, rfl⟩
  · rw [if_neg h]
    go_enter Tryd.func51, Tryd.ntmps51
    go_wp2
    go_ret
    exact ⟨rfl, rfl⟩

/-- What is left of 'left' when the rows are taken off, or -1 where they are too many. -/
def SzPost (rows : Rows2) (left : Int) (P : World → Prop) (e : Ending) (w' : World) : Prop :=
  (∃ r : Int, (r = -1 ∨ (0 ≤ r ∧ r ≤ left ∧ bulk rows ≤ left)) ∧ e = .returned (.int .i64 r)) ∧ P w'
theorem SzPost.no {rows : Rows2} {left : Int} {P : World → Prop} {w' : World} (h : P w') : SzPost rows left P (.returned (.int .i64 (-1))) w' := ⟨⟨-1, .inl rfl, rfl⟩, h⟩
theorem SzPost.yes {rows : Rows2} {left r : Int} {P : World → Prop} {w' : World} (h0 : 0 ≤ r) (h1 : r ≤ left) (h2 : bulk rows ≤ left) (h : P w') : SzPost rows left P (.returned (.int .i64 r)) w' := ⟨⟨r, .inr ⟨h0, h1, h2⟩, rfl⟩, h⟩

set_option maxHeartbeats 1000000 in
theorem szIntSS_any (v : Value) (rows : Rows2) (left : Int) (w : World) (hv : RowsAt w v rows) (h0 : 0 ≤ left) (h1 : left ≤ 1048576) :
    Calls Tryd.prog 24 #[v, .int .i64 left] w (SzPost rows left fun w' => w = w') := by
  obtain ⟨a, C, rfl, hC, hm, hrow⟩ := hv
  unfold maxLen at hm
  go_enter Tryd.func24, Tryd.ntmps24
  by_cases h : left < rows.length
  · go_wp2
    go_ret
    exact SzPost.no rfl
  · go_wp2
    go_loop [1, 5] (fun l i => ∃ k : Nat, k ≤ rows.length ∧ i = .int .i64 k ∧ (rows.length : Int) + (lens rows k : Nat) ≤ left ∧ l = .int .i64 (left - rows.length - (lens rows k : Nat))) (fun _ i => rows.length - (intOf i).toNat)
    case atStart => exact ⟨0, Nat.zero_le _, rfl, by simp [lens_zero]; omega, by simp [lens_zero]⟩
    case round =>
      obtain ⟨k, hk, rfl, hl, rfl⟩ := hrel
      by_cases hlt : k < rows.length
      · obtain ⟨b, o, u, rfl, hc, hu⟩ := hrow k hlt
        obtain ⟨a', C', rfl, h2, h3, _, _⟩ := hu
        unfold maxLen at h3
        have hs := lens_succ hlt
        by_cases hlast : left - rows.length - (lens rows k : Nat) < rows[k].length
        · go_wp2_with (go_at_call 51; refine (szIntS_any _ _ _ _ _ (by unfold maxLen; omega) (by omega) (by omega)).mono ?_; rw [if_pos hlast]; rintro e w' ⟨rfl, rfl⟩)
          go_ret
          exact SzPost.no rfl
        · go_wp2_with (go_at_call 51; refine (szIntS_any _ _ _ _ _ (by unfold maxLen; omega) (by omega) (by omega)).mono ?_; rw [if_neg hlast]; rintro e w' ⟨rfl, rfl⟩)
          go_round
          case rel => exact ⟨k + 1, by omega, by go_num, by omega, by rw [hs]; go_num⟩
          case measure => simp [intOf]; omega
      · obtain rfl : k = rows.length := by omega
        have ha := lens_all rows
        go_wp2
        go_ret
        exact SzPost.yes (by omega) (by omega) (by omega) rfl

set_option maxHeartbeats 1000000 in
theorem szOrder_any (v : Value) (rows : Rows2) (left : Int) (w : World) (hv : RowsAt w v rows) (h0 : 0 ≤ left) (h1 : left ≤ 1048576) :
    Calls Tryd.prog 7 #[.agg #[v], .int .i64 left] w (SzPost rows left (Below w.heap.size w)) := by
  go_enter Tryd.func7, Tryd.ntmps7
  have hv' := hv.below ((Below.refl _ w).alloc (Nat.le_refl _) (.cells #[v] 24))
  obtain ⟨a, C, rfl, _⟩ := hv
  go_wp2_with (go_at_call 24; refine (szIntSS_any _ _ _ _ hv' h0 h1).mono ?_; rintro e w' ⟨⟨r, hr, rfl⟩, rfl⟩)
  all_goals
    go_ret
    rcases hr with rfl | ⟨h2, h3, h4⟩
    · first | omega | exact SzPost.no ((Below.refl _ w).alloc (Nat.le_refl _) _)
    · first | omega | exact SzPost.yes h2 h3 h4 ((Below.refl _ w).alloc (Nat.le_refl _) _)
theorem below_drew (w : World) (B : Nat) : Below B w w.drew := ⟨rfl, rfl, rfl, Nat.le_refl _, fun _ _ => rfl⟩
theorem maxLen_ge {n : Nat} (h : n ≤ 1048576) : n ≤ maxLen := by unfold maxLen; omega
end Go.Proofs.YtppjogkednclcaaDoor

/- What a law holds while it looks at an answer that is an order: the argument, the model's answer, the copy that the program had, the program's answer, all in memory of their own. Plain facts on worlds. -/
namespace Go.Proofs.YtppjogkednclcaaDoor
open Go.RowKit Go.Deep

/-- The rows res as an order in memory of its own, and the Boolean t. -/
def OrderP (res : Rows2) (t : Bool) (w : World) (e : Ending) (w' : World) : Prop :=
  ∃ v, e = .returned (.tuple #[.agg #[v], .bool t]) ∧ OwnR 3 33 w' v res.length (rowsF res) w.heap.size w'.heap.size ∧ Below w.heap.size w w'


/-- The places of the answers. -/
structure Places where
  lo1 : Nat
  hi1 : Nat
  lo2 : Nat
  hi2 : Nat
  lo3 : Nat
  hi3 : Nat

structure Lw (w : World) (v : Value) (rows res : Rows2) (p : Places) (v1 v2 v3 : Value) (R2 R3 : Nat → List Int) (W : World) : Prop where
  base : RowsAt w v rows
  tab0 : Tab w
  arg : W.cell? ⟨w.heap.size, 0, none⟩ = some v
  below : Below w.heap.size w W
  b4 : Boxed W p.hi1 26 v1
  o4 : OwnR 3 33 W v1 res.length (rowsF res) p.lo1 p.hi1
  b6 : Boxed W p.hi2 26 v2
  o6 : OwnR 3 33 W v2 rows.length R2 p.lo2 p.hi2
  b7 : Boxed W p.hi3 26 v3
  o7 : OwnR 3 33 W v3 res.length R3 p.lo3 p.hi3
  ord : w.heap.size < p.lo1 ∧ p.lo1 ≤ p.hi1 ∧ p.hi1 < p.lo2 ∧ p.lo2 ≤ p.hi2 ∧ p.hi2 < p.lo3 ∧ p.lo3 ≤ p.hi3 ∧ p.hi3 < W.heap.size

section
variable {w : World} {v v1 v2 v3 : Value} {rows res : Rows2} {p : Places} {R2 R3 : Nat → List Int} {W W' : World}
theorem Lw.rowsAt (h : Lw w v rows res p v1 v2 v3 R2 R3 W) : RowsAt W v rows := h.base.below h.below
theorem Lw.tab (h : Lw w v rows res p v1 v2 v3 R2 R3 W) : Tab W := h.tab0.below h.below
theorem Lw.step (h : Lw w v rows res p v1 v2 v3 R2 R3 W) (hb : Below W.heap.size W W') : Lw w v rows res p v1 v2 v3 R2 R3 W' := by
  have ho := h.ord
  have hz := hb.size
  exact ⟨h.base, h.tab0, (hb.cell (p := ⟨w.heap.size, 0, none⟩) (cell_lt h.arg)).trans h.arg, h.below.trans (hb.mono h.below.size), (hb.block _ h.b4.lt).trans h.b4, h.o4.below hb (by omega), (hb.block _ h.b6.lt).trans h.b6, h.o6.below hb (by omega), (hb.block _ h.b7.lt).trans h.b7, h.o7.below hb (by omega), by omega⟩
/-- The copy has been marked. -/
theorem Lw.mark2 {R2' : Nat → List Int} (h : Lw w v rows res p v1 v2 v3 R2 R3 W) (ht : Turned p.lo2 p.hi2 W W') (ho : OwnR 3 33 W' v2 rows.length R2' p.lo2 p.hi2) : Lw w v rows res p v1 v2 v3 R2' R3 W' := by
  have hd := h.ord
  have hz := ht.below.size
  have hbl : ∀ b, b < p.lo2 → W'.heap[b]? = W.heap[b]? := fun b hb => ht.below.block b hb
  have hab : ∀ b, p.hi2 ≤ b → b < W.heap.size → W'.heap[b]? = W.heap[b]? := ht.above
  exact ⟨h.base, h.tab0, (World.cell?_of_block (hbl w.heap.size (by omega))).trans h.arg, h.below.trans (ht.below.mono (by omega)), (hbl _ (by omega)).trans h.b4, h.o4.kept fun b _ hb => hbl b (by omega), (hab _ (by omega) (by omega)).trans h.b6, ho, (hab _ (by omega) (by omega)).trans h.b7, h.o7.kept fun b hb hb' => hab b (by omega) (by omega), by omega⟩
/-- The program's answer has been marked. -/
theorem Lw.mark3 {R3' : Nat → List Int} (h : Lw w v rows res p v1 v2 v3 R2 R3 W) (ht : Turned p.lo3 p.hi3 W W') (ho : OwnR 3 33 W' v3 res.length R3' p.lo3 p.hi3) : Lw w v rows res p v1 v2 v3 R2 R3' W' := by
  have hd := h.ord
  have hz := ht.below.size
  have hbl : ∀ b, b < p.lo3 → W'.heap[b]? = W.heap[b]? := fun b hb => ht.below.block b hb
  have hab : ∀ b, p.hi3 ≤ b → b < W.heap.size → W'.heap[b]? = W.heap[b]? := ht.above
  exact ⟨h.base, h.tab0, (World.cell?_of_block (hbl w.heap.size (by omega))).trans h.arg, h.below.trans (ht.below.mono (by omega)), (hbl _ (by omega)).trans h.b4, h.o4.kept fun b _ hb => hbl b (by omega), (hbl _ (by omega)).trans h.b6, h.o6.kept fun b _ hb => hbl b (by omega), (hab _ (by omega) (by omega)).trans h.b7, ho, by omega⟩
end
end Go.Proofs.YtppjogkednclcaaDoor

/- The model's steps (l3Step), and its FunStep. -/
namespace Go.Proofs.YtppjogkednclcaaDoor
open Go.RowKit Go.Deep

theorem owns_weaker {W : World} {lo lo' n : Nat} {t : TypeId} {v : Value} {xs : List Value} (h : W.ownsRow lo t 1 v n xs) (hl : lo' ≤ lo) : W.ownsRow lo' t 1 v n xs := by
  obtain ⟨h1, h2 | ⟨g, c, cur, rfl, h3, h4⟩⟩ := h
  · exact ⟨h1, .inl h2⟩
  · exact ⟨h1, .inr ⟨g, c, cur, rfl, by omega, h4⟩⟩
/-- The numbers xs, in memory of their own. -/
def OwnQ (xs : List Int) (w : World) (e : Ending) (w' : World) : Prop :=
  ∃ v, e = .returned v ∧ OwnI 3 w' v xs w.heap.size w'.heap.size ∧ Below w.heap.size w w'

/-- What the step of a to b has for element i. -/
def stepAt (rows rows' : Rows2) (a : Nat) (b : Int) (i : Nat) : Int := if upB rows a (i : Int) = true then b else leastI rows'
def stepN (rows rows' : Rows2) (a : Nat) (b : Int) (k : Nat) : List Int := (List.range k).map (stepAt rows rows' a b)
theorem stepN_length (rows rows' : Rows2) (a : Nat) (b : Int) (k : Nat) : (stepN rows rows' a b k).length = k := by unfold stepN; simp
theorem stepN_succ (rows rows' : Rows2) (a : Nat) (b : Int) (k : Nat) : stepN rows rows' a b (k + 1) = stepN rows rows' a b k ++ [stepAt rows rows' a b k] := by
  unfold stepN
  rw [List.range_succ, List.map_append]
  rfl

/-- Behind an append to a list of the call's own. -/
theorem Two.grow {w : World} {v v' : Value} {rows rows' : Rows2} {W w1 : World} (h : Two w v v' rows rows' W) (hv : RowsAt w v rows) (hv' : RowsAt w v' rows') {u : Value} {n : Nat} {xs : List Value} (ho : W.ownsRow (w.heap.size + 2) 3 1 u n xs) (o : Obj) {row : Option Nat} (hg : (W.alloc o).grownBy w1 row) (hr : row = u.ownBlock := by rfl) : Two w v v' rows rows' w1 := by
  subst hr
  have hb1 : w.heap.size + 1 < W.heap.size := cell_lt h.c1
  have hb : Below (w.heap.size + 2) W w1 := ((Below.refl (w.heap.size + 2) W).alloc (by omega) o).grown hg (by rw [World.size_alloc]; omega) (fun b e => (ho.lt b e).1)
  have hw : Below w.heap.size w w1 := h.below.trans (hb.mono (by omega))
  exact ⟨(hb.cell (p := ⟨w.heap.size, 0, none⟩) (by show w.heap.size < w.heap.size + 2; omega)).trans h.c0, (hb.cell (p := ⟨w.heap.size + 1, 0, none⟩) (by show w.heap.size + 1 < w.heap.size + 2; omega)).trans h.c1, hv.below hw, hv'.below hw, hw⟩

/-- What FunStep answers. -/
noncomputable def stepOk (rows rows' : Rows2) (a b : Int) : Bool := domB rows && domB rows' && (decide (0 ≤ a ∧ a < rows.length) && decide (0 ≤ b ∧ b < rows'.length))
noncomputable def stepL (rows rows' : Rows2) (a b : Int) : List Int := if stepOk rows rows' a b = true then stepN rows rows' a.toNat b rows.length else []
/-- A list in memory of its own, and a Boolean. -/
def OwnB (xs : List Int) (t : Bool) (w : World) (e : Ending) (w' : World) : Prop :=
  ∃ v, e = .returned (.tuple #[v, .bool t]) ∧ OwnI 3 w' v xs w.heap.size w'.heap.size ∧ Below w.heap.size w w'
theorem stepOk_no1 {rows rows' : Rows2} {a b : Int} (h : domB rows = false) : stepOk rows rows' a b = false := by unfold stepOk; rw [h]; rfl
theorem stepOk_no2 {rows rows' : Rows2} {a b : Int} (h : domB rows' = false) : stepOk rows rows' a b = false := by unfold stepOk; rw [h]; simp
theorem stepOk_no3 {rows rows' : Rows2} {a b : Int} (h : ¬ (0 ≤ a ∧ a < rows.length)) : stepOk rows rows' a b = false := by unfold stepOk; rw [decide_eq_false h]; simp
theorem stepOk_no4 {rows rows' : Rows2} {a b : Int} (h : ¬ (0 ≤ b ∧ b < rows'.length)) : stepOk rows rows' a b = false := by unfold stepOk; rw [decide_eq_false h]; simp

/-- An empty list made by the call. -/
theorem ownB_none {rows rows' : Rows2} {a b : Int} {w W : World} (h : stepOk rows rows' a b = false) (hb : Below w.heap.size w W) : OwnB (stepL rows rows' a b) (stepOk rows rows' a b) w (.returned (.tuple #[.slice (some ⟨W.heap.size, 0, none⟩) 0 0, .bool false])) (W.alloc (.cells #[] 3)) := by
  unfold stepL
  rw [h]
  exact ⟨_, rfl, ⟨fun _ h => (by cases h), .inr ⟨W.heap.size, 0, fun _ => undef, rfl, Nat.le_refl _, Nat.zero_le _, hb.size, by rw [World.size_alloc]; omega, World.rowIs_alloc W #[] 3 (fun _ => undef) (fun _ h => absurd h (Nat.not_lt_zero _)), fun _ h => absurd h (Nat.not_lt_zero _)⟩⟩, hb.alloc hb.size _⟩

end Go.Proofs.YtppjogkednclcaaDoor

/- The model's FunAfter. -/
namespace Go.Proofs.YtppjogkednclcaaDoor
open Go.RowKit Go.Deep

/-- The one function behind the other, for the first k elements. -/
def afterN (f g : List Int) (k : Nat) : List Int := (List.range k).map fun i => g.getD (f.getD i 0).toNat 0
theorem afterN_length (f g : List Int) (k : Nat) : (afterN f g k).length = k := by unfold afterN; simp
theorem afterN_succ (f g : List Int) (k : Nat) : afterN f g (k + 1) = afterN f g k ++ [g.getD (f.getD k 0).toNat 0] := by
  unfold afterN
  rw [List.range_succ, List.map_append]
  rfl
noncomputable def afterOk (rows rows' rows2 : Rows2) (f g : List Int) : Bool := monoB rows rows' f && monoB rows' rows2 g
noncomputable def afterL (rows rows' rows2 : Rows2) (f g : List Int) : List Int := if afterOk rows rows' rows2 f g = true then afterN f g f.length else []

/-- Three orders lie in the variables at blocks w.heap.size and the next two. -/
structure Thr (w : World) (v v' v2 : Value) (rows rows' rows2 : Rows2) (W : World) : Prop where
  two : Two w v v' rows rows' W
  c2 : W.cell? ⟨w.heap.size + 2, 0, none⟩ = some v2
  r2 : RowsAt W v2 rows2
theorem Thr.step {w : World} {v v' v2 : Value} {rows rows' rows2 : Rows2} {W W' : World} (h : Thr w v v' v2 rows rows' rows2 W) (hb : Below W.heap.size W W') : Thr w v v' v2 rows rows' rows2 W' :=
  ⟨h.two.step hb, (hb.cell (p := ⟨w.heap.size + 2, 0, none⟩) (cell_lt h.c2)).trans h.c2, h.r2.below hb⟩
theorem Thr.start (w : World) {v v' v2 : Value} {rows rows' rows2 : Rows2} (t : TypeId) (hv : RowsAt w v rows) (hv' : RowsAt w v' rows') (hv2 : RowsAt w v2 rows2) : Thr w v v' v2 rows rows' rows2 (((w.alloc (.cells #[v] t)).alloc (.cells #[v'] t)).alloc (.cells #[v2] t)) := by
  have h := Two.start w t t hv hv'
  have s2 : ((w.alloc (.cells #[v] t)).alloc (.cells #[v'] t)).heap.size = w.heap.size + 2 := by rw [World.size_alloc, World.size_alloc]
  have b := (Below.refl ((w.alloc (.cells #[v] t)).alloc (.cells #[v'] t)).heap.size ((w.alloc (.cells #[v] t)).alloc (.cells #[v'] t))).alloc (Nat.le_refl _) (.cells #[v2] t)
  have hc := (World.rowIs_alloc ((w.alloc (.cells #[v] t)).alloc (.cells #[v'] t)) #[v2] t (fun _ => v2) (fun i hi => by simp at hi; subst hi; rfl)).cell (i := 0) (by simp)
  rw [s2] at hc
  exact ⟨h.step b, hc, (hv2.below h.below).below b⟩
/-- And two lists. -/
structure ThrL (w : World) (v v' v2 vf vg : Value) (rows rows' rows2 : Rows2) (f g : List Int) (W : World) : Prop where
  thr : Thr w v v' v2 rows rows' rows2 W
  f : IntsAt W vf f
  g : IntsAt W vg g
theorem ThrL.step {w : World} {v v' v2 vf vg : Value} {rows rows' rows2 : Rows2} {f g : List Int} {W W' : World} (h : ThrL w v v' v2 vf vg rows rows' rows2 f g W) (hb : Below W.heap.size W W') : ThrL w v v' v2 vf vg rows rows' rows2 f g W' := ⟨h.thr.step hb, h.f.below hb, h.g.below hb⟩
theorem ThrL.below {w : World} {v v' v2 vf vg : Value} {rows rows' rows2 : Rows2} {f g : List Int} {W : World} (h : ThrL w v v' v2 vf vg rows rows' rows2 f g W) : Below w.heap.size w W := h.thr.two.below
theorem ThrL.start (w : World) {v v' v2 vf vg : Value} {rows rows' rows2 : Rows2} {f g : List Int} (t : TypeId) (hv : RowsAt w v rows) (hv' : RowsAt w v' rows') (hv2 : RowsAt w v2 rows2) (hf : IntsAt w vf f) (hg : IntsAt w vg g) : ThrL w v v' v2 vf vg rows rows' rows2 f g (((w.alloc (.cells #[v] t)).alloc (.cells #[v'] t)).alloc (.cells #[v2] t)) :=
  have h := Thr.start w t hv hv' hv2
  ⟨h, hf.below h.two.below, hg.below h.two.below⟩

theorem dom_len {rows : Rows2} (h : domB rows = true) : rows.length ≤ 200 :=
  (ok_of_valid (show validB rows = true by unfold domB at h; rw [Bool.and_eq_true] at h; exact h.1)).len.2
theorem empty_own (W : World) {lo : Nat} (hlo : lo ≤ W.heap.size) : OwnI 3 (W.alloc (.cells #[] 3)) (.slice (some ⟨W.heap.size, 0, none⟩) 0 0) [] lo (W.alloc (.cells #[] 3)).heap.size :=
  ⟨fun _ h => (by cases h), .inr ⟨W.heap.size, 0, fun _ => undef, rfl, Nat.le_refl _, Nat.zero_le _, hlo, by rw [World.size_alloc]; omega, World.rowIs_alloc W #[] 3 (fun _ => undef) (fun _ h => absurd h (Nat.not_lt_zero _)), fun _ h => absurd h (Nat.not_lt_zero _)⟩⟩

end Go.Proofs.YtppjogkednclcaaDoor

/- The model's FunSteps. -/
namespace Go.Proofs.YtppjogkednclcaaDoor
open Go.RowKit Go.Deep

/-- Does element k leave i a start? -/
def startP (rows : Rows2) (f : List Int) (i k : Nat) : Bool := (k == i) || !upB rows k (i : Int) || !(f.getD k 0 == f.getD i 0)
/-- Does the function start at i to have what it has? The first m elements have been looked at. -/
def startT (rows : Rows2) (f : List Int) (least : Int) (i m : Nat) : Bool := !(f.getD i 0 == least) && (List.range m).all (startP rows f i)
theorem startT_succ (rows : Rows2) (f : List Int) (least : Int) (i m : Nat) : startT rows f least i (m + 1) = (startT rows f least i m && startP rows f i m) := by
  unfold startT
  rw [List.range_succ, List.all_append, Bool.and_assoc]
  simp
theorem startT_false {rows : Rows2} {f : List Int} {least : Int} {i m n : Nat} (h : startT rows f least i m = false) (hm : m ≤ n) : startT rows f least i n = false := by
  induction n with
  | zero => obtain rfl : m = 0 := by omega
            exact h
  | succ n ih =>
    rcases Nat.lt_or_ge n m with h1 | h1
    · obtain rfl : m = n + 1 := by omega
      exact h
    · rw [startT_succ, ih h1]
      rfl
def startsN (rows rows' : Rows2) (f : List Int) (k : Nat) : List Int := ((List.range k).filter fun i => startT rows f (leastI rows') i f.length).map fun i : Nat => (i : Int)
theorem startsN_succ (rows rows' : Rows2) (f : List Int) (k : Nat) : startsN rows rows' f (k + 1) = if startT rows f (leastI rows') k f.length = true then startsN rows rows' f k ++ [(k : Int)] else startsN rows rows' f k := by
  unfold startsN
  rw [List.range_succ, List.filter_append, List.map_append, List.filter_cons]
  cases startT rows f (leastI rows') k f.length with
  | true => rfl
  | false => simp
theorem startsN_le (rows rows' : Rows2) (f : List Int) (k : Nat) : (startsN rows rows' f k).length ≤ k := by
  unfold startsN
  rw [List.length_map]
  have := List.length_filter_le (fun i => startT rows f (leastI rows') i f.length) (List.range k)
  simpa using this
noncomputable def startsL (rows rows' : Rows2) (f : List Int) : List Int := if monoB rows rows' f = true then startsN rows rows' f f.length else []

/-- Behind what turns no memory of the variables. -/
theorem TwoF.far {w : World} {v v' vf : Value} {rows rows' : Rows2} {f : List Int} {W W' : World} (h : TwoF w v v' vf rows rows' f W) (hv : RowsAt w v rows) (hv' : RowsAt w v' rows') (hf : IntsAt w vf f) (hb : Below (w.heap.size + 2) W W') : TwoF w v v' vf rows rows' f W' := by
  have hw : Below w.heap.size w W' := h.1.below.trans (hb.mono (by omega))
  exact ⟨⟨(hb.cell (p := ⟨w.heap.size, 0, none⟩) (by show w.heap.size < w.heap.size + 2; omega)).trans h.1.c0, (hb.cell (p := ⟨w.heap.size + 1, 0, none⟩) (by show w.heap.size + 1 < w.heap.size + 2; omega)).trans h.1.c1, hv.below hw, hv'.below hw, hw⟩, hf.below hw⟩

set_option maxRecDepth 100000 in
set_option maxHeartbeats 8000000 in
theorem specSteps_any (v v' vf : Value) (rows rows' : Rows2) (f : List Int) (w : World) (hv : RowsAt w v rows) (hv' : RowsAt w v' rows') (hf : IntsAt w vf f) (hn : bulk rows ≤ 1048576) (hn' : bulk rows' ≤ 1048576) :
    Calls Tryd.prog 14 #[.agg #[v], .agg #[v'], vf] w (OwnB (startsL rows rows' f) (monoB rows rows' f) w) := by
  have HV := Lib.hid hv
  have HV' := Lib.hid hv'
  have HF := Lib.hid hf
  have hT0 := TwoF.start w 26 26 hv hv' hf
  have hs2 : ((w.alloc (.cells #[v] 26)).alloc (.cells #[v'] 26)).heap.size = w.heap.size + 2 := by rw [World.size_alloc, World.size_alloc]
  have hO := World.ownsRow_made (e := 3) (size := 1) ((w.alloc (.cells #[v] 26)).alloc (.cells #[v'] 26)) #[] 0 (base := w.heap.size + 2) (by rw [hs2]; omega) (Nat.zero_le _) (by simp)
  rw [hs2] at hO
  have hT := hT0.step ((Below.refl _ _).alloc (Nat.le_refl _) (.cells #[] 3))
  have hcM := specMono_any _ _ _ rows rows' f _ hT.1.r0 hT.1.r1 hT.2 hn hn'
  obtain ⟨A, C, rfl, _⟩ := hv
  obtain ⟨A', C', rfl, _⟩ := hv'
  obtain ⟨Af, Cf, rfl, _⟩ := hf
  have H0 := Lib.hid hT
  have HO := Lib.hid hO
  have hc0 := hT.1.c0
  have hc1 := hT.1.c1
  obtain ⟨i0, hi0, hz0, hz1, hz2⟩ := info_parts infoInt
  clear hT0 hT hO hs2
  cases hm : monoB rows rows' f with
  | false =>
    rw [hm] at hcM
    have HE := Lib.hid (show startsL rows rows' f = [] by unfold startsL; rw [hm]; rfl)
    clear hm
    go_enter Tryd.func14, Tryd.ntmps14
    go_wp2_with (go_at_call 38; refine hcM.mono ?_; clear hcM; rintro e w1 ⟨rfl, hb1⟩; have H1 := Lib.hid (H0.out.step hb1); have HO1 := Lib.hid (owns_below HO.out hb1); clear hb1)
    go_ret2
    refine ⟨_, rfl, ?_, H1.out.1.below⟩
    rw [HE.out]
    exact OwnI.of_owns (owns_weaker HO1.out (Nat.le_add_right _ _)) (fun y hy => by cases hy) (fun b hb => (HO1.out.lt b hb).2)
  | true =>
    rw [hm] at hcM
    have HE := Lib.hid (show startsL rows rows' f = startsN rows rows' f f.length by unfold startsL; rw [if_pos hm])
    obtain ⟨hd, hd', hmo⟩ := monoB_parts hm
    have hok := ok_of_valid (show validB rows = true by unfold domB at hd; rw [Bool.and_eq_true] at hd; exact hd.1)
    have hfl : f.length ≤ 200 := by rw [hmo.1]; exact hok.len.2
    have HFR := Lib.hid hmo.1
    have HOK := Lib.hid hok
    clear hm hd hd' hmo hok
    go_enter Tryd.func14, Tryd.ntmps14
    go_wp2_with (go_at_call 38; refine hcM.mono ?_; clear hcM; rintro e w1 ⟨rfl, hb1⟩; have H1 := Lib.hid (H0.out.step hb1); have HO1 := Lib.hid (owns_below HO.out hb1); clear hb1)
    clear hc0 hc1
    go_loopw [8, 9] (fun ov iv wr => ∃ i : Nat, i ≤ f.length ∧ iv = .int .i64 i ∧ wr.ownsRow (w.heap.size + 2) 3 1 ov (startsN rows rows' f i).length (cellsI (startsN rows rows' f i)) ∧ TwoF w (.slice A rows.length C) (.slice A' rows'.length C') (.slice Af f.length Cf) rows rows' f wr) (fun _ iv _ => f.length - (intOf iv).toNat)
    case atStart => exact ⟨0, Nat.zero_le _, rfl, HO1.out, H1.out⟩
    case round =>
      obtain ⟨i, hi, rfl, hown, hh⟩ := hrel
      obtain ⟨wo, hwo⟩ : ∃ wo : World, wo = wr := ⟨_, rfl⟩
      subst hwo
      have HOWN := Lib.hid hown
      have HK := Lib.hid hh
      have hcl := startsN_le rows rows' f i
      clear hown hh H1 HO1
      by_cases hlt : i < f.length
      · have hltz : (i : Int) < (f.length : Int) := by omega
        obtain ⟨bf, o_f, rfl, hcf⟩ := HK.out.2.get hlt
        have HCF := Lib.hid hcf
        have hq0 := fun d os => cell_regrown HK.out.1.c1 d os
        have hq1 := fun d os => cell_regrown hcf d os
        have hcL := fun d os => Calls.regrown_of (d := d) (os := os) (l1Least_any _ rows' _ (HK.out.step (below_regrown wo d os)).1.r1 hn')
        have e1 : f.getD i 0 = f[i] := getD_lt 0 hlt
        generalize hle : leastI rows' = le at hcL
        obtain ⟨s0, hs0⟩ : ∃ s0 : Bool, (f[i] != le) = s0 := ⟨_, rfl⟩
        have HS0 := Lib.hid (show startT rows f le i 0 = s0 by unfold startT; rw [e1, ← hs0]; simp [bne])
        have HLE := Lib.hid hle
        clear hcf e1 hle
        go_upto_region 7 with fail
        refine wp_region_quiet_below (by kernel_rfl) (by kernel_rfl) ?_
        repeat (go_big_quiet_step (first | (go_at_call 39; exact hcL _ _)))
        refine wpQuiet_nil ?_
        intro _ hw'
        obtain ⟨⟨dq, osq⟩, hw''⟩ := hw'
        subst hw''
        clear hcL hq0 hq1
        have HK1 := Lib.hid (HK.out.step (below_regrown wo dq osq))
        have HOW1 := Lib.hid (owns_below HOWN.out (below_regrown wo dq osq))
        generalize «Sort».grow (redrawn wo dq) osq = wa at HK1 HOW1 ⊢
        go_wp2
        go_loopw [10, 11] (fun tv kv wx => ∃ k : Nat, k ≤ f.length ∧ kv = .int .i64 k ∧ tv = .bool (startT rows f le i k) ∧ Below wa.heap.size wa wx) (fun _ kv _ => f.length - (intOf kv).toNat)
        case atStart => exact ⟨0, Nat.zero_le _, rfl, by rw [HS0.out], Below.refl _ _⟩
        case round =>
          obtain ⟨k, hk, rfl, rfl, hB⟩ := hrel
          have HB := Lib.hid hB
          have HKX := Lib.hid (HK1.out.step hB)
          have HOX := Lib.hid (owns_below HOW1.out hB)
          have hbz := HKX.out.1.below.size
          clear hB
          cases ht : startT rows f le i k with
          | false =>
            have HEN := Lib.hid (startT_false ht hk)
            clear ht
            have hend : wr.ownsRow (w.heap.size + 2) 3 1 u8 (startsN rows rows' f (i + 1)).length (cellsI (startsN rows rows' f (i + 1))) := by
              rw [startsN_succ, HLE.out, HEN.out, if_neg (by simp)]
              exact HOX.out
            have HND := Lib.hid hend
            clear hend
            by_cases hkl : k < f.length
            · have hkz : (k : Int) < (f.length : Int) := by omega
              go_wp2
              go_roundw
              case rel => exact ⟨i + 1, by omega, by go_num, HND.out, HKX.out⟩
              case measure => simp [intOf]; omega
            · have hkz : ¬ ((k : Int) < (f.length : Int)) := by omega
              go_wp2
              go_roundw
              case rel => exact ⟨i + 1, by omega, by go_num, HND.out, HKX.out⟩
              case measure => simp [intOf]; omega
          | true =>
            have HT := Lib.hid ht
            clear ht
            by_cases hkl : k < f.length
            · have hkz : (k : Int) < (f.length : Int) := by omega
              have hkr : k < rows.length := by have := HFR.out; omega
              obtain ⟨b2, o2, e2, hck⟩ := HKX.out.2.get hkl
              obtain ⟨b3, o3, e3, hci⟩ := HKX.out.2.get hlt
              injection e2 with e2
              injection e2 with e4 e5 _
              injection e3 with e3
              injection e3 with e6 e7 _
              subst e4 e5 e6 e7
              have hq2 := fun d os => cell_regrown HKX.out.1.c0 d os
              have hq3 := fun d os => cell_regrown hck d os
              have hq4 := fun d os => cell_regrown hci d os
              have hcE := fun d os => Calls.regrown_of (d := d) (os := os) (l1Le_any _ rows (k : Int) k (i : Int) _ (HKX.out.step (below_regrown wr d os)).1.r0 hkr rfl (HOK.out.asc k hkr).1 hn)
              clear hck hci
              by_cases hki : k = i
              · have q1 : ((k : Int) == (i : Int)) = true := by rw [beq_iff_eq]; omega
                have q2 : (k == i) = true := by rw [beq_iff_eq]; exact hki
                have HP := Lib.hid (show startP rows f i k = true by unfold startP; rw [q2]; rfl)
                clear hki
                try clear HST
                go_upto_region 11 with fail
                refine wp_region_quiet_below (by kernel_rfl) (by kernel_rfl) ?_
                repeat (go_big_quiet_step (first | (go_at_call 27; exact hcE _ _)))
                refine wpQuiet_nil ?_
                intro _ hw'
                obtain ⟨⟨dq2, osq2⟩, hw2⟩ := hw'
                subst hw2
                clear hcE hq2 hq3 hq4
                go_wp2
                go_roundw
                case rel => exact ⟨k + 1, by omega, by go_num, by rw [startT_succ, HT.out, HP.out, Bool.true_and], HB.out.trans ((below_regrown wr dq2 osq2).mono HB.out.size)⟩
                case measure => simp [intOf]; omega
              · have q1 : ((k : Int) == (i : Int)) = false := by rw [beq_eq_false_iff_ne]; omega
                have q2 : (k == i) = false := by rw [beq_eq_false_iff_ne]; exact hki
                cases hup : upB rows k (i : Int) with
                | false =>
                  have HP := Lib.hid (show startP rows f i k = true by unfold startP; rw [hup]; simp)
                  simp only [hup] at hcE
                  clear hup hki
                  try clear HST
                  go_upto_region 11 with fail
                  refine wp_region_quiet_below (by kernel_rfl) (by kernel_rfl) ?_
                  repeat (go_big_quiet_step (first | (go_at_call 27; exact hcE _ _)))
                  refine wpQuiet_nil ?_
                  intro _ hw'
                  obtain ⟨⟨dq2, osq2⟩, hw2⟩ := hw'
                  subst hw2
                  clear hcE hq2 hq3 hq4
                  go_wp2
                  go_roundw
                  case rel => exact ⟨k + 1, by omega, by go_num, by rw [startT_succ, HT.out, HP.out, Bool.true_and], HB.out.trans ((below_regrown wr dq2 osq2).mono HB.out.size)⟩
                  case measure => simp [intOf]; omega
                | true =>
                  simp only [hup] at hcE
                  have e1 : f.getD k 0 = f[k] := getD_lt 0 hkl
                  have e2 : f.getD i 0 = f[i] := getD_lt 0 hlt
                  obtain ⟨s1, hs1⟩ : ∃ s1 : Bool, (f[k] != f[i]) = s1 := ⟨_, rfl⟩
                  have HP := Lib.hid (show startP rows f i k = s1 by unfold startP; rw [q2, hup, e1, e2, ← hs1]; simp [bne])
                  clear hup hki e1 e2
                  try clear HST
                  go_upto_region 11 with fail
                  refine wp_region_quiet_below (by kernel_rfl) (by kernel_rfl) ?_
                  repeat (go_big_quiet_step (first | (go_at_call 27; exact hcE _ _)))
                  refine wpQuiet_nil ?_
                  intro _ hw'
                  obtain ⟨⟨dq2, osq2⟩, hw2⟩ := hw'
                  subst hw2
                  clear hcE hq2 hq3 hq4
                  go_wp2
                  go_roundw
                  case rel => exact ⟨k + 1, by omega, by go_num, by rw [startT_succ, HT.out, HP.out, Bool.true_and], HB.out.trans ((below_regrown wr dq2 osq2).mono HB.out.size)⟩
                  case measure => simp [intOf]; omega
            · obtain rfl : k = f.length := by omega
              have hkz : ¬ ((f.length : Int) < (f.length : Int)) := by omega
              have hst : startsN rows rows' f (i + 1) = startsN rows rows' f i ++ [(i : Int)] := by rw [startsN_succ, HLE.out, HT.out, if_pos rfl]
              have HST := Lib.hid hst
              have hz9 : w.heap.size + 2 ≤ wr.heap.size := by have := HKX.out.1.c1; have := cell_lt this; exact this
              clear hst
              go_wp2_with (at_builtin; refine wpList_append_own _ rfl _ _ 33 rfl (w.heap.size + 2) 3 i0 (.int .i64 0) 1 8 Tryd.underlying33 hi0 hz0 hz1 hz2 rfl (by decide) _ _ _ rfl (HOX.out.alloc _) ⟨wr.heap.size, 0, none⟩ 1 1 [.int .i64 (i : Int)] rfl rfl (cell_one_new _ _ _) (by simp [Value.oneCell']) (by unfold maxLen; omega) (by omega) (by simp; omega) ?_; intro v' w1 hown' hgrow _)
              go_roundw
              case rel =>
                refine ⟨i + 1, by omega, by go_num, ?_, ?_⟩
                · rw [HST.out, List.length_append, show cellsI (startsN rows rows' f i ++ [(i : Int)]) = cellsI (startsN rows rows' f i) ++ [.int .i64 (i : Int)] by simp]
                  exact hown'
                · have hb : Below (w.heap.size + 2) wr w1 := (((Below.refl (w.heap.size + 2) wr).alloc hz9 _).grown hgrow (by rw [World.size_alloc]; omega) (fun b e => (HOX.out.lt b e).1))
                  exact HKX.out.far HV.out HV'.out HF.out hb
              case measure => simp [intOf]; omega
      · obtain rfl : i = f.length := by omega
        have hltz : ¬ ((f.length : Int) < (f.length : Int)) := by omega
        go_wp2
        go_ret2
        refine ⟨_, rfl, ?_, HK.out.1.below⟩
        rw [HE.out]
        refine OwnI.of_owns (owns_weaker HOWN.out (Nat.le_add_right _ _)) (fun y hy => ?_) (fun b hb => (HOWN.out.lt b hb).2)
        unfold startsN at hy
        obtain ⟨q, hq, rfl⟩ := List.mem_map.1 hy
        have := List.mem_range.1 (List.mem_filter.1 hq).1
        exact wf_int (by omega) (by omega)
end Go.Proofs.YtppjogkednclcaaDoor

/- The program's look for what a function has on a set (fun.hasOn). -/
namespace Go.Proofs.YtppjogkednclcaaDoor
open Go.RowKit Go.Deep Go.Shelf
attribute [local go_sem] Oper.semAt_some

/-- Has the function the element k for some element of the set s? -/
def onB (f : List Int) (s : Nat) (k : Int) : Bool := (elems s).any fun i => f.getD i 0 == k
def NoneOn (f : List Int) (s : Nat) (k : Int) (pre : List (Bt s)) : Prop := ∀ y ∈ pre, f.getD y.1 0 ≠ k
theorem on_none {f : List Int} {s : Nat} {k : Int} (hp : NoneOn f s k (eList s)) : onB f s k = false := by
  unfold onB
  rw [List.any_eq_false, ← natsOf_all]
  intro i hi
  obtain ⟨z, hz, rfl⟩ := List.mem_map.1 hi
  simpa using hp z hz
theorem on_found {f : List Int} {s : Nat} {k : Int} {pre rest : List (Bt s)} {y : Bt s} (hall : eList s = (pre ++ [y]) ++ rest) (hy : f.getD y.1 0 = k) : onB f s k = true := by
  unfold onB
  rw [List.any_eq_true, ← natsOf_all]
  exact ⟨y.1, List.mem_map.2 ⟨y, by rw [hall]; simp, rfl⟩, by simpa using hy⟩

set_option maxRecDepth 100000 in
set_option maxHeartbeats 4000000 in
theorem hasOn_any (vf : Value) (f : List Int) (s : Nat) (k : Int) (w : World) (hf : IntsAt w vf f) (hT : Tab w) (hs : s < 2 ^ 256) (hel : ∀ i ∈ elems s, i < f.length) :
    Calls Tryd.prog 61 #[vf, rowV s, .int .i64 k] w (SaysN (onB f s k) w) := by
  have htab : 0 < w.heap.size := cell_lt (hT 0 (by omega))
  have HF := Lib.hid (fun W (h : Below w.heap.size w W) => hf.below h)
  obtain ⟨Af, Cf, rfl, _⟩ := hf
  have HEL := Lib.hid hel
  have HT := Lib.hid hT
  have HS := Lib.hid hs
  clear hel hT hs
  refine (callsIn_wide (n := 8)).1 ?_
  refine callsIn_of_wp_marks Tryd.func61 rfl trivial ?_ rfl
  simp only [Tryd.ntmps61, List.size_toArray, List.length_cons, List.length_nil, Nat.reduceAdd, Nat.reduceSub, Array.replicate_succ, Array.replicate_zero, List.push_toArray, List.append_toArray, List.nil_append, List.cons_append]
  gi_wp2
  refine ⟨trivial, (callsIn_wide.2 (elements_any s _)).mono ?_⟩
  rintro e w1 ⟨rfl, rfl⟩
  gi_wp2
  have r2 : RowIn (((((w.alloc (.cells #[.slice Af f.length Cf] 72)).alloc (.cells #[.int .u64 ((word s 0 : Nat) : Int), .int .u64 ((word s 1 : Nat) : Int), .int .u64 ((word s 2 : Nat) : Int), .int .u64 ((word s 3 : Nat) : Int)] 56)).alloc (.cells #[.int .i64 k] 3)).alloc (.cells #[.bool false] 4)).alloc (.cells #[.int .u64 ((word s 0 : Nat) : Int), .int .u64 ((word s 1 : Nat) : Int), .int .u64 ((word s 2 : Nat) : Int), .int .u64 ((word s 3 : Nat) : Int)] 56)) (w.heap.size + 4) s := by
    have h := RowIn.alloc ((((w.alloc (.cells #[.slice Af f.length Cf] 72)).alloc (.cells #[.int .u64 ((word s 0 : Nat) : Int), .int .u64 ((word s 1 : Nat) : Int), .int .u64 ((word s 2 : Nat) : Int), .int .u64 ((word s 3 : Nat) : Int)] 56)).alloc (.cells #[.int .i64 k] 3)).alloc (.cells #[.bool false] 4)) HS.out
    simpa only [World.size_alloc, Nat.add_assoc, Nat.reduceAdd] using h
  obtain ⟨w4, hw4⟩ : ∃ w4, (((((w.alloc (.cells #[.slice Af f.length Cf] 72)).alloc (.cells #[.int .u64 ((word s 0 : Nat) : Int), .int .u64 ((word s 1 : Nat) : Int), .int .u64 ((word s 2 : Nat) : Int), .int .u64 ((word s 3 : Nat) : Int)] 56)).alloc (.cells #[.int .i64 k] 3)).alloc (.cells #[.bool false] 4)).alloc (.cells #[.int .u64 ((word s 0 : Nat) : Int), .int .u64 ((word s 1 : Nat) : Int), .int .u64 ((word s 2 : Nat) : Int), .int .u64 ((word s 3 : Nat) : Int)] 56)) = w4 := ⟨_, rfl⟩
  have hsz : w4.heap.size = w.heap.size + 5 := by rw [← hw4]; simp
  have hB0 : Below w.heap.size w w4 := by rw [← hw4]; exact (((((Below.refl _ w).alloc (Nat.le_refl _) _).alloc (by simp) _).alloc (by simp; omega) _).alloc (by simp; omega) _).alloc (by simp; omega) _
  have p0 : Boxed w4 w.heap.size 72 (.slice Af f.length Cf) := by rw [← hw4]; exact ((((Boxed.new w _ _).alloc _).alloc _).alloc _).alloc _
  have p2 : Boxed w4 (w.heap.size + 2) 3 (.int .i64 k) := by
    have h := Boxed.new ((w.alloc (.cells #[.slice Af f.length Cf] 72)).alloc (.cells #[.int .u64 ((word s 0 : Nat) : Int), .int .u64 ((word s 1 : Nat) : Int), .int .u64 ((word s 2 : Nat) : Int), .int .u64 ((word s 3 : Nat) : Int)] 56)) 3 (.int .i64 k)
    simp only [World.size_alloc, Nat.add_assoc, Nat.reduceAdd] at h
    rw [← hw4]
    exact (h.alloc _).alloc _
  have p3 : Boxed w4 (w.heap.size + 3) 4 (.bool false) := by
    have h := Boxed.new (((w.alloc (.cells #[.slice Af f.length Cf] 72)).alloc (.cells #[.int .u64 ((word s 0 : Nat) : Int), .int .u64 ((word s 1 : Nat) : Int), .int .u64 ((word s 2 : Nat) : Int), .int .u64 ((word s 3 : Nat) : Int)] 56)).alloc (.cells #[.int .i64 k] 3)) 4 (.bool false)
    simp only [World.size_alloc, Nat.add_assoc, Nat.reduceAdd] at h
    rw [← hw4]
    exact h.alloc _
  have r2' : RowIn w4 (w.heap.size + 4) s := by rw [← hw4]; exact r2
  have T4 : Tab w4 := HT.out.below hB0
  have HW4 := Lib.hid hw4
  simp only [Nat.add_assoc, Nat.reduceAdd]
  rw [hw4]
  clear hw4 r2
  refine wpIn_rangeFunc_ownG rfl (by omega) (gf := 74) (lb := #[.pointer (some ⟨w.heap.size + 4, 0, none⟩)]) rfl trivial (enters_of Tryd.func74 (by kernel_rfl) rfl)
    (elements1_stops _ w.heap.size (w.heap.size + 4) s w4 (by omega) HS.out r2' (by omega) htab T4) belowK_t (belowK_b (by omega)) (Below.refl _ _) (fun _ => rfl)
    (fun pre W => (NoneOn f s k pre ∧ Boxed W w.heap.size 72 (.slice Af f.length Cf) ∧ Boxed W (w.heap.size + 2) 3 (.int .i64 k) ∧ Boxed W (w.heap.size + 3) 4 (.bool false)) ∧ Below w.heap.size w W)
    (fun c pre W => (c = .ret ∧ ∃ ini last, pre = ini ++ [last] ∧ f.getD last.1 0 = k ∧ W.cell? ⟨w.heap.size + 3, 0, none⟩ = some (.bool true)) ∧ Below w.heap.size w W)
    (OwnFrom.and (Own.from (fun _ A B row hs hg hr => ⟨hs.1, blk_kept hs.2.1 hg hr, blk_kept hs.2.2.1 hg hr, blk_kept hs.2.2.2 hg hr⟩) _) (ownFrom_below (Nat.le_refl _) (by omega)))
    (fun c => OwnFrom.and (Own.from (fun _ A B row hs hg hr => by obtain ⟨hc, ini, last, e1, e3, e4⟩ := hs; exact ⟨hc, ini, last, e1, e3, cell_kept e4 hg hr⟩) _) (ownFrom_below (Nat.le_refl _) (by omega)))
    ⟨⟨fun _ h => (by cases h), p0, p2, p3⟩, hB0⟩
    (fun x => { tmps := #[.slice Af f.length Cf, rowV s, .int .i64 k, .pointer (some ⟨w.heap.size, 0, none⟩), .pointer (some ⟨w.heap.size + 1, 0, none⟩), .pointer (some ⟨w.heap.size + 2, 0, none⟩), .pointer (some ⟨w.heap.size + 3, 0, none⟩), .int .i64 ((x.1 : Nat) : Int), rowV s, .func (.func 74) #[] #[.pointer (some ⟨w.heap.size + 4, 0, none⟩)], .int .i64 ((x.1 : Nat) : Int), undef, undef, undef, undef, undef, undef], defers := [] }) ?assign ?body ?done ?stop
  case assign =>
    intro l x W K hK
    unfold encBt
    gi_wp2
    exact hK
  case body =>
    rintro l pre x W ⟨⟨hp, q0, q2, q3⟩, hB⟩ _
    obtain ⟨i, him⟩ := x
    dsimp only
    have hi := HEL.out i him
    have hiz : (i : Int) < (f.length : Int) := by omega
    obtain ⟨bf, o_f, rfl, hcf⟩ := (HF.out W hB).get hi
    have e1 : f.getD i 0 = f[i] := getD_lt 0 hi
    have b0 := q0.cell
    have b2 := q2.cell
    have hf := q3.frozen
    have hc3 := q3.cell
    have hmx : Tryd.prog.follows .mixedOrders = true := by kernel_rfl
    have HP := Lib.hid hp
    have HB := Lib.hid hB
    have Q0 := Lib.hid q0
    have Q2 := Lib.hid q2
    have Q3 := Lib.hid q3
    have HE1 := Lib.hid e1
    clear hp hB q0 q2 q3 e1
    by_cases he : f[i] = k
    · have heq : (f[i] == k) = true := by rw [beq_iff_eq]; exact he
      have HE := Lib.hid he
      clear he
      gi_wp2
      gi_region_with_o (fail)
      all_goals gi_wp2
      all_goals
        exact ⟨((KeepsOthers.setCell _ _ _).trans (KeepsOthers.drew _)).from _, ⟨rfl, pre, ⟨i, him⟩, rfl, HE1.out.trans HE.out, World.cell?_setCell_same' _ _ _ (by rw [hc3]; rfl)⟩, (HB.out.setCell (p := ⟨w.heap.size + 3, 0, none⟩) (by simp) _).drew⟩
    · have heq : (f[i] == k) = false := by rw [beq_eq_false_iff_ne]; exact he
      have HE := Lib.hid he
      clear he
      gi_wp2
      gi_region_with_o (fail)
      all_goals gi_wp2
      all_goals
        exact ⟨(KeepsOthers.drew _).from _, (Below.refl _ W).drew, ⟨fun y hy => (List.mem_append.1 hy).elim (HP.out y) (fun e e' => by simp at e; subst e; exact HE.out (HE1.out.symm.trans e')), Q0.out, Q2.out, Q3.out⟩, HB.out.drew⟩
  case done =>
    rintro D ys W hD rfl ⟨⟨hne, q0, q2, q3⟩, hB⟩ hK
    have HN := Lib.hid (on_none hne)
    have hcr := q3.cell
    have hfr := q3.frozen
    clear hne q0 q2
    gi_wp2
    have hK' := (KeepsOthers.setCell W ⟨w.heap.size + 3, 0, none⟩ (.bool false)).same D _ hK rfl
    refine ⟨by simp, .inl ⟨_, _, rfl, run_takeDeferred hK', ?_⟩⟩
    have hc5 := cell_kept (World.cell?_setCell_same' W ⟨w.heap.size + 3, 0, none⟩ (.bool false) (by rw [hcr]; rfl)) (grownBy_putObj' _ D (.deferred none)) (fun r e => by cases e; exact ⟨_, hK', rfl⟩)
    refine ⟨.bool false, ?_, by rw [HN.out], (hB.setCell (p := ⟨w.heap.size + 3, 0, none⟩) (by simp) _).trans (belowK_b (w := w) (Nat.le_refl _) _ D _ _ (by omega) hK' rfl rfl)⟩
    simp [results, Tryd.f61, go_sem, hc5]
  case stop =>
    rintro D c pre W hD hpre ⟨⟨rfl, ini, last, e1, e3, hcr⟩, hB⟩ hK
    obtain ⟨rest, hrest⟩ := hpre
    have HN := Lib.hid (on_found (k := k) (pre := ini) (rest := rest) (y := last) (by rw [← hrest, e1]) e3)
    gi_wp2
    refine ⟨by simp, .inl ⟨_, _, rfl, run_takeDeferred hK, ?_⟩⟩
    have hc5 := cell_kept hcr (grownBy_putObj' _ D (.deferred none)) (fun r e => by cases e; exact ⟨_, hK, rfl⟩)
    refine ⟨.bool true, ?_, by rw [HN.out], hB.trans (belowK_b (w := w) (Nat.le_refl _) W D _ _ (by omega) hK rfl rfl)⟩
    simp [results, Tryd.f61, go_sem, hc5]
end Go.Proofs.YtppjogkednclcaaDoor

/- The program's domainOf and funTypeOf. -/
namespace Go.Proofs.YtppjogkednclcaaDoor
open Go.RowKit Go.Deep Go.Shelf

theorem upB_grid {rows : Rows2} (h : Ok rows) {a b : Nat} (ha : a < rows.length) : (gridF rows a).testBit b = upB rows a b := (h.up ha b).symm
theorem mono_grid {rows rows' : Rows2} (h : Ok rows) (h' : Ok rows') (f : List Int) : monoI rows rows' f = true ↔ MonoG (gridF rows) (gridF rows') rows.length rows'.length f := by
  classical
  unfold monoI
  rw [decide_eq_true_iff]
  have e : ∀ x ∈ f, outN rows'.length x = false ↔ (0 ≤ x ∧ x < rows'.length) := fun x _ => by
    unfold outN
    rw [Bool.or_eq_false_iff, decide_eq_false_iff_not, decide_eq_false_iff_not]
    omega
  constructor
  · rintro ⟨h1, h2, h3⟩
    refine ⟨h1, fun x hx => (e x hx).2 (h2 x hx), fun a b ha hb hab => ?_⟩
    rw [upB_grid h ha] at hab
    have h4 := h3 a b ha hb hab
    have hfa := h2 _ (getD_lt 0 (h1 ▸ ha) ▸ List.getElem_mem (h1 ▸ ha))
    have hfb := h2 _ (getD_lt 0 (h1 ▸ hb) ▸ List.getElem_mem (h1 ▸ hb))
    rw [upB_grid h' (by omega), Int.toNat_of_nonneg hfb.1]
    exact h4
  · rintro ⟨h1, h2, h3⟩
    refine ⟨h1, fun x hx => (e x hx).1 (h2 x hx), fun a b ha hb hab => ?_⟩
    rw [← upB_grid h ha] at hab
    have h4 := h3 a b ha hb hab
    have ma : f.getD a 0 ∈ f := getD_lt 0 (h1 ▸ ha) ▸ List.getElem_mem (h1 ▸ ha)
    have mb : f.getD b 0 ∈ f := getD_lt 0 (h1 ▸ hb) ▸ List.getElem_mem (h1 ▸ hb)
    have hfa := (e _ ma).1 (h2 _ ma)
    have hfb := (e _ mb).1 (h2 _ mb)
    rw [upB_grid h' (by omega), Int.toNat_of_nonneg hfb.1] at h4
    exact h4

/-- What domainOf answers: the grid of a domain, in memory of its own. -/
def DomNo (w : World) (e : Ending) (w' : World) : Prop := e = .returned (.tuple #[.pointer none, .bool false]) ∧ Below w.heap.size w w'
def DomYes (rows : Rows2) (w : World) (e : Ending) (w' : World) : Prop :=
  (∃ p : Nat, e = .returned (.tuple #[.pointer (some ⟨p, 0, none⟩), .bool true]) ∧ w.heap.size ≤ p ∧ GridAt w' p (gridF rows)) ∧ Below w.heap.size w w'

set_option maxRecDepth 100000 in
set_option maxHeartbeats 4000000 in
theorem domainOf_no (v : Value) (rows : Rows2) (w : World) (hv : RowsAt w v rows) (hT : Tab w) (hn : bulk rows ≤ 1048576) (hd : domB rows = false) :
    Calls Tryd.prog 30 #[.agg #[v]] w (DomNo w) := by
  have hH := Held.start w 26 hv
  have hT1 := hT.below ((Below.refl _ w).alloc (Nat.le_refl _) (.cells #[v] 26))
  have hcall := fun t h => gridOf_t v rows _ hH.2.1 hT1 hn (t := t) h
  have hz := (zero_of_info zeroGrid).1
  obtain ⟨A, C, rfl, _⟩ := hv
  have HH := Lib.hid hH
  have HT := Lib.hid hT1
  clear hH hT hT1
  unfold domB at hd
  cases hval : validB rows with
  | false =>
    have hc := hcall false hval
    clear hval hcall hd
    go_enter Tryd.func30, Tryd.ntmps30
    go_wp2_with (first | (go_at_call 54; refine hc.mono ?_; clear hc; rintro e w1 ⟨⟨g, hg, rfl⟩, hb1⟩; have HG := Lib.hid hg; have H1 := Lib.hid (HH.out.below hb1); clear hg hb1) | (refine wpList_store_row rfl 58 (.tmp 4) (.tmp 9) rfl w1.heap.size (gridCells g) rfl rfl 58 (gridCells fun _ => 0) (store_new w1).1 (by rw [gridCells_size]; exact sizeGrid) (by rw [gridCells_size, gridCells_size]) (gridCells_one _) ?_))
    go_ret2
    exact ⟨rfl, (H1.out.below (newGrid_below g w1)).2.2.1⟩
  | true =>
    have hok := ok_of_valid hval
    have hc := hcall true hval
    have hde := isDomF_eq hok
    rw [hval, Bool.true_and, ← hde] at hd
    have HEL := Lib.hid (fun i (_ : i < rows.length) k (hk : k ∈ elems (gridF rows i)) => hok.lt200 ((mem_elems (hok.lt i)).1 hk))
    have HN := Lib.hid hok.gridN
    clear hval hcall hde hok
    go_enter Tryd.func30, Tryd.ntmps30
    go_wp2_with (first | (go_at_call 54; refine hc.mono ?_; clear hc; rintro e w1 ⟨⟨g, hg, rfl⟩, hb1⟩; obtain ⟨hg1, hg2⟩ := hg; obtain rfl := hg2 rfl; clear hg2; have HG := Lib.hid hg1; have H1 := Lib.hid (HH.out.below hb1); have T1 := Lib.hid (HT.out.below hb1); clear hg1 hb1; have H2 := Lib.hid (H1.out.below (newGrid_below (gridF rows) w1)); have T2 := Lib.hid (T1.out.below (newGrid_below (gridF rows) w1)); have G2 := Lib.hid (newGrid_at HG.out w1)) | (refine wpList_store_row rfl 58 (.tmp 4) (.tmp 9) rfl w1.heap.size (gridCells (gridF rows)) rfl rfl 58 (gridCells fun _ => 0) (store_new w1).1 (by rw [gridCells_size]; exact sizeGrid) (by rw [gridCells_size, gridCells_size]) (gridCells_one _) ?_) | (go_at_call 55; have hcd := isDomain_any w1.heap.size rows.length (gridF rows) _ G2.out T2.out HN.out HEL.out; rw [hd] at hcd; refine hcd.mono ?_; clear hcd; rintro e w3 ⟨rfl, hb3⟩; have H3 := Lib.hid (H2.out.below hb3); clear hb3))
    go_ret2
    exact ⟨rfl, H3.out.2.2.1⟩

set_option maxRecDepth 100000 in
set_option maxHeartbeats 4000000 in
theorem domainOf_yes (v : Value) (rows : Rows2) (w : World) (hv : RowsAt w v rows) (hT : Tab w) (hn : bulk rows ≤ 1048576) (hd : domB rows = true) :
    Calls Tryd.prog 30 #[.agg #[v]] w (DomYes rows w) := by
  have hH := Held.start w 26 hv
  have hT1 := hT.below ((Below.refl _ w).alloc (Nat.le_refl _) (.cells #[v] 26))
  have hcall := fun t h => gridOf_t v rows _ hH.2.1 hT1 hn (t := t) h
  have hz := (zero_of_info zeroGrid).1
  obtain ⟨A, C, rfl, _⟩ := hv
  have HH := Lib.hid hH
  have HT := Lib.hid hT1
  clear hH hT hT1
  unfold domB at hd
  rw [Bool.and_eq_true] at hd
  obtain ⟨hval, hd⟩ := hd
  have hok := ok_of_valid hval
  have hc := hcall true hval
  have hde := isDomF_eq hok
  rw [← hde] at hd
  have HEL := Lib.hid (fun i (_ : i < rows.length) k (hk : k ∈ elems (gridF rows i)) => hok.lt200 ((mem_elems (hok.lt i)).1 hk))
  have HN := Lib.hid hok.gridN
  clear hval hcall hde hok
  go_enter Tryd.func30, Tryd.ntmps30
  go_wp2_with (first | (go_at_call 54; refine hc.mono ?_; clear hc; rintro e w1 ⟨⟨g, hg, rfl⟩, hb1⟩; obtain ⟨hg1, hg2⟩ := hg; obtain rfl := hg2 rfl; clear hg2; have HG := Lib.hid hg1; have H1 := Lib.hid (HH.out.below hb1); have T1 := Lib.hid (HT.out.below hb1); clear hg1 hb1; have H2 := Lib.hid (H1.out.below (newGrid_below (gridF rows) w1)); have T2 := Lib.hid (T1.out.below (newGrid_below (gridF rows) w1)); have G2 := Lib.hid (newGrid_at HG.out w1)) | (refine wpList_store_row rfl 58 (.tmp 4) (.tmp 9) rfl w1.heap.size (gridCells (gridF rows)) rfl rfl 58 (gridCells fun _ => 0) (store_new w1).1 (by rw [gridCells_size]; exact sizeGrid) (by rw [gridCells_size, gridCells_size]) (gridCells_one _) ?_) | (go_at_call 55; have hcd := isDomain_any w1.heap.size rows.length (gridF rows) _ G2.out T2.out HN.out HEL.out; rw [hd] at hcd; refine hcd.mono ?_; clear hcd; rintro e w3 ⟨rfl, hb3⟩; have H3 := Lib.hid (H2.out.below hb3); have G3 := Lib.hid (G2.out.below hb3 G2.out.lt); clear hb3))
  go_ret2
  exact ⟨⟨w1.heap.size, rfl, H1.out.2.2.1.size, G3.out⟩, H3.out.2.2.1⟩
end Go.Proofs.YtppjogkednclcaaDoor

/- The program's look for the starts of a function (fun.starts). -/
namespace Go.Proofs.YtppjogkednclcaaDoor
open Go.RowKit Go.Deep Go.Shelf

/-- A variable of two cells, the first new block of a call. -/
structure Bx (w : World) (a b : Value) (W : World) : Prop where
  c0 : W.cell? ⟨w.heap.size, 0, none⟩ = some a
  c1 : W.cell? ⟨w.heap.size, 1, none⟩ = some b
  below : Below w.heap.size w W
theorem Bx.lt {w : World} {a b : Value} {W : World} (h : Bx w a b W) : w.heap.size + 1 ≤ W.heap.size := cell_lt h.c0
theorem Bx.far {w : World} {a b : Value} {W W' : World} (h : Bx w a b W) (hb : Below (w.heap.size + 1) W W') : Bx w a b W' :=
  ⟨(hb.cell (p := ⟨w.heap.size, 0, none⟩) (Nat.lt_succ_self _)).trans h.c0, (hb.cell (p := ⟨w.heap.size, 1, none⟩) (Nat.lt_succ_self _)).trans h.c1, h.below.trans (hb.mono (Nat.le_succ _))⟩
theorem Bx.step {w : World} {a b : Value} {W W' : World} (h : Bx w a b W) (hb : Below W.heap.size W W') : Bx w a b W' := h.far (hb.mono h.lt)
theorem Bx.start (w : World) (a b : Value) (t : TypeId) : Bx w a b (w.alloc (.cells #[a, b] t)) :=
  ⟨by rw [cell_of_row _ w.heap.size 0 _ _ _ (heap_alloc_new _ _)]; rfl, by rw [cell_of_row _ w.heap.size 1 _ _ _ (heap_alloc_new _ _)]; rfl, (Below.refl _ w).alloc (Nat.le_refl _) _⟩

/-- A store of a whole array into a variable, as one step of a region that draws. -/
theorem step_store_row {P : Program} {ops : Array Oper} {o : Oper} {a : Act} {w : World} {K : Act → World → Prop} {Q : Exit → Act → World → Prop} {E : Prop} (hgd : o.guard = none) (ty : TypeId) (x y : Operand) (ho : o.op = .store ty x y)
    (g : Nat) (cells : Array Value) (hx : a.eval x = .pointer (some ⟨g, 0, none⟩)) (hy : a.eval y = .agg cells)
    (t : TypeId) (old : Array Value) (hg : w.heap[g]? = some (.cells old t (0, 0))) (hi : (P.info? ty).map (·.size) = some cells.size)
    (hold : old.size = cells.size) (h1 : cells.all (·.oneCell') = true)
    (h : K (a.put o.dst undef) (w.setRow g cells)) : if Region.wanted o (yielded ops a.tmps) = true then Oper.wp P o a w K Q else E := by
  have hw : Region.wanted o (yielded ops a.tmps) = true := by simp [Region.wanted, hgd]
  rw [if_pos hw]
  exact wp_store_row ty x y ho g cells hx hy t old hg hi hold h1 h

theorem starts_eq {rows : Rows2} (h : Ok rows) {f : List Int} (hf : f.length = rows.length) {le : Int} {i : Nat} (hi : i < f.length) :
    startT rows f le i f.length = (!(f[i] == le) && !onB f (diff (gridF (backRows rows) i) (2 ^ i)) f[i]) := by
  unfold startT
  rw [getD_lt 0 hi]
  congr 1
  have hbit : ∀ k, (diff (gridF (backRows rows) i) (2 ^ i)).testBit k = ((gridF rows k).testBit i && !decide (i = k)) := fun k => by
    rw [testBit_diff, back_bit h, Nat.testBit_two_pow]
  have hlt : diff (gridF (backRows rows) i) (2 ^ i) < 2 ^ 256 := diff_lt _ (h.back.lt i)
  rw [Bool.eq_iff_iff, List.all_eq_true, Bool.not_eq_true', ← Bool.not_eq_true]
  unfold onB
  rw [List.any_eq_true]
  constructor
  · rintro hall ⟨k, hk, he⟩
    rw [mem_elems hlt, hbit, Bool.and_eq_true, Bool.not_eq_true', decide_eq_false_iff_not] at hk
    have hkl := (h.bit_lt hk.1).1
    have hp := hall k (List.mem_range.2 (by omega))
    unfold startP at hp
    rw [h.up hkl, hk.1, getD_lt 0 hi, he, show (k == i) = false by rw [beq_eq_false_iff_ne]; omega] at hp
    cases hp
  · intro hno k hk
    rw [List.mem_range] at hk
    unfold startP
    by_cases e : k = i
    · rw [show (k == i) = true by rw [beq_iff_eq]; exact e]; rfl
    · cases hu : upB rows k (i : Int) with
      | false => simp
      | true =>
        cases hq : (f.getD k 0 == f.getD i 0) with
        | false => simp
        | true =>
          exfalso
          rw [h.up (by omega)] at hu
          rw [getD_lt 0 hi] at hq
          exact hno ⟨k, (mem_elems hlt).2 (by rw [hbit, hu, decide_eq_false (fun e2 => e e2.symm)]; rfl), hq⟩

set_option maxRecDepth 100000 in
set_option maxHeartbeats 8000000 in
theorem starts_any (vf : Value) (f : List Int) (p p' : Nat) (rows rows' : Rows2) (w : World) (hf : IntsAt w vf f) (hg : GridAt w p (gridF rows)) (hg' : GridAt w p' (gridF rows')) (hT : Tab w) (hok : Ok rows) (hok' : Ok rows') (hfl : f.length = rows.length) :
    Calls Tryd.prog 41 #[vf, .agg #[.pointer (some ⟨p, 0, none⟩), .pointer (some ⟨p', 0, none⟩)]] w (OwnQ (startsN rows rows' f f.length) w) := by
  have hE := Bx.start w (.pointer (some ⟨p, 0, none⟩)) (.pointer (some ⟨p', 0, none⟩)) 69
  have HLE := Lib.hid (fun W (h : Bx w (.pointer (some ⟨p, 0, none⟩)) (.pointer (some ⟨p', 0, none⟩)) W) => (show Calls Tryd.prog 60 #[.pointer (some ⟨p', 0, none⟩)] W (SaysI (leastI rows') W) by
    rw [least_eq hok']
    exact least_any p' rows'.length (gridF rows') W (hg'.below h.below hg'.lt) (hT.below h.below) hok'.gridN))
  have HBK := Lib.hid (fun W (h : Bx w (.pointer (some ⟨p, 0, none⟩)) (.pointer (some ⟨p', 0, none⟩)) W) => (show Calls Tryd.prog 32 #[.pointer (some ⟨p, 0, none⟩)] W (SaysG (gridF (backRows rows)) W) by
    rw [← backN_rows hok]
    exact back_any p rows.length (gridF rows) W (hg.below h.below hg.lt) (hT.below h.below) hok.gridN (fun i _ k hk => hok.lt200 ((mem_elems (hok.lt i)).1 hk))))
  have hz := (zero_of_info zeroGrid).1
  have HLT := Lib.hid hok.back.lt
  have HFA := Lib.hid (fun W (h : Below w.heap.size w W) => hf.below h)
  have HTA := Lib.hid (fun W (h : Below w.heap.size w W) => hT.below h)
  have HEQ := Lib.hid (fun i (hi : i < f.length) => starts_eq (le := leastI rows') hok hfl hi)
  have HEL := Lib.hid (fun (i : Nat) (_ : i < f.length) j (hj : j ∈ elems (diff (gridF (backRows rows) i) (2 ^ i))) => (show j < f.length by
    rw [mem_elems (diff_lt _ (hok.back.lt i)), testBit_diff, Bool.and_eq_true] at hj
    have := (hok.back.bit_lt hj.1).2
    rw [backRows_len] at this
    omega))
  have hn200 : f.length ≤ 200 := by rw [hfl]; exact hok.len.2
  obtain ⟨Af, Cf, rfl, hCf, hmf, _⟩ := hf
  unfold maxLen at hmf
  obtain ⟨i0, hi0, hz0, hz1, hz2⟩ := info_parts infoInt
  generalize hle : leastI rows' = le at HLE HEQ
  have HLQ := Lib.hid hle
  obtain ⟨WB, hWB⟩ : ∃ WB, WB = w.alloc (.cells #[.pointer (some ⟨p, 0, none⟩), .pointer (some ⟨p', 0, none⟩)] 69) := ⟨_, rfl⟩
  rw [← hWB] at hE
  have HE := Lib.hid hE
  clear hE hg hg' hT hok hok' hfl hle
  go_enter Tryd.func41, Tryd.ntmps41
  go_upto_region 1 with fail
  rw [← hWB]
  clear hWB
  go_cut [5, 6] (fun lv pv wx => ∃ G, lv = .int .i64 le ∧ pv = .pointer (some ⟨G, 0, none⟩) ∧ w.heap.size + 1 ≤ G ∧ GridAt wx G (gridF (backRows rows)) ∧ Bx w (.pointer (some ⟨p, 0, none⟩)) (.pointer (some ⟨p', 0, none⟩)) wx)
  case first =>
    refine wp_region_held_drew (S := fun W' : World => W'.cell? ⟨w.heap.size, 0, none⟩ = some (.pointer (some ⟨p, 0, none⟩)) ∧ W'.cell? ⟨w.heap.size, 1, none⟩ = some (.pointer (some ⟨p', 0, none⟩))) (by kernel_rfl) ⟨HE.out.c0, HE.out.c1⟩ (fun hHeld => ?_)
    have E0 := Lib.hid (HE.out.step (below_drew WB _))
    generalize WB.drew = W0 at E0 hHeld ⊢
    refine wpAnyH_take (i := 0) (v := .pointer (some ⟨w.heap.size, 1, none⟩)) rfl (by kernel_rfl) (by kernel_rfl) (by kernel_rfl) (fun _ _ _ h => h) (Or.inl ⟨by rfl, ?_⟩) (by assumption) ?_
    · (intro W hSw; obtain ⟨hS0, hS1⟩ := hSw; go_simp)
    try dsimp only [Act.put]
    refine wpAnyH_take (i := 1) (v := .pointer (some ⟨p', 0, none⟩)) rfl (by kernel_rfl) (by kernel_rfl) (by kernel_rfl) (fun _ _ _ h => h) (Or.inl ⟨by rfl, ?_⟩) (by assumption) ?_
    · (intro W hSw; obtain ⟨hS0, hS1⟩ := hSw; go_simp)
    try dsimp only [Act.put]
    refine wpAnyH_take (i := 3) (v := .pointer (some ⟨w.heap.size, 0, none⟩)) rfl (by kernel_rfl) (by kernel_rfl) (by kernel_rfl) (fun _ _ _ h => h) (Or.inl ⟨by rfl, ?_⟩) (by assumption) ?_
    · (intro W hSw; obtain ⟨hS0, hS1⟩ := hSw; go_simp)
    try dsimp only [Act.put]
    refine wpAnyH_take (i := 4) (v := .pointer (some ⟨p, 0, none⟩)) rfl (by kernel_rfl) (by kernel_rfl) (by kernel_rfl) (fun _ _ _ h => h) (Or.inl ⟨by rfl, ?_⟩) (by assumption) ?_
    · (intro W hSw; obtain ⟨hS0, hS1⟩ := hSw; go_simp)
    try dsimp only [Act.put]
    refine wpAnyH_ready (rs := [2, 6]) (by kernel_rfl) (by simp) ?_
    refine AllReadyH.cons rfl (fun K hK => ?_) ?_
    · go_simp
      refine (HLE.out _ E0.out).mono ?_
      rintro e w1 ⟨rfl, hb⟩
      have E1 := Lib.hid (E0.out.step hb)
      clear hb
      go_wp2_with fail
      refine hK.out _ _ (⟨E1.out.c0, E1.out.c1⟩) (fun hHeld => ?_)
      clear hK K
      try dsimp only [Act.put]
      refine wpAnyH_ready (rs := [5, 6]) (by kernel_rfl) (by simp) ?_
      refine AllReadyH.cons rfl (fun K hK => ?_) ?_
      · go_simp
        refine (HBK.out _ E1.out).mono ?_
        rintro e w2 ⟨rfl, hb⟩
        have E2 := Lib.hid (E1.out.step hb)
        clear hb
        obtain ⟨V, hV⟩ : ∃ V, V = Value.agg (gridCells (gridF (backRows rows))) := ⟨_, rfl⟩
        rw [← hV]
        have HV := Lib.hid hV
        clear hV
        go_wp2_with fail
        refine hK.out _ _ (⟨E2.out.c0, E2.out.c1⟩) (fun hHeld => ?_)
        clear hK K
        try dsimp only [Act.put]
        refine wpAnyH_ready (rs := [6]) (by kernel_rfl) (by simp) ?_
        refine AllReadyH.cons rfl (fun K hK => ?_) ?_
        · go_simp
          have hb := (Below.refl w2.heap.size w2).alloc (Nat.le_refl _) (.cells (gridCells fun _ => 0) 58)
          have E3 := Lib.hid (E2.out.step hb)
          clear hb
          have Z3 := Lib.hid (store_new w2)
          have HG3 := Lib.hid (show w.heap.size + 1 ≤ w2.heap.size from E2.out.lt)
          generalize hwq3 : w2.heap.size = G at Z3 HG3 ⊢
          generalize (w2.alloc (.cells (gridCells fun _ => 0) 58)) = w3 at E3 Z3 ⊢
          clear hwq3
          refine hK.out _ _ (⟨E3.out.c0, E3.out.c1⟩) (fun hHeld => ?_)
          clear hK K
          try dsimp only [Act.put]
          refine wpAnyH_ready (rs := [7]) (by kernel_rfl) (by simp) ?_
          refine AllReadyH.cons rfl (fun K hK => ?_) ?_
          · go_simp
            refine hK.out _ _ (by assumption) (fun hHeld => ?_)
            clear hK K
            try dsimp only [Act.put]
            refine wpAnyH_ready (rs := [8]) (by kernel_rfl) (by simp) ?_
            refine AllReadyH.cons (o := { dst := none, op := .store 58 (.tmp 6) (.tmp 15), type := _, pos := _, after := _, guard := none }) rfl (fun K hK => ?_) ?_
            · refine step_store_row rfl 58 (.tmp 6) (.tmp 15) rfl G (gridCells (gridF (backRows rows))) rfl HV.out 58 (gridCells fun _ => 0) Z3.out.1 (by rw [gridCells_size]; exact sizeGrid) (by rw [gridCells_size, gridCells_size]) (gridCells_one _) ?_
              have EF := Lib.hid (E3.out.far (below_setRow' (Below.refl (w.heap.size + 1) w3) HG3.out (gridCells (gridF (backRows rows)))))
              have ZF := Lib.hid (GridAt.setRow Z3.out HLT.out)
              refine hK.out _ _ (⟨EF.out.c0, EF.out.c1⟩) (fun hHeld => ?_)
              clear hK K
              try dsimp only [Act.put]
              refine wpAnyH_done (by kernel_rfl) ?_ _
              go_wp2_with fail
              go_meet
              exact ⟨G, rfl, rfl, HG3.out, ZF.out, EF.out⟩
            exact AllReadyH.nil
          exact AllReadyH.nil
        exact AllReadyH.nil
      refine AllReadyH.cons rfl (fun K hK => ?_) ?_
      · go_simp
        have hb := (Below.refl w1.heap.size w1).alloc (Nat.le_refl _) (.cells (gridCells fun _ => 0) 58)
        have E2 := Lib.hid (E1.out.step hb)
        clear hb
        have Z2 := Lib.hid (store_new w1)
        have HG2 := Lib.hid (show w.heap.size + 1 ≤ w1.heap.size from E1.out.lt)
        generalize hwq2 : w1.heap.size = G at Z2 HG2 ⊢
        generalize (w1.alloc (.cells (gridCells fun _ => 0) 58)) = w2 at E2 Z2 ⊢
        clear hwq2
        refine hK.out _ _ (⟨E2.out.c0, E2.out.c1⟩) (fun hHeld => ?_)
        clear hK K
        try dsimp only [Act.put]
        refine wpAnyH_ready (rs := [5]) (by kernel_rfl) (by simp) ?_
        refine AllReadyH.cons rfl (fun K hK => ?_) ?_
        · go_simp
          refine (HBK.out _ E2.out).mono ?_
          rintro e w3 ⟨rfl, hb⟩
          have E3 := Lib.hid (E2.out.step hb)
          have Z3 := Lib.hid (Z2.out.below hb Z2.out.lt)
          clear hb
          obtain ⟨V, hV⟩ : ∃ V, V = Value.agg (gridCells (gridF (backRows rows))) := ⟨_, rfl⟩
          rw [← hV]
          have HV := Lib.hid hV
          clear hV
          go_wp2_with fail
          refine hK.out _ _ (⟨E3.out.c0, E3.out.c1⟩) (fun hHeld => ?_)
          clear hK K
          try dsimp only [Act.put]
          refine wpAnyH_ready (rs := [7]) (by kernel_rfl) (by simp) ?_
          refine AllReadyH.cons rfl (fun K hK => ?_) ?_
          · go_simp
            refine hK.out _ _ (by assumption) (fun hHeld => ?_)
            clear hK K
            try dsimp only [Act.put]
            refine wpAnyH_ready (rs := [8]) (by kernel_rfl) (by simp) ?_
            refine AllReadyH.cons (o := { dst := none, op := .store 58 (.tmp 6) (.tmp 15), type := _, pos := _, after := _, guard := none }) rfl (fun K hK => ?_) ?_
            · refine step_store_row rfl 58 (.tmp 6) (.tmp 15) rfl G (gridCells (gridF (backRows rows))) rfl HV.out 58 (gridCells fun _ => 0) Z3.out.1 (by rw [gridCells_size]; exact sizeGrid) (by rw [gridCells_size, gridCells_size]) (gridCells_one _) ?_
              have EF := Lib.hid (E3.out.far (below_setRow' (Below.refl (w.heap.size + 1) w3) HG2.out (gridCells (gridF (backRows rows)))))
              have ZF := Lib.hid (GridAt.setRow Z3.out HLT.out)
              refine hK.out _ _ (⟨EF.out.c0, EF.out.c1⟩) (fun hHeld => ?_)
              clear hK K
              try dsimp only [Act.put]
              refine wpAnyH_done (by kernel_rfl) ?_ _
              go_wp2_with fail
              go_meet
              exact ⟨G, rfl, rfl, HG2.out, ZF.out, EF.out⟩
            exact AllReadyH.nil
          exact AllReadyH.nil
        exact AllReadyH.nil
      exact AllReadyH.nil
    refine AllReadyH.cons rfl (fun K hK => ?_) ?_
    · go_simp
      have hb := (Below.refl W0.heap.size W0).alloc (Nat.le_refl _) (.cells (gridCells fun _ => 0) 58)
      have E1 := Lib.hid (E0.out.step hb)
      clear hb
      have Z1 := Lib.hid (store_new W0)
      have HG1 := Lib.hid (show w.heap.size + 1 ≤ W0.heap.size from E0.out.lt)
      generalize hwq1 : W0.heap.size = G at Z1 HG1 ⊢
      generalize (W0.alloc (.cells (gridCells fun _ => 0) 58)) = w1 at E1 Z1 ⊢
      clear hwq1
      refine hK.out _ _ (⟨E1.out.c0, E1.out.c1⟩) (fun hHeld => ?_)
      clear hK K
      try dsimp only [Act.put]
      refine wpAnyH_ready (rs := [2]) (by kernel_rfl) (by simp) ?_
      refine AllReadyH.cons rfl (fun K hK => ?_) ?_
      · go_simp
        refine (HLE.out _ E1.out).mono ?_
        rintro e w2 ⟨rfl, hb⟩
        have E2 := Lib.hid (E1.out.step hb)
        have Z2 := Lib.hid (Z1.out.below hb Z1.out.lt)
        clear hb
        go_wp2_with fail
        refine hK.out _ _ (⟨E2.out.c0, E2.out.c1⟩) (fun hHeld => ?_)
        clear hK K
        try dsimp only [Act.put]
        refine wpAnyH_ready (rs := [5]) (by kernel_rfl) (by simp) ?_
        refine AllReadyH.cons rfl (fun K hK => ?_) ?_
        · go_simp
          refine (HBK.out _ E2.out).mono ?_
          rintro e w3 ⟨rfl, hb⟩
          have E3 := Lib.hid (E2.out.step hb)
          have Z3 := Lib.hid (Z2.out.below hb Z2.out.lt)
          clear hb
          obtain ⟨V, hV⟩ : ∃ V, V = Value.agg (gridCells (gridF (backRows rows))) := ⟨_, rfl⟩
          rw [← hV]
          have HV := Lib.hid hV
          clear hV
          go_wp2_with fail
          refine hK.out _ _ (⟨E3.out.c0, E3.out.c1⟩) (fun hHeld => ?_)
          clear hK K
          try dsimp only [Act.put]
          refine wpAnyH_ready (rs := [7]) (by kernel_rfl) (by simp) ?_
          refine AllReadyH.cons rfl (fun K hK => ?_) ?_
          · go_simp
            refine hK.out _ _ (by assumption) (fun hHeld => ?_)
            clear hK K
            try dsimp only [Act.put]
            refine wpAnyH_ready (rs := [8]) (by kernel_rfl) (by simp) ?_
            refine AllReadyH.cons (o := { dst := none, op := .store 58 (.tmp 6) (.tmp 15), type := _, pos := _, after := _, guard := none }) rfl (fun K hK => ?_) ?_
            · refine step_store_row rfl 58 (.tmp 6) (.tmp 15) rfl G (gridCells (gridF (backRows rows))) rfl HV.out 58 (gridCells fun _ => 0) Z3.out.1 (by rw [gridCells_size]; exact sizeGrid) (by rw [gridCells_size, gridCells_size]) (gridCells_one _) ?_
              have EF := Lib.hid (E3.out.far (below_setRow' (Below.refl (w.heap.size + 1) w3) HG1.out (gridCells (gridF (backRows rows)))))
              have ZF := Lib.hid (GridAt.setRow Z3.out HLT.out)
              refine hK.out _ _ (⟨EF.out.c0, EF.out.c1⟩) (fun hHeld => ?_)
              clear hK K
              try dsimp only [Act.put]
              refine wpAnyH_done (by kernel_rfl) ?_ _
              go_wp2_with fail
              go_meet
              exact ⟨G, rfl, rfl, HG1.out, ZF.out, EF.out⟩
            exact AllReadyH.nil
          exact AllReadyH.nil
        exact AllReadyH.nil
      exact AllReadyH.nil
    exact AllReadyH.nil
  obtain ⟨G, rfl, rfl, hGw, hgr, hbx⟩ := hcut
  have HGR := Lib.hid hgr
  have HBX := Lib.hid hbx
  clear hgr hbx hGw
  go_wp2
  go_loopw [7, 8, 9, 18] (fun ov _ _ kv wr => ∃ k : Nat, k ≤ f.length ∧ kv = .int .i64 k ∧ wr.ownsRow wc.heap.size 3 1 ov (startsN rows rows' f k).length (cellsI (startsN rows rows' f k)) ∧ Below wc.heap.size wc wr) (fun _ _ _ kv _ => f.length - (intOf kv).toNat)
  case atStart => exact ⟨0, Nat.zero_le _, rfl, World.ownsRow_nil _ _ _ _, Below.refl _ _⟩
  case round =>
    obtain ⟨i, hi, rfl, hown, hB⟩ := hrel
    have HOWN := Lib.hid hown
    have HB := Lib.hid hB
    have hcl := startsN_le rows rows' f i
    have hBw := HBX.out.below.trans (HB.out.mono HBX.out.below.size)
    have HBW := Lib.hid hBw
    clear hown hB hBw
    by_cases hlt : i < f.length
    · have hltz : (i : Int) < (f.length : Int) := by omega
      obtain ⟨bf, o_f, rfl, hcf⟩ := (HFA.out wr HBW.out).get hlt
      have heq := HEQ.out i hlt
      have HS := Lib.hid (startsN_succ rows rows' f i)
      rw [HLQ.out] at HS
      obtain ⟨s0, hs0⟩ : ∃ s0 : Bool, (f[i] == le) = s0 := ⟨_, rfl⟩
      rw [hs0] at heq
      have hs1 : (f[i] != le) = !s0 := by unfold bne; rw [hs0]
      have hin0 : (0 : Int) ≤ (i : Int) := by omega
      have hin1 : (i : Int) < 200 := by omega
      obtain ⟨c0, c1, c2, c3⟩ := (HGR.out.below HB.out HGR.out.lt).row i (by omega)
      have hk0 := fun d os => cell_regrown c0 d os
      have hk1 := fun d os => cell_regrown c1 d os
      have hk2 := fun d os => cell_regrown c2 d os
      have hk3 := fun d os => cell_regrown c3 d os
      have hxR := fun d os => Calls.regrown_of (w := wr) (d := d) (os := os) (rowOf_any (i : Int) i _ rfl (by omega))
      have hxW := fun d os => Calls.regrown_of (w := wr) (d := d) (os := os) (without_any (gridF (backRows rows) i) (2 ^ i) _)
      have hxH := fun d os => Calls.regrown_of (w := wr) (d := d) (os := os) (hasOn_any (.slice (some ⟨bf, o_f, none⟩) f.length Cf) f (diff (gridF (backRows rows) i) (2 ^ i)) f[i] _ (HFA.out _ (HBW.out.trans ((below_regrown wr d os).mono HBW.out.size))) (HTA.out _ (HBW.out.trans ((below_regrown wr d os).mono HBW.out.size))) (diff_lt _ (HLT.out i)) (HEL.out i hlt))
      clear c0 c1 c2 c3
      cases s0 with
      | true =>
        have HN := Lib.hid (show startsN rows rows' f (i + 1) = startsN rows rows' f i by rw [HS.out, heq]; rfl)
        clear heq hs0
        go_upto_region 6 with fail
        refine wp_region_quiet_below (by kernel_rfl) (by kernel_rfl) ?_
        repeat (go_big_quiet_step (first | (go_at_call 63; exact hxR _ _) | (go_at_call 62; exact hxW _ _) | (go_at_call 61; exact hxH _ _)))
        refine wpQuiet_nil ?_
        intro _ hw'
        obtain ⟨⟨dq, osq⟩, hw''⟩ := hw'
        subst hw''
        clear hxR hxW hxH hk0 hk1 hk2 hk3
        have HBQ := Lib.hid (HB.out.trans ((below_regrown wr dq osq).mono HB.out.size))
        have HOQ := Lib.hid (owns_below HOWN.out (below_regrown wr dq osq))
        go_wp2
        go_roundw
        case rel => exact ⟨i + 1, by omega, by go_num, by rw [HN.out]; exact HOQ.out, HBQ.out⟩
        case measure => simp [intOf]; omega
      | false =>
        obtain ⟨t, ht⟩ : ∃ t, onB f (diff (gridF (backRows rows) i) (2 ^ i)) f[i] = t := ⟨_, rfl⟩
        rw [ht] at heq
        simp only [ht] at hxH
        have HT := Lib.hid ht
        clear hs0 ht
        cases t with
        | true =>
        have HN := Lib.hid (show startsN rows rows' f (i + 1) = startsN rows rows' f i by rw [HS.out, heq]; rfl)
        clear heq
        go_upto_region 6 with fail
        refine wp_region_quiet_below (by kernel_rfl) (by kernel_rfl) ?_
        repeat (go_big_quiet_step (first | (go_at_call 63; exact hxR _ _) | (go_at_call 62; exact hxW _ _) | (go_at_call 61; exact hxH _ _)))
        refine wpQuiet_nil ?_
        intro _ hw'
        obtain ⟨⟨dq, osq⟩, hw''⟩ := hw'
        subst hw''
        clear hxR hxW hxH hk0 hk1 hk2 hk3
        have HBQ := Lib.hid (HB.out.trans ((below_regrown wr dq osq).mono HB.out.size))
        have HOQ := Lib.hid (owns_below HOWN.out (below_regrown wr dq osq))
        go_wp2
        go_roundw
        case rel => exact ⟨i + 1, by omega, by go_num, by rw [HN.out]; exact HOQ.out, HBQ.out⟩
        case measure => simp [intOf]; omega
        | false =>
        have HN := Lib.hid (show startsN rows rows' f (i + 1) = startsN rows rows' f i ++ [(i : Int)] by rw [HS.out, heq]; rfl)
        clear heq
        go_upto_region 6 with fail
        refine wp_region_quiet_below (by kernel_rfl) (by kernel_rfl) ?_
        repeat (go_big_quiet_step (first | (go_at_call 63; exact hxR _ _) | (go_at_call 62; exact hxW _ _) | (go_at_call 61; exact hxH _ _)))
        refine wpQuiet_nil ?_
        intro _ hw'
        obtain ⟨⟨dq, osq⟩, hw''⟩ := hw'
        subst hw''
        clear hxR hxW hxH hk0 hk1 hk2 hk3
        have HBQ := Lib.hid (HB.out.trans ((below_regrown wr dq osq).mono HB.out.size))
        have HOQ := Lib.hid (owns_below HOWN.out (below_regrown wr dq osq))
        have hbz := HBQ.out.size
        generalize «Sort».grow (redrawn wr dq) osq = wq at HBQ HOQ hbz ⊢
        go_wp2_with (at_builtin; refine wpList_append_own _ rfl _ _ 33 rfl wc.heap.size 3 i0 (.int .i64 0) 1 8 Tryd.underlying33 hi0 hz0 hz1 hz2 rfl (by decide) _ _ _ rfl (HOQ.out.alloc _) ⟨wq.heap.size, 0, none⟩ 1 1 [.int .i64 (i : Int)] rfl rfl (cell_one_new _ _ _) (by simp [Value.oneCell']) (by unfold maxLen; omega) (by omega) (by simp; omega) ?_; intro v' w9 hown' hgrow _)
        go_roundw
        case rel =>
          refine ⟨i + 1, by omega, by go_num, ?_, (HBQ.out.alloc hbz _).grown hgrow (by rw [World.size_alloc]; omega) (fun b e => (HOQ.out.lt b e).1)⟩
          rw [HN.out, List.length_append, show cellsI (startsN rows rows' f i ++ [(i : Int)]) = cellsI (startsN rows rows' f i) ++ [.int .i64 (i : Int)] by simp]
          exact hown'
        case measure => simp [intOf]; omega
    · obtain rfl : i = f.length := by omega
      have hltz : ¬ ((f.length : Int) < (f.length : Int)) := by omega
      go_wp2
      go_ret
      refine ⟨_, rfl, OwnI.of_owns (owns_weaker HOWN.out HBX.out.below.size) (fun y hy => ?_) (fun b hb => (HOWN.out.lt b hb).2), HBW.out⟩
      unfold startsN at hy
      obtain ⟨j, hj, rfl⟩ := List.mem_map.1 hy
      have := List.mem_range.1 (List.mem_filter.1 hj).1
      exact wf_int (by omega) (by omega)
end Go.Proofs.YtppjogkednclcaaDoor

/- The program's lift of a domain, unbuilt: how many elements it has, and what is below what. -/
namespace Go.Proofs.YtppjogkednclcaaDoor
open Go.RowKit Go.Deep Go.Shelf

theorem one_new (W : World) (a : Value) (t : TypeId) : (W.alloc (.cells #[a] t)).cell? ⟨W.heap.size, 0, none⟩ = some a := by
  rw [cell_of_row _ W.heap.size 0 _ _ _ (heap_alloc_new _ _)]; rfl

/-- Is a below b in the lift? -/
def liftB (g : Nat → Nat) (a b : Nat) : Bool := decide (a = 0) || (decide (0 < b) && (g (a - 1)).testBit (b - 1))

end Go.Proofs.YtppjogkednclcaaDoor

/- The number of bits of a word (OnesCount64): some number that is not large; what more it is, nobody asks here. -/
namespace Go.Proofs.YtppjogkednclcaaDoor
open Go.RowKit Go.Deep

/-- A number that is not large, and the same world. -/
def SmallN (m : Nat) (w : World) (e : Ending) (w' : World) : Prop := (∃ c : Nat, c ≤ m ∧ e = .returned (.int .i64 (c : Nat))) ∧ w = w'

theorem and127 (y : Int) : ∃ c : Nat, c ≤ 127 ∧ Ending.returned (.int .i64 (bits BinOp.and IntKind.i64 y 127)) = .returned (.int .i64 (c : Nat)) := by
  have h1 : (BitVec.ofInt 64 (127 : Int)).toNat = 127 := by decide
  have h2 : (BitVec.ofInt 64 y &&& BitVec.ofInt 64 127).toNat = (BitVec.ofInt 64 y).toNat % 128 := by rw [BitVec.toNat_and, h1, nat_mask7]
  have h3 : bits BinOp.and IntKind.i64 y 127 = (((BitVec.ofInt 64 y).toNat % 128 : Nat) : Int) := by
    show IntKind.i64.wrap ((BitVec.ofInt 64 y &&& BitVec.ofInt 64 127).toNat : Int) = _
    rw [h2]
    exact IntWalk.i64_in _ (by omega)
  exact ⟨(BitVec.ofInt 64 y).toNat % 128, by omega, by rw [h3]⟩

set_option maxRecDepth 100000 in
set_option maxHeartbeats 4000000 in
theorem ones_any (x : Nat) (w : World) : Calls Tryd.prog 76 #[.int .u64 x] w (SmallN 127 w) := by
  go_enter Tryd.func76, Tryd.ntmps76
  go_wp2
  go_ret
  exact ⟨and127 _, rfl⟩

/-- A number that is not large; nothing that was there has turned. -/
def SmallB (m : Nat) (w : World) (e : Ending) (w' : World) : Prop := (∃ c : Nat, c ≤ m ∧ e = .returned (.int .i64 (c : Nat))) ∧ Below w.heap.size w w'

set_option maxRecDepth 100000 in
set_option maxHeartbeats 4000000 in
theorem count_any (r : Nat) (w : World) : Calls Tryd.prog 58 #[rowV r] w (SmallB 1000 w) := by
  have i0 := ix0
  have i1 := ix1
  have i2 := ix2
  have i3 := ix3
  have HB : Hid (Below w.heap.size w (w.alloc (.cells #[.int .u64 ((word r 0 : Nat) : Int), .int .u64 ((word r 1 : Nat) : Int), .int .u64 ((word r 2 : Nat) : Int), .int .u64 ((word r 3 : Nat) : Int)] 56))) := Lib.hid ((Below.refl _ w).alloc (Nat.le_refl _) _)
  go_enter Tryd.func58, Tryd.ntmps58
  go_wp2
  refine wp_loop_rounds 5 ?_
  rw [rounds_succ]
  go_wp2_with fail
  refine (ones_any _ _).mono ?_
  rintro e w' ⟨⟨a0, h0, rfl⟩, rfl⟩
  go_wp2
  rw [rounds_succ]
  go_wp2_with fail
  refine (ones_any _ _).mono ?_
  rintro e w' ⟨⟨a1, h1, rfl⟩, rfl⟩
  go_wp2
  rw [rounds_succ]
  go_wp2_with fail
  refine (ones_any _ _).mono ?_
  rintro e w' ⟨⟨a2, h2, rfl⟩, rfl⟩
  go_wp2
  rw [rounds_succ]
  go_wp2_with fail
  refine (ones_any _ _).mono ?_
  rintro e w' ⟨⟨a3, h3, rfl⟩, rfl⟩
  go_wp2
  rw [rounds_succ]
  go_wp2
  go_ret
  exact ⟨⟨a0 + a1 + a2 + a3, by omega, by simp⟩, HB.out⟩
end Go.Proofs.YtppjogkednclcaaDoor

/- The program's list of the elements of a row (row.list), in memory of its own. -/
namespace Go.Proofs.YtppjogkednclcaaDoor
open Go.RowKit Go.Deep Go.Shelf
attribute [local go_sem] Oper.semAt_some

/-- Numbers as integers. -/
def intsOf (l : List Nat) : List Int := l.map fun k : Nat => (k : Int)
theorem intsOf_wf {l : List Nat} (h : ∀ k ∈ l, k ≤ 1048576) : ∀ x ∈ intsOf l, (Lit.int .i64 x).wf = true := by
  intro x hx
  obtain ⟨k, hk, rfl⟩ := List.mem_map.1 hx
  have := h k hk
  have e1 : IntKind.i64.min = -9223372036854775808 := rfl
  have e2 : IntKind.i64.max = 9223372036854775807 := rfl
  simp [Lit.wf, e1, e2]
  omega
theorem elems_lt256 {r k : Nat} (h : k ∈ elems r) : k < 256 := by
  unfold elems at h
  exact List.mem_range.1 (List.mem_filter.1 h).1

/-- The numbers xs, in memory of their own. -/
def ListPost (xs : List Int) (w : World) (e : Ending) (w' : World) : Prop :=
  ∃ v, e = .returned v ∧ OwnI 3 w' v xs w.heap.size w'.heap.size ∧ Below w.heap.size w w'
theorem box_ne : (33 : TypeId) ≠ 3 := by decide

set_option maxRecDepth 100000 in
set_option maxHeartbeats 4000000 in
theorem list_any (r : Nat) (w : World) (hr : r < 2 ^ 256) (hT : Tab w) :
    Calls Tryd.prog 34 #[rowV r] w (ListPost (intsOf (elems r)) w) := by
  have htab : 0 < w.heap.size := cell_lt (hT 0 (by omega))
  obtain ⟨i0, hi, hz0, hz1, hz2⟩ := info_parts infoInt
  have hb1 : Below w.heap.size w (w.alloc (.cells #[.int .u64 ((word r 0 : Nat) : Int), .int .u64 ((word r 1 : Nat) : Int), .int .u64 ((word r 2 : Nat) : Int), .int .u64 ((word r 3 : Nat) : Int)] 56)) := (Below.refl _ w).alloc (Nat.le_refl _) _
  have R1 := Lib.hid (RowIn.alloc w hr)
  have HB1 := Lib.hid hb1
  have HT := Lib.hid hT
  clear hb1 hT
  refine (callsIn_wide (n := 8)).1 ?_
  refine callsIn_of_wp_marks Tryd.func34 rfl trivial ?_ rfl
  simp only [Tryd.ntmps34, List.size_toArray, List.length_cons, List.length_nil, Nat.reduceAdd, Nat.reduceSub, Array.replicate_succ, Array.replicate_zero, List.push_toArray, List.append_toArray, List.nil_append, List.cons_append]
  gi_wp2
  refine ⟨trivial, (callsIn_wide.2 (count_any r _)).mono ?_⟩
  rintro e w1 ⟨⟨c, hc, rfl⟩, hb1⟩
  have B1 := Lib.hid (HB1.out.trans (hb1.mono HB1.out.size))
  have hz1' : w.heap.size < w1.heap.size := Nat.lt_of_lt_of_le (by simp) hb1.size
  have RR := Lib.hid (R1.out.below hb1 R1.out.lt)
  have hmk := run_make (P := Tryd.prog) w1 33 3 i0 (.int .i64 0) Tryd.underlying33 hi hz0 .i64 .i64 0 (c : Int) (by omega) (by omega) (by rw [hz2]; omega) (by omega)
  simp only [Int.toNat_zero, Int.toNat_natCast] at hmk
  clear hb1 R1 HB1
  obtain ⟨r0, r1, r2, r3⟩ := RR.out.cells
  gi_wp2
  refine ⟨trivial, (callsIn_wide.2 (elements_any r _)).mono ?_⟩
  rintro e w3 ⟨rfl, rfl⟩
  gi_wp2
  have s1 : (w1.alloc (.cells (madeCells #[.int .i64 0] c) 3)).heap.size = w1.heap.size + 1 := World.size_alloc _ _
  have s2 : ((w1.alloc (.cells (madeCells #[.int .i64 0] c) 3)).alloc (.cells #[.slice (some ⟨w1.heap.size, 0, none⟩) 0 c] 33)).heap.size = w1.heap.size + 2 := by rw [World.size_alloc, s1]
  have hB4 : Below w1.heap.size w1 (((w1.alloc (.cells (madeCells #[.int .i64 0] c) 3)).alloc (.cells #[.slice (some ⟨w1.heap.size, 0, none⟩) 0 c] 33)).alloc (.cells #[.int .u64 ((word r 0 : Nat) : Int), .int .u64 ((word r 1 : Nat) : Int), .int .u64 ((word r 2 : Nat) : Int), .int .u64 ((word r 3 : Nat) : Int)] 56)) := (((Below.refl _ w1).alloc (Nat.le_refl _) _).alloc (by simp) _).alloc (by simp; omega) _
  have p4 : Boxed (((w1.alloc (.cells (madeCells #[.int .i64 0] c) 3)).alloc (.cells #[.slice (some ⟨w1.heap.size, 0, none⟩) 0 c] 33)).alloc (.cells #[.int .u64 ((word r 0 : Nat) : Int), .int .u64 ((word r 1 : Nat) : Int), .int .u64 ((word r 2 : Nat) : Int), .int .u64 ((word r 3 : Nat) : Int)] 56)) (w1.heap.size + 1) 33 (.slice (some ⟨w1.heap.size, 0, none⟩) 0 c) := by
    have h := Boxed.new (w1.alloc (.cells (madeCells #[.int .i64 0] c) 3)) 33 (.slice (some ⟨w1.heap.size, 0, none⟩) 0 c)
    rw [s1] at h
    exact h.alloc _
  have o4 : (((w1.alloc (.cells (madeCells #[.int .i64 0] c) 3)).alloc (.cells #[.slice (some ⟨w1.heap.size, 0, none⟩) 0 c] 33)).alloc (.cells #[.int .u64 ((word r 0 : Nat) : Int), .int .u64 ((word r 1 : Nat) : Int), .int .u64 ((word r 2 : Nat) : Int), .int .u64 ((word r 3 : Nat) : Int)] 56)).ownsRow w.heap.size 3 1 (.slice (some ⟨w1.heap.size, 0, none⟩) 0 c) 0 [] :=
    ((World.ownsRow_made w1 (madeCells #[.int .i64 0] c) c (by omega) (by unfold maxLen; omega) (by rw [size_madeCells, Nat.mul_one])).alloc _).alloc _
  have r4 : RowIn (((w1.alloc (.cells (madeCells #[.int .i64 0] c) 3)).alloc (.cells #[.slice (some ⟨w1.heap.size, 0, none⟩) 0 c] 33)).alloc (.cells #[.int .u64 ((word r 0 : Nat) : Int), .int .u64 ((word r 1 : Nat) : Int), .int .u64 ((word r 2 : Nat) : Int), .int .u64 ((word r 3 : Nat) : Int)] 56)) (w1.heap.size + 2) r := by
    have h := RowIn.alloc ((w1.alloc (.cells (madeCells #[.int .i64 0] c) 3)).alloc (.cells #[.slice (some ⟨w1.heap.size, 0, none⟩) 0 c] 33)) hr
    rw [s2] at h
    exact h
  have hz4 : (((w1.alloc (.cells (madeCells #[.int .i64 0] c) 3)).alloc (.cells #[.slice (some ⟨w1.heap.size, 0, none⟩) 0 c] 33)).alloc (.cells #[.int .u64 ((word r 0 : Nat) : Int), .int .u64 ((word r 1 : Nat) : Int), .int .u64 ((word r 2 : Nat) : Int), .int .u64 ((word r 3 : Nat) : Int)] 56)).heap.size = w1.heap.size + 3 := by rw [World.size_alloc, s2]
  revert hB4 p4 o4 r4 hz4
  clear s1 s2
  generalize (((w1.alloc (.cells (madeCells #[.int .i64 0] c) 3)).alloc (.cells #[.slice (some ⟨w1.heap.size, 0, none⟩) 0 c] 33)).alloc (.cells #[.int .u64 ((word r 0 : Nat) : Int), .int .u64 ((word r 1 : Nat) : Int), .int .u64 ((word r 2 : Nat) : Int), .int .u64 ((word r 3 : Nat) : Int)] 56)) = w4
  intro hB4 p4 o4 r4 hz4
  have T4 : Tab w4 := (HT.out.below B1.out).below hB4
  have hBw : Below w.heap.size w w4 := B1.out.trans (hB4.mono (by omega))
  clear hmk r0 r1 r2 r3
  refine wpIn_rangeFunc_ownG rfl (by omega) (gf := 74) (lb := #[.pointer (some ⟨w1.heap.size + 2, 0, none⟩)]) rfl trivial (enters_of Tryd.func74 (by kernel_rfl) rfl)
    (elements1_stops _ w.heap.size (w1.heap.size + 2) r w4 (by omega) hr r4 (by omega) htab T4) belowK_t (belowK_b (by omega)) (Below.refl _ _) (fun _ => rfl)
    (fun pre W => (∃ v, Boxed W (w1.heap.size + 1) 33 v ∧ W.ownsRow w.heap.size 3 1 v (natsOf pre).length ((natsOf pre).map fun k : Nat => Value.int .i64 (k : Int)) ∧ True) ∧ Below w.heap.size w W)
    (fun _ _ _ => False)
    (OwnFrom.and (Own.from (holdsRow_own w.heap.size (w1.heap.size + 1) 33 3 1 (fun pre : List (Bt r) => (natsOf pre).length) (fun pre => (natsOf pre).map fun k : Nat => Value.int .i64 (k : Int)) (fun _ _ => True)) _) (ownFrom_below (Nat.le_refl _) (by omega)))
    (fun _ _ _ _ _ hs _ _ => hs)
    ⟨⟨_, p4, o4, trivial⟩, hBw⟩
    (fun x => { tmps := #[rowV r, .pointer (some ⟨w.heap.size, 0, none⟩), .slice none 0 0, .pointer (some ⟨w1.heap.size + 1, 0, none⟩), .int .i64 ((x.1 : Nat) : Int), rowV r, .int .i64 c, .slice (some ⟨w1.heap.size, 0, none⟩) 0 c, rowV r, .func (.func 74) #[] #[.pointer (some ⟨w1.heap.size + 2, 0, none⟩)], .int .i64 ((x.1 : Nat) : Int), undef, undef, undef, undef, undef], defers := [] }) ?assign ?body ?done ?stop
  case assign =>
    intro l x W K hK
    unfold encBt
    gi_wp2
    exact hK
  case body =>
    rintro l pre x W ⟨⟨v, hv, hrow, _⟩, hB⟩ hlt
    obtain ⟨k, hkm⟩ := x
    dsimp only
    have hc := hv.cell
    have hpl : (natsOf pre).length ≤ 256 := by
      have h1 : (eList r).length = (elems r).length := by simp [eList]
      have h2 : (elems r).length ≤ 256 := by
        unfold elems
        have := List.length_filter_le (fun b => r.testBit b) (List.range 256)
        simpa using this
      have h3 : (natsOf pre).length = pre.length := by simp [natsOf]
      omega
    have HROW := Lib.hid hrow
    have HV := Lib.hid hv
    have HBB := Lib.hid hB
    clear hrow hv hB
    gi_wp2_with (gi_at_builtin; refine wpListIn_append_own _ rfl _ _ 33 rfl w.heap.size 3 i0 (.int .i64 0) 1 8 Tryd.underlying33 hi hz0 hz1 hz2 rfl (by decide) _ _ _ rfl (HROW.out.alloc _) ⟨W.heap.size, 0, none⟩ 1 1 [.int .i64 (k : Int)] rfl rfl (cell_one_new _ _ _) (by simp [Value.oneCell']) (by unfold maxLen; omega) (by omega) (by have := HBB.out.size; simp; omega) ?_; intro v' w1' hown' hgrow _; obtain ⟨g', cap', rfl⟩ := ownsRow_succ hown'; obtain ⟨hv1, hv2, hr2, hk2, hb2⟩ := HV.out.appended box_ne HROW.out HBB.out.size (by omega) hown' hgrow; have hc1 := hv1.cell; have hf1 := hv1.frozen)
    exact ⟨hk2.from _, hb2, ⟨_, hv2, by rw [natsOf_snoc, List.length_append, List.map_append]; exact hr2, trivial⟩, HBB.out.trans hb2⟩
  case done =>
    rintro D ys W hD rfl ⟨⟨v, hv, hrow, _⟩, hB⟩ hK
    have hc := hv.cell
    rw [natsOf_all] at hrow
    have HROW := Lib.hid hrow
    have HBB := Lib.hid hB
    clear hrow hB hv
    gi_wp2
    refine ⟨by simp, .inl ⟨_, _, rfl, run_takeDeferred hK, ?_⟩⟩
    have ho := ownsRow_putObj HROW.out (.deferred none) hK rfl
    refine ⟨_, results_tmp rfl _ _ _, v, rfl, OwnI.of_owns ?_ (intsOf_wf fun k hk => by have := elems_lt256 hk; omega) (fun b hb => (ho.lt b hb).2), HBB.out.trans (belowK_b (w := w) (Nat.le_refl _) W D _ _ (by omega) hK rfl rfl)⟩
    have e1 : (intsOf (elems r)).length = (elems r).length := by simp [intsOf]
    have e2 : cellsI (intsOf (elems r)) = (elems r).map fun k : Nat => Value.int .i64 (k : Int) := by simp [intsOf, cellsI]
    rw [e1, e2]
    exact ho
  case stop =>
    rintro D c pre W _ _ h _
    exact h.elim
end Go.Proofs.YtppjogkednclcaaDoor

/- The program's order of a grid (grid.order), in memory of its own. -/
namespace Go.Proofs.YtppjogkednclcaaDoor
open Go.RowKit Go.Deep Go.Shelf

theorem ints_ne : (3 : TypeId) ≠ 33 := by decide

/-- Rows in memory of their own, as an order. -/
def RowsPost (n : Nat) (R : Nat → List Int) (w : World) (e : Ending) (w' : World) : Prop :=
  ∃ v, e = .returned (.agg #[v]) ∧ OwnR 3 33 w' v n R w.heap.size w'.heap.size ∧ Below w.heap.size w w'

/-- A list is stored into row i of rows that are being filled. -/
theorem OwnR.fill {W W2 : World} {g n i lo : Nat} {R : Nat → List Int} {v' : Value} {xs : List Int} (h : OwnR 3 33 W (.slice (some ⟨g, 0, none⟩) n n) n R lo W.heap.size)
    (hb : Below W.heap.size W W2) (hn : OwnI 3 W2 v' xs W.heap.size W2.heap.size) :
    OwnR 3 33 (W2.setCell ⟨g, i, none⟩ v') (.slice (some ⟨g, 0, none⟩) n n) n (fun q => if q = i then xs else R q) lo (W2.setCell ⟨g, i, none⟩ v').heap.size := by
  obtain hnil | ⟨g1, C1, f, e, h1, h2, h3, h4, h5, h6, h7⟩ := h
  · cases hnil.1
  cases e
  rw [size_setCell]
  exact OwnR.stored ints_ne h1 h2 h3 h5 h6 h7 hb hn
theorem OwnR.cellOf {W : World} {g n i lo hi : Nat} {R : Nat → List Int} (h : OwnR 3 33 W (.slice (some ⟨g, 0, none⟩) n n) n R lo hi) (hlt : i < n) : (∃ u, W.cell? ⟨g, i, none⟩ = some u) ∧ W.frozen? ⟨g, i, none⟩ = false ∧ g < W.heap.size := by
  obtain hnil | ⟨g1, C1, f, e, h1, h2, h3, h4, h5, h6, h7⟩ := h
  · cases hnil.1
  cases e
  exact ⟨⟨_, h5.cell hlt⟩, h5.frozen i, h5.lt⟩
/-- What row j holds when i rows have been filled. -/
def upto (R : Nat → List Int) (i j : Nat) : List Int := if j < i then R j else []
theorem upto_step (R : Nat → List Int) (i : Nat) : (fun q => if q = i then R i else upto R i q) = upto R (i + 1) := by
  funext q
  unfold upto
  by_cases e : q = i
  · subst e; rw [if_pos rfl, if_pos (by omega)]
  · rw [if_neg e]
    by_cases h : q < i
    · rw [if_pos h, if_pos (by omega)]
    · rw [if_neg h, if_neg (by omega)]
theorem OwnR.made (W : World) (n lo : Nat) (hn : n ≤ maxLen) (hlo : lo ≤ W.heap.size) (R : Nat → List Int) :
    OwnR 3 33 (W.alloc (.cells (madeCells #[.slice none 0 0] n) 33)) (.slice (some ⟨W.heap.size, 0, none⟩) n n) n (upto R 0) lo (W.alloc (.cells (madeCells #[.slice none 0 0] n) 33)).heap.size :=
  .inr ⟨W.heap.size, n, _, rfl, Nat.le_refl _, hn, hlo, by simp, World.rowIs_made W (.slice none 0 0) n 33, fun j _ => by unfold upto; rw [if_neg (Nat.not_lt_zero _)]; exact OwnI.nil _ _ _ _, fun _ _ _ _ => .inl rfl⟩

end Go.Proofs.YtppjogkednclcaaDoor

/- The program's order of a domain that is not built yet (built): its rows, one after the other. -/
namespace Go.Proofs.YtppjogkednclcaaDoor
open Go.RowKit Go.Deep Go.Shelf

/-- What row a holds when b elements have been looked at. -/
def bRow (B : Nat → Nat → Bool) (a b : Nat) : List Int := ((List.range b).filter fun k => B a k).map fun k : Nat => (k : Int)
theorem bRow_yes {B : Nat → Nat → Bool} {a b : Nat} (h : B a b = true) : bRow B a (b + 1) = bRow B a b ++ [(b : Int)] := by
  unfold bRow
  rw [List.range_succ, List.filter_append, List.map_append, List.filter_cons, h]
  rfl
theorem bRow_no {B : Nat → Nat → Bool} {a b : Nat} (h : B a b = false) : bRow B a (b + 1) = bRow B a b := by
  unfold bRow
  rw [List.range_succ, List.filter_append, List.filter_cons, h]
  simp
theorem bRow_len (B : Nat → Nat → Bool) (a b : Nat) : (bRow B a b).length ≤ b := by
  unfold bRow
  rw [List.length_map]
  have := List.length_filter_le (fun k => B a k) (List.range b)
  simpa using this
/-- All rows, when b elements of row a have been looked at. -/
def bP (B : Nat → Nat → Bool) (N a b q : Nat) : List Int := if q < a then bRow B q N else if q = a then bRow B a b else []
theorem bP_start (B : Nat → Nat → Bool) (N : Nat) : bP B N 0 0 = fun _ => [] := by
  funext q
  unfold bP
  rw [if_neg (Nat.not_lt_zero _)]
  split
  · rfl
  · rfl
theorem bP_yes {B : Nat → Nat → Bool} {N a b : Nat} (h : B a b = true) : bP B N a (b + 1) = fun q => if q = a then bP B N a b a ++ [(b : Int)] else bP B N a b q := by
  funext q
  unfold bP
  by_cases e : q = a
  · subst e
    rw [if_neg (Nat.lt_irrefl _), if_pos rfl, if_pos rfl, if_neg (Nat.lt_irrefl _), if_pos rfl, bRow_yes h]
  · rw [if_neg e, if_neg e, if_neg e]
theorem bP_no {B : Nat → Nat → Bool} {N a b : Nat} (h : B a b = false) : bP B N a (b + 1) = bP B N a b := by
  funext q
  unfold bP
  rw [bRow_no h]
theorem bP_next (B : Nat → Nat → Bool) (N a : Nat) : bP B N a N = bP B N (a + 1) 0 := by
  funext q
  unfold bP
  by_cases e : q = a
  · subst e
    rw [if_neg (Nat.lt_irrefl _), if_pos rfl, if_pos (Nat.lt_succ_self _)]
  · by_cases e2 : q < a
    · rw [if_pos e2, if_pos (by omega)]
    · rw [if_neg e2, if_neg e, if_neg (by omega)]
      split
      · rfl
      · rfl
theorem bP_at (B : Nat → Nat → Bool) (N a b : Nat) : bP B N a b a = bRow B a b := by unfold bP; rw [if_neg (Nat.lt_irrefl _), if_pos rfl]
theorem bP_done {B : Nat → Nat → Bool} {N q : Nat} (h : q < N) : bP B N N 0 q = bRow B q N := by unfold bP; rw [if_pos h]

/-- While the order is built; K is what of the domain's own memory is needed. -/
structure BlG (w : World) (K : World → Prop) (L N : Nat) (R : Nat → List Int) (W : World) : Prop where
  kept : K W
  res : Boxed W w.heap.size 26 (.slice none 0 0)
  own : OwnR 3 33 W (.slice (some ⟨L, 0, none⟩) N N) N R (w.heap.size + 1) W.heap.size
  below : Below w.heap.size w W
/-- K holds on when no memory turns that was there ahead of the call. -/
def Stays (w : World) (K : World → Prop) : Prop := ∀ W W' : World, Below w.heap.size W W' → K W → K W'
theorem BlG.step {w : World} {K : World → Prop} {L N : Nat} {R : Nat → List Int} {W W' : World} (hK : Stays w K) (h : BlG w K L N R W) (hb : Below W.heap.size W W') : BlG w K L N R W' :=
  ⟨hK W W' (hb.mono h.below.size) h.kept, (hb.block _ h.res.lt).trans h.res, (h.own.below hb (Nat.le_refl _)).wider (Nat.le_refl _) hb.size, h.below.trans (hb.mono h.below.size)⟩

theorem BlG.appended {w : World} {K : World → Prop} {L N : Nat} {R : Nat → List Int} {W W1 W2 : World} {f : Nat → Value} {j g' cap' : Nat} {y : Int} (hK : Stays w K) (h : BlG w K L N R W) (hN : N ≤ maxLen) (hL : w.heap.size + 1 ≤ L) (hr : W.rowIs L 33 N f)
    (hI : ∀ q, q < N → OwnI 3 W (f q) (R q) (w.heap.size + 1) W.heap.size) (hD : ∀ p q, p < q → q < N → (f p).ownBlock = none ∨ (f p).ownBlock ≠ (f q).ownBlock) (hj : j < N)
    (hy : (Lit.int .i64 y).wf = true) (hb1 : Below W.heap.size W W1)
    (hown : W2.ownsRow (w.heap.size + 1) 3 1 (.slice (some ⟨g', 0, none⟩) ((R j).length + 1) cap') ((R j).length + 1) (cellsI (R j) ++ [.int .i64 y])) (hgrow : W1.grownBy W2 (f j).ownBlock) (hat : (f j).ownBlock = some g' ∨ g' = W.heap.size + 1) (hlt : g' < W2.heap.size) :
    BlG w K L N (fun q => if q = j then R j ++ [y] else R q) (W2.setCell ⟨L, j, none⟩ (.slice (some ⟨g', 0, none⟩) ((R j).length + 1) cap')) := by
  have hz : w.heap.size < W.heap.size := h.res.lt
  have ho := OwnR.appended (t := 3) (u := 33) ints_ne (Nat.le_refl _) hN hL hr hI hD hj hy hb1.size (fun b hb => hb1.block b hb) hown hgrow (by rcases hat with h | h; exact .inl h; exact .inr (by omega)) hlt
  have hk : Below (w.heap.size + 1) W W2 := (hb1.mono (by omega)).grown hgrow (by have := hb1.size; omega) (fun b e => ((hI j hj).block b e).1)
  have hk2 := hk.setCell (p := ⟨L, j, none⟩) hL (.slice (some ⟨g', 0, none⟩) ((R j).length + 1) cap')
  exact ⟨hK _ _ (hk2.mono (by omega)) h.kept, (hk2.block _ (by omega)).trans h.res, by rw [size_setCell]; exact ho, h.below.trans (hk2.mono (by omega))⟩
/-- Rows in memory of their own, and a Boolean. -/
def RowsG (N : Nat) (R : Nat → List Int) (t : Bool) (w : World) (e : Ending) (w' : World) : Prop :=
  ∃ v, e = .returned (.tuple #[.agg #[v], .bool t]) ∧ OwnR 3 33 w' v N R w.heap.size w'.heap.size ∧ Below w.heap.size w w'
theorem Stays.grid {w : World} {p : Nat} {g : Nat → Nat} (h : p < w.heap.size) : Stays w (fun W => GridAt W p g) := fun _ _ hb hg => hg.below hb h
theorem Stays.grids {w : World} {p p' : Nat} {g g' : Nat → Nat} (h : p < w.heap.size) (h' : p' < w.heap.size) : Stays w (fun W => GridAt W p g ∧ GridAt W p' g') := fun _ _ hb hg => ⟨hg.1.below hb h, hg.2.below hb h'⟩
end Go.Proofs.YtppjogkednclcaaDoor

/- Domains told by bits; orders made of a relation; meets in domains. Plain facts: no function is walked here. -/
namespace Go.Proofs.YtppjogkednclcaaDoor
open Go.RowKit Go.Deep

theorem bottomF_pos {g : Nat → Nat} {s : Nat} (hs : s < 2 ^ 256) : 0 ≤ bottomF g s ↔ ∃ k, s.testBit k = true ∧ g k = s := by
  unfold bottomF
  cases hf : (elems s).find? (fun k => g k == s) with
  | none =>
    rw [List.find?_eq_none] at hf
    constructor
    · intro h
      exact absurd h (by decide)
    · rintro ⟨k, hk, e⟩
      exact absurd (beq_iff_eq.2 e) (hf k ((mem_elems hs).2 hk))
  | some k =>
    have h1 := List.find?_some hf
    have h2 := List.mem_of_find?_eq_some hf
    exact ⟨fun _ => ⟨k, (mem_elems hs).1 h2, beq_iff_eq.1 h1⟩, fun _ => Int.natCast_nonneg k⟩

/-- A domain, told by bits. -/
def DomBits (rows : Rows2) : Prop := (∃ m, m < rows.length ∧ gridF rows m = allF rows.length) ∧ ∀ a b, a < rows.length → b < rows.length → gridF rows a &&& gridF rows b ≠ 0 → ∃ c, c < rows.length ∧ gridF rows c = gridF rows a &&& gridF rows b
theorem domI_iff {rows : Rows2} (h : Ok rows) : domI rows = true ↔ DomBits rows := by
  have hn := h.len
  have hbad : ∀ a b, a < rows.length → b < rows.length → (badB rows a b = false ↔ (gridF rows a &&& gridF rows b ≠ 0 → ∃ c, c < rows.length ∧ gridF rows c = gridF rows a &&& gridF rows b)) := by
    intro a b ha hb
    have hlt : gridF rows a &&& gridF rows b < 2 ^ 256 := Nat.and_lt_two_pow _ (h.lt b)
    have hpos := bottomF_pos (g := gridF rows) hlt
    rw [← badF_eq h ha hb]
    unfold badF
    rw [Bool.and_eq_false_iff, Bool.not_eq_false', decide_eq_true_iff, decide_eq_false_iff_not]
    constructor
    · rintro (e | e) h0
      · exact absurd e h0
      · obtain ⟨k, hk, e2⟩ := hpos.1 (by omega)
        rw [Nat.testBit_and, Bool.and_eq_true] at hk
        exact ⟨k, (h.bit_lt hk.1).2, e2⟩
    · intro hi
      by_cases e : gridF rows a &&& gridF rows b = 0
      · exact .inl e
      · obtain ⟨c, hc, e2⟩ := hi e
        right
        have := hpos.2 ⟨c, by rw [← e2]; exact h.own c hc, e2⟩
        omega
  have hl : 0 ≤ leastI rows ↔ ∃ m, m < rows.length ∧ gridF rows m = allF rows.length := by
    rw [least_eq h, bottomF_pos (allF_lt (by omega))]
    constructor
    · rintro ⟨k, hk, e⟩
      rw [testBit_allF, decide_eq_true_iff] at hk
      exact ⟨k, hk, e⟩
    · rintro ⟨m, hm, e⟩
      exact ⟨m, by rw [testBit_allF]; exact decide_eq_true hm, e⟩
  constructor
  · intro hd
    have h1 : 0 ≤ leastI rows := by
      rcases Int.lt_or_le (leastI rows) 0 with h1 | h1
      · rw [domI_least h1] at hd; cases hd
      · exact h1
    refine ⟨hl.1 h1, fun a b ha hb hne => ?_⟩
    have hb' : ∀ a b, a < rows.length → b < a → badB rows a b = false := fun a b ha hb => by
      cases hq : badB rows a b with
      | false => rfl
      | true => rw [domI_bad ha hb hq] at hd; cases hd
    rcases Nat.lt_trichotomy b a with hlt | rfl | hlt
    · exact (hbad a b ha hb).1 (hb' a b ha hlt) hne
    · exact ⟨b, hb, (Nat.and_self _).symm⟩
    · obtain ⟨c, hc, e⟩ := (hbad b a hb ha).1 (hb' b a hb hlt) (by rw [Nat.and_comm]; exact hne)
      exact ⟨c, hc, by rw [e, Nat.and_comm]⟩
  · rintro ⟨h1, h2⟩
    exact domI_yes (hl.2 h1) fun a ha b hb => (hbad a b ha (by omega)).2 (h2 a b ha (by omega))
theorem domB_iff {rows : Rows2} : domB rows = true ↔ Ok rows ∧ DomBits rows := by
  unfold domB
  rw [Bool.and_eq_true]
  constructor
  · rintro ⟨h1, h2⟩
    exact ⟨ok_of_valid h1, (domI_iff (ok_of_valid h1)).1 h2⟩
  · rintro ⟨h1, h2⟩
    exact ⟨valid_of_ok h1, (domI_iff h1).2 h2⟩

theorem bRow_mem {B : Nat → Nat → Bool} {a N : Nat} (j : Int) : j ∈ bRow B a N ↔ ∃ k : Nat, k < N ∧ B a k = true ∧ j = (k : Int) := by
  unfold bRow
  rw [List.mem_map]
  constructor
  · rintro ⟨k, hk, rfl⟩
    rw [List.mem_filter, List.mem_range] at hk
    exact ⟨k, hk.1, hk.2, rfl⟩
  · rintro ⟨k, h1, h2, rfl⟩
    exact ⟨k, List.mem_filter.2 ⟨List.mem_range.2 h1, h2⟩, rfl⟩
theorem bRow_asc (B : Nat → Nat → Bool) (a N : Nat) : Asc (bRow B a N) := by
  have hp : ((List.range N).filter fun i => B a i).Pairwise (· < ·) := List.Pairwise.filter _ List.pairwise_lt_range
  intro i j hij hj
  unfold bRow at hj ⊢
  rw [List.length_map] at hj
  rw [List.getElem_map, List.getElem_map]
  have := (List.pairwise_iff_getElem.1 hp) i j (by omega) hj hij
  omega
/-- The order of N elements that a relation makes. -/
def madeL (B : Nat → Nat → Bool) (N : Nat) : Rows2 := (List.range N).map fun q => bRow B q N
theorem madeL_len (B : Nat → Nat → Bool) (N : Nat) : (madeL B N).length = N := by simp [madeL]
theorem madeL_at {B : Nat → Nat → Bool} {N q : Nat} (hq : q < (madeL B N).length) : (madeL B N)[q] = bRow B q N := by simp [madeL]
theorem made_asc (B : Nat → Nat → Bool) (N : Nat) (i : Nat) (hi : i < (madeL B N).length) : Asc (madeL B N)[i] ∧ ∀ x ∈ (madeL B N)[i], 0 ≤ x ∧ x < (madeL B N).length := by
  rw [madeL_at, madeL_len]
  refine ⟨bRow_asc B i N, fun x hx => ?_⟩
  obtain ⟨k, hk, _, rfl⟩ := (bRow_mem x).1 hx
  omega
theorem made_bit (B : Nat → Nat → Bool) {N q : Nat} (hq : q < N) (j : Nat) : (gridF (madeL B N) q).testBit j = (decide (j < N) && B q j) := by
  have hq' : q < (madeL B N).length := by rw [madeL_len]; exact hq
  rw [grid_bit hq' ((ascB_iff _ _).2 (made_asc B N q hq')), madeL_at, Bool.eq_iff_iff, decide_eq_true_iff, bRow_mem, Bool.and_eq_true, decide_eq_true_iff]
  constructor
  · rintro ⟨k, h1, h2, e⟩
    obtain rfl : j = k := by omega
    exact ⟨h1, h2⟩
  · rintro ⟨h1, h2⟩
    exact ⟨j, h1, h2, rfl⟩
theorem made_ok {B : Nat → Nat → Bool} {N : Nat} (h1 : 1 ≤ N) (h2 : N ≤ 200) (hr : ∀ a, a < N → B a a = true) (ha : ∀ a b, a < N → b < N → B a b = true → b ≠ a → B b a = false)
    (ht : ∀ a b c, a < N → b < N → c < N → B a b = true → B b c = true → B a c = true) : Ok (madeL B N) := by
  refine ⟨by rw [madeL_len]; exact ⟨h1, h2⟩, made_asc B N, fun i hi => ?_, fun i j hi hj hne => ?_, fun i j hi hj m hm => ?_⟩
  · rw [madeL_len] at hi
    rw [made_bit B hi, hr i hi, decide_eq_true hi]
    rfl
  · rw [madeL_len] at hi
    rw [made_bit B hi, Bool.and_eq_true, decide_eq_true_iff] at hj
    rw [made_bit B hj.1, ha i j hi hj.1 hj.2 hne, Bool.and_false]
  · rw [madeL_len] at hi
    rw [made_bit B hi, Bool.and_eq_true, decide_eq_true_iff] at hj
    rw [made_bit B hj.1, Bool.and_eq_true, decide_eq_true_iff] at hm
    rw [made_bit B hi, ht i j m hi hj.1 hm.1 hj.2 hm.2, decide_eq_true hm.1]
    rfl
theorem made_dom {B : Nat → Nat → Bool} {N : Nat} (h1 : 1 ≤ N) (h2 : N ≤ 200) (hr : ∀ a, a < N → B a a = true) (ha : ∀ a b, a < N → b < N → B a b = true → b ≠ a → B b a = false)
    (ht : ∀ a b c, a < N → b < N → c < N → B a b = true → B b c = true → B a c = true) (hl : ∃ m, m < N ∧ ∀ k, k < N → B m k = true)
    (hj : ∀ a b, a < N → b < N → (∃ c, c < N ∧ B a c = true ∧ B b c = true) → ∃ c, c < N ∧ ∀ k, k < N → B c k = (B a k && B b k)) : domB (madeL B N) = true := by
  refine domB_iff.2 ⟨made_ok h1 h2 hr ha ht, ?_, ?_⟩
  · obtain ⟨m, hm, hk⟩ := hl
    refine ⟨m, by rw [madeL_len]; exact hm, ?_⟩
    rw [madeL_len]
    apply Nat.eq_of_testBit_eq
    intro k
    rw [made_bit B hm, testBit_allF]
    by_cases hlt : k < N
    · rw [hk k hlt, Bool.and_true]
    · rw [decide_eq_false hlt, Bool.false_and]
  · intro a b ha' hb' hne
    rw [madeL_len] at ha' hb' ⊢
    obtain ⟨c, hc⟩ := Nat.exists_testBit_of_ne_zero hne
    rw [Nat.testBit_and, made_bit B ha', made_bit B hb', Bool.and_eq_true, Bool.and_eq_true, Bool.and_eq_true, decide_eq_true_iff] at hc
    obtain ⟨d, hd, hk⟩ := hj a b ha' hb' ⟨c, hc.1.1, hc.1.2, hc.2.2⟩
    refine ⟨d, hd, ?_⟩
    apply Nat.eq_of_testBit_eq
    intro k
    rw [Nat.testBit_and, made_bit B hd, made_bit B ha', made_bit B hb']
    by_cases hlt : k < N
    · rw [hk k hlt, decide_eq_true hlt]
      simp
    · rw [decide_eq_false hlt]
      simp

theorem lens_cut {rows : Rows2} {m n : Nat} (hl : rows.length ≤ n) (h : ∀ r ∈ rows, r.length ≤ m) : bulk rows ≤ n + n * m := by
  unfold bulk
  have h1 := sum_le (m := m) (rows.map List.length) fun x hx => by
    obtain ⟨r, hr, rfl⟩ := List.mem_map.1 hx
    exact h r hr
  rw [List.length_map] at h1
  have h2 := Nat.mul_le_mul_right m hl
  omega
theorem made_small {B : Nat → Nat → Bool} {N : Nat} (h : N ≤ 200) : bulk (madeL B N) ≤ 1048576 := by
  have hb := lens_cut (rows := madeL B N) (n := 200) (m := 200) (by rw [madeL_len]; exact h) (fun r hr => by
    unfold madeL at hr
    obtain ⟨q, _, rfl⟩ := List.mem_map.1 hr
    exact Nat.le_trans (bRow_len _ _ _) h)
  omega
/-- The relation of a grid. -/
def bitB (g : Nat → Nat) (a b : Nat) : Bool := (g a).testBit b

/-- In a domain each two elements have a meet. -/
theorem meet_there {rows : Rows2} (h : domB rows = true) {a b : Nat} (ha : a < rows.length) (hb : b < rows.length) : ∃ c, c < rows.length ∧ joinI (backRows rows) a b = (c : Int) := by
  obtain ⟨ok, ⟨m, hm, hme⟩, hjn⟩ := domB_iff.1 h
  have hleast : ∀ x, x < rows.length → (gridF rows m).testBit x = true := fun x hx => by rw [hme, testBit_allF]; exact decide_eq_true hx
  have key : ∀ k, k ≤ rows.length → ∃ c, c < rows.length ∧ (gridF rows c).testBit a = true ∧ (gridF rows c).testBit b = true ∧ ∀ x, x < k → (gridF rows x).testBit a = true → (gridF rows x).testBit b = true → (gridF rows x).testBit c = true := by
    intro k
    induction k with
    | zero => exact fun _ => ⟨m, hm, hleast a ha, hleast b hb, fun x hx => absurd hx (Nat.not_lt_zero _)⟩
    | succ k ih =>
      intro hk
      obtain ⟨c, hc, hca, hcb, hx⟩ := ih (by omega)
      by_cases hka : (gridF rows k).testBit a = true ∧ (gridF rows k).testBit b = true
      · have hne : gridF rows c &&& gridF rows k ≠ 0 := fun e => by
          have := congrArg (fun n => n.testBit a) e
          simp only [Nat.testBit_and, hca, hka.1, Nat.zero_testBit] at this
          cases this
        obtain ⟨d, hd, e⟩ := hjn c k hc (by omega) hne
        have hbit : ∀ x, (gridF rows d).testBit x = ((gridF rows c).testBit x && (gridF rows k).testBit x) := fun x => by rw [e, Nat.testBit_and]
        have hown := ok.own d hd
        rw [hbit, Bool.and_eq_true] at hown
        refine ⟨d, hd, by rw [hbit, hca, hka.1]; rfl, by rw [hbit, hcb, hka.2]; rfl, fun x hxk h1 h2 => ?_⟩
        by_cases exk : x = k
        · subst exk; exact hown.2
        · exact ok.trans x c (by omega) (hx x (by omega) h1 h2) d hown.1
      · refine ⟨c, hc, hca, hcb, fun x hxk h1 h2 => ?_⟩
        by_cases exk : x = k
        · subst exk; exact absurd ⟨h1, h2⟩ hka
        · exact hx x (by omega) h1 h2
  obtain ⟨c, hc, hca, hcb, hx⟩ := key rows.length (Nat.le_refl _)
  have hlen := backRows_len rows
  have hb9 := ok.back
  have hbits : gridF (backRows rows) c = gridF (backRows rows) a &&& gridF (backRows rows) b := by
    apply Nat.eq_of_testBit_eq
    intro x
    rw [Nat.testBit_and, back_bit ok, back_bit ok, back_bit ok, Bool.eq_iff_iff, Bool.and_eq_true]
    constructor
    · intro h1
      have hxl := (ok.bit_lt h1).1
      exact ⟨ok.trans x c hxl h1 a hca, ok.trans x c hxl h1 b hcb⟩
    · rintro ⟨h1, h2⟩
      exact hx x (ok.bit_lt h1).1 h1 h2
  have hpos : 0 ≤ joinI (backRows rows) a b := by
    rw [join_eq hb9 (by rw [hlen]; exact ha) (by rw [hlen]; exact hb), bottomF_pos (Nat.and_lt_two_pow _ (hb9.lt b))]
    exact ⟨c, by rw [← hbits]; exact hb9.own c (by rw [hlen]; exact hc), hbits⟩
  have hbd : joinI (backRows rows) a b < rows.length := by
    rw [join_eq hb9 (by rw [hlen]; exact ha) (by rw [hlen]; exact hb)] at hpos ⊢
    unfold bottomF at hpos ⊢
    cases hf : (elems (gridF (backRows rows) a &&& gridF (backRows rows) b)).find? (fun k => gridF (backRows rows) k == gridF (backRows rows) a &&& gridF (backRows rows) b) with
    | none => rw [hf] at hpos; exact absurd hpos (by decide)
    | some k =>
      have h2 := List.mem_of_find?_eq_some hf
      rw [mem_elems (Nat.and_lt_two_pow _ (hb9.lt b)), Nat.testBit_and, Bool.and_eq_true] at h2
      have := (hb9.bit_lt h2.1).2
      rw [hlen] at this
      show (k : Int) < _
      omega
  exact ⟨(joinI (backRows rows) a b).toNat, by omega, by omega⟩
end Go.Proofs.YtppjogkednclcaaDoor

/- The program's look at a stable function (fun.keepsMeets). -/
namespace Go.Proofs.YtppjogkednclcaaDoor
open Go.RowKit Go.Deep Go.Shelf

theorem grid_apart {W : World} {b G : Nat} {g : Nat → Nat} (h : GridAt W b g) (hne : b ≠ G) (cs : Array Value) : GridAt (W.setRow G cs) b g := ⟨by rw [setRow_other W G b cs hne]; exact h.1, h.2⟩

/-- Do two bounded elements have a meet that the function does not keep? -/
def badSt (rows rows' : Rows2) (f : List Int) (a b : Nat) : Bool := boundedI rows a b && !(joinI (backRows rows') (f.getD a 0).toNat (f.getD b 0).toNat == f.getD (joinI (backRows rows) a b).toNat 0)
def stableI (rows rows' : Rows2) (f : List Int) : Bool := (List.range f.length).all fun a => (List.range a).all fun b => !badSt rows rows' f a b
theorem stableI_bad {rows rows' : Rows2} {f : List Int} {a b : Nat} (ha : a < f.length) (hb : b < a) (h : badSt rows rows' f a b = true) : stableI rows rows' f = false := by
  unfold stableI
  rw [List.all_eq_false]
  refine ⟨a, List.mem_range.2 ha, ?_⟩
  rw [Bool.not_eq_true, List.all_eq_false]
  exact ⟨b, List.mem_range.2 hb, by rw [h]; simp⟩
theorem stableI_yes {rows rows' : Rows2} {f : List Int} (hall : ∀ a, a < f.length → ∀ b, b < a → badSt rows rows' f a b = false) : stableI rows rows' f = true := by
  unfold stableI
  rw [List.all_eq_true]
  intro a ha
  rw [List.all_eq_true]
  intro b hb
  rw [hall a (List.mem_range.1 ha) b (List.mem_range.1 hb)]
  rfl
noncomputable def stableB (rows rows' : Rows2) (f : List Int) : Bool := monoB rows rows' f && stableI rows rows' f

set_option maxRecDepth 100000 in
set_option maxHeartbeats 16000000 in
theorem keepsMeets_any (vf : Value) (f : List Int) (p p' : Nat) (rows rows' : Rows2) (w : World) (hf : IntsAt w vf f) (hg : GridAt w p (gridF rows)) (hg' : GridAt w p' (gridF rows')) (hT : Tab w) (hd : domB rows = true) (hd' : domB rows' = true) (hmo : Mono rows rows' f) :
    Calls Tryd.prog 45 #[vf, .agg #[.pointer (some ⟨p, 0, none⟩), .pointer (some ⟨p', 0, none⟩)]] w (SaysN (stableI rows rows' f) w) := by
  have hok := (domB_iff.1 hd).1
  have hok' := (domB_iff.1 hd').1
  have hE := Bx.start w (.pointer (some ⟨p, 0, none⟩)) (.pointer (some ⟨p', 0, none⟩)) 69
  have HBK := Lib.hid (fun W (h : Bx w (.pointer (some ⟨p, 0, none⟩)) (.pointer (some ⟨p', 0, none⟩)) W) => (show Calls Tryd.prog 32 #[.pointer (some ⟨p, 0, none⟩)] W (SaysG (gridF (backRows rows)) W) by
    rw [← backN_rows hok]
    exact back_any p rows.length (gridF rows) W (hg.below h.below hg.lt) (hT.below h.below) hok.gridN (fun i _ k hk => hok.lt200 ((mem_elems (hok.lt i)).1 hk))))
  have HBK' := Lib.hid (fun W (h : Bx w (.pointer (some ⟨p, 0, none⟩)) (.pointer (some ⟨p', 0, none⟩)) W) => (show Calls Tryd.prog 32 #[.pointer (some ⟨p', 0, none⟩)] W (SaysG (gridF (backRows rows')) W) by
    rw [← backN_rows hok']
    exact back_any p' rows'.length (gridF rows') W (hg'.below h.below hg'.lt) (hT.below h.below) hok'.gridN (fun i _ k hk => hok'.lt200 ((mem_elems (hok'.lt i)).1 hk))))
  have hz := (zero_of_info zeroGrid).1
  have HLT := Lib.hid hok.back.lt
  have HLT' := Lib.hid hok'.back.lt
  have HFA := Lib.hid (fun W (h : Below w.heap.size w W) => hf.below h)
  have HTA := Lib.hid (fun W (h : Below w.heap.size w W) => hT.below h)
  have HGA := Lib.hid (fun W (h : Below w.heap.size w W) => hg.below h hg.lt)
  have HBD := Lib.hid (fun a b (ha : a < rows.length) (hb : b < rows.length) => (bounded_eq hok ha hb))
  have HMT := Lib.hid (fun a b (ha : a < rows.length) (hb : b < rows.length) => meet_there hd ha hb)
  have HJ := Lib.hid (fun G a b W (ha : a < rows.length) (hb : b < rows.length) (h : GridAt W G (gridF (backRows rows))) (hTW : Tab W) => (show Calls Tryd.prog 66 #[.pointer (some ⟨G, 0, none⟩), .int .i64 (a : Int), .int .i64 (b : Int)] W (SaysI (joinI (backRows rows) a b) W) by
    have hn := hok.len.2
    rw [join_eq hok.back (by rw [backRows_len]; exact ha) (by rw [backRows_len]; exact hb)]
    exact join_any G a b a b (gridF (backRows rows)) W h hTW rfl rfl (by omega) (by omega) (fun k hk => by have := (hok.back.bit_lt hk).2; rw [backRows_len] at this; omega)))
  have HJ' := Lib.hid (fun G a b W (ha : a < rows'.length) (hb : b < rows'.length) (h : GridAt W G (gridF (backRows rows'))) (hTW : Tab W) => (show Calls Tryd.prog 66 #[.pointer (some ⟨G, 0, none⟩), .int .i64 (a : Int), .int .i64 (b : Int)] W (SaysI (joinI (backRows rows') a b) W) by
    have hn := hok'.len.2
    rw [join_eq hok'.back (by rw [backRows_len]; exact ha) (by rw [backRows_len]; exact hb)]
    exact join_any G a b a b (gridF (backRows rows')) W h hTW rfl rfl (by omega) (by omega) (fun k hk => by have := (hok'.back.bit_lt hk).2; rw [backRows_len] at this; omega)))
  have HMO := Lib.hid hmo
  have HROW := Lib.hid hok.lt
  have hn200 : f.length ≤ 200 := by rw [hmo.1]; exact hok.len.2
  obtain ⟨Af, Cf, rfl, hCf, hmf, _⟩ := hf
  unfold maxLen at hmf
  obtain ⟨WB, hWB⟩ : ∃ WB, WB = w.alloc (.cells #[.pointer (some ⟨p, 0, none⟩), .pointer (some ⟨p', 0, none⟩)] 69) := ⟨_, rfl⟩
  rw [← hWB] at hE
  have HE := Lib.hid hE
  clear hE hg hg' hT hok hok' hmo hd hd'
  go_enter Tryd.func45, Tryd.ntmps45
  go_upto_region 1 with fail
  rw [← hWB]
  clear hWB
  go_cut [5, 6] (fun lv pv wx => ∃ Ga Gb, lv = .pointer (some ⟨Ga, 0, none⟩) ∧ pv = .pointer (some ⟨Gb, 0, none⟩) ∧ w.heap.size + 1 ≤ Ga ∧ w.heap.size + 1 ≤ Gb ∧ GridAt wx Ga (gridF (backRows rows)) ∧ GridAt wx Gb (gridF (backRows rows')) ∧ Bx w (.pointer (some ⟨p, 0, none⟩)) (.pointer (some ⟨p', 0, none⟩)) wx)
  case first =>
    refine wp_region_held_drew (S := fun W' : World => W'.cell? ⟨w.heap.size, 0, none⟩ = some (.pointer (some ⟨p, 0, none⟩)) ∧ W'.cell? ⟨w.heap.size, 1, none⟩ = some (.pointer (some ⟨p', 0, none⟩))) (by kernel_rfl) ⟨HE.out.c0, HE.out.c1⟩ (fun hHeld => ?_)
    have E0 := Lib.hid (HE.out.step (below_drew WB _))
    generalize WB.drew = W0 at E0 hHeld ⊢
    refine wpAnyH_take (i := 0) (v := .pointer (some ⟨w.heap.size, 0, none⟩)) rfl (by kernel_rfl) (by kernel_rfl) (by kernel_rfl) (fun _ _ _ h => h) (Or.inl ⟨by rfl, ?_⟩) (by assumption) ?_
    · (intro W hSw; obtain ⟨hS0, hS1⟩ := hSw; go_simp)
    try dsimp only [Act.put]
    refine wpAnyH_take (i := 1) (v := .pointer (some ⟨p, 0, none⟩)) rfl (by kernel_rfl) (by kernel_rfl) (by kernel_rfl) (fun _ _ _ h => h) (Or.inl ⟨by rfl, ?_⟩) (by assumption) ?_
    · (intro W hSw; obtain ⟨hS0, hS1⟩ := hSw; go_simp)
    try dsimp only [Act.put]
    refine wpAnyH_take (i := 3) (v := .pointer (some ⟨w.heap.size, 1, none⟩)) rfl (by kernel_rfl) (by kernel_rfl) (by kernel_rfl) (fun _ _ _ h => h) (Or.inl ⟨by rfl, ?_⟩) (by assumption) ?_
    · (intro W hSw; obtain ⟨hS0, hS1⟩ := hSw; go_simp)
    try dsimp only [Act.put]
    refine wpAnyH_take (i := 4) (v := .pointer (some ⟨p', 0, none⟩)) rfl (by kernel_rfl) (by kernel_rfl) (by kernel_rfl) (fun _ _ _ h => h) (Or.inl ⟨by rfl, ?_⟩) (by assumption) ?_
    · (intro W hSw; obtain ⟨hS0, hS1⟩ := hSw; go_simp)
    try dsimp only [Act.put]
    refine wpAnyH_ready (rs := [2, 6, 7]) (by kernel_rfl) (by simp) ?_
    refine AllReadyH.cons rfl (fun K hK => ?_) ?_
    · go_simp
      refine (HBK.out _ E0.out).mono ?_
      rintro e w1 ⟨rfl, hb⟩
      have E1 := Lib.hid (E0.out.step hb)
      clear hb
      obtain ⟨V, hV⟩ : ∃ V, V = Value.agg (gridCells (gridF (backRows rows))) := ⟨_, rfl⟩
      rw [← hV]
      have HV := Lib.hid hV
      clear hV
      go_wp2_with fail
      refine hK.out _ _ (⟨E1.out.c0, E1.out.c1⟩) (fun hHeld => ?_)
      clear hK K
      try dsimp only [Act.put]
      refine wpAnyH_ready (rs := [5, 6, 7]) (by kernel_rfl) (by simp) ?_
      refine AllReadyH.cons rfl (fun K hK => ?_) ?_
      · go_simp
        refine (HBK'.out _ E1.out).mono ?_
        rintro e w2 ⟨rfl, hb⟩
        have E2 := Lib.hid (E1.out.step hb)
        clear hb
        obtain ⟨V', hV⟩ : ∃ V', V' = Value.agg (gridCells (gridF (backRows rows'))) := ⟨_, rfl⟩
        rw [← hV]
        have HV' := Lib.hid hV
        clear hV
        go_wp2_with fail
        refine hK.out _ _ (⟨E2.out.c0, E2.out.c1⟩) (fun hHeld => ?_)
        clear hK K
        try dsimp only [Act.put]
        refine wpAnyH_ready (rs := [6, 7]) (by kernel_rfl) (by simp) ?_
        refine AllReadyH.cons rfl (fun K hK => ?_) ?_
        · go_simp
          have hb := (Below.refl w2.heap.size w2).alloc (Nat.le_refl _) (.cells (gridCells fun _ => 0) 58)
          have E3 := Lib.hid (E2.out.step hb)
          clear hb
          have Za3 := Lib.hid (store_new w2)
          have HGa := Lib.hid (show w.heap.size + 1 ≤ w2.heap.size from E2.out.lt)
          generalize hwq : w2.heap.size = Ga at Za3 HGa ⊢
          generalize (w2.alloc (.cells (gridCells fun _ => 0) 58)) = w3 at E3 Za3 ⊢
          clear hwq
          refine hK.out _ _ (⟨E3.out.c0, E3.out.c1⟩) (fun hHeld => ?_)
          clear hK K
          try dsimp only [Act.put]
          refine wpAnyH_ready (rs := [7]) (by kernel_rfl) (by simp) ?_
          refine AllReadyH.cons rfl (fun K hK => ?_) ?_
          · go_simp
            have hb := (Below.refl w3.heap.size w3).alloc (Nat.le_refl _) (.cells (gridCells fun _ => 0) 58)
            have E4 := Lib.hid (E3.out.step hb)
            have Za4 := Lib.hid (Za3.out.below hb Za3.out.lt)
            clear hb
            have Zb4 := Lib.hid (store_new w3)
            have HGb := Lib.hid (show w.heap.size + 1 ≤ w3.heap.size from E3.out.lt)
            have HNE := Lib.hid (show Ga < w3.heap.size from Za3.out.lt)
            generalize hwq : w3.heap.size = Gb at Zb4 HGb HNE ⊢
            generalize (w3.alloc (.cells (gridCells fun _ => 0) 58)) = w4 at E4 Zb4 Za4 ⊢
            clear hwq
            have HD := Lib.hid (show Ga ≠ Gb by have := HNE.out; omega)
            refine hK.out _ _ (⟨E4.out.c0, E4.out.c1⟩) (fun hHeld => ?_)
            clear hK K
            try dsimp only [Act.put]
            refine wpAnyH_ready (rs := [8]) (by kernel_rfl) (by simp) ?_
            refine AllReadyH.cons rfl (fun K hK => ?_) ?_
            · refine step_store_row rfl 58 (.tmp 5) (.tmp 12) rfl Ga (gridCells (gridF (backRows rows))) rfl HV.out 58 (gridCells fun _ => 0) Za4.out.1 (by rw [gridCells_size]; exact sizeGrid) (by rw [gridCells_size, gridCells_size]) (gridCells_one _) ?_
              have EF := Lib.hid (E4.out.far (below_setRow' (Below.refl (w.heap.size + 1) w4) HGa.out (gridCells (gridF (backRows rows)))))
              have ZFa := Lib.hid (GridAt.setRow Za4.out HLT.out)
              have ZSb := Lib.hid (grid_apart Zb4.out (Ne.symm HD.out) (gridCells (gridF (backRows rows))))
              generalize (w4.setRow Ga (gridCells (gridF (backRows rows)))) = wF at EF ZFa ZSb ⊢
              refine hK.out _ _ (⟨EF.out.c0, EF.out.c1⟩) (fun hHeld => ?_)
              clear hK K
              try dsimp only [Act.put]
              refine wpAnyH_ready (rs := [9]) (by kernel_rfl) (by simp) ?_
              refine AllReadyH.cons rfl (fun K hK => ?_) ?_
              · refine step_store_row rfl 58 (.tmp 6) (.tmp 15) rfl Gb (gridCells (gridF (backRows rows'))) rfl HV'.out 58 (gridCells fun _ => 0) ZSb.out.1 (by rw [gridCells_size]; exact sizeGrid) (by rw [gridCells_size, gridCells_size]) (gridCells_one _) ?_
                have EG := Lib.hid (EF.out.far (below_setRow' (Below.refl (w.heap.size + 1) wF) HGb.out (gridCells (gridF (backRows rows')))))
                have ZGb := Lib.hid (GridAt.setRow ZSb.out HLT'.out)
                have ZGa := Lib.hid (grid_apart ZFa.out HD.out (gridCells (gridF (backRows rows'))))
                refine hK.out _ _ (⟨EG.out.c0, EG.out.c1⟩) (fun hHeld => ?_)
                clear hK K
                try dsimp only [Act.put]
                refine wpAnyH_done (by kernel_rfl) ?_ _
                go_wp2_with fail
                go_meet
                exact ⟨Ga, Gb, rfl, rfl, HGa.out, HGb.out, ZGa.out, ZGb.out, EG.out⟩
              exact AllReadyH.nil
            exact AllReadyH.nil
          exact AllReadyH.nil
        refine AllReadyH.cons rfl (fun K hK => ?_) ?_
        · go_simp
          have hb := (Below.refl w2.heap.size w2).alloc (Nat.le_refl _) (.cells (gridCells fun _ => 0) 58)
          have E3 := Lib.hid (E2.out.step hb)
          clear hb
          have Zb3 := Lib.hid (store_new w2)
          have HGb := Lib.hid (show w.heap.size + 1 ≤ w2.heap.size from E2.out.lt)
          generalize hwq : w2.heap.size = Gb at Zb3 HGb ⊢
          generalize (w2.alloc (.cells (gridCells fun _ => 0) 58)) = w3 at E3 Zb3 ⊢
          clear hwq
          refine hK.out _ _ (⟨E3.out.c0, E3.out.c1⟩) (fun hHeld => ?_)
          clear hK K
          try dsimp only [Act.put]
          refine wpAnyH_ready (rs := [6]) (by kernel_rfl) (by simp) ?_
          refine AllReadyH.cons rfl (fun K hK => ?_) ?_
          · go_simp
            have hb := (Below.refl w3.heap.size w3).alloc (Nat.le_refl _) (.cells (gridCells fun _ => 0) 58)
            have E4 := Lib.hid (E3.out.step hb)
            have Zb4 := Lib.hid (Zb3.out.below hb Zb3.out.lt)
            clear hb
            have Za4 := Lib.hid (store_new w3)
            have HGa := Lib.hid (show w.heap.size + 1 ≤ w3.heap.size from E3.out.lt)
            have HNE := Lib.hid (show Gb < w3.heap.size from Zb3.out.lt)
            generalize hwq : w3.heap.size = Ga at Za4 HGa HNE ⊢
            generalize (w3.alloc (.cells (gridCells fun _ => 0) 58)) = w4 at E4 Za4 Zb4 ⊢
            clear hwq
            have HD := Lib.hid (show Ga ≠ Gb by have := HNE.out; omega)
            refine hK.out _ _ (⟨E4.out.c0, E4.out.c1⟩) (fun hHeld => ?_)
            clear hK K
            try dsimp only [Act.put]
            refine wpAnyH_ready (rs := [8]) (by kernel_rfl) (by simp) ?_
            refine AllReadyH.cons rfl (fun K hK => ?_) ?_
            · refine step_store_row rfl 58 (.tmp 5) (.tmp 12) rfl Ga (gridCells (gridF (backRows rows))) rfl HV.out 58 (gridCells fun _ => 0) Za4.out.1 (by rw [gridCells_size]; exact sizeGrid) (by rw [gridCells_size, gridCells_size]) (gridCells_one _) ?_
              have EF := Lib.hid (E4.out.far (below_setRow' (Below.refl (w.heap.size + 1) w4) HGa.out (gridCells (gridF (backRows rows)))))
              have ZFa := Lib.hid (GridAt.setRow Za4.out HLT.out)
              have ZSb := Lib.hid (grid_apart Zb4.out (Ne.symm HD.out) (gridCells (gridF (backRows rows))))
              generalize (w4.setRow Ga (gridCells (gridF (backRows rows)))) = wF at EF ZFa ZSb ⊢
              refine hK.out _ _ (⟨EF.out.c0, EF.out.c1⟩) (fun hHeld => ?_)
              clear hK K
              try dsimp only [Act.put]
              refine wpAnyH_ready (rs := [9]) (by kernel_rfl) (by simp) ?_
              refine AllReadyH.cons rfl (fun K hK => ?_) ?_
              · refine step_store_row rfl 58 (.tmp 6) (.tmp 15) rfl Gb (gridCells (gridF (backRows rows'))) rfl HV'.out 58 (gridCells fun _ => 0) ZSb.out.1 (by rw [gridCells_size]; exact sizeGrid) (by rw [gridCells_size, gridCells_size]) (gridCells_one _) ?_
                have EG := Lib.hid (EF.out.far (below_setRow' (Below.refl (w.heap.size + 1) wF) HGb.out (gridCells (gridF (backRows rows')))))
                have ZGb := Lib.hid (GridAt.setRow ZSb.out HLT'.out)
                have ZGa := Lib.hid (grid_apart ZFa.out HD.out (gridCells (gridF (backRows rows'))))
                refine hK.out _ _ (⟨EG.out.c0, EG.out.c1⟩) (fun hHeld => ?_)
                clear hK K
                try dsimp only [Act.put]
                refine wpAnyH_done (by kernel_rfl) ?_ _
                go_wp2_with fail
                go_meet
                exact ⟨Ga, Gb, rfl, rfl, HGa.out, HGb.out, ZGa.out, ZGb.out, EG.out⟩
              exact AllReadyH.nil
            exact AllReadyH.nil
          exact AllReadyH.nil
        exact AllReadyH.nil
      refine AllReadyH.cons rfl (fun K hK => ?_) ?_
      · go_simp
        have hb := (Below.refl w1.heap.size w1).alloc (Nat.le_refl _) (.cells (gridCells fun _ => 0) 58)
        have E2 := Lib.hid (E1.out.step hb)
        clear hb
        have Za2 := Lib.hid (store_new w1)
        have HGa := Lib.hid (show w.heap.size + 1 ≤ w1.heap.size from E1.out.lt)
        generalize hwq : w1.heap.size = Ga at Za2 HGa ⊢
        generalize (w1.alloc (.cells (gridCells fun _ => 0) 58)) = w2 at E2 Za2 ⊢
        clear hwq
        refine hK.out _ _ (⟨E2.out.c0, E2.out.c1⟩) (fun hHeld => ?_)
        clear hK K
        try dsimp only [Act.put]
        refine wpAnyH_ready (rs := [5, 7]) (by kernel_rfl) (by simp) ?_
        refine AllReadyH.cons rfl (fun K hK => ?_) ?_
        · go_simp
          refine (HBK'.out _ E2.out).mono ?_
          rintro e w3 ⟨rfl, hb⟩
          have E3 := Lib.hid (E2.out.step hb)
          have Za3 := Lib.hid (Za2.out.below hb Za2.out.lt)
          clear hb
          obtain ⟨V', hV⟩ : ∃ V', V' = Value.agg (gridCells (gridF (backRows rows'))) := ⟨_, rfl⟩
          rw [← hV]
          have HV' := Lib.hid hV
          clear hV
          go_wp2_with fail
          refine hK.out _ _ (⟨E3.out.c0, E3.out.c1⟩) (fun hHeld => ?_)
          clear hK K
          try dsimp only [Act.put]
          refine wpAnyH_ready (rs := [7]) (by kernel_rfl) (by simp) ?_
          refine AllReadyH.cons rfl (fun K hK => ?_) ?_
          · go_simp
            have hb := (Below.refl w3.heap.size w3).alloc (Nat.le_refl _) (.cells (gridCells fun _ => 0) 58)
            have E4 := Lib.hid (E3.out.step hb)
            have Za4 := Lib.hid (Za3.out.below hb Za3.out.lt)
            clear hb
            have Zb4 := Lib.hid (store_new w3)
            have HGb := Lib.hid (show w.heap.size + 1 ≤ w3.heap.size from E3.out.lt)
            have HNE := Lib.hid (show Ga < w3.heap.size from Za3.out.lt)
            generalize hwq : w3.heap.size = Gb at Zb4 HGb HNE ⊢
            generalize (w3.alloc (.cells (gridCells fun _ => 0) 58)) = w4 at E4 Zb4 Za4 ⊢
            clear hwq
            have HD := Lib.hid (show Ga ≠ Gb by have := HNE.out; omega)
            refine hK.out _ _ (⟨E4.out.c0, E4.out.c1⟩) (fun hHeld => ?_)
            clear hK K
            try dsimp only [Act.put]
            refine wpAnyH_ready (rs := [8]) (by kernel_rfl) (by simp) ?_
            refine AllReadyH.cons rfl (fun K hK => ?_) ?_
            · refine step_store_row rfl 58 (.tmp 5) (.tmp 12) rfl Ga (gridCells (gridF (backRows rows))) rfl HV.out 58 (gridCells fun _ => 0) Za4.out.1 (by rw [gridCells_size]; exact sizeGrid) (by rw [gridCells_size, gridCells_size]) (gridCells_one _) ?_
              have EF := Lib.hid (E4.out.far (below_setRow' (Below.refl (w.heap.size + 1) w4) HGa.out (gridCells (gridF (backRows rows)))))
              have ZFa := Lib.hid (GridAt.setRow Za4.out HLT.out)
              have ZSb := Lib.hid (grid_apart Zb4.out (Ne.symm HD.out) (gridCells (gridF (backRows rows))))
              generalize (w4.setRow Ga (gridCells (gridF (backRows rows)))) = wF at EF ZFa ZSb ⊢
              refine hK.out _ _ (⟨EF.out.c0, EF.out.c1⟩) (fun hHeld => ?_)
              clear hK K
              try dsimp only [Act.put]
              refine wpAnyH_ready (rs := [9]) (by kernel_rfl) (by simp) ?_
              refine AllReadyH.cons rfl (fun K hK => ?_) ?_
              · refine step_store_row rfl 58 (.tmp 6) (.tmp 15) rfl Gb (gridCells (gridF (backRows rows'))) rfl HV'.out 58 (gridCells fun _ => 0) ZSb.out.1 (by rw [gridCells_size]; exact sizeGrid) (by rw [gridCells_size, gridCells_size]) (gridCells_one _) ?_
                have EG := Lib.hid (EF.out.far (below_setRow' (Below.refl (w.heap.size + 1) wF) HGb.out (gridCells (gridF (backRows rows')))))
                have ZGb := Lib.hid (GridAt.setRow ZSb.out HLT'.out)
                have ZGa := Lib.hid (grid_apart ZFa.out HD.out (gridCells (gridF (backRows rows'))))
                refine hK.out _ _ (⟨EG.out.c0, EG.out.c1⟩) (fun hHeld => ?_)
                clear hK K
                try dsimp only [Act.put]
                refine wpAnyH_done (by kernel_rfl) ?_ _
                go_wp2_with fail
                go_meet
                exact ⟨Ga, Gb, rfl, rfl, HGa.out, HGb.out, ZGa.out, ZGb.out, EG.out⟩
              exact AllReadyH.nil
            exact AllReadyH.nil
          exact AllReadyH.nil
        refine AllReadyH.cons rfl (fun K hK => ?_) ?_
        · go_simp
          have hb := (Below.refl w2.heap.size w2).alloc (Nat.le_refl _) (.cells (gridCells fun _ => 0) 58)
          have E3 := Lib.hid (E2.out.step hb)
          have Za3 := Lib.hid (Za2.out.below hb Za2.out.lt)
          clear hb
          have Zb3 := Lib.hid (store_new w2)
          have HGb := Lib.hid (show w.heap.size + 1 ≤ w2.heap.size from E2.out.lt)
          have HNE := Lib.hid (show Ga < w2.heap.size from Za2.out.lt)
          generalize hwq : w2.heap.size = Gb at Zb3 HGb HNE ⊢
          generalize (w2.alloc (.cells (gridCells fun _ => 0) 58)) = w3 at E3 Zb3 Za3 ⊢
          clear hwq
          have HD := Lib.hid (show Ga ≠ Gb by have := HNE.out; omega)
          refine hK.out _ _ (⟨E3.out.c0, E3.out.c1⟩) (fun hHeld => ?_)
          clear hK K
          try dsimp only [Act.put]
          refine wpAnyH_ready (rs := [5]) (by kernel_rfl) (by simp) ?_
          refine AllReadyH.cons rfl (fun K hK => ?_) ?_
          · go_simp
            refine (HBK'.out _ E3.out).mono ?_
            rintro e w4 ⟨rfl, hb⟩
            have E4 := Lib.hid (E3.out.step hb)
            have Za4 := Lib.hid (Za3.out.below hb Za3.out.lt)
            have Zb4 := Lib.hid (Zb3.out.below hb Zb3.out.lt)
            clear hb
            obtain ⟨V', hV⟩ : ∃ V', V' = Value.agg (gridCells (gridF (backRows rows'))) := ⟨_, rfl⟩
            rw [← hV]
            have HV' := Lib.hid hV
            clear hV
            go_wp2_with fail
            refine hK.out _ _ (⟨E4.out.c0, E4.out.c1⟩) (fun hHeld => ?_)
            clear hK K
            try dsimp only [Act.put]
            refine wpAnyH_ready (rs := [8]) (by kernel_rfl) (by simp) ?_
            refine AllReadyH.cons rfl (fun K hK => ?_) ?_
            · refine step_store_row rfl 58 (.tmp 5) (.tmp 12) rfl Ga (gridCells (gridF (backRows rows))) rfl HV.out 58 (gridCells fun _ => 0) Za4.out.1 (by rw [gridCells_size]; exact sizeGrid) (by rw [gridCells_size, gridCells_size]) (gridCells_one _) ?_
              have EF := Lib.hid (E4.out.far (below_setRow' (Below.refl (w.heap.size + 1) w4) HGa.out (gridCells (gridF (backRows rows)))))
              have ZFa := Lib.hid (GridAt.setRow Za4.out HLT.out)
              have ZSb := Lib.hid (grid_apart Zb4.out (Ne.symm HD.out) (gridCells (gridF (backRows rows))))
              generalize (w4.setRow Ga (gridCells (gridF (backRows rows)))) = wF at EF ZFa ZSb ⊢
              refine hK.out _ _ (⟨EF.out.c0, EF.out.c1⟩) (fun hHeld => ?_)
              clear hK K
              try dsimp only [Act.put]
              refine wpAnyH_ready (rs := [9]) (by kernel_rfl) (by simp) ?_
              refine AllReadyH.cons rfl (fun K hK => ?_) ?_
              · refine step_store_row rfl 58 (.tmp 6) (.tmp 15) rfl Gb (gridCells (gridF (backRows rows'))) rfl HV'.out 58 (gridCells fun _ => 0) ZSb.out.1 (by rw [gridCells_size]; exact sizeGrid) (by rw [gridCells_size, gridCells_size]) (gridCells_one _) ?_
                have EG := Lib.hid (EF.out.far (below_setRow' (Below.refl (w.heap.size + 1) wF) HGb.out (gridCells (gridF (backRows rows')))))
                have ZGb := Lib.hid (GridAt.setRow ZSb.out HLT'.out)
                have ZGa := Lib.hid (grid_apart ZFa.out HD.out (gridCells (gridF (backRows rows'))))
                refine hK.out _ _ (⟨EG.out.c0, EG.out.c1⟩) (fun hHeld => ?_)
                clear hK K
                try dsimp only [Act.put]
                refine wpAnyH_done (by kernel_rfl) ?_ _
                go_wp2_with fail
                go_meet
                exact ⟨Ga, Gb, rfl, rfl, HGa.out, HGb.out, ZGa.out, ZGb.out, EG.out⟩
              exact AllReadyH.nil
            exact AllReadyH.nil
          exact AllReadyH.nil
        exact AllReadyH.nil
      refine AllReadyH.cons rfl (fun K hK => ?_) ?_
      · go_simp
        have hb := (Below.refl w1.heap.size w1).alloc (Nat.le_refl _) (.cells (gridCells fun _ => 0) 58)
        have E2 := Lib.hid (E1.out.step hb)
        clear hb
        have Zb2 := Lib.hid (store_new w1)
        have HGb := Lib.hid (show w.heap.size + 1 ≤ w1.heap.size from E1.out.lt)
        generalize hwq : w1.heap.size = Gb at Zb2 HGb ⊢
        generalize (w1.alloc (.cells (gridCells fun _ => 0) 58)) = w2 at E2 Zb2 ⊢
        clear hwq
        refine hK.out _ _ (⟨E2.out.c0, E2.out.c1⟩) (fun hHeld => ?_)
        clear hK K
        try dsimp only [Act.put]
        refine wpAnyH_ready (rs := [5, 6]) (by kernel_rfl) (by simp) ?_
        refine AllReadyH.cons rfl (fun K hK => ?_) ?_
        · go_simp
          refine (HBK'.out _ E2.out).mono ?_
          rintro e w3 ⟨rfl, hb⟩
          have E3 := Lib.hid (E2.out.step hb)
          have Zb3 := Lib.hid (Zb2.out.below hb Zb2.out.lt)
          clear hb
          obtain ⟨V', hV⟩ : ∃ V', V' = Value.agg (gridCells (gridF (backRows rows'))) := ⟨_, rfl⟩
          rw [← hV]
          have HV' := Lib.hid hV
          clear hV
          go_wp2_with fail
          refine hK.out _ _ (⟨E3.out.c0, E3.out.c1⟩) (fun hHeld => ?_)
          clear hK K
          try dsimp only [Act.put]
          refine wpAnyH_ready (rs := [6]) (by kernel_rfl) (by simp) ?_
          refine AllReadyH.cons rfl (fun K hK => ?_) ?_
          · go_simp
            have hb := (Below.refl w3.heap.size w3).alloc (Nat.le_refl _) (.cells (gridCells fun _ => 0) 58)
            have E4 := Lib.hid (E3.out.step hb)
            have Zb4 := Lib.hid (Zb3.out.below hb Zb3.out.lt)
            clear hb
            have Za4 := Lib.hid (store_new w3)
            have HGa := Lib.hid (show w.heap.size + 1 ≤ w3.heap.size from E3.out.lt)
            have HNE := Lib.hid (show Gb < w3.heap.size from Zb3.out.lt)
            generalize hwq : w3.heap.size = Ga at Za4 HGa HNE ⊢
            generalize (w3.alloc (.cells (gridCells fun _ => 0) 58)) = w4 at E4 Za4 Zb4 ⊢
            clear hwq
            have HD := Lib.hid (show Ga ≠ Gb by have := HNE.out; omega)
            refine hK.out _ _ (⟨E4.out.c0, E4.out.c1⟩) (fun hHeld => ?_)
            clear hK K
            try dsimp only [Act.put]
            refine wpAnyH_ready (rs := [8]) (by kernel_rfl) (by simp) ?_
            refine AllReadyH.cons rfl (fun K hK => ?_) ?_
            · refine step_store_row rfl 58 (.tmp 5) (.tmp 12) rfl Ga (gridCells (gridF (backRows rows))) rfl HV.out 58 (gridCells fun _ => 0) Za4.out.1 (by rw [gridCells_size]; exact sizeGrid) (by rw [gridCells_size, gridCells_size]) (gridCells_one _) ?_
              have EF := Lib.hid (E4.out.far (below_setRow' (Below.refl (w.heap.size + 1) w4) HGa.out (gridCells (gridF (backRows rows)))))
              have ZFa := Lib.hid (GridAt.setRow Za4.out HLT.out)
              have ZSb := Lib.hid (grid_apart Zb4.out (Ne.symm HD.out) (gridCells (gridF (backRows rows))))
              generalize (w4.setRow Ga (gridCells (gridF (backRows rows)))) = wF at EF ZFa ZSb ⊢
              refine hK.out _ _ (⟨EF.out.c0, EF.out.c1⟩) (fun hHeld => ?_)
              clear hK K
              try dsimp only [Act.put]
              refine wpAnyH_ready (rs := [9]) (by kernel_rfl) (by simp) ?_
              refine AllReadyH.cons rfl (fun K hK => ?_) ?_
              · refine step_store_row rfl 58 (.tmp 6) (.tmp 15) rfl Gb (gridCells (gridF (backRows rows'))) rfl HV'.out 58 (gridCells fun _ => 0) ZSb.out.1 (by rw [gridCells_size]; exact sizeGrid) (by rw [gridCells_size, gridCells_size]) (gridCells_one _) ?_
                have EG := Lib.hid (EF.out.far (below_setRow' (Below.refl (w.heap.size + 1) wF) HGb.out (gridCells (gridF (backRows rows')))))
                have ZGb := Lib.hid (GridAt.setRow ZSb.out HLT'.out)
                have ZGa := Lib.hid (grid_apart ZFa.out HD.out (gridCells (gridF (backRows rows'))))
                refine hK.out _ _ (⟨EG.out.c0, EG.out.c1⟩) (fun hHeld => ?_)
                clear hK K
                try dsimp only [Act.put]
                refine wpAnyH_done (by kernel_rfl) ?_ _
                go_wp2_with fail
                go_meet
                exact ⟨Ga, Gb, rfl, rfl, HGa.out, HGb.out, ZGa.out, ZGb.out, EG.out⟩
              exact AllReadyH.nil
            exact AllReadyH.nil
          exact AllReadyH.nil
        refine AllReadyH.cons rfl (fun K hK => ?_) ?_
        · go_simp
          have hb := (Below.refl w2.heap.size w2).alloc (Nat.le_refl _) (.cells (gridCells fun _ => 0) 58)
          have E3 := Lib.hid (E2.out.step hb)
          have Zb3 := Lib.hid (Zb2.out.below hb Zb2.out.lt)
          clear hb
          have Za3 := Lib.hid (store_new w2)
          have HGa := Lib.hid (show w.heap.size + 1 ≤ w2.heap.size from E2.out.lt)
          have HNE := Lib.hid (show Gb < w2.heap.size from Zb2.out.lt)
          generalize hwq : w2.heap.size = Ga at Za3 HGa HNE ⊢
          generalize (w2.alloc (.cells (gridCells fun _ => 0) 58)) = w3 at E3 Za3 Zb3 ⊢
          clear hwq
          have HD := Lib.hid (show Ga ≠ Gb by have := HNE.out; omega)
          refine hK.out _ _ (⟨E3.out.c0, E3.out.c1⟩) (fun hHeld => ?_)
          clear hK K
          try dsimp only [Act.put]
          refine wpAnyH_ready (rs := [5]) (by kernel_rfl) (by simp) ?_
          refine AllReadyH.cons rfl (fun K hK => ?_) ?_
          · go_simp
            refine (HBK'.out _ E3.out).mono ?_
            rintro e w4 ⟨rfl, hb⟩
            have E4 := Lib.hid (E3.out.step hb)
            have Zb4 := Lib.hid (Zb3.out.below hb Zb3.out.lt)
            have Za4 := Lib.hid (Za3.out.below hb Za3.out.lt)
            clear hb
            obtain ⟨V', hV⟩ : ∃ V', V' = Value.agg (gridCells (gridF (backRows rows'))) := ⟨_, rfl⟩
            rw [← hV]
            have HV' := Lib.hid hV
            clear hV
            go_wp2_with fail
            refine hK.out _ _ (⟨E4.out.c0, E4.out.c1⟩) (fun hHeld => ?_)
            clear hK K
            try dsimp only [Act.put]
            refine wpAnyH_ready (rs := [8]) (by kernel_rfl) (by simp) ?_
            refine AllReadyH.cons rfl (fun K hK => ?_) ?_
            · refine step_store_row rfl 58 (.tmp 5) (.tmp 12) rfl Ga (gridCells (gridF (backRows rows))) rfl HV.out 58 (gridCells fun _ => 0) Za4.out.1 (by rw [gridCells_size]; exact sizeGrid) (by rw [gridCells_size, gridCells_size]) (gridCells_one _) ?_
              have EF := Lib.hid (E4.out.far (below_setRow' (Below.refl (w.heap.size + 1) w4) HGa.out (gridCells (gridF (backRows rows)))))
              have ZFa := Lib.hid (GridAt.setRow Za4.out HLT.out)
              have ZSb := Lib.hid (grid_apart Zb4.out (Ne.symm HD.out) (gridCells (gridF (backRows rows))))
              generalize (w4.setRow Ga (gridCells (gridF (backRows rows)))) = wF at EF ZFa ZSb ⊢
              refine hK.out _ _ (⟨EF.out.c0, EF.out.c1⟩) (fun hHeld => ?_)
              clear hK K
              try dsimp only [Act.put]
              refine wpAnyH_ready (rs := [9]) (by kernel_rfl) (by simp) ?_
              refine AllReadyH.cons rfl (fun K hK => ?_) ?_
              · refine step_store_row rfl 58 (.tmp 6) (.tmp 15) rfl Gb (gridCells (gridF (backRows rows'))) rfl HV'.out 58 (gridCells fun _ => 0) ZSb.out.1 (by rw [gridCells_size]; exact sizeGrid) (by rw [gridCells_size, gridCells_size]) (gridCells_one _) ?_
                have EG := Lib.hid (EF.out.far (below_setRow' (Below.refl (w.heap.size + 1) wF) HGb.out (gridCells (gridF (backRows rows')))))
                have ZGb := Lib.hid (GridAt.setRow ZSb.out HLT'.out)
                have ZGa := Lib.hid (grid_apart ZFa.out HD.out (gridCells (gridF (backRows rows'))))
                refine hK.out _ _ (⟨EG.out.c0, EG.out.c1⟩) (fun hHeld => ?_)
                clear hK K
                try dsimp only [Act.put]
                refine wpAnyH_done (by kernel_rfl) ?_ _
                go_wp2_with fail
                go_meet
                exact ⟨Ga, Gb, rfl, rfl, HGa.out, HGb.out, ZGa.out, ZGb.out, EG.out⟩
              exact AllReadyH.nil
            exact AllReadyH.nil
          exact AllReadyH.nil
        exact AllReadyH.nil
      exact AllReadyH.nil
    refine AllReadyH.cons rfl (fun K hK => ?_) ?_
    · go_simp
      have hb := (Below.refl W0.heap.size W0).alloc (Nat.le_refl _) (.cells (gridCells fun _ => 0) 58)
      have E1 := Lib.hid (E0.out.step hb)
      clear hb
      have Za1 := Lib.hid (store_new W0)
      have HGa := Lib.hid (show w.heap.size + 1 ≤ W0.heap.size from E0.out.lt)
      generalize hwq : W0.heap.size = Ga at Za1 HGa ⊢
      generalize (W0.alloc (.cells (gridCells fun _ => 0) 58)) = w1 at E1 Za1 ⊢
      clear hwq
      refine hK.out _ _ (⟨E1.out.c0, E1.out.c1⟩) (fun hHeld => ?_)
      clear hK K
      try dsimp only [Act.put]
      refine wpAnyH_ready (rs := [2, 7]) (by kernel_rfl) (by simp) ?_
      refine AllReadyH.cons rfl (fun K hK => ?_) ?_
      · go_simp
        refine (HBK.out _ E1.out).mono ?_
        rintro e w2 ⟨rfl, hb⟩
        have E2 := Lib.hid (E1.out.step hb)
        have Za2 := Lib.hid (Za1.out.below hb Za1.out.lt)
        clear hb
        obtain ⟨V, hV⟩ : ∃ V, V = Value.agg (gridCells (gridF (backRows rows))) := ⟨_, rfl⟩
        rw [← hV]
        have HV := Lib.hid hV
        clear hV
        go_wp2_with fail
        refine hK.out _ _ (⟨E2.out.c0, E2.out.c1⟩) (fun hHeld => ?_)
        clear hK K
        try dsimp only [Act.put]
        refine wpAnyH_ready (rs := [5, 7]) (by kernel_rfl) (by simp) ?_
        refine AllReadyH.cons rfl (fun K hK => ?_) ?_
        · go_simp
          refine (HBK'.out _ E2.out).mono ?_
          rintro e w3 ⟨rfl, hb⟩
          have E3 := Lib.hid (E2.out.step hb)
          have Za3 := Lib.hid (Za2.out.below hb Za2.out.lt)
          clear hb
          obtain ⟨V', hV⟩ : ∃ V', V' = Value.agg (gridCells (gridF (backRows rows'))) := ⟨_, rfl⟩
          rw [← hV]
          have HV' := Lib.hid hV
          clear hV
          go_wp2_with fail
          refine hK.out _ _ (⟨E3.out.c0, E3.out.c1⟩) (fun hHeld => ?_)
          clear hK K
          try dsimp only [Act.put]
          refine wpAnyH_ready (rs := [7]) (by kernel_rfl) (by simp) ?_
          refine AllReadyH.cons rfl (fun K hK => ?_) ?_
          · go_simp
            have hb := (Below.refl w3.heap.size w3).alloc (Nat.le_refl _) (.cells (gridCells fun _ => 0) 58)
            have E4 := Lib.hid (E3.out.step hb)
            have Za4 := Lib.hid (Za3.out.below hb Za3.out.lt)
            clear hb
            have Zb4 := Lib.hid (store_new w3)
            have HGb := Lib.hid (show w.heap.size + 1 ≤ w3.heap.size from E3.out.lt)
            have HNE := Lib.hid (show Ga < w3.heap.size from Za3.out.lt)
            generalize hwq : w3.heap.size = Gb at Zb4 HGb HNE ⊢
            generalize (w3.alloc (.cells (gridCells fun _ => 0) 58)) = w4 at E4 Zb4 Za4 ⊢
            clear hwq
            have HD := Lib.hid (show Ga ≠ Gb by have := HNE.out; omega)
            refine hK.out _ _ (⟨E4.out.c0, E4.out.c1⟩) (fun hHeld => ?_)
            clear hK K
            try dsimp only [Act.put]
            refine wpAnyH_ready (rs := [8]) (by kernel_rfl) (by simp) ?_
            refine AllReadyH.cons rfl (fun K hK => ?_) ?_
            · refine step_store_row rfl 58 (.tmp 5) (.tmp 12) rfl Ga (gridCells (gridF (backRows rows))) rfl HV.out 58 (gridCells fun _ => 0) Za4.out.1 (by rw [gridCells_size]; exact sizeGrid) (by rw [gridCells_size, gridCells_size]) (gridCells_one _) ?_
              have EF := Lib.hid (E4.out.far (below_setRow' (Below.refl (w.heap.size + 1) w4) HGa.out (gridCells (gridF (backRows rows)))))
              have ZFa := Lib.hid (GridAt.setRow Za4.out HLT.out)
              have ZSb := Lib.hid (grid_apart Zb4.out (Ne.symm HD.out) (gridCells (gridF (backRows rows))))
              generalize (w4.setRow Ga (gridCells (gridF (backRows rows)))) = wF at EF ZFa ZSb ⊢
              refine hK.out _ _ (⟨EF.out.c0, EF.out.c1⟩) (fun hHeld => ?_)
              clear hK K
              try dsimp only [Act.put]
              refine wpAnyH_ready (rs := [9]) (by kernel_rfl) (by simp) ?_
              refine AllReadyH.cons rfl (fun K hK => ?_) ?_
              · refine step_store_row rfl 58 (.tmp 6) (.tmp 15) rfl Gb (gridCells (gridF (backRows rows'))) rfl HV'.out 58 (gridCells fun _ => 0) ZSb.out.1 (by rw [gridCells_size]; exact sizeGrid) (by rw [gridCells_size, gridCells_size]) (gridCells_one _) ?_
                have EG := Lib.hid (EF.out.far (below_setRow' (Below.refl (w.heap.size + 1) wF) HGb.out (gridCells (gridF (backRows rows')))))
                have ZGb := Lib.hid (GridAt.setRow ZSb.out HLT'.out)
                have ZGa := Lib.hid (grid_apart ZFa.out HD.out (gridCells (gridF (backRows rows'))))
                refine hK.out _ _ (⟨EG.out.c0, EG.out.c1⟩) (fun hHeld => ?_)
                clear hK K
                try dsimp only [Act.put]
                refine wpAnyH_done (by kernel_rfl) ?_ _
                go_wp2_with fail
                go_meet
                exact ⟨Ga, Gb, rfl, rfl, HGa.out, HGb.out, ZGa.out, ZGb.out, EG.out⟩
              exact AllReadyH.nil
            exact AllReadyH.nil
          exact AllReadyH.nil
        refine AllReadyH.cons rfl (fun K hK => ?_) ?_
        · go_simp
          have hb := (Below.refl w2.heap.size w2).alloc (Nat.le_refl _) (.cells (gridCells fun _ => 0) 58)
          have E3 := Lib.hid (E2.out.step hb)
          have Za3 := Lib.hid (Za2.out.below hb Za2.out.lt)
          clear hb
          have Zb3 := Lib.hid (store_new w2)
          have HGb := Lib.hid (show w.heap.size + 1 ≤ w2.heap.size from E2.out.lt)
          have HNE := Lib.hid (show Ga < w2.heap.size from Za2.out.lt)
          generalize hwq : w2.heap.size = Gb at Zb3 HGb HNE ⊢
          generalize (w2.alloc (.cells (gridCells fun _ => 0) 58)) = w3 at E3 Zb3 Za3 ⊢
          clear hwq
          have HD := Lib.hid (show Ga ≠ Gb by have := HNE.out; omega)
          refine hK.out _ _ (⟨E3.out.c0, E3.out.c1⟩) (fun hHeld => ?_)
          clear hK K
          try dsimp only [Act.put]
          refine wpAnyH_ready (rs := [5]) (by kernel_rfl) (by simp) ?_
          refine AllReadyH.cons rfl (fun K hK => ?_) ?_
          · go_simp
            refine (HBK'.out _ E3.out).mono ?_
            rintro e w4 ⟨rfl, hb⟩
            have E4 := Lib.hid (E3.out.step hb)
            have Za4 := Lib.hid (Za3.out.below hb Za3.out.lt)
            have Zb4 := Lib.hid (Zb3.out.below hb Zb3.out.lt)
            clear hb
            obtain ⟨V', hV⟩ : ∃ V', V' = Value.agg (gridCells (gridF (backRows rows'))) := ⟨_, rfl⟩
            rw [← hV]
            have HV' := Lib.hid hV
            clear hV
            go_wp2_with fail
            refine hK.out _ _ (⟨E4.out.c0, E4.out.c1⟩) (fun hHeld => ?_)
            clear hK K
            try dsimp only [Act.put]
            refine wpAnyH_ready (rs := [8]) (by kernel_rfl) (by simp) ?_
            refine AllReadyH.cons rfl (fun K hK => ?_) ?_
            · refine step_store_row rfl 58 (.tmp 5) (.tmp 12) rfl Ga (gridCells (gridF (backRows rows))) rfl HV.out 58 (gridCells fun _ => 0) Za4.out.1 (by rw [gridCells_size]; exact sizeGrid) (by rw [gridCells_size, gridCells_size]) (gridCells_one _) ?_
              have EF := Lib.hid (E4.out.far (below_setRow' (Below.refl (w.heap.size + 1) w4) HGa.out (gridCells (gridF (backRows rows)))))
              have ZFa := Lib.hid (GridAt.setRow Za4.out HLT.out)
              have ZSb := Lib.hid (grid_apart Zb4.out (Ne.symm HD.out) (gridCells (gridF (backRows rows))))
              generalize (w4.setRow Ga (gridCells (gridF (backRows rows)))) = wF at EF ZFa ZSb ⊢
              refine hK.out _ _ (⟨EF.out.c0, EF.out.c1⟩) (fun hHeld => ?_)
              clear hK K
              try dsimp only [Act.put]
              refine wpAnyH_ready (rs := [9]) (by kernel_rfl) (by simp) ?_
              refine AllReadyH.cons rfl (fun K hK => ?_) ?_
              · refine step_store_row rfl 58 (.tmp 6) (.tmp 15) rfl Gb (gridCells (gridF (backRows rows'))) rfl HV'.out 58 (gridCells fun _ => 0) ZSb.out.1 (by rw [gridCells_size]; exact sizeGrid) (by rw [gridCells_size, gridCells_size]) (gridCells_one _) ?_
                have EG := Lib.hid (EF.out.far (below_setRow' (Below.refl (w.heap.size + 1) wF) HGb.out (gridCells (gridF (backRows rows')))))
                have ZGb := Lib.hid (GridAt.setRow ZSb.out HLT'.out)
                have ZGa := Lib.hid (grid_apart ZFa.out HD.out (gridCells (gridF (backRows rows'))))
                refine hK.out _ _ (⟨EG.out.c0, EG.out.c1⟩) (fun hHeld => ?_)
                clear hK K
                try dsimp only [Act.put]
                refine wpAnyH_done (by kernel_rfl) ?_ _
                go_wp2_with fail
                go_meet
                exact ⟨Ga, Gb, rfl, rfl, HGa.out, HGb.out, ZGa.out, ZGb.out, EG.out⟩
              exact AllReadyH.nil
            exact AllReadyH.nil
          exact AllReadyH.nil
        exact AllReadyH.nil
      refine AllReadyH.cons rfl (fun K hK => ?_) ?_
      · go_simp
        have hb := (Below.refl w1.heap.size w1).alloc (Nat.le_refl _) (.cells (gridCells fun _ => 0) 58)
        have E2 := Lib.hid (E1.out.step hb)
        have Za2 := Lib.hid (Za1.out.below hb Za1.out.lt)
        clear hb
        have Zb2 := Lib.hid (store_new w1)
        have HGb := Lib.hid (show w.heap.size + 1 ≤ w1.heap.size from E1.out.lt)
        have HNE := Lib.hid (show Ga < w1.heap.size from Za1.out.lt)
        generalize hwq : w1.heap.size = Gb at Zb2 HGb HNE ⊢
        generalize (w1.alloc (.cells (gridCells fun _ => 0) 58)) = w2 at E2 Zb2 Za2 ⊢
        clear hwq
        have HD := Lib.hid (show Ga ≠ Gb by have := HNE.out; omega)
        refine hK.out _ _ (⟨E2.out.c0, E2.out.c1⟩) (fun hHeld => ?_)
        clear hK K
        try dsimp only [Act.put]
        refine wpAnyH_ready (rs := [2]) (by kernel_rfl) (by simp) ?_
        refine AllReadyH.cons rfl (fun K hK => ?_) ?_
        · go_simp
          refine (HBK.out _ E2.out).mono ?_
          rintro e w3 ⟨rfl, hb⟩
          have E3 := Lib.hid (E2.out.step hb)
          have Za3 := Lib.hid (Za2.out.below hb Za2.out.lt)
          have Zb3 := Lib.hid (Zb2.out.below hb Zb2.out.lt)
          clear hb
          obtain ⟨V, hV⟩ : ∃ V, V = Value.agg (gridCells (gridF (backRows rows))) := ⟨_, rfl⟩
          rw [← hV]
          have HV := Lib.hid hV
          clear hV
          go_wp2_with fail
          refine hK.out _ _ (⟨E3.out.c0, E3.out.c1⟩) (fun hHeld => ?_)
          clear hK K
          try dsimp only [Act.put]
          refine wpAnyH_ready (rs := [5]) (by kernel_rfl) (by simp) ?_
          refine AllReadyH.cons rfl (fun K hK => ?_) ?_
          · go_simp
            refine (HBK'.out _ E3.out).mono ?_
            rintro e w4 ⟨rfl, hb⟩
            have E4 := Lib.hid (E3.out.step hb)
            have Za4 := Lib.hid (Za3.out.below hb Za3.out.lt)
            have Zb4 := Lib.hid (Zb3.out.below hb Zb3.out.lt)
            clear hb
            obtain ⟨V', hV⟩ : ∃ V', V' = Value.agg (gridCells (gridF (backRows rows'))) := ⟨_, rfl⟩
            rw [← hV]
            have HV' := Lib.hid hV
            clear hV
            go_wp2_with fail
            refine hK.out _ _ (⟨E4.out.c0, E4.out.c1⟩) (fun hHeld => ?_)
            clear hK K
            try dsimp only [Act.put]
            refine wpAnyH_ready (rs := [8]) (by kernel_rfl) (by simp) ?_
            refine AllReadyH.cons rfl (fun K hK => ?_) ?_
            · refine step_store_row rfl 58 (.tmp 5) (.tmp 12) rfl Ga (gridCells (gridF (backRows rows))) rfl HV.out 58 (gridCells fun _ => 0) Za4.out.1 (by rw [gridCells_size]; exact sizeGrid) (by rw [gridCells_size, gridCells_size]) (gridCells_one _) ?_
              have EF := Lib.hid (E4.out.far (below_setRow' (Below.refl (w.heap.size + 1) w4) HGa.out (gridCells (gridF (backRows rows)))))
              have ZFa := Lib.hid (GridAt.setRow Za4.out HLT.out)
              have ZSb := Lib.hid (grid_apart Zb4.out (Ne.symm HD.out) (gridCells (gridF (backRows rows))))
              generalize (w4.setRow Ga (gridCells (gridF (backRows rows)))) = wF at EF ZFa ZSb ⊢
              refine hK.out _ _ (⟨EF.out.c0, EF.out.c1⟩) (fun hHeld => ?_)
              clear hK K
              try dsimp only [Act.put]
              refine wpAnyH_ready (rs := [9]) (by kernel_rfl) (by simp) ?_
              refine AllReadyH.cons rfl (fun K hK => ?_) ?_
              · refine step_store_row rfl 58 (.tmp 6) (.tmp 15) rfl Gb (gridCells (gridF (backRows rows'))) rfl HV'.out 58 (gridCells fun _ => 0) ZSb.out.1 (by rw [gridCells_size]; exact sizeGrid) (by rw [gridCells_size, gridCells_size]) (gridCells_one _) ?_
                have EG := Lib.hid (EF.out.far (below_setRow' (Below.refl (w.heap.size + 1) wF) HGb.out (gridCells (gridF (backRows rows')))))
                have ZGb := Lib.hid (GridAt.setRow ZSb.out HLT'.out)
                have ZGa := Lib.hid (grid_apart ZFa.out HD.out (gridCells (gridF (backRows rows'))))
                refine hK.out _ _ (⟨EG.out.c0, EG.out.c1⟩) (fun hHeld => ?_)
                clear hK K
                try dsimp only [Act.put]
                refine wpAnyH_done (by kernel_rfl) ?_ _
                go_wp2_with fail
                go_meet
                exact ⟨Ga, Gb, rfl, rfl, HGa.out, HGb.out, ZGa.out, ZGb.out, EG.out⟩
              exact AllReadyH.nil
            exact AllReadyH.nil
          exact AllReadyH.nil
        exact AllReadyH.nil
      exact AllReadyH.nil
    refine AllReadyH.cons rfl (fun K hK => ?_) ?_
    · go_simp
      have hb := (Below.refl W0.heap.size W0).alloc (Nat.le_refl _) (.cells (gridCells fun _ => 0) 58)
      have E1 := Lib.hid (E0.out.step hb)
      clear hb
      have Zb1 := Lib.hid (store_new W0)
      have HGb := Lib.hid (show w.heap.size + 1 ≤ W0.heap.size from E0.out.lt)
      generalize hwq : W0.heap.size = Gb at Zb1 HGb ⊢
      generalize (W0.alloc (.cells (gridCells fun _ => 0) 58)) = w1 at E1 Zb1 ⊢
      clear hwq
      refine hK.out _ _ (⟨E1.out.c0, E1.out.c1⟩) (fun hHeld => ?_)
      clear hK K
      try dsimp only [Act.put]
      refine wpAnyH_ready (rs := [2, 6]) (by kernel_rfl) (by simp) ?_
      refine AllReadyH.cons rfl (fun K hK => ?_) ?_
      · go_simp
        refine (HBK.out _ E1.out).mono ?_
        rintro e w2 ⟨rfl, hb⟩
        have E2 := Lib.hid (E1.out.step hb)
        have Zb2 := Lib.hid (Zb1.out.below hb Zb1.out.lt)
        clear hb
        obtain ⟨V, hV⟩ : ∃ V, V = Value.agg (gridCells (gridF (backRows rows))) := ⟨_, rfl⟩
        rw [← hV]
        have HV := Lib.hid hV
        clear hV
        go_wp2_with fail
        refine hK.out _ _ (⟨E2.out.c0, E2.out.c1⟩) (fun hHeld => ?_)
        clear hK K
        try dsimp only [Act.put]
        refine wpAnyH_ready (rs := [5, 6]) (by kernel_rfl) (by simp) ?_
        refine AllReadyH.cons rfl (fun K hK => ?_) ?_
        · go_simp
          refine (HBK'.out _ E2.out).mono ?_
          rintro e w3 ⟨rfl, hb⟩
          have E3 := Lib.hid (E2.out.step hb)
          have Zb3 := Lib.hid (Zb2.out.below hb Zb2.out.lt)
          clear hb
          obtain ⟨V', hV⟩ : ∃ V', V' = Value.agg (gridCells (gridF (backRows rows'))) := ⟨_, rfl⟩
          rw [← hV]
          have HV' := Lib.hid hV
          clear hV
          go_wp2_with fail
          refine hK.out _ _ (⟨E3.out.c0, E3.out.c1⟩) (fun hHeld => ?_)
          clear hK K
          try dsimp only [Act.put]
          refine wpAnyH_ready (rs := [6]) (by kernel_rfl) (by simp) ?_
          refine AllReadyH.cons rfl (fun K hK => ?_) ?_
          · go_simp
            have hb := (Below.refl w3.heap.size w3).alloc (Nat.le_refl _) (.cells (gridCells fun _ => 0) 58)
            have E4 := Lib.hid (E3.out.step hb)
            have Zb4 := Lib.hid (Zb3.out.below hb Zb3.out.lt)
            clear hb
            have Za4 := Lib.hid (store_new w3)
            have HGa := Lib.hid (show w.heap.size + 1 ≤ w3.heap.size from E3.out.lt)
            have HNE := Lib.hid (show Gb < w3.heap.size from Zb3.out.lt)
            generalize hwq : w3.heap.size = Ga at Za4 HGa HNE ⊢
            generalize (w3.alloc (.cells (gridCells fun _ => 0) 58)) = w4 at E4 Za4 Zb4 ⊢
            clear hwq
            have HD := Lib.hid (show Ga ≠ Gb by have := HNE.out; omega)
            refine hK.out _ _ (⟨E4.out.c0, E4.out.c1⟩) (fun hHeld => ?_)
            clear hK K
            try dsimp only [Act.put]
            refine wpAnyH_ready (rs := [8]) (by kernel_rfl) (by simp) ?_
            refine AllReadyH.cons rfl (fun K hK => ?_) ?_
            · refine step_store_row rfl 58 (.tmp 5) (.tmp 12) rfl Ga (gridCells (gridF (backRows rows))) rfl HV.out 58 (gridCells fun _ => 0) Za4.out.1 (by rw [gridCells_size]; exact sizeGrid) (by rw [gridCells_size, gridCells_size]) (gridCells_one _) ?_
              have EF := Lib.hid (E4.out.far (below_setRow' (Below.refl (w.heap.size + 1) w4) HGa.out (gridCells (gridF (backRows rows)))))
              have ZFa := Lib.hid (GridAt.setRow Za4.out HLT.out)
              have ZSb := Lib.hid (grid_apart Zb4.out (Ne.symm HD.out) (gridCells (gridF (backRows rows))))
              generalize (w4.setRow Ga (gridCells (gridF (backRows rows)))) = wF at EF ZFa ZSb ⊢
              refine hK.out _ _ (⟨EF.out.c0, EF.out.c1⟩) (fun hHeld => ?_)
              clear hK K
              try dsimp only [Act.put]
              refine wpAnyH_ready (rs := [9]) (by kernel_rfl) (by simp) ?_
              refine AllReadyH.cons rfl (fun K hK => ?_) ?_
              · refine step_store_row rfl 58 (.tmp 6) (.tmp 15) rfl Gb (gridCells (gridF (backRows rows'))) rfl HV'.out 58 (gridCells fun _ => 0) ZSb.out.1 (by rw [gridCells_size]; exact sizeGrid) (by rw [gridCells_size, gridCells_size]) (gridCells_one _) ?_
                have EG := Lib.hid (EF.out.far (below_setRow' (Below.refl (w.heap.size + 1) wF) HGb.out (gridCells (gridF (backRows rows')))))
                have ZGb := Lib.hid (GridAt.setRow ZSb.out HLT'.out)
                have ZGa := Lib.hid (grid_apart ZFa.out HD.out (gridCells (gridF (backRows rows'))))
                refine hK.out _ _ (⟨EG.out.c0, EG.out.c1⟩) (fun hHeld => ?_)
                clear hK K
                try dsimp only [Act.put]
                refine wpAnyH_done (by kernel_rfl) ?_ _
                go_wp2_with fail
                go_meet
                exact ⟨Ga, Gb, rfl, rfl, HGa.out, HGb.out, ZGa.out, ZGb.out, EG.out⟩
              exact AllReadyH.nil
            exact AllReadyH.nil
          exact AllReadyH.nil
        refine AllReadyH.cons rfl (fun K hK => ?_) ?_
        · go_simp
          have hb := (Below.refl w2.heap.size w2).alloc (Nat.le_refl _) (.cells (gridCells fun _ => 0) 58)
          have E3 := Lib.hid (E2.out.step hb)
          have Zb3 := Lib.hid (Zb2.out.below hb Zb2.out.lt)
          clear hb
          have Za3 := Lib.hid (store_new w2)
          have HGa := Lib.hid (show w.heap.size + 1 ≤ w2.heap.size from E2.out.lt)
          have HNE := Lib.hid (show Gb < w2.heap.size from Zb2.out.lt)
          generalize hwq : w2.heap.size = Ga at Za3 HGa HNE ⊢
          generalize (w2.alloc (.cells (gridCells fun _ => 0) 58)) = w3 at E3 Za3 Zb3 ⊢
          clear hwq
          have HD := Lib.hid (show Ga ≠ Gb by have := HNE.out; omega)
          refine hK.out _ _ (⟨E3.out.c0, E3.out.c1⟩) (fun hHeld => ?_)
          clear hK K
          try dsimp only [Act.put]
          refine wpAnyH_ready (rs := [5]) (by kernel_rfl) (by simp) ?_
          refine AllReadyH.cons rfl (fun K hK => ?_) ?_
          · go_simp
            refine (HBK'.out _ E3.out).mono ?_
            rintro e w4 ⟨rfl, hb⟩
            have E4 := Lib.hid (E3.out.step hb)
            have Zb4 := Lib.hid (Zb3.out.below hb Zb3.out.lt)
            have Za4 := Lib.hid (Za3.out.below hb Za3.out.lt)
            clear hb
            obtain ⟨V', hV⟩ : ∃ V', V' = Value.agg (gridCells (gridF (backRows rows'))) := ⟨_, rfl⟩
            rw [← hV]
            have HV' := Lib.hid hV
            clear hV
            go_wp2_with fail
            refine hK.out _ _ (⟨E4.out.c0, E4.out.c1⟩) (fun hHeld => ?_)
            clear hK K
            try dsimp only [Act.put]
            refine wpAnyH_ready (rs := [8]) (by kernel_rfl) (by simp) ?_
            refine AllReadyH.cons rfl (fun K hK => ?_) ?_
            · refine step_store_row rfl 58 (.tmp 5) (.tmp 12) rfl Ga (gridCells (gridF (backRows rows))) rfl HV.out 58 (gridCells fun _ => 0) Za4.out.1 (by rw [gridCells_size]; exact sizeGrid) (by rw [gridCells_size, gridCells_size]) (gridCells_one _) ?_
              have EF := Lib.hid (E4.out.far (below_setRow' (Below.refl (w.heap.size + 1) w4) HGa.out (gridCells (gridF (backRows rows)))))
              have ZFa := Lib.hid (GridAt.setRow Za4.out HLT.out)
              have ZSb := Lib.hid (grid_apart Zb4.out (Ne.symm HD.out) (gridCells (gridF (backRows rows))))
              generalize (w4.setRow Ga (gridCells (gridF (backRows rows)))) = wF at EF ZFa ZSb ⊢
              refine hK.out _ _ (⟨EF.out.c0, EF.out.c1⟩) (fun hHeld => ?_)
              clear hK K
              try dsimp only [Act.put]
              refine wpAnyH_ready (rs := [9]) (by kernel_rfl) (by simp) ?_
              refine AllReadyH.cons rfl (fun K hK => ?_) ?_
              · refine step_store_row rfl 58 (.tmp 6) (.tmp 15) rfl Gb (gridCells (gridF (backRows rows'))) rfl HV'.out 58 (gridCells fun _ => 0) ZSb.out.1 (by rw [gridCells_size]; exact sizeGrid) (by rw [gridCells_size, gridCells_size]) (gridCells_one _) ?_
                have EG := Lib.hid (EF.out.far (below_setRow' (Below.refl (w.heap.size + 1) wF) HGb.out (gridCells (gridF (backRows rows')))))
                have ZGb := Lib.hid (GridAt.setRow ZSb.out HLT'.out)
                have ZGa := Lib.hid (grid_apart ZFa.out HD.out (gridCells (gridF (backRows rows'))))
                refine hK.out _ _ (⟨EG.out.c0, EG.out.c1⟩) (fun hHeld => ?_)
                clear hK K
                try dsimp only [Act.put]
                refine wpAnyH_done (by kernel_rfl) ?_ _
                go_wp2_with fail
                go_meet
                exact ⟨Ga, Gb, rfl, rfl, HGa.out, HGb.out, ZGa.out, ZGb.out, EG.out⟩
              exact AllReadyH.nil
            exact AllReadyH.nil
          exact AllReadyH.nil
        exact AllReadyH.nil
      refine AllReadyH.cons rfl (fun K hK => ?_) ?_
      · go_simp
        have hb := (Below.refl w1.heap.size w1).alloc (Nat.le_refl _) (.cells (gridCells fun _ => 0) 58)
        have E2 := Lib.hid (E1.out.step hb)
        have Zb2 := Lib.hid (Zb1.out.below hb Zb1.out.lt)
        clear hb
        have Za2 := Lib.hid (store_new w1)
        have HGa := Lib.hid (show w.heap.size + 1 ≤ w1.heap.size from E1.out.lt)
        have HNE := Lib.hid (show Gb < w1.heap.size from Zb1.out.lt)
        generalize hwq : w1.heap.size = Ga at Za2 HGa HNE ⊢
        generalize (w1.alloc (.cells (gridCells fun _ => 0) 58)) = w2 at E2 Za2 Zb2 ⊢
        clear hwq
        have HD := Lib.hid (show Ga ≠ Gb by have := HNE.out; omega)
        refine hK.out _ _ (⟨E2.out.c0, E2.out.c1⟩) (fun hHeld => ?_)
        clear hK K
        try dsimp only [Act.put]
        refine wpAnyH_ready (rs := [2]) (by kernel_rfl) (by simp) ?_
        refine AllReadyH.cons rfl (fun K hK => ?_) ?_
        · go_simp
          refine (HBK.out _ E2.out).mono ?_
          rintro e w3 ⟨rfl, hb⟩
          have E3 := Lib.hid (E2.out.step hb)
          have Zb3 := Lib.hid (Zb2.out.below hb Zb2.out.lt)
          have Za3 := Lib.hid (Za2.out.below hb Za2.out.lt)
          clear hb
          obtain ⟨V, hV⟩ : ∃ V, V = Value.agg (gridCells (gridF (backRows rows))) := ⟨_, rfl⟩
          rw [← hV]
          have HV := Lib.hid hV
          clear hV
          go_wp2_with fail
          refine hK.out _ _ (⟨E3.out.c0, E3.out.c1⟩) (fun hHeld => ?_)
          clear hK K
          try dsimp only [Act.put]
          refine wpAnyH_ready (rs := [5]) (by kernel_rfl) (by simp) ?_
          refine AllReadyH.cons rfl (fun K hK => ?_) ?_
          · go_simp
            refine (HBK'.out _ E3.out).mono ?_
            rintro e w4 ⟨rfl, hb⟩
            have E4 := Lib.hid (E3.out.step hb)
            have Zb4 := Lib.hid (Zb3.out.below hb Zb3.out.lt)
            have Za4 := Lib.hid (Za3.out.below hb Za3.out.lt)
            clear hb
            obtain ⟨V', hV⟩ : ∃ V', V' = Value.agg (gridCells (gridF (backRows rows'))) := ⟨_, rfl⟩
            rw [← hV]
            have HV' := Lib.hid hV
            clear hV
            go_wp2_with fail
            refine hK.out _ _ (⟨E4.out.c0, E4.out.c1⟩) (fun hHeld => ?_)
            clear hK K
            try dsimp only [Act.put]
            refine wpAnyH_ready (rs := [8]) (by kernel_rfl) (by simp) ?_
            refine AllReadyH.cons rfl (fun K hK => ?_) ?_
            · refine step_store_row rfl 58 (.tmp 5) (.tmp 12) rfl Ga (gridCells (gridF (backRows rows))) rfl HV.out 58 (gridCells fun _ => 0) Za4.out.1 (by rw [gridCells_size]; exact sizeGrid) (by rw [gridCells_size, gridCells_size]) (gridCells_one _) ?_
              have EF := Lib.hid (E4.out.far (below_setRow' (Below.refl (w.heap.size + 1) w4) HGa.out (gridCells (gridF (backRows rows)))))
              have ZFa := Lib.hid (GridAt.setRow Za4.out HLT.out)
              have ZSb := Lib.hid (grid_apart Zb4.out (Ne.symm HD.out) (gridCells (gridF (backRows rows))))
              generalize (w4.setRow Ga (gridCells (gridF (backRows rows)))) = wF at EF ZFa ZSb ⊢
              refine hK.out _ _ (⟨EF.out.c0, EF.out.c1⟩) (fun hHeld => ?_)
              clear hK K
              try dsimp only [Act.put]
              refine wpAnyH_ready (rs := [9]) (by kernel_rfl) (by simp) ?_
              refine AllReadyH.cons rfl (fun K hK => ?_) ?_
              · refine step_store_row rfl 58 (.tmp 6) (.tmp 15) rfl Gb (gridCells (gridF (backRows rows'))) rfl HV'.out 58 (gridCells fun _ => 0) ZSb.out.1 (by rw [gridCells_size]; exact sizeGrid) (by rw [gridCells_size, gridCells_size]) (gridCells_one _) ?_
                have EG := Lib.hid (EF.out.far (below_setRow' (Below.refl (w.heap.size + 1) wF) HGb.out (gridCells (gridF (backRows rows')))))
                have ZGb := Lib.hid (GridAt.setRow ZSb.out HLT'.out)
                have ZGa := Lib.hid (grid_apart ZFa.out HD.out (gridCells (gridF (backRows rows'))))
                refine hK.out _ _ (⟨EG.out.c0, EG.out.c1⟩) (fun hHeld => ?_)
                clear hK K
                try dsimp only [Act.put]
                refine wpAnyH_done (by kernel_rfl) ?_ _
                go_wp2_with fail
                go_meet
                exact ⟨Ga, Gb, rfl, rfl, HGa.out, HGb.out, ZGa.out, ZGb.out, EG.out⟩
              exact AllReadyH.nil
            exact AllReadyH.nil
          exact AllReadyH.nil
        exact AllReadyH.nil
      exact AllReadyH.nil
    exact AllReadyH.nil
  obtain ⟨Ga, Gb, rfl, rfl, _, _, hga, hgb, hbx⟩ := hcut
  have HA := Lib.hid hga
  have HB := Lib.hid hgb
  have HX := Lib.hid hbx
  clear hga hgb hbx
  go_wp2
  go_loopw [7, 18] (fun _ kv wr => ∃ a : Nat, a ≤ f.length ∧ kv = .int .i64 a ∧ (∀ q, q < a → ∀ b, b < q → badSt rows rows' f q b = false) ∧ Below wc.heap.size wc wr) (fun _ kv _ => f.length - (intOf kv).toNat)
  case atStart => exact ⟨0, Nat.zero_le _, rfl, fun _ h => absurd h (Nat.not_lt_zero _), Below.refl _ _⟩
  case round =>
    obtain ⟨a, ha, rfl, hp, hB⟩ := hrel
    have HP := Lib.hid hp
    have HBA := Lib.hid hB
    clear hp hB
    by_cases hal : a < f.length
    · have halz : (a : Int) < (f.length : Int) := by omega
      go_wp2
      go_loopw [8, 9, 22] (fun _ _ kv wr => ∃ b : Nat, b ≤ a ∧ kv = .int .i64 b ∧ (∀ q, q < b → badSt rows rows' f a q = false) ∧ Below wc.heap.size wc wr) (fun _ _ kv _ => a - (intOf kv).toNat)
      case atStart => exact ⟨0, Nat.zero_le _, rfl, fun _ h => absurd h (Nat.not_lt_zero _), HBA.out⟩
      case round =>
        obtain ⟨b, hb, rfl, hp, hB⟩ := hrel
        have HQ := Lib.hid hp
        have HBB := Lib.hid hB
        clear hp hB
        by_cases hbl : b < a
        · have hblz : (b : Int) < (a : Int) := by omega
          have hblf : b < f.length := by omega
          have hbfz : (b : Int) < (f.length : Int) := by omega
          have HW := Lib.hid (HX.out.below.trans (HBB.out.mono HX.out.below.size))
          have HXR := Lib.hid (HX.out.step HBB.out)
          have hbox := HXR.out.c0
          have hin0 : (0 : Int) ≤ (a : Int) := by omega
          have hin1 : (a : Int) < 200 := by omega
          have hin2 : (0 : Int) ≤ (b : Int) := by omega
          have hin3 : (b : Int) < 200 := by omega
          have har : a < rows.length := by have := HMO.out.1; omega
          have hbr : b < rows.length := by have := HMO.out.1; omega
          obtain ⟨c0, c1, c2, c3⟩ := (HGA.out wr HW.out).row a (by omega)
          obtain ⟨d0, d1, d2, d3⟩ := (HGA.out wr HW.out).row b (by omega)
          have hq0 := fun d os => cell_regrown hbox d os
          have hk0 := fun d os => cell_regrown c0 d os
          have hk1 := fun d os => cell_regrown c1 d os
          have hk2 := fun d os => cell_regrown c2 d os
          have hk3 := fun d os => cell_regrown c3 d os
          have hl0 := fun d os => cell_regrown d0 d os
          have hl1 := fun d os => cell_regrown d1 d os
          have hl2 := fun d os => cell_regrown d2 d os
          have hl3 := fun d os => cell_regrown d3 d os
          have hxA := fun d os => Calls.regrown_of (w := wr) (d := d) (os := os) (and_any (gridF rows a) (gridF rows b) _)
          have hbd := HBD.out a b har hbr
          have hxE := fun d os => Calls.regrown_of (w := wr) (d := d) (os := os) (empty_any (gridF rows a &&& gridF rows b) _ (Nat.and_lt_two_pow _ (HROW.out b)))
          obtain ⟨t, ht⟩ : ∃ t, decide (gridF rows a &&& gridF rows b = 0) = t := ⟨_, rfl⟩
          rw [ht] at hbd
          simp only [ht] at hxE
          have HBT := Lib.hid hbd
          clear ht hbd c0 c1 c2 c3 d0 d1 d2 d3 hbox
          go_upto_region 8 with fail
          refine wp_region_quiet_below (by kernel_rfl) (by kernel_rfl) ?_
          repeat (go_big_quiet_step (first | (go_at_call 64; exact hxA _ _) | (go_at_call 65; exact hxE _ _)))
          refine wpQuiet_nil ?_
          intro _ hw'
          obtain ⟨⟨dq, osq⟩, hw''⟩ := hw'
          subst hw''
          clear hxA hxE hq0 hk0 hk1 hk2 hk3 hl0 hl1 hl2 hl3
          have HB8 := Lib.hid (HBB.out.trans ((below_regrown wr dq osq).mono HBB.out.size))
          generalize «Sort».grow (redrawn wr dq) osq = wq at HB8 ⊢
          have HW8 := Lib.hid (HX.out.below.trans (HB8.out.mono HX.out.below.size))
          cases t with
          | true =>
            rw [Bool.not_true]
            have HE8 := Lib.hid (show badSt rows rows' f a b = false by unfold badSt; rw [HBT.out]; rfl)
            go_upto_region 9 with fail
            refine wp_region_quiet_below (by kernel_rfl) (by kernel_rfl) ?_
            repeat (go_big_quiet_step (fail))
            refine wpQuiet_nil ?_
            intro _ hw'
            obtain ⟨⟨dq2, osq2⟩, hw''⟩ := hw'
            subst hw''
            clear HBT
            have HB9 := Lib.hid (HB8.out.trans ((below_regrown wq dq2 osq2).mono HB8.out.size))
            go_wp2
            go_roundw
            case rel =>
              refine ⟨b + 1, by omega, by go_num, fun q hq => ?_, HB9.out⟩
              by_cases e : q = b
              · subst e; exact HE8.out
              · exact HQ.out q (by omega)
            case measure => simp [intOf]; omega
          | false =>
            rw [Bool.not_false]
            obtain ⟨c, hcl, hcj⟩ := HMT.out a b har hbr
            have hclf : c < f.length := by have := HMO.out.1; omega
            have hclz : (c : Int) < (f.length : Int) := by omega
            have hcz0 : (0 : Int) ≤ (c : Int) := by omega
            have hfa := HMO.out.2.1 _ (List.getElem_mem hal)
            have hfb := HMO.out.2.1 _ (List.getElem_mem hblf)
            obtain ⟨ka, hka⟩ : ∃ ka : Nat, f[a] = (ka : Int) := ⟨f[a].toNat, by omega⟩
            obtain ⟨kb, hkb⟩ : ∃ kb : Nat, f[b] = (kb : Int) := ⟨f[b].toNat, by omega⟩
            have hxJ := fun d os => Calls.regrown_of (w := wq) (d := d) (os := os) (HJ.out Ga a b _ har hbr ((HA.out.below HB8.out HA.out.lt).below (below_regrown wq d os) (Nat.lt_of_lt_of_le HA.out.lt HB8.out.size)) (HTA.out _ (HW8.out.trans ((below_regrown wq d os).mono HW8.out.size))))
            have hxK := fun d os => Calls.regrown_of (w := wq) (d := d) (os := os) (HJ'.out Gb ka kb _ (by omega) (by omega) ((HB.out.below HB8.out HB.out.lt).below (below_regrown wq d os) (Nat.lt_of_lt_of_le HB.out.lt HB8.out.size)) (HTA.out _ (HW8.out.trans ((below_regrown wq d os).mono HW8.out.size))))
            simp only [hcj] at hxJ
            obtain ⟨bf, o_f, rfl, hca⟩ := (HFA.out wq HW8.out).get hal
            obtain ⟨_, _, e2, hcb⟩ := (HFA.out wq HW8.out).get hblf
            cases e2
            obtain ⟨_, _, e3, hcc⟩ := (HFA.out wq HW8.out).get hclf
            cases e3
            rw [hka] at hca
            rw [hkb] at hcb
            obtain ⟨j, hj⟩ : ∃ j, joinI (backRows rows') ka kb = j := ⟨_, rfl⟩
            simp only [hj] at hxK
            obtain ⟨s, hs⟩ : ∃ s : Bool, (f[c] != j) = s := ⟨_, rfl⟩
            have HE8 := Lib.hid (show badSt rows rows' f a b = s by
              unfold badSt
              rw [HBT.out, hcj, getD_lt 0 hal, getD_lt 0 hblf, hka, hkb, Int.toNat_natCast, Int.toNat_natCast, Int.toNat_natCast, getD_lt 0 hclf, hj, ← hs, show (j == f[c]) = (f[c] == j) from Bool.eq_iff_iff.2 ⟨fun h => by rw [beq_iff_eq] at h ⊢; exact h.symm, fun h => by rw [beq_iff_eq] at h ⊢; exact h.symm⟩]
              rfl)
            have hm0 := fun d os => cell_regrown hca d os
            have hm1 := fun d os => cell_regrown hcb d os
            have hm2 := fun d os => cell_regrown hcc d os
            clear hcj hfa hfb hka hkb hj hca hcb hcc
            cases s with
            | true =>
              have HNO := Lib.hid (stableI_bad hal hbl HE8.out)
              go_upto_region 9 with fail
              refine wp_region_quiet_below (by kernel_rfl) (by kernel_rfl) ?_
              repeat (go_big_quiet_step (first | (go_at_call_of 66 (Value.pointer (some ⟨Ga, 0, none⟩)); exact hxJ _ _) | (go_at_call_of 66 (Value.pointer (some ⟨Gb, 0, none⟩)); exact hxK _ _)))
              refine wpQuiet_nil ?_
              intro _ hw'
              obtain ⟨⟨dq2, osq2⟩, hw''⟩ := hw'
              subst hw''
              clear hxJ hxK hm0 hm1 hm2
              have HB9 := Lib.hid (HW8.out.trans ((below_regrown wq dq2 osq2).mono HW8.out.size))
              go_wp2
              go_ret
              exact ⟨by rw [HNO.out]; rfl, HB9.out⟩
            | false =>
              go_upto_region 9 with fail
              refine wp_region_quiet_below (by kernel_rfl) (by kernel_rfl) ?_
              repeat (go_big_quiet_step (first | (go_at_call_of 66 (Value.pointer (some ⟨Ga, 0, none⟩)); exact hxJ _ _) | (go_at_call_of 66 (Value.pointer (some ⟨Gb, 0, none⟩)); exact hxK _ _)))
              refine wpQuiet_nil ?_
              intro _ hw'
              obtain ⟨⟨dq2, osq2⟩, hw''⟩ := hw'
              subst hw''
              clear hxJ hxK hm0 hm1 hm2
              have HB9 := Lib.hid (HB8.out.trans ((below_regrown wq dq2 osq2).mono HB8.out.size))
              go_wp2
              go_roundw
              case rel =>
                refine ⟨b + 1, by omega, by go_num, fun q hq => ?_, HB9.out⟩
                by_cases e : q = b
                · subst e; exact HE8.out
                · exact HQ.out q (by omega)
              case measure => simp [intOf]; omega
        · obtain rfl : b = a := by omega
          have hblz : ¬ ((b : Int) < (b : Int)) := by omega
          go_wp2
          go_roundw
          case rel =>
            refine ⟨b + 1, by omega, by go_num, fun q hq c hc => ?_, HBB.out⟩
            by_cases e : q = b
            · subst e; exact HQ.out c hc
            · exact HP.out q (by omega) c hc
          case measure => simp [intOf]; omega
    · obtain rfl : a = f.length := by omega
      have halz : ¬ ((f.length : Int) < (f.length : Int)) := by omega
      have HYES := Lib.hid (stableI_yes HP.out)
      go_wp2
      go_ret
      exact ⟨by rw [HYES.out]; rfl, HX.out.below.trans (HBA.out.mono HX.out.below.size)⟩
end Go.Proofs.YtppjogkednclcaaDoor

/- The model's FunStable. -/
namespace Go.Proofs.YtppjogkednclcaaDoor
open Go.RowKit Go.Deep

/-- Four variables that hold orders: two of the caller's, two that the call has turned round. -/
structure Fo (w : World) (v v' u u' : Value) (rows rows' : Rows2) (z z' : Nat) (W : World) : Prop where
  two : Two w v v' rows rows' W
  c2 : W.cell? ⟨z, 0, none⟩ = some u
  c3 : W.cell? ⟨z', 0, none⟩ = some u'
  r2 : RowsAt W u (backRows rows)
  r3 : RowsAt W u' (backRows rows')
theorem Fo.step {w : World} {v v' u u' : Value} {rows rows' : Rows2} {z z' : Nat} {W W' : World} (h : Fo w v v' u u' rows rows' z z' W) (hb : Below W.heap.size W W') : Fo w v v' u u' rows rows' z z' W' :=
  ⟨h.two.step hb, (hb.cell (p := ⟨z, 0, none⟩) (cell_lt h.c2)).trans h.c2, (hb.cell (p := ⟨z', 0, none⟩) (cell_lt h.c3)).trans h.c3, h.r2.below hb, h.r3.below hb⟩

theorem backV {W : World} {v : Value} {rows : Rows2} {lo hi : Nat} (h : OwnR 3 33 W v rows.length (rowsF (backRows rows)) lo hi) : RowsAt W v (backRows rows) := by
  rw [← backRows_len rows] at h
  exact h.at

set_option maxRecDepth 100000 in
set_option maxHeartbeats 8000000 in
theorem specStable_any (v v' vf : Value) (rows rows' : Rows2) (f : List Int) (w : World) (hv : RowsAt w v rows) (hv' : RowsAt w v' rows') (hf : IntsAt w vf f) (hn : bulk rows ≤ 1048576) (hn' : bulk rows' ≤ 1048576) :
    Calls Tryd.prog 20 #[.agg #[v], .agg #[v'], vf] w (SaysN (stableB rows rows' f) w) := by
  have hT0 := TwoF.start w 26 26 hv hv' hf
  have hcM := specMono_any _ _ _ rows rows' f _ hT0.1.r0 hT0.1.r1 hT0.2 hn hn'
  have HFA := Lib.hid (fun W (h : Below w.heap.size w W) => hf.below h)
  obtain ⟨A, C, rfl, _⟩ := hv
  obtain ⟨A', C', rfl, _⟩ := hv'
  obtain ⟨Af, Cf, rfl, hCf, hmf, _⟩ := hf
  unfold maxLen at hmf
  have H0 := Lib.hid hT0
  have hc0 := hT0.1.c0
  have hc1 := hT0.1.c1
  clear hT0
  cases hm : monoB rows rows' f with
  | false =>
    rw [hm] at hcM
    have HE := Lib.hid (show stableB rows rows' f = false by unfold stableB; rw [hm]; rfl)
    clear hm
    go_enter Tryd.func20, Tryd.ntmps20
    go_wp2_with (go_at_call 38; refine hcM.mono ?_; clear hcM; rintro e w1 ⟨rfl, hb1⟩; have H1 := Lib.hid (H0.out.step hb1); clear hb1)
    go_ret
    exact ⟨by rw [HE.out]; rfl, H1.out.1.below⟩
  | true =>
    rw [hm] at hcM
    have HE := Lib.hid (show stableB rows rows' f = stableI rows rows' f by unfold stableB; rw [hm]; rfl)
    obtain ⟨hd, hd', hmo⟩ := monoB_parts hm
    have hok := (domB_iff.1 hd).1
    have hok' := (domB_iff.1 hd').1
    have HMO := Lib.hid hmo
    have HMT := Lib.hid (fun a b (ha : a < rows.length) (hb : b < rows.length) => meet_there hd ha hb)
    have HB0 := Lib.hid (fun W (h : RowsAt W (.slice A rows.length C) rows) => l1Back_any (.slice A rows.length C) rows W h hok)
    have HB1 := Lib.hid (fun W (h : RowsAt W (.slice A' rows'.length C') rows') => l1Back_any (.slice A' rows'.length C') rows' W h hok')
    have HBD := Lib.hid (fun a b W (ha : a < rows.length) (hb : b < rows.length) (h : RowsAt W (.slice A rows.length C) rows) => l1Bounded_any (.slice A rows.length C) rows (a : Int) (b : Int) a b W h hn (valid_lists (valid_of_ok hok)) rfl rfl ha hb)
    have HJ := Lib.hid (fun u a b W (ha : a < rows.length) (hb : b < rows.length) (h : RowsAt W u (backRows rows)) => l1Join_any u (backRows rows) (a : Int) (b : Int) a b W h hok.back.bulk (valid_lists (valid_of_ok hok.back)) rfl rfl (by rw [backRows_len]; exact ha) (by rw [backRows_len]; exact hb))
    have HJ' := Lib.hid (fun u a b W (ha : a < rows'.length) (hb : b < rows'.length) (h : RowsAt W u (backRows rows')) => l1Join_any u (backRows rows') (a : Int) (b : Int) a b W h hok'.back.bulk (valid_lists (valid_of_ok hok'.back)) rfl rfl (by rw [backRows_len]; exact ha) (by rw [backRows_len]; exact hb))
    have hn200 : f.length ≤ 200 := by rw [hmo.1]; exact hok.len.2
    clear hm hd hd' hmo hok hok'
    go_enter Tryd.func20, Tryd.ntmps20
    go_wp2_with (first | (go_at_call 38; refine hcM.mono ?_; clear hcM; rintro e w1 ⟨rfl, hb1⟩; have H1 := Lib.hid (H0.out.step hb1); have hd0 := H1.out.1.c0; clear hb1 hc0 hc1) | (go_at_call_of 42 (Value.slice A (List.length rows) C); refine (HB0.out _ H1.out.1.r0).mono ?_; rintro e w2 ⟨u, rfl, hu, hb2⟩; obtain ⟨a2, C2, rfl⟩ := hu.form; have HU := Lib.hid (backV hu); have hbx2 := (Below.refl w2.heap.size w2).alloc (Nat.le_refl _) (.cells #[.slice a2 rows.length C2] 26); have HU2 := Lib.hid (HU.out.below hbx2); have hcu := one_new w2 (.slice a2 rows.length C2) 26; have HCU := Lib.hid hcu; have H2 := Lib.hid ((H1.out.step hb2).step hbx2); have hd1 := H2.out.1.c1; clear hu hb2 hbx2 hd0) | (go_at_call 42; refine (HB1.out _ H2.out.1.r1).mono ?_; rintro e w3 ⟨u, rfl, hu, hb3⟩; obtain ⟨a3, C3, rfl⟩ := hu.form; have HV := Lib.hid (backV hu); have hbx3 := (Below.refl w3.heap.size w3).alloc (Nat.le_refl _) (.cells #[.slice a3 rows'.length C3] 26); have HF := Lib.hid (⟨(H2.out.step hb3).step hbx3 |>.1, ((hb3.trans (hbx3.mono hb3.size)).cell (p := ⟨w2.heap.size, 0, none⟩) (cell_lt HCU.out)).trans HCU.out, one_new w3 (.slice a3 rows'.length C3) 26, HU2.out.below (hb3.trans (hbx3.mono hb3.size)), HV.out.below hbx3⟩ : Fo w (.slice A rows.length C) (.slice A' rows'.length C') (.slice a2 rows.length C2) (.slice a3 rows'.length C3) rows rows' w2.heap.size w3.heap.size _); clear hu hb3 hbx3 hd1))
    generalize (w3.alloc (.cells #[.slice a3 rows'.length C3] 26)) = w4 at HF ⊢
    generalize w2.heap.size = z2 at HF ⊢
    generalize w3.heap.size = z3 at HF ⊢
    go_wp2
    go_loopw [9] (fun kv wr => ∃ a : Nat, a ≤ f.length ∧ kv = .int .i64 a ∧ (∀ q, q < a → ∀ b, b < q → badSt rows rows' f q b = false) ∧ Fo w (.slice A rows.length C) (.slice A' rows'.length C') (.slice a2 rows.length C2) (.slice a3 rows'.length C3) rows rows' z2 z3 wr) (fun kv _ => f.length - (intOf kv).toNat)
    case atStart => exact ⟨0, Nat.zero_le _, rfl, fun _ h => absurd h (Nat.not_lt_zero _), HF.out⟩
    case round =>
      obtain ⟨a, ha, rfl, hp, hh⟩ := hrel
      have HP := Lib.hid hp
      have HA := Lib.hid hh
      clear hp hh HF
      by_cases hal : a < f.length
      · have halz : (a : Int) < (f.length : Int) := by omega
        go_wp2
        go_loopw [10] (fun kv wr => ∃ b : Nat, b ≤ a ∧ kv = .int .i64 b ∧ (∀ q, q < b → badSt rows rows' f a q = false) ∧ Fo w (.slice A rows.length C) (.slice A' rows'.length C') (.slice a2 rows.length C2) (.slice a3 rows'.length C3) rows rows' z2 z3 wr) (fun kv _ => a - (intOf kv).toNat)
        case atStart => exact ⟨0, Nat.zero_le _, rfl, fun _ h => absurd h (Nat.not_lt_zero _), HA.out⟩
        case round =>
          obtain ⟨b, hb, rfl, hp, hh⟩ := hrel
          have HQ := Lib.hid hp
          have HX := Lib.hid hh
          clear hp hh HA
          by_cases hbl : b < a
          · have hblz : (b : Int) < (a : Int) := by omega
            have hblf : b < f.length := by omega
            have hbfz : (b : Int) < (f.length : Int) := by omega
            have har : a < rows.length := by have := HMO.out.1; omega
            have hbr : b < rows.length := by have := HMO.out.1; omega
            have hq0 := fun d os => cell_regrown HX.out.two.c0 d os
            have hxB := fun d os => Calls.regrown_of (w := wr) (d := d) (os := os) (HBD.out a b _ har hbr (HX.out.step (below_regrown wr d os)).two.r0)
            obtain ⟨t, ht⟩ : ∃ t, boundedI rows a b = t := ⟨_, rfl⟩
            simp only [ht] at hxB
            have HBT := Lib.hid ht
            clear ht
            cases t with
            | false =>
              have HE8 := Lib.hid (show badSt rows rows' f a b = false by unfold badSt; rw [HBT.out]; rfl)
              go_upto_region 11 with fail
              refine wp_region_quiet_below (by kernel_rfl) (by kernel_rfl) ?_
              repeat (go_big_quiet_step (first | (go_at_call 43; exact hxB _ _)))
              refine wpQuiet_nil ?_
              intro _ hw'
              obtain ⟨⟨dq, osq⟩, hw''⟩ := hw'
              subst hw''
              clear hxB hq0
              have HX9 := Lib.hid (HX.out.step (below_regrown wr dq osq))
              go_wp2
              go_roundw
              case rel =>
                refine ⟨b + 1, by omega, by go_num, fun q hq => ?_, HX9.out⟩
                by_cases e : q = b
                · subst e; exact HE8.out
                · exact HQ.out q (by omega)
              case measure => simp [intOf]; omega
            | true =>
              obtain ⟨c, hcl, hcj⟩ := HMT.out a b har hbr
              have hclf : c < f.length := by have := HMO.out.1; omega
              have hclz : (c : Int) < (f.length : Int) := by omega
              have hcz0 : (0 : Int) ≤ (c : Int) := by omega
              have hfa := HMO.out.2.1 _ (List.getElem_mem hal)
              have hfb := HMO.out.2.1 _ (List.getElem_mem hblf)
              obtain ⟨ka, hka⟩ : ∃ ka : Nat, f[a] = (ka : Int) := ⟨f[a].toNat, by omega⟩
              obtain ⟨kb, hkb⟩ : ∃ kb : Nat, f[b] = (kb : Int) := ⟨f[b].toNat, by omega⟩
              have hq2 := fun d os => cell_regrown HX.out.c2 d os
              have hq3 := fun d os => cell_regrown HX.out.c3 d os
              have hxJ := fun d os => Calls.regrown_of (w := wr) (d := d) (os := os) (HJ.out (.slice a2 rows.length C2) a b _ har hbr (HX.out.step (below_regrown wr d os)).r2)
              have hxK := fun d os => Calls.regrown_of (w := wr) (d := d) (os := os) (HJ'.out (.slice a3 rows'.length C3) ka kb _ (by omega) (by omega) (HX.out.step (below_regrown wr d os)).r3)
              simp only [hcj] at hxJ
              obtain ⟨bf, o_f, rfl, hca⟩ := (HFA.out wr HX.out.two.below).get hal
              obtain ⟨_, _, e2, hcb⟩ := (HFA.out wr HX.out.two.below).get hblf
              cases e2
              obtain ⟨_, _, e3, hcc⟩ := (HFA.out wr HX.out.two.below).get hclf
              cases e3
              rw [hka] at hca
              rw [hkb] at hcb
              obtain ⟨j, hj⟩ : ∃ j, joinI (backRows rows') ka kb = j := ⟨_, rfl⟩
              simp only [hj] at hxK
              obtain ⟨s, hs⟩ : ∃ s : Bool, (j != f[c]) = s := ⟨_, rfl⟩
              have HE8 := Lib.hid (show badSt rows rows' f a b = s by
                unfold badSt
                rw [HBT.out, hcj, getD_lt 0 hal, getD_lt 0 hblf, hka, hkb, Int.toNat_natCast, Int.toNat_natCast, Int.toNat_natCast, getD_lt 0 hclf, hj, ← hs]
                rfl)
              have hm0 := fun d os => cell_regrown hca d os
              have hm1 := fun d os => cell_regrown hcb d os
              have hm2 := fun d os => cell_regrown hcc d os
              clear hcj hfa hfb hka hkb hj hca hcb hcc
              cases s with
              | true =>
                have HNO := Lib.hid (stableI_bad hal hbl HE8.out)
                go_upto_region 11 with fail
                refine wp_region_quiet_below (by kernel_rfl) (by kernel_rfl) ?_
                repeat (go_big_quiet_step (first | (go_at_call 43; exact hxB _ _) | (go_at_call_of 44 (Value.slice a3 (List.length rows') C3); exact hxK _ _) | (go_at_call_of 44 (Value.slice a2 (List.length rows) C2); exact hxJ _ _)))
                refine wpQuiet_nil ?_
                intro _ hw'
                obtain ⟨⟨dq, osq⟩, hw''⟩ := hw'
                subst hw''
                clear hxB hxJ hxK hq0 hq2 hq3 hm0 hm1 hm2
                have HX9 := Lib.hid (HX.out.step (below_regrown wr dq osq))
                go_wp2
                go_ret
                exact ⟨by rw [HE.out, HNO.out]; rfl, HX9.out.two.below⟩
              | false =>
                go_upto_region 11 with fail
                refine wp_region_quiet_below (by kernel_rfl) (by kernel_rfl) ?_
                repeat (go_big_quiet_step (first | (go_at_call 43; exact hxB _ _) | (go_at_call_of 44 (Value.slice a3 (List.length rows') C3); exact hxK _ _) | (go_at_call_of 44 (Value.slice a2 (List.length rows) C2); exact hxJ _ _)))
                refine wpQuiet_nil ?_
                intro _ hw'
                obtain ⟨⟨dq, osq⟩, hw''⟩ := hw'
                subst hw''
                clear hxB hxJ hxK hq0 hq2 hq3 hm0 hm1 hm2
                have HX9 := Lib.hid (HX.out.step (below_regrown wr dq osq))
                go_wp2
                go_roundw
                case rel =>
                  refine ⟨b + 1, by omega, by go_num, fun q hq => ?_, HX9.out⟩
                  by_cases e : q = b
                  · subst e; exact HE8.out
                  · exact HQ.out q (by omega)
                case measure => simp [intOf]; omega
          · obtain rfl : b = a := by omega
            have hblz : ¬ ((b : Int) < (b : Int)) := by omega
            go_wp2
            go_roundw
            case rel =>
              refine ⟨b + 1, by omega, by go_num, fun q hq c hc => ?_, HX.out⟩
              by_cases e : q = b
              · subst e; exact HQ.out c hc
              · exact HP.out q (by omega) c hc
            case measure => simp [intOf]; omega
      · obtain rfl : a = f.length := by omega
        have halz : ¬ ((f.length : Int) < (f.length : Int)) := by omega
        have HYES := Lib.hid (stableI_yes HP.out)
        go_wp2
        go_ret
        exact ⟨by rw [HE.out, HYES.out]; rfl, HA.out.two.below⟩
end Go.Proofs.YtppjogkednclcaaDoor

/- The program's funTypeOf: two domains, and lists that are monotone functions between them. -/
namespace Go.Proofs.YtppjogkednclcaaDoor
open Go.RowKit Go.Deep Go.Shelf

/-- Two domains, and monotone functions between them. -/
noncomputable def ftB (rows rows' : Rows2) (fs : List (List Int)) : Bool := domB rows && domB rows' && fs.all fun f => monoI rows rows' f
theorem ftB_one (rows rows' : Rows2) (f : List Int) : ftB rows rows' [f] = monoB rows rows' f := by unfold ftB monoB; simp
theorem ftB_no {rows rows' : Rows2} {fs : List (List Int)} {i : Nat} (hi : i < fs.length) (h : monoI rows rows' fs[i] = false) : ftB rows rows' fs = false := by
  unfold ftB
  rw [Bool.and_eq_false_iff]
  right
  rw [List.all_eq_false]
  exact ⟨_, List.getElem_mem hi, by rw [h]; simp⟩
theorem ftB_yes {rows rows' : Rows2} {fs : List (List Int)} (h1 : domB rows = true) (h2 : domB rows' = true) (h : ∀ i (hi : i < fs.length), monoI rows rows' fs[i] = true) : ftB rows rows' fs = true := by
  unfold ftB
  rw [h1, h2, Bool.true_and, Bool.true_and, List.all_eq_true]
  intro x hx
  obtain ⟨i, hi, rfl⟩ := List.getElem_of_mem hx
  exact h i hi

/-- What funTypeOf answers. -/
def FtP (t : Bool) (rows rows' : Rows2) (w : World) (e : Ending) (w' : World) : Prop :=
  (∃ q q' : Option Addr, e = .returned (.tuple #[.agg #[.pointer q, .pointer q'], .bool t]) ∧
    (t = true → ∃ p p' : Nat, q = some ⟨p, 0, none⟩ ∧ q' = some ⟨p', 0, none⟩ ∧ w.heap.size ≤ p ∧ w.heap.size ≤ p' ∧ GridAt w' p (gridF rows) ∧ GridAt w' p' (gridF rows'))) ∧ Below w.heap.size w w'
theorem FtP.no {t : Bool} {rows rows' : Rows2} {w w' : World} (ht : t = false) (hb : Below w.heap.size w w') : FtP t rows rows' w (.returned (.tuple #[.agg #[.pointer none, .pointer none], .bool false])) w' :=
  ⟨⟨none, none, by rw [ht], fun h => (by rw [ht] at h; cases h)⟩, hb⟩

/-- The variable of the result, as it begins. -/
def Zero2 (r : Nat) (W : World) : Prop := W.heap[r]? = some (.cells #[.pointer none, .pointer none] 69 (0, 0))
theorem Zero2.lt {r : Nat} {W : World} (h : Zero2 r W) : r < W.heap.size := by
  obtain ⟨hlt, _⟩ := Array.getElem?_eq_some_iff.1 h
  exact hlt
theorem Zero2.below {r : Nat} {W W' : World} (h : Zero2 r W) (hb : Below W.heap.size W W') : Zero2 r W' := by
  unfold Zero2
  rw [hb.block r h.lt]
  exact h
theorem Zero2.cells {r : Nat} {W : World} (h : Zero2 r W) : W.cell? ⟨r, 0, none⟩ = some (.pointer none) ∧ W.cell? ⟨r, 1, none⟩ = some (.pointer none) ∧ ∀ o, W.frozen? ⟨r, o, none⟩ = false :=
  ⟨by rw [cell_of_row W r _ _ _ _ h]; rfl, by rw [cell_of_row W r _ _ _ _ h]; rfl, fun o => frozen_of_row W r o _ _ h⟩

/-- While funTypeOf runs. -/
structure Ft (w : World) (v v' vl : Value) (rows rows' fs : Rows2) (W : World) : Prop where
  two : Two w v v' rows rows' W
  zero : Zero2 (w.heap.size + 2) W
  lists : RowsAt W vl fs
  tab : Tab W
theorem Ft.step {w : World} {v v' vl : Value} {rows rows' fs : Rows2} {W W' : World} (h : Ft w v v' vl rows rows' fs W) (hb : Below W.heap.size W W') : Ft w v v' vl rows rows' fs W' :=
  ⟨h.two.step hb, h.zero.below hb, h.lists.below hb, h.tab.below hb⟩
theorem Ft.start (w : World) {v v' vl : Value} {rows rows' fs : Rows2} (hv : RowsAt w v rows) (hv' : RowsAt w v' rows') (hl : RowsAt w vl fs) (hT : Tab w) :
    Ft w v v' vl rows rows' fs (((w.alloc (.cells #[v] 26)).alloc (.cells #[v'] 26)).alloc (.cells #[.pointer none, .pointer none] 69)) := by
  have h2 := Two.start w 26 26 hv hv'
  have s2 : ((w.alloc (.cells #[v] 26)).alloc (.cells #[v'] 26)).heap.size = w.heap.size + 2 := by rw [World.size_alloc, World.size_alloc]
  have b3 := (Below.refl ((w.alloc (.cells #[v] 26)).alloc (.cells #[v'] 26)).heap.size ((w.alloc (.cells #[v] 26)).alloc (.cells #[v'] 26))).alloc (Nat.le_refl _) (.cells #[.pointer none, .pointer none] 69)
  refine ⟨h2.step b3, ?_, (hl.below h2.below).below b3, (hT.below h2.below).below b3⟩
  have h := heap_alloc_new ((w.alloc (.cells #[v] 26)).alloc (.cells #[v'] 26)) (.cells #[.pointer none, .pointer none] 69)
  rw [s2] at h
  exact h

set_option maxRecDepth 100000 in
set_option maxHeartbeats 4000000 in
theorem funTypeOf_any (v v' vl : Value) (rows rows' fs : Rows2) (w : World) (hv : RowsAt w v rows) (hv' : RowsAt w v' rows') (hl : RowsAt w vl fs) (hT : Tab w) (hn : bulk rows ≤ 1048576) (hn' : bulk rows' ≤ 1048576) :
    Calls Tryd.prog 40 #[.agg #[v], .agg #[v'], vl] w (FtP (ftB rows rows' fs) rows rows' w) := by
  have hF := Ft.start w hv hv' hl hT
  obtain ⟨A, C, rfl, _⟩ := hv
  obtain ⟨A', C', rfl, _⟩ := hv'
  obtain ⟨Al, Cl, rfl, hCl, hml, _⟩ := hl
  unfold maxLen at hml
  have H0 := Lib.hid hF
  have hc0 := hF.two.c0
  clear hF hT
  cases h1 : domB rows with
  | false =>
    have hd := domainOf_no _ rows _ H0.out.two.r0 H0.out.tab hn h1
    have HE := Lib.hid (show ftB rows rows' fs = false by unfold ftB; rw [h1]; rfl)
    go_enter Tryd.func40, Tryd.ntmps40
    cases h2 : domB rows' with
    | false =>
      go_wp2_with (first | (go_at_call 30; refine hd.mono ?_; clear hd; rintro e w1 ⟨rfl, hb1⟩; have H1 := Lib.hid (H0.out.step hb1); have hc1 := H1.out.two.c1; have hd2 := domainOf_no _ rows' _ H1.out.two.r1 H1.out.tab hn' h2; clear hb1) | (go_at_call 30; refine hd2.mono ?_; clear hd2; rintro e w2 ⟨rfl, hb2⟩; have H2 := Lib.hid (H1.out.step hb2); obtain ⟨z0, z1, z2⟩ := H2.out.zero.cells; clear hb2))
      refine bodyPost_ret (v := .tuple #[.agg #[.pointer none, .pointer none], .bool false]) (by simp [results, Tryd.results40, go_sem, z0, z1]) rfl ?_
      exact FtP.no HE.out (H2.out.two.below.setCell (by show w.heap.size ≤ w.heap.size + 2; omega) _ |>.setCell (by show w.heap.size ≤ w.heap.size + 2; omega) _)
    | true =>
      go_wp2_with (first | (go_at_call 30; refine hd.mono ?_; clear hd; rintro e w1 ⟨rfl, hb1⟩; have H1 := Lib.hid (H0.out.step hb1); have hc1 := H1.out.two.c1; have hd2 := domainOf_yes _ rows' _ H1.out.two.r1 H1.out.tab hn' h2; clear hb1) | (go_at_call 30; refine hd2.mono ?_; clear hd2; rintro e w2 ⟨⟨p, rfl, _⟩, hb2⟩; have H2 := Lib.hid (H1.out.step hb2); obtain ⟨z0, z1, z2⟩ := H2.out.zero.cells; clear hb2))
      refine bodyPost_ret (v := .tuple #[.agg #[.pointer none, .pointer none], .bool false]) (by simp [results, Tryd.results40, go_sem, z0, z1]) rfl ?_
      exact FtP.no HE.out (H2.out.two.below.setCell (by show w.heap.size ≤ w.heap.size + 2; omega) _ |>.setCell (by show w.heap.size ≤ w.heap.size + 2; omega) _)
  | true =>
    have hd := domainOf_yes _ rows _ H0.out.two.r0 H0.out.tab hn h1
    cases h2 : domB rows' with
    | false =>
      have HE := Lib.hid (show ftB rows rows' fs = false by unfold ftB; rw [h1, h2]; rfl)
      go_enter Tryd.func40, Tryd.ntmps40
      go_wp2_with (first | (go_at_call 30; refine hd.mono ?_; clear hd; rintro e w1 ⟨⟨p, rfl, _⟩, hb1⟩; have H1 := Lib.hid (H0.out.step hb1); have hc1 := H1.out.two.c1; have hd2 := domainOf_no _ rows' _ H1.out.two.r1 H1.out.tab hn' h2; clear hb1) | (go_at_call 30; refine hd2.mono ?_; clear hd2; rintro e w2 ⟨rfl, hb2⟩; have H2 := Lib.hid (H1.out.step hb2); obtain ⟨z0, z1, z2⟩ := H2.out.zero.cells; clear hb2))
      refine bodyPost_ret (v := .tuple #[.agg #[.pointer none, .pointer none], .bool false]) (by simp [results, Tryd.results40, go_sem, z0, z1]) rfl ?_
      exact FtP.no HE.out (H2.out.two.below.setCell (by show w.heap.size ≤ w.heap.size + 2; omega) _ |>.setCell (by show w.heap.size ≤ w.heap.size + 2; omega) _)
    | true =>
      have hok := ok_of_valid (show validB rows = true by unfold domB at h1; rw [Bool.and_eq_true] at h1; exact h1.1)
      have hok' := ok_of_valid (show validB rows' = true by unfold domB at h2; rw [Bool.and_eq_true] at h2; exact h2.1)
      have HMONO := Lib.hid (fun p p' vf f W hg hg' hf => isMonotone_any p p' rows.length rows'.length (gridF rows) (gridF rows') vf f W hg hg' hok.gridN hok'.gridN hf (monoI rows rows' f) (mono_grid hok hok' f))
      have HY := Lib.hid (fun h => ftB_yes (fs := fs) h1 h2 h)
      have hsz : (((w.alloc (.cells #[.slice A rows.length C] 26)).alloc (.cells #[.slice A' rows'.length C'] 26)).alloc (.cells #[.pointer none, .pointer none] 69)).heap.size = w.heap.size + 3 := by rw [World.size_alloc, World.size_alloc, World.size_alloc]
      have HSZ := Lib.hid hsz
      clear hok hok' hsz
      go_enter Tryd.func40, Tryd.ntmps40
      go_wp2_with (first | (go_at_call 30; refine hd.mono ?_; clear hd; rintro e w1 ⟨⟨p, rfl, hp, hg⟩, hb1⟩; have H1 := Lib.hid (H0.out.step hb1); have hc1 := H1.out.two.c1; have hd2 := domainOf_yes _ rows' _ H1.out.two.r1 H1.out.tab hn' h2; have HP := Lib.hid (show w.heap.size + 3 ≤ p by rw [← HSZ.out]; exact hp); have HP1 := Lib.hid (Nat.le_trans (Nat.le_of_eq HSZ.out.symm) hb1.size); have HG := Lib.hid hg; clear hb1 hp hg) | (go_at_call 30; refine hd2.mono ?_; clear hd2; rintro e w2 ⟨⟨p', rfl, hp', hg'⟩, hb2⟩; have H2 := Lib.hid (H1.out.step hb2); have HP' := Lib.hid (Nat.le_trans HP1.out hp'); have HG2 := Lib.hid (HG.out.below hb2 HG.out.lt); have HG' := Lib.hid hg'; clear hb2 hp' hg'))
      go_loopw [13, 33] (fun _ kv wr => ∃ k : Nat, k ≤ fs.length ∧ kv = .int .i64 k ∧ (∀ i (hi : i < fs.length), i < k → monoI rows rows' fs[i] = true) ∧ GridAt wr p (gridF rows) ∧ GridAt wr p' (gridF rows') ∧ Ft w (.slice A rows.length C) (.slice A' rows'.length C') (.slice Al fs.length Cl) rows rows' fs wr) (fun _ kv _ => fs.length - (intOf kv).toNat)
      case atStart => exact ⟨0, Nat.zero_le _, rfl, fun _ _ h => absurd h (Nat.not_lt_zero _), HG2.out, HG'.out, H2.out⟩
      case round =>
        obtain ⟨k, hk, rfl, hall, hg, hg', hh⟩ := hrel
        have HA := Lib.hid hall
        have HGk := Lib.hid hg
        have HGk' := Lib.hid hg'
        have HK := Lib.hid hh
        clear hall hg hg'
        by_cases hlt : k < fs.length
        · obtain ⟨_, _, e0, _, _, hx⟩ := hh.lists
          cases e0
          obtain ⟨b0, o0, u, rfl, hcu, hu⟩ := hx k hlt
          clear hh hx
          have hcall := HMONO.out p p' u fs[k] wr HGk.out HGk'.out hu
          obtain ⟨Au, Cu, rfl, _⟩ := hu
          cases hm : monoI rows rows' fs[k] with
          | true =>
            rw [hm] at hcall
            have HM := Lib.hid hm
            clear hm
            go_wp2_with (go_at_call 48; refine hcall.mono ?_; clear hcall; rintro e w3 ⟨rfl, hb3⟩; have H3 := Lib.hid (HK.out.step hb3); have HG3 := Lib.hid (HGk.out.below hb3 HGk.out.lt); have HG3' := Lib.hid (HGk'.out.below hb3 HGk'.out.lt); clear hb3)
            go_roundw
            case rel =>
              refine ⟨k + 1, by omega, by go_num, fun i hi hlt' => ?_, HG3.out, HG3'.out, H3.out⟩
              by_cases e : i = k
              · subst e; exact HM.out
              · exact HA.out i hi (by omega)
            case measure => simp [intOf]; omega
          | false =>
            rw [hm] at hcall
            have HE := Lib.hid (ftB_no hlt hm)
            clear hm
            go_wp2_with (go_at_call 48; refine hcall.mono ?_; clear hcall; rintro e w3 ⟨rfl, hb3⟩; have H3 := Lib.hid (HK.out.step hb3); obtain ⟨z0, z1, z2⟩ := H3.out.zero.cells; clear hb3)
            refine bodyPost_ret (v := .tuple #[.agg #[.pointer none, .pointer none], .bool false]) (by simp [results, Tryd.results40, go_sem, z0, z1]) rfl ?_
            exact FtP.no HE.out (H3.out.two.below.setCell (by show w.heap.size ≤ w.heap.size + 2; omega) _ |>.setCell (by show w.heap.size ≤ w.heap.size + 2; omega) _)
        · obtain rfl : k = fs.length := by omega
          have HE := Lib.hid (HY.out fun i hi => HA.out i hi hi)
          obtain ⟨z0, z1, z2⟩ := HK.out.zero.cells
          clear hh
          go_wp2
          refine bodyPost_ret (v := .tuple #[.agg #[.pointer (some ⟨p, 0, none⟩), .pointer (some ⟨p', 0, none⟩)], .bool true]) (by simp [results, Tryd.results40, go_sem, z0, z1]) rfl ?_
          refine ⟨⟨_, _, by rw [HE.out], fun _ => ⟨p, p', rfl, rfl, by have := HP.out; omega, by have := HP'.out; omega, ?_, ?_⟩⟩, (HK.out.two.below.setCell (by show w.heap.size ≤ w.heap.size + 2; omega) _ |>.setCell (by show w.heap.size ≤ w.heap.size + 2; omega) _)⟩
          · exact (HGk.out.setOther (by have := HP.out; show p ≠ w.heap.size + 2; omega) _).setOther (by have := HP.out; show p ≠ w.heap.size + 2; omega) _
          · exact (HGk'.out.setOther (by have := HP'.out; show p' ≠ w.heap.size + 2; omega) _).setOther (by have := HP'.out; show p' ≠ w.heap.size + 2; omega) _
end Go.Proofs.YtppjogkednclcaaDoor

/- The program's FunMonotone. -/
namespace Go.Proofs.YtppjogkednclcaaDoor
open Go.RowKit Go.Deep Go.Shelf

theorem rows_one {w : World} {vf : Value} {f : List Int} (hf : IntsAt w vf f) : RowsAt (w.alloc (.cells #[vf] 33)) (.slice (some ⟨w.heap.size, 0, none⟩) 1 1) [f] := by
  refine ⟨some ⟨w.heap.size, 0, none⟩, 1, rfl, Nat.le_refl _, by unfold maxLen; omega, fun i hi => ?_⟩
  obtain rfl : i = 0 := by simpa using hi
  exact ⟨w.heap.size, 0, vf, rfl, (World.rowIs_alloc w #[vf] 33 (fun _ => vf) (fun i hi => by simp at hi; subst hi; rfl)).cell (i := 0) (by simp), hf.below ((Below.refl _ w).alloc (Nat.le_refl _) _)⟩
theorem rows_two {w : World} {vf vg : Value} {f g : List Int} (hf : IntsAt w vf f) (hg : IntsAt w vg g) : RowsAt (w.alloc (.cells #[vf, vg] 33)) (.slice (some ⟨w.heap.size, 0, none⟩) 2 2) [f, g] := by
  have hr := World.rowIs_alloc w #[vf, vg] 33 (fun i => if i = 0 then vf else vg) (fun i hi => by
    have hi' : i < 2 := by simpa using hi
    obtain rfl | rfl : i = 0 ∨ i = 1 := by omega
    · rfl
    · rfl)
  refine ⟨some ⟨w.heap.size, 0, none⟩, 2, rfl, Nat.le_refl _, by unfold maxLen; omega, fun i hi => ?_⟩
  have hi' : i < 2 := by simpa using hi
  have hc := hr.cell (i := i) (by simpa using hi')
  obtain rfl | rfl : i = 0 ∨ i = 1 := by omega
  · exact ⟨w.heap.size, 0, vf, rfl, by simp, hf.below ((Below.refl _ w).alloc (Nat.le_refl _) _)⟩
  · exact ⟨w.heap.size, 0, vg, rfl, by simp, hg.below ((Below.refl _ w).alloc (Nat.le_refl _) _)⟩

end Go.Proofs.YtppjogkednclcaaDoor

/- The program's FunStrict. -/
namespace Go.Proofs.YtppjogkednclcaaDoor
open Go.RowKit Go.Deep Go.Shelf

/-- What funTypeOf answers where both are domains and the lists monotone functions. -/
def FtYes (rows rows' : Rows2) (w : World) (e : Ending) (w' : World) : Prop :=
  (∃ p p' : Nat, e = .returned (.tuple #[.agg #[.pointer (some ⟨p, 0, none⟩), .pointer (some ⟨p', 0, none⟩)], .bool true]) ∧ w.heap.size ≤ p ∧ w.heap.size ≤ p' ∧ GridAt w' p (gridF rows) ∧ GridAt w' p' (gridF rows')) ∧ Below w.heap.size w w'
theorem FtP.yes {rows rows' : Rows2} {w w' : World} {e : Ending} (h : FtP true rows rows' w e w') : FtYes rows rows' w e w' := by
  obtain ⟨⟨q, q', he, h⟩, hb⟩ := h
  obtain ⟨p, p', rfl, rfl, h1, h2, h3, h4⟩ := h rfl
  exact ⟨⟨p, p', he, h1, h2, h3, h4⟩, hb⟩
theorem monoB_ok {rows rows' : Rows2} {f : List Int} (h : monoB rows rows' f = true) : Ok rows ∧ Ok rows' ∧ Mono rows rows' f := by
  obtain ⟨h1, h2, h3⟩ := monoB_parts h
  unfold domB at h1 h2
  rw [Bool.and_eq_true] at h1 h2
  exact ⟨ok_of_valid h1.1, ok_of_valid h2.1, h3⟩
theorem leastG {rows : Rows2} (h : Ok rows) (b : Nat) (w : World) (hg : GridAt w b (gridF rows)) (hT : Tab w) :
    Calls Tryd.prog 60 #[.pointer (some ⟨b, 0, none⟩)] w (SaysI (leastI rows) w) := by
  rw [least_eq h]
  exact least_any b rows.length (gridF rows) w hg hT h.gridN

end Go.Proofs.YtppjogkednclcaaDoor

/- The program's FunStable. -/
namespace Go.Proofs.YtppjogkednclcaaDoor
open Go.RowKit Go.Deep Go.Shelf

set_option maxRecDepth 100000 in
set_option maxHeartbeats 8000000 in
theorem implStable_any (v v' vf : Value) (rows rows' : Rows2) (f : List Int) (w : World) (hv : RowsAt w v rows) (hv' : RowsAt w v' rows') (hf : IntsAt w vf f) (hT : Tab w) (hn : bulk rows ≤ 1048576) (hn' : bulk rows' ≤ 1048576) :
    Calls Tryd.prog 21 #[.agg #[v], .agg #[v'], vf] w (SaysN (stableB rows rows' f) w) := by
  have h0 := TwoF.start w 26 26 hv hv' hf
  have hl := rows_one h0.2
  have b1 := (Below.refl ((w.alloc (.cells #[v] 26)).alloc (.cells #[v'] 26)).heap.size ((w.alloc (.cells #[v] 26)).alloc (.cells #[v'] 26))).alloc (Nat.le_refl _) (.cells #[vf] 33)
  have h1 := h0.step b1
  have hT1 := (hT.below h0.1.below).below b1
  have hcall := funTypeOf_any v v' _ rows rows' [f] _ h1.1.r0 h1.1.r1 hl hT1 hn hn'
  have hs : ((w.alloc (.cells #[v] 26)).alloc (.cells #[v'] 26)).heap.size = w.heap.size + 2 := by rw [World.size_alloc, World.size_alloc]
  rw [ftB_one, hs] at hcall
  have hc0 := h0.1.c0
  have hc1 := h0.1.c1
  obtain ⟨A, C, rfl, _⟩ := hv
  obtain ⟨A', C', rfl, _⟩ := hv'
  obtain ⟨Af, Cf, rfl, _⟩ := hf
  have H1 := Lib.hid h1
  have T1 := Lib.hid hT1
  clear h0 hl b1 h1 hT1 hs hT
  cases hm : monoB rows rows' f with
  | false =>
    rw [hm] at hcall
    have HE := Lib.hid (show stableB rows rows' f = false by unfold stableB; rw [hm]; rfl)
    clear hm
    go_enter Tryd.func21, Tryd.ntmps21
    go_wp2_with (go_at_call 40; refine hcall.mono ?_; clear hcall; rintro e w1 ⟨⟨q, q', rfl, _⟩, hb1⟩; have H2 := Lib.hid ((H1.out.step hb1).step ((Below.refl _ w1).alloc (Nat.le_refl _) (.cells #[.pointer q, .pointer q'] 69))); clear hb1)
    go_ret
    exact ⟨by rw [HE.out]; rfl, H2.out.1.below⟩
  | true =>
    rw [hm] at hcall
    have HE := Lib.hid (show stableB rows rows' f = stableI rows rows' f by unfold stableB; rw [hm]; rfl)
    obtain ⟨hd, hd', hmo⟩ := monoB_parts hm
    have HS := Lib.hid (fun p p' W h1 h2 h3 h4 => keepsMeets_any (.slice Af f.length Cf) f p p' rows rows' W h1 h2 h3 h4 hd hd' hmo)
    have hcall2 := hcall.mono (fun e w' h => h.yes)
    clear hm hd hd' hmo hcall
    go_enter Tryd.func21, Tryd.ntmps21
    go_wp2_with (first | (go_at_call 40; refine hcall2.mono ?_; clear hcall2; rintro e w1 ⟨⟨p, p', rfl, _, _, hg, hg'⟩, hb1⟩; have B2 := Lib.hid ((Below.refl w1.heap.size w1).alloc (Nat.le_refl _) (.cells #[.pointer (some ⟨p, 0, none⟩), .pointer (some ⟨p', 0, none⟩)] 69)); have H2 := Lib.hid ((H1.out.step hb1).step B2.out); have T2 := Lib.hid ((T1.out.below hb1).below B2.out); have GR := Lib.hid (hg.below B2.out hg.lt); have GR2 := Lib.hid (hg'.below B2.out hg'.lt); have hbx := Bx.start w1 (.pointer (some ⟨p, 0, none⟩)) (.pointer (some ⟨p', 0, none⟩)) 69; have hl0 := hbx.c0; have hl1 := hbx.c1; clear hb1 hg hg' hbx) | (go_at_call 45; refine (HS.out p p' _ H2.out.2 GR.out GR2.out T2.out).mono ?_; rintro e w3 ⟨rfl, hb3⟩; have H3 := Lib.hid (H2.out.step hb3); clear hb3))
    go_ret
    exact ⟨by rw [HE.out]; first | rfl | simp, H3.out.1.below⟩
end Go.Proofs.YtppjogkednclcaaDoor

/- What a law holds while it runs, as a list of things that lie one behind the other in memory: variables' boxes, copies, answers. Plain facts on worlds: no function is walked here. -/
namespace Go.Proofs.YtppjogkednclcaaDoor
open Go.RowKit Go.Deep

/-- A thing that lies between the blocks lo and hi, and hangs on these alone. -/
structure It where
  lo : Nat
  hi : Nat
  P : World → Prop
  loc : ∀ W W' : World, (∀ b, lo ≤ b → b < hi → W'.heap[b]? = W.heap[b]?) → P W → P W'

/-- A list of integers in memory of its own; rows likewise; a variable's box. -/
def ItI (v : Value) (xs : List Int) (lo hi : Nat) : It := ⟨lo, hi, fun W => OwnI 3 W v xs lo hi, fun _ _ h k => k.kept fun b e => h b (k.block b e).1 (k.block b e).2.1⟩
def ItR (v : Value) (n : Nat) (R : Nat → List Int) (lo hi : Nat) : It := ⟨lo, hi, fun W => OwnR 3 33 W v n R lo hi, fun _ _ h k => k.kept h⟩
def ItB (b : Nat) (t : TypeId) (v : Value) : It := ⟨b, b + 1, fun W => Boxed W b t v, fun _ _ h k => (h b (Nat.le_refl _) (Nat.lt_succ_self _)).trans k⟩

def Holds (W : World) : Nat → List It → Prop
  | n, [] => n ≤ W.heap.size
  | n, i :: is => n ≤ i.lo ∧ i.lo ≤ i.hi ∧ i.P W ∧ Holds W i.hi is

theorem Holds.le {W : World} : ∀ {is : List It} {n : Nat}, Holds W n is → n ≤ W.heap.size
  | [], _, h => h
  | _ :: _, _, h => Nat.le_trans h.1 (Nat.le_trans h.2.1 (Holds.le h.2.2.2))
theorem Holds.above {W W' : World} : ∀ {is : List It} {n : Nat}, Holds W n is → (∀ b, n ≤ b → b < W.heap.size → W'.heap[b]? = W.heap[b]?) → W.heap.size ≤ W'.heap.size → Holds W' n is
  | [], _, h, _, hz => Nat.le_trans h hz
  | i :: _, _, h, hb, hz => ⟨h.1, h.2.1, i.loc W W' (fun b hl hh => hb b (Nat.le_trans h.1 hl) (Nat.lt_of_lt_of_le hh h.2.2.2.le)) h.2.2.1, h.2.2.2.above (fun b hl hs => hb b (Nat.le_trans h.1 (Nat.le_trans h.2.1 hl)) hs) hz⟩
theorem Holds.step {W W' : World} {is : List It} {n : Nat} (h : Holds W n is) (hb : Below W.heap.size W W') : Holds W' n is := h.above (fun b _ hs => hb.block b hs) hb.size
theorem Holds.push {W W' : World} {it : It} (hb : Below W.heap.size W W') (h1 : W.heap.size ≤ it.lo) (h2 : it.lo ≤ it.hi) (h3 : it.hi ≤ W'.heap.size) (hP : it.P W') : ∀ {is : List It} {n : Nat}, Holds W n is → Holds W' n (is ++ [it])
  | [], _, h => ⟨Nat.le_trans h h1, h2, hP, h3⟩
  | i :: _, _, h => ⟨h.1, h.2.1, i.loc W W' (fun b _ hh => hb.block b (Nat.lt_of_lt_of_le hh h.2.2.2.le)) h.2.2.1, Holds.push hb h1 h2 h3 hP h.2.2.2⟩
theorem Holds.pop {W : World} {it : It} : ∀ {is : List It} {n : Nat}, Holds W n (is ++ [it]) → Holds W n is
  | [], _, h => Nat.le_trans h.1 (Nat.le_trans h.2.1 h.2.2.2)
  | _ :: _, _, h => ⟨h.1, h.2.1, h.2.2.1, Holds.pop h.2.2.2⟩
theorem Holds.take {W : World} : ∀ {is : List It} {n : Nat} (k : Nat), Holds W n is → Holds W n (is.take k)
  | [], _, k, h => by rw [List.take_nil]; exact h
  | _ :: _, _, 0, h => Nat.le_trans h.1 (Nat.le_trans h.2.1 h.2.2.2.le)
  | _ :: _, _, k + 1, h => ⟨h.1, h.2.1, h.2.2.1, Holds.take k h.2.2.2⟩
theorem Holds.get {W : World} {it : It} : ∀ {is : List It} {n : Nat} (k : Nat), is[k]? = some it → Holds W n is → n ≤ it.lo ∧ it.lo ≤ it.hi ∧ it.hi ≤ W.heap.size ∧ it.P W
  | [], _, k, e, _ => by simp at e
  | i :: is, n, 0, e, h => by
    obtain rfl : i = it := by simpa using e
    exact ⟨h.1, h.2.1, h.2.2.2.le, h.2.2.1⟩
  | i :: is, n, k + 1, e, h => by
    have e' : is[k]? = some it := by simpa using e
    obtain ⟨a, b, c, d⟩ := Holds.get k e' h.2.2.2
    exact ⟨Nat.le_trans h.1 (Nat.le_trans h.2.1 a), b, c, d⟩
theorem Holds.turn {W W' : World} {it it' : It} (hlo : it'.lo = it.lo) (hhi : it'.hi = it.hi) (ht : Turned it.lo it.hi W W') (hP : it'.P W') : ∀ {is : List It} {n : Nat} (k : Nat), is[k]? = some it → Holds W n is → Holds W' n (is.set k it')
  | [], _, k, e, _ => by simp at e
  | i :: is, n, 0, e, h => by
    obtain rfl : i = it := by simpa using e
    refine ⟨by rw [hlo]; exact h.1, by rw [hlo, hhi]; exact h.2.1, hP, ?_⟩
    rw [hhi]
    exact h.2.2.2.above (fun b hl hs => ht.above b hl hs) ht.below.size
  | i :: is, n, k + 1, e, h => by
    have e' : is[k]? = some it := by simpa using e
    have hg := Holds.get k e' h.2.2.2
    exact ⟨h.1, h.2.1, i.loc W W' (fun b _ hh => ht.below.block b (Nat.lt_of_lt_of_le hh hg.1)) h.2.2.1, Holds.turn hlo hhi ht hP k e' h.2.2.2⟩

/-- The world W, since w: all that lay there lies as it lay, and behind it lie these things. -/
structure St (w : World) (is : List It) (W : World) : Prop where
  below : Below w.heap.size w W
  holds : Holds W w.heap.size is

section
variable {w : World} {is : List It} {W W' : World}
theorem St.start (w : World) : St w [] w := ⟨Below.refl _ _, Nat.le_refl _⟩
theorem St.step (h : St w is W) (hb : Below W.heap.size W W') : St w is W' := ⟨h.below.trans (hb.mono h.below.size), h.holds.step hb⟩
theorem St.drew (h : St w is W) : St w is W.drew := h.step ⟨rfl, rfl, rfl, Nat.le_refl _, fun _ _ => rfl⟩
theorem St.drewN (h : St w is W) (n : Nat) : St w is (W.drewN n) := h.step ⟨rfl, rfl, rfl, Nat.le_refl _, fun _ _ => rfl⟩
theorem St.push {it : It} (h : St w is W) (hb : Below W.heap.size W W') (h1 : W.heap.size ≤ it.lo) (h2 : it.lo ≤ it.hi) (h3 : it.hi ≤ W'.heap.size) (hP : it.P W') : St w (is ++ [it]) W' :=
  ⟨h.below.trans (hb.mono h.below.size), h.holds.push hb h1 h2 h3 hP⟩
theorem St.pop {it : It} (h : St w (is ++ [it]) W) : St w is W := ⟨h.below, h.holds.pop⟩
theorem St.take (h : St w is W) (k : Nat) : St w (is.take k) W := ⟨h.below, h.holds.take k⟩
theorem St.box (h : St w is W) (t : TypeId) (v : Value) : St w (is ++ [ItB W.heap.size t v]) (W.alloc (.cells #[v] t)) :=
  h.push ((Below.refl _ _).alloc (Nat.le_refl _) _) (Nat.le_refl _) (Nat.le_succ _) (by rw [World.size_alloc]; exact Nat.le_refl _) (Boxed.new W t v)
theorem St.pushI {v : Value} {xs : List Int} (h : St w is W) (hb : Below W.heap.size W W') (ho : OwnI 3 W' v xs W.heap.size W'.heap.size) : St w (is ++ [ItI v xs W.heap.size W'.heap.size]) W' :=
  h.push hb (Nat.le_refl _) hb.size (Nat.le_refl _) ho
theorem St.pushR {v : Value} {n : Nat} {R : Nat → List Int} (h : St w is W) (hb : Below W.heap.size W W') (ho : OwnR 3 33 W' v n R W.heap.size W'.heap.size) : St w (is ++ [ItR v n R W.heap.size W'.heap.size]) W' :=
  h.push hb (Nat.le_refl _) hb.size (Nat.le_refl _) ho
/-- The copies that the laws make. -/
theorem St.copyR {g : Nat} {G : Nat → Nat} {rows : Rows2} (h : St w is W) (hn : bulk rows ≤ maxLen) (hg : W.heap.size ≤ g) (ho : OwnRows 3 33 W' g W'.heap.size G rows) (hb : Below W.heap.size W W') :
    St w (is ++ [ItR (whole g rows.length) rows.length (rowsF rows) W.heap.size W'.heap.size]) W' :=
  h.pushR hb ((ho.ownR hn).wider hg (Nat.le_refl _))
theorem OwnInts.ownI {t : TypeId} {g : Nat} {xs : List Int} {hi : Nat} (h : OwnInts t W g xs) (hn : xs.length ≤ maxLen) (hg : g < hi) : OwnI t W (whole g xs.length) xs g hi :=
  ⟨h.2, .inr ⟨g, _, _, rfl, Nat.le_refl _, hn, Nat.le_refl _, hg, h.1, fun _ hi => intCell_lt hi⟩⟩
theorem St.copyI {xs : List Int} (h : St w is W) (hn : xs.length ≤ maxLen) (ho : OwnInts 3 W' W.heap.size xs) (hz : W'.heap.size = W.heap.size + 1) (hb : Below W.heap.size W W') :
    St w (is ++ [ItI (whole W.heap.size xs.length) xs W.heap.size W'.heap.size]) W' :=
  h.pushI hb (ho.ownI hn (by omega))
theorem St.cell {b : Nat} {t : TypeId} {v : Value} (h : St w is W) (k : Nat) (e : is[k]? = some (ItB b t v)) : W.cell? ⟨b, 0, none⟩ = some v := Boxed.cell (h.holds.get k e).2.2.2
theorem St.lt {b : Nat} {t : TypeId} {v : Value} (h : St w is W) (k : Nat) (e : is[k]? = some (ItB b t v)) : b < W.heap.size := Boxed.lt (h.holds.get k e).2.2.2
theorem St.ownI {v : Value} {xs : List Int} {lo hi : Nat} (h : St w is W) (k : Nat) (e : is[k]? = some (ItI v xs lo hi)) : OwnI 3 W v xs lo hi := (h.holds.get k e).2.2.2
theorem St.ownR {v : Value} {n : Nat} {R : Nat → List Int} {lo hi : Nat} (h : St w is W) (k : Nat) (e : is[k]? = some (ItR v n R lo hi)) : OwnR 3 33 W v n R lo hi := (h.holds.get k e).2.2.2
theorem St.ints {v : Value} {xs : List Int} {lo hi : Nat} (h : St w is W) (k : Nat) (e : is[k]? = some (ItI v xs lo hi)) : IntsAt W v xs := (h.ownI k e).at
theorem St.rows {v : Value} {rows : Rows2} {lo hi : Nat} (h : St w is W) (k : Nat) (e : is[k]? = some (ItR v rows.length (rowsF rows) lo hi)) : RowsAt W v rows := (h.ownR k e).at
theorem St.boundsR {v : Value} {n : Nat} {R : Nat → List Int} {lo hi : Nat} (h : St w is W) (k : Nat) (e : is[k]? = some (ItR v n R lo hi)) : lo ≤ W.heap.size ∧ hi ≤ W.heap.size := ⟨Nat.le_trans (h.holds.get k e).2.1 (h.holds.get k e).2.2.1, (h.holds.get k e).2.2.1⟩
theorem St.turn {it it' : It} (h : St w is W) (k : Nat) (e : is[k]? = some it) (hlo : it'.lo = it.lo) (hhi : it'.hi = it.hi) (ht : Turned it.lo it.hi W W') (hP : it'.P W') : St w (is.set k it') W' :=
  ⟨h.below.trans (ht.below.mono (h.holds.get k e).1), h.holds.turn hlo hhi ht hP k e⟩
theorem St.turnR {v : Value} {n : Nat} {R R' : Nat → List Int} {lo hi : Nat} (h : St w is W) (k : Nat) (e : is[k]? = some (ItR v n R lo hi)) (ht : Turned lo hi W W') (ho : OwnR 3 33 W' v n R' lo hi) : St w (is.set k (ItR v n R' lo hi)) W' :=
  h.turn (it' := ItR v n R' lo hi) k e rfl rfl ht ho
theorem St.turnI {v : Value} {xs ys : List Int} {lo hi : Nat} (h : St w is W) (k : Nat) (e : is[k]? = some (ItI v xs lo hi)) (hg : W.grownBy W' v.ownBlock) (ho : OwnI 3 W' v ys lo hi) : St w (is.set k (ItI v ys lo hi)) W' :=
  have hk := h.holds.get k e
  h.turn (it' := ItI v ys lo hi) k e rfl rfl (Turned.of_grownBy hg (Nat.le_trans hk.2.1 hk.2.2.1) fun b e' => ⟨((h.ownI k e).block b e').1, ((h.ownI k e).block b e').2.1⟩) ho
end
theorem St.start1 (w : World) (t : TypeId) (v : Value) : St w [ItB w.heap.size t v] (w.alloc (.cells #[v] t)) := (St.start w).box t v
theorem St.start2 (w : World) (t t' : TypeId) (v v' : Value) : St w [ItB w.heap.size t v, ItB (w.heap.size + 1) t' v'] ((w.alloc (.cells #[v] t)).alloc (.cells #[v'] t')) := by
  have h := (St.start1 w t v).box t' v'
  rw [World.size_alloc] at h
  exact h
theorem St.start3 (w : World) (t t' t2 : TypeId) (v v' v2 : Value) : St w [ItB w.heap.size t v, ItB (w.heap.size + 1) t' v', ItB (w.heap.size + 2) t2 v2] (((w.alloc (.cells #[v] t)).alloc (.cells #[v'] t')).alloc (.cells #[v2] t2)) := by
  have h := (St.start2 w t t' v v').box t2 v2
  rw [World.size_alloc, World.size_alloc] at h
  exact h
end Go.Proofs.YtppjogkednclcaaDoor

/- The law of FunStable: model and program answer alike, and the arguments are left alone. -/
namespace Go.Proofs.YtppjogkednclcaaDoor
open Go.RowKit Go.Deep

set_option maxRecDepth 100000 in
set_option maxHeartbeats 16000000 in
theorem law_stable (v0 : Value) (v1 : Value) (v2 : Value) (r0 : Rows2) (r1 : Rows2) (x2 : List Int) (w : World) (h0 : RowsAt w v0 r0) (h1 : RowsAt w v1 r1) (h2 : IntsAt w v2 x2) (hT : Tab w) :
    Calls Tryd.prog 5 #[.agg #[v0], .agg #[v1], v2] w (SaysN true w) := by
  have e0 := St.start2 w 24 24 v0 v1
  have H0 := Lib.hid h0
  have H1 := Lib.hid h1
  have H2 := Lib.hid h2
  have HTT := Lib.hid hT
  obtain ⟨A0, C0, rfl, _⟩ := h0
  obtain ⟨A1, C1, rfl, _⟩ := h1
  obtain ⟨A2, C2, rfl, _⟩ := h2
  have E0 := Lib.hid e0
  clear e0 hT
  have hdr : ∀ W : World, W.drew.heap = W.heap := fun _ => rfl
  by_cases hf2 : (1048576 : Int) < (x2.length : Int)
  · go_enter Tryd.func5, Tryd.ntmps5
    go_wp2
    go_ret
    exact ⟨rfl, E0.out.below⟩
  have HL2 := Lib.hid (show x2.length ≤ 1048576 by omega)
  have HM2 := Lib.hid (maxLen_ge HL2.out)
  go_enter Tryd.func5, Tryd.ntmps5
  have hc1 := E0.out.cell 0 rfl
  have hsz := szOrder_any _ r0 1048576 _ (H0.out.below E0.out.below) (by omega) (by omega)
  go_wp2_with fail
  refine hsz.mono ?_
  clear hsz
  rintro e w1 ⟨⟨q0, hr, rfl⟩, hb⟩
  have E1 := Lib.hid (E0.out.step hb)
  clear hb hc1 E0
  by_cases hneg0 : q0 < 0
  · go_wp2
    go_ret
    exact ⟨rfl, E1.out.below⟩
  have hq0 : 0 ≤ q0 ∧ q0 ≤ 1048576 ∧ bulk r0 ≤ 1048576 := by rcases hr with h | h <;> omega
  have HB0 := Lib.hid hq0.2.2
  have HM0 := Lib.hid (maxLen_ge HB0.out)
  have HL0 := Lib.hid (show lens r0 r0.length ≤ 1048576 by have := lens_all r0; have := HB0.out; omega)
  clear hr
  have hc2 := E1.out.cell 1 rfl
  have hsz := szOrder_any _ r1 q0 _ (H1.out.below E1.out.below) hq0.1 hq0.2.1
  go_wp2_with fail
  refine hsz.mono ?_
  clear hsz
  rintro e w2 ⟨⟨q1, hr, rfl⟩, hb⟩
  have E2 := Lib.hid (E1.out.step hb)
  clear hb hc2 E1
  by_cases hneg1 : q1 < 0
  · go_wp2
    go_ret
    exact ⟨rfl, E2.out.below⟩
  have hq1 : 0 ≤ q1 ∧ q1 ≤ 1048576 ∧ bulk r1 ≤ 1048576 := by rcases hr with h | h <;> omega
  have HB1 := Lib.hid hq1.2.2
  have HM1 := Lib.hid (maxLen_ge HB1.out)
  have HL1 := Lib.hid (show lens r1 r1.length ≤ 1048576 by have := lens_all r1; have := HB1.out; omega)
  clear hr
  clear hq0 hq1
  have hspec : ∀ W u0 u1 u2, RowsAt W u0 r0 → RowsAt W u1 r1 → IntsAt W u2 x2 → Calls Tryd.prog 20 #[.agg #[u0], .agg #[u1], u2] W (SaysN (stableB r0 r1 x2) W) := fun W u0 u1 u2 k0 k1 k2 => specStable_any u0 u1 u2 r0 r1 x2 W k0 k1 k2 HB0.out HB1.out
  have himpl : ∀ W u0 u1 u2, RowsAt W u0 r0 → RowsAt W u1 r1 → IntsAt W u2 x2 → Tab W → Calls Tryd.prog 21 #[.agg #[u0], .agg #[u1], u2] W (SaysN (stableB r0 r1 x2) W) := fun W u0 u1 u2 k0 k1 k2 kT => implStable_any u0 u1 u2 r0 r1 x2 W k0 k1 k2 kT HB0.out HB1.out
  generalize stableB r0 r1 x2 = t at hspec himpl
  have HS := Lib.hid hspec
  have HI := Lib.hid himpl
  have hne : (t != t) = false := bne_self_eq_false t
  clear hspec himpl
  have hc3 := E2.out.cell 0 rfl
  have hc4 := E2.out.cell 1 rfl
  go_wp2_with fail
  go_region_held3 (fun W' : World => W'.cell? ⟨w.heap.size, 0, none⟩ = some (.slice A0 r0.length C0) ∧ W'.cell? ⟨w.heap.size + 1, 0, none⟩ = some (.slice A1 r1.length C1)) (first | exact ⟨E6.out.cell 0 rfl, E6.out.cell 1 rfl⟩ | exact ⟨E5.out.cell 0 rfl, E5.out.cell 1 rfl⟩ | exact ⟨E4.out.cell 0 rfl, E4.out.cell 1 rfl⟩ | exact ⟨E3.out.cell 0 rfl, E3.out.cell 1 rfl⟩ | exact ⟨E2.out.drew.cell 0 rfl, E2.out.drew.cell 1 rfl⟩) (first | (go_at_call_of 9 (Value.slice A0 (List.length r0) C0); refine (toOrder_any _ r0 _ (H0.out.below E2.out.drew.below) HB0.out).mono ?_; rintro e w3 ⟨gw3, Gw3, rfl, hg, ho, hb⟩; have hE := E2.out.drew.copyR HM0.out hg ho hb; simp only [List.cons_append, List.nil_append] at hE; have E3 := Lib.hid hE; clear hE; clear hg ho hb) | (go_at_call_of 9 (Value.slice A1 (List.length r1) C1); refine (toOrder_any _ r1 _ (H1.out.below E3.out.below) HB1.out).mono ?_; rintro e w4 ⟨gw4, Gw4, rfl, hg, ho, hb⟩; have hE := E3.out.copyR HM1.out hg ho hb; simp only [List.cons_append, List.nil_append] at hE; have E4 := Lib.hid hE; clear hE; clear hg ho hb) | (go_at_call_of 15 (Value.slice A2 (List.length x2) C2); refine (toIntS_any _ x2 _ (H2.out.below E4.out.below) HL2.out).mono ?_; rintro e w5 ⟨rfl, ho, hz, hb⟩; have hE := E4.out.copyI HM2.out ho hz hb; simp only [List.cons_append, List.nil_append] at hE; have E5 := Lib.hid hE; clear hE; clear ho hz hb) | (go_at_call 20; refine (HS.out _ _ _ _ (E5.out.rows 2 rfl) (E5.out.rows 3 rfl) (E5.out.ints 4 rfl)).mono ?_; rintro e w6 ⟨rfl, hb⟩; have hE := (E5.out.take 2).step hb; simp only [List.take_succ_cons, List.take_zero] at hE; have E6 := Lib.hid hE; clear hE; clear hb))
  clear hc3 hc4
  have hc5 := E6.out.cell 0 rfl
  go_wp2_with fail
  refine (toOrder_any _ r0 _ (H0.out.below E6.out.below) HB0.out).mono ?_
  rintro e w7 ⟨gw7, Gw7, rfl, hg, ho, hb⟩
  have hE := (E6.out.copyR HM0.out hg ho hb).box 26 (whole gw7 r0.length)
  simp only [List.cons_append, List.nil_append] at hE
  have E7 := Lib.hid hE
  clear hE hg ho hb hc5 E6
  have hc6 := E7.out.cell 1 rfl
  go_wp2_with fail
  refine (toOrder_any _ r1 _ (H1.out.below E7.out.below) HB1.out).mono ?_
  rintro e w8 ⟨gw8, Gw8, rfl, hg, ho, hb⟩
  have hE := (E7.out.copyR HM1.out hg ho hb).box 26 (whole gw8 r1.length)
  simp only [List.cons_append, List.nil_append] at hE
  have E8 := Lib.hid hE
  clear hE hg ho hb hc6 E7
  go_wp2_with fail
  refine (toIntS_any _ x2 _ (H2.out.below E8.out.below) HL2.out).mono ?_
  rintro e w9 ⟨rfl, ho, hz, hb⟩
  have hE := E8.out.copyI HM2.out ho hz hb
  simp only [World.size_alloc] at hE
  simp only [List.cons_append, List.nil_append] at hE
  have E9 := Lib.hid hE
  clear hE ho hz hb E8
  have hc7 := E9.out.cell 3 rfl
  have hc8 := E9.out.cell 5 rfl
  go_wp2_with fail
  refine (HI.out _ _ _ _ (E9.out.rows 2 rfl) (E9.out.rows 4 rfl) (E9.out.ints 6 rfl) (HTT.out.below E9.out.below)).mono ?_
  rintro e w10 ⟨rfl, hb⟩
  have E10 := Lib.hid (E9.out.step hb)
  clear hb E9 hc7 hc8
  have hc9 := E10.out.cell 3 rfl
  have hc10 := E10.out.cell 0 rfl
  go_wp2_with fail
  go_region_held3 (fun W' : World => W'.cell? ⟨w7.heap.size, 0, none⟩ = some (whole gw7 r0.length) ∧ W'.cell? ⟨w.heap.size, 0, none⟩ = some (.slice A0 r0.length C0)) (first | exact ⟨E12.out.cell 3 rfl, E12.out.cell 0 rfl⟩ | exact ⟨E11.out.cell 3 rfl, E11.out.cell 0 rfl⟩ | exact ⟨E10.out.drew.cell 3 rfl, E10.out.drew.cell 0 rfl⟩) (first | (go_at_call 9; refine (toOrder_any _ r0 _ (H0.out.below E10.out.drew.below) HB0.out).mono ?_; rintro e w11 ⟨gw11, Gw11, rfl, hg, ho, hb⟩; have hE := E10.out.drew.copyR HM0.out hg ho hb; simp only [List.cons_append, List.nil_append] at hE; have E11 := Lib.hid hE; clear hE; have heq := eqOrder_any _ _ r0 r0 w11 (E11.out.rows 2 rfl) (E11.out.rows 7 rfl); rw [decide_eq_true (rfl : r0 = r0)] at heq; have HEQ := Lib.hid heq; clear heq hg ho hb) | (go_at_call 11; refine HEQ.out.mono ?_; clear HEQ; rintro e w12 ⟨rfl, hb⟩; have hE := (E11.out.take 7).step hb; simp only [List.take_succ_cons, List.take_zero] at hE; have E12 := Lib.hid hE; clear hE; clear hb))
  clear hc9 hc10
  have hc11 := E12.out.cell 5 rfl
  have hc12 := E12.out.cell 1 rfl
  go_wp2_with fail
  go_region_held3 (fun W' : World => W'.cell? ⟨w8.heap.size, 0, none⟩ = some (whole gw8 r1.length) ∧ W'.cell? ⟨w.heap.size + 1, 0, none⟩ = some (.slice A1 r1.length C1)) (first | exact ⟨E14.out.cell 5 rfl, E14.out.cell 1 rfl⟩ | exact ⟨E13.out.cell 5 rfl, E13.out.cell 1 rfl⟩ | exact ⟨E12.out.drew.cell 5 rfl, E12.out.drew.cell 1 rfl⟩) (first | (go_at_call 9; refine (toOrder_any _ r1 _ (H1.out.below E12.out.drew.below) HB1.out).mono ?_; rintro e w13 ⟨gw13, Gw13, rfl, hg, ho, hb⟩; have hE := E12.out.drew.copyR HM1.out hg ho hb; simp only [List.cons_append, List.nil_append] at hE; have E13 := Lib.hid hE; clear hE; have heq := eqOrder_any _ _ r1 r1 w13 (E13.out.rows 4 rfl) (E13.out.rows 7 rfl); rw [decide_eq_true (rfl : r1 = r1)] at heq; have HEQ := Lib.hid heq; clear heq hg ho hb) | (go_at_call 11; refine HEQ.out.mono ?_; clear HEQ; rintro e w14 ⟨rfl, hb⟩; have hE := (E13.out.take 7).step hb; simp only [List.take_succ_cons, List.take_zero] at hE; have E14 := Lib.hid hE; clear hE; clear hb))
  clear hc11 hc12
  go_wp2_with fail
  refine (toIntS_any _ x2 _ (H2.out.below E14.out.below) HL2.out).mono ?_
  rintro e w15 ⟨rfl, ho, hz, hb⟩
  have hE := E14.out.copyI HM2.out ho hz hb; simp only [List.cons_append, List.nil_append] at hE; have E15 := Lib.hid hE; clear hE
  have heq := eqIntS_any _ _ x2 x2 w15 (E15.out.ints 6 rfl) (E15.out.ints 7 rfl)
  rw [decide_eq_true (rfl : x2 = x2)] at heq
  clear ho hz hb E14
  go_wp2_with fail
  refine heq.mono ?_
  clear heq
  rintro e w16 ⟨rfl, nw16, rfl⟩
  have hE := (E15.out.take 7).drewN nw16
  simp only [List.take_succ_cons, List.take_zero] at hE
  generalize World.drewN _ nw16 = Ww16 at hE ⊢
  have E16 := Lib.hid hE
  clear hE E15
  go_wp2
  go_ret
  exact ⟨rfl, E16.out.below⟩
end Go.Proofs.YtppjogkednclcaaDoor
