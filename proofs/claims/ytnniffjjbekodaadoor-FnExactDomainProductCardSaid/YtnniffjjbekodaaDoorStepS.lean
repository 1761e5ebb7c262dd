/- The model's steps (l3Step), and its FunStep. -/
import Derived.Test.YtnniffjjbekodaaDoorStrictS
import Derived.Test.YtnniffjjbekodaaDoorJoinS
import Derived.Test.YtnniffjjbekodaaDoorOwnB
import Derived.Test.YtnniffjjbekodaaDoorTo
import Derived.Test.YtnniffjjbekodaaDoorLw
import Derived.Maps.AppendAt
namespace Go.Proofs.YtnniffjjbekodaaDoor
open Go.RowKit Go.Deep

theorem owns_weaker {W : World} {lo lo' n : Nat} {t : TypeId} {v : Value} {xs : List Value} (h : W.ownsRow lo t 1 v n xs) (hl : lo' ≤ lo) : W.ownsRow lo' t 1 v n xs := by
  obtain ⟨h1, h2 | ⟨g, c, cur, rfl, h3, h4⟩⟩ := h
  · exact ⟨h1, .inl h2⟩
  · exact ⟨h1, .inr ⟨g, c, cur, rfl, by omega, h4⟩⟩
/-- The numbers xs, in memory of their own. -/
def OwnQ (xs : List Int) (w : World) (e : Ending) (w' : World) : Prop :=
  ∃ v, e = .returned v ∧ OwnI 3 w' v xs w.heap.size w'.heap.size ∧ Below w.heap.size w w'

/-- What the step of a to b has for element i. -/
def stepAt (rows rows' : Rows2) (a : Nat) (b : Int) (i : Nat) : Int := if upB rows a (i : Int) = true then b else leastI rows'
def stepN (rows rows' : Rows2) (a : Nat) (b : Int) (k : Nat) : List Int := (List.range k).map (stepAt rows rows' a b)
theorem stepN_length (rows rows' : Rows2) (a : Nat) (b : Int) (k : Nat) : (stepN rows rows' a b k).length = k := by unfold stepN; simp
theorem stepN_succ (rows rows' : Rows2) (a : Nat) (b : Int) (k : Nat) : stepN rows rows' a b (k + 1) = stepN rows rows' a b k ++ [stepAt rows rows' a b k] := by
  unfold stepN
  rw [List.range_succ, List.map_append]
  rfl

/-- Behind an append to a list of the call's own. -/
theorem Two.grow {w : World} {v v' : Value} {rows rows' : Rows2} {W w1 : World} (h : Two w v v' rows rows' W) (hv : RowsAt w v rows) (hv' : RowsAt w v' rows') {u : Value} {n : Nat} {xs : List Value} (ho : W.ownsRow (w.heap.size + 2) 3 1 u n xs) (o : Obj) {row : Option Nat} (hg : (W.alloc o).grownBy w1 row) (hr : row = u.ownBlock := by rfl) : Two w v v' rows rows' w1 := by
  subst hr
  have hb1 : w.heap.size + 1 < W.heap.size := cell_lt h.c1
  have hb : Below (w.heap.size + 2) W w1 := ((Below.refl (w.heap.size + 2) W).alloc (by omega) o).grown hg (by rw [World.size_alloc]; omega) (fun b e => (ho.lt b e).1)
  have hw : Below w.heap.size w w1 := h.below.trans (hb.mono (by omega))
  exact ⟨(hb.cell (p := ⟨w.heap.size, 0, none⟩) (by show w.heap.size < w.heap.size + 2; omega)).trans h.c0, (hb.cell (p := ⟨w.heap.size + 1, 0, none⟩) (by show w.heap.size + 1 < w.heap.size + 2; omega)).trans h.c1, hv.below hw, hv'.below hw, hw⟩

set_option maxRecDepth 100000 in
set_option maxHeartbeats 4000000 in
theorem l3Step_any (v v' : Value) (rows rows' : Rows2) (a b : Int) (an m' : Nat) (w : World) (hv : RowsAt w v rows) (hv' : RowsAt w v' rows') (hn : bulk rows ≤ 1048576) (hn' : bulk rows' ≤ 1048576) (hl : listsB rows = true)
    (ha : a = an) (hal : an < rows.length) (hb0 : 0 ≤ b) (hb1 : b ≤ 1048576) (hme : leastI rows' = m') (hml : m' < rows'.length) :
    Calls Tryd.prog 66 #[.agg #[v], .agg #[v'], .int .i64 a, .int .i64 b] w (OwnQ (stepN rows rows' an b rows.length) w) := by
  subst ha
  have HV0 := Lib.hid hv
  have HV1 := Lib.hid hv'
  have h0 := Two.start w 28 28 hv hv'
  have hlen : rows.length ≤ 1048576 := by unfold bulk at hn; omega
  have hlen' : rows'.length ≤ 1048576 := by unfold bulk at hn'; omega
  have hs : ((w.alloc (.cells #[v] 28)).alloc (.cells #[v'] 28)).heap.size = w.heap.size + 2 := by rw [World.size_alloc, World.size_alloc]
  have hO := World.ownsRow_made (e := 3) (size := 1) ((w.alloc (.cells #[v] 28)).alloc (.cells #[v'] 28)) #[] 0 (base := w.heap.size + 2) (by rw [hs]; omega) (Nat.zero_le _) (by simp)
  rw [hs] at hO
  have hT := h0.step ((Below.refl _ _).alloc (Nat.le_refl _) (.cells #[] 3))
  obtain ⟨A, C, rfl, hC, hm, _⟩ := hv
  obtain ⟨A', C', rfl, hC', hm', _⟩ := hv'
  unfold maxLen at hm hm'
  obtain ⟨i0, hi0, hz0, hz1, hz2⟩ := info_parts infoInt
  have HO := Lib.hid hO
  have HT := Lib.hid hT
  have HLE := Lib.hid hl
  have HME := Lib.hid hme
  have hll : ∀ W, RowsAt W (.slice A' rows'.length C') rows' → Calls Tryd.prog 59 #[.agg #[.slice A' rows'.length C']] W (SaysI (m' : Int) W) := fun W h => by
    have := l1Least_any _ rows' W h hn'
    rw [hme] at this
    exact this
  have HLL := Lib.hid hll
  clear h0 hs hO hT hll hme
  go_enter Tryd.func66, Tryd.ntmps66
  go_wp2
  go_loopw [9, 10] (fun ov kv wr => ∃ k : Nat, k ≤ rows.length ∧ kv = .int .i64 k ∧ wr.ownsRow (w.heap.size + 2) 3 1 ov (stepN rows rows' an b k).length (cellsI (stepN rows rows' an b k)) ∧ Two w (.slice A rows.length C) (.slice A' rows'.length C') rows rows' wr) (fun _ kv _ => rows.length - (intOf kv).toNat)
  case atStart => exact ⟨0, Nat.zero_le _, rfl, HO.out, HT.out⟩
  case round =>
    obtain ⟨k, hk, rfl, hown, hh⟩ := hrel
    have HOWN := Lib.hid hown
    have HK := Lib.hid hh
    have hcell := hh.c0
    have hcl := Nat.le_of_eq (stepN_length rows rows' an b k)
    have hrl : rows.length ≤ 1048576 := hlen
    clear hown hh HO HT
    by_cases hlt : k < rows.length
    · cases hup : upB rows an (k : Int) with
      | true =>
        have hcall := le_call HK.out.r0 HLE.out hn (an : Int) (k : Int) (by omega) (by omega) (r := true) (by simpa using hup)
        have HA := Lib.hid (show stepAt rows rows' an b k = b by unfold stepAt; rw [if_pos hup])
        clear hup
        go_wp2_with (first | (go_at_call 88; refine hcall.mono ?_; clear hcall; rintro e w3 ⟨rfl, hb3⟩; have H3 := Lib.hid (HK.out.step hb3); have HOW3 := Lib.hid (owns_below HOWN.out hb3); have hbz : w.heap.size + 1 < w3.heap.size := cell_lt H3.out.c1; clear hb3) | (at_builtin; refine wpList_append_own _ rfl _ _ 25 rfl (w.heap.size + 2) 3 i0 (.int .i64 0) 1 8 Tryd.underlying25 hi0 hz0 hz1 hz2 rfl (by decide) _ _ _ rfl (HOW3.out.alloc _) ⟨w3.heap.size, 0, none⟩ 1 1 [.int .i64 b] rfl rfl (cell_one_new _ _ _) (by simp [Value.oneCell']) (by unfold maxLen; omega) (by omega) (by simp; omega) ?_; intro v' w1 hown' hgrow _))
        go_roundw
        case rel =>
          refine ⟨k + 1, by omega, by go_num, ?_, H3.out.grow HV0.out HV1.out HOW3.out _ hgrow⟩
          rw [stepN_succ, HA.out, List.length_append, show cellsI (stepN rows rows' an b k ++ [b]) = cellsI (stepN rows rows' an b k) ++ [.int .i64 b] by simp]
          exact hown'
        case measure => simp [intOf]; omega
      | false =>
        have hcall := le_call HK.out.r0 HLE.out hn (an : Int) (k : Int) (by omega) (by omega) (r := false) (by simpa using hup)
        have HA := Lib.hid (show stepAt rows rows' an b k = (m' : Int) by unfold stepAt; rw [if_neg (by rw [hup]; simp), HME.out])
        clear hup
        go_wp2_with (first | (go_at_call 88; refine hcall.mono ?_; clear hcall; rintro e w3 ⟨rfl, hb3⟩; have H3 := Lib.hid (HK.out.step hb3); have HOW3 := Lib.hid (owns_below HOWN.out hb3); have hc3 := H3.out.c1; clear hb3) | (go_at_call 59; refine (HLL.out _ H3.out.r1).mono ?_; rintro e w4 ⟨rfl, hb4⟩; have H4 := Lib.hid (H3.out.step hb4); have HOW4 := Lib.hid (owns_below HOW3.out hb4); have hbz : w.heap.size + 1 < w4.heap.size := cell_lt H4.out.c1; clear hb4) | (at_builtin; refine wpList_append_own _ rfl _ _ 25 rfl (w.heap.size + 2) 3 i0 (.int .i64 0) 1 8 Tryd.underlying25 hi0 hz0 hz1 hz2 rfl (by decide) _ _ _ rfl (HOW4.out.alloc _) ⟨w4.heap.size, 0, none⟩ 1 1 [.int .i64 (m' : Int)] rfl rfl (cell_one_new _ _ _) (by simp [Value.oneCell']) (by unfold maxLen; omega) (by omega) (by simp; omega) ?_; intro v' w1 hown' hgrow _))
        go_roundw
        case rel =>
          refine ⟨k + 1, by omega, by go_num, ?_, H4.out.grow HV0.out HV1.out HOW4.out _ hgrow⟩
          rw [stepN_succ, HA.out, List.length_append, show cellsI (stepN rows rows' an b k ++ [(m' : Int)]) = cellsI (stepN rows rows' an b k) ++ [.int .i64 (m' : Int)] by simp]
          exact hown'
        case measure => simp [intOf]; omega
    · obtain rfl : k = rows.length := by omega
      go_wp2
      go_ret
      refine ⟨_, rfl, OwnI.of_owns (owns_weaker HOWN.out (Nat.le_add_right _ _)) ?_ (fun b hb => (HOWN.out.lt b hb).2), HK.out.below⟩
      intro y hy
      unfold stepN at hy
      obtain ⟨i, _, rfl⟩ := List.mem_map.1 hy
      unfold stepAt
      split
      · exact wf_int hb0 hb1
      · rw [HME.out]
        exact wf_int (by omega) (by omega)

/-- What FunStep answers. -/
noncomputable def stepOk (rows rows' : Rows2) (a b : Int) : Bool := domB rows && domB rows' && (decide (0 ≤ a ∧ a < rows.length) && decide (0 ≤ b ∧ b < rows'.length))
noncomputable def stepL (rows rows' : Rows2) (a b : Int) : List Int := if stepOk rows rows' a b = true then stepN rows rows' a.toNat b rows.length else []
/-- A list in memory of its own, and a Boolean. -/
def OwnB (xs : List Int) (t : Bool) (w : World) (e : Ending) (w' : World) : Prop :=
  ∃ v, e = .returned (.tuple #[v, .bool t]) ∧ OwnI 3 w' v xs w.heap.size w'.heap.size ∧ Below w.heap.size w w'
theorem stepOk_no1 {rows rows' : Rows2} {a b : Int} (h : domB rows = false) : stepOk rows rows' a b = false := by unfold stepOk; rw [h]; rfl
theorem stepOk_no2 {rows rows' : Rows2} {a b : Int} (h : domB rows' = false) : stepOk rows rows' a b = false := by unfold stepOk; rw [h]; simp
theorem stepOk_no3 {rows rows' : Rows2} {a b : Int} (h : ¬ (0 ≤ a ∧ a < rows.length)) : stepOk rows rows' a b = false := by unfold stepOk; rw [decide_eq_false h]; simp
theorem stepOk_no4 {rows rows' : Rows2} {a b : Int} (h : ¬ (0 ≤ b ∧ b < rows'.length)) : stepOk rows rows' a b = false := by unfold stepOk; rw [decide_eq_false h]; simp

/-- An empty list made by the call. -/
theorem ownB_none {rows rows' : Rows2} {a b : Int} {w W : World} (h : stepOk rows rows' a b = false) (hb : Below w.heap.size w W) : OwnB (stepL rows rows' a b) (stepOk rows rows' a b) w (.returned (.tuple #[.slice (some ⟨W.heap.size, 0, none⟩) 0 0, .bool false])) (W.alloc (.cells #[] 3)) := by
  unfold stepL
  rw [h]
  exact ⟨_, rfl, ⟨fun _ h => (by cases h), .inr ⟨W.heap.size, 0, fun _ => undef, rfl, Nat.le_refl _, Nat.zero_le _, hb.size, by rw [World.size_alloc]; omega, World.rowIs_alloc W #[] 3 (fun _ => undef) (fun _ h => absurd h (Nat.not_lt_zero _)), fun _ h => absurd h (Nat.not_lt_zero _)⟩⟩, hb.alloc hb.size _⟩

set_option maxRecDepth 100000 in
set_option maxHeartbeats 4000000 in
theorem specStep_any (v v' : Value) (rows rows' : Rows2) (a b : Int) (w : World) (hv : RowsAt w v rows) (hv' : RowsAt w v' rows') (hn : bulk rows ≤ 1048576) (hn' : bulk rows' ≤ 1048576) :
    Calls Tryd.prog 36 #[.agg #[v], .agg #[v'], .int .i64 a, .int .i64 b] w (OwnB (stepL rows rows' a b) (stepOk rows rows' a b) w) := by
  have hT := Two.start w 28 28 hv hv'
  have hlen : rows.length ≤ 1048576 := by unfold bulk at hn; omega
  have hlen' : rows'.length ≤ 1048576 := by unfold bulk at hn'; omega
  have hw1 := i64_sub1 rows.length hlen
  have hw2 := i64_sub1 rows'.length hlen'
  obtain ⟨A, C, rfl, hC, hm, _⟩ := hv
  obtain ⟨A', C', rfl, hC', hm', _⟩ := hv'
  unfold maxLen at hm hm'
  have H0 := Lib.hid hT
  have hcell := hT.c0
  have hd1 := specDom_any _ rows _ hT.r0 hn
  clear hT
  cases h1 : domB rows with
  | false =>
    rw [h1] at hd1
    have HE := Lib.hid (stepOk_no1 (rows' := rows') (a := a) (b := b) h1)
    go_enter Tryd.func36, Tryd.ntmps36
    go_wp2_with (go_at_call 52; refine hd1.mono ?_; clear hd1; rintro e w1 ⟨rfl, hb1⟩; have H1 := Lib.hid (H0.out.step hb1); clear hb1)
    go_ret2
    exact ownB_none HE.out H1.out.below
  | true =>
    rw [h1] at hd1
    cases h2 : domB rows' with
    | false =>
      have HE := Lib.hid (stepOk_no2 (rows := rows) (a := a) (b := b) h2)
      go_enter Tryd.func36, Tryd.ntmps36
      go_wp2_with (first | (go_at_call 52; refine hd1.mono ?_; clear hd1; rintro e w1 ⟨rfl, hb1⟩; have H1 := Lib.hid (H0.out.step hb1); have hc1 := H1.out.c1; have hd2 := specDom_any _ rows' _ H1.out.r1 hn'; rw [h2] at hd2; clear hb1) | (go_at_call 52; refine hd2.mono ?_; clear hd2; rintro e w2 ⟨rfl, hb2⟩; have H2 := Lib.hid (H1.out.step hb2); clear hb2))
      go_ret2
      exact ownB_none HE.out H2.out.below
    | true =>
      have hl := valid_lists (show validB rows = true by unfold domB at h1; rw [Bool.and_eq_true] at h1; exact h1.1)
      obtain ⟨m', hml, hme⟩ := dom_least h2
      by_cases ha : 0 ≤ a ∧ a < rows.length
      · have ha2 : 0 ≤ a ∧ a ≤ (rows.length : Int) - 1 := ⟨ha.1, by omega⟩
        by_cases hb : 0 ≤ b ∧ b < rows'.length
        · have hb2 : 0 ≤ b ∧ b ≤ (rows'.length : Int) - 1 := ⟨hb.1, by omega⟩
          have hE : stepOk rows rows' a b = true := by unfold stepOk; rw [h1, h2, decide_eq_true ha, decide_eq_true hb]; rfl
          have HE := Lib.hid hE
          have HC := Lib.hid (fun W (h : Two w (.slice A rows.length C) (.slice A' rows'.length C') rows rows' W) => l3Step_any _ _ rows rows' a b a.toNat m' W h.r0 h.r1 hn hn' hl (by omega) (by omega) hb.1 (by omega) hme hml)
          have HA := Lib.hid ha2
          have HB := Lib.hid hb2
          clear ha hb ha2 hb2 hE hl hme
          go_enter Tryd.func36, Tryd.ntmps36
          go_wp2_with (first | (go_at_call 52; refine hd1.mono ?_; clear hd1; rintro e w1 ⟨rfl, hb1⟩; have H1 := Lib.hid (H0.out.step hb1); have hc1 := H1.out.c1; have hd2 := specDom_any _ rows' _ H1.out.r1 hn'; rw [h2] at hd2; clear hb1) | (go_at_call 52; refine hd2.mono ?_; clear hd2; rintro e w2 ⟨rfl, hb2⟩; have H2 := Lib.hid (H1.out.step hb2); have hc2 := H2.out.c0; have hc3 := H2.out.c1; clear hb2) | (go_at_call_of 65 (Value.int IntKind.i64 a); refine (l6In_yes a _ _ _ HA.out.1 HA.out.2).mono ?_; rintro e w3 ⟨rfl, rfl⟩) | (go_at_call_of 65 (Value.int IntKind.i64 b); refine (l6In_yes b _ _ _ HB.out.1 HB.out.2).mono ?_; rintro e w3 ⟨rfl, rfl⟩) | (go_at_call 66; refine (HC.out _ H2.out).mono ?_; rintro e w4 ⟨u, rfl, hu, hb4⟩; have HU := Lib.hid hu; have B4 := Lib.hid hb4; clear hu hb4))
          go_ret2
          refine ⟨u, by rw [HE.out]; rfl, ?_, H2.out.below.trans (B4.out.mono H2.out.below.size)⟩
          unfold stepL
          rw [if_pos HE.out]
          exact HU.out.wider H2.out.below.size (Nat.le_refl _)
        · have HE := Lib.hid (stepOk_no4 (rows := rows) (a := a) hb)
          have HA := Lib.hid ha2
          have HB := Lib.hid (show ¬ (0 ≤ b ∧ b ≤ (rows'.length : Int) - 1) from fun h => hb ⟨h.1, by omega⟩)
          clear ha hb ha2
          go_enter Tryd.func36, Tryd.ntmps36
          go_wp2_with (first | (go_at_call 52; refine hd1.mono ?_; clear hd1; rintro e w1 ⟨rfl, hb1⟩; have H1 := Lib.hid (H0.out.step hb1); have hc1 := H1.out.c1; have hd2 := specDom_any _ rows' _ H1.out.r1 hn'; rw [h2] at hd2; clear hb1) | (go_at_call 52; refine hd2.mono ?_; clear hd2; rintro e w2 ⟨rfl, hb2⟩; have H2 := Lib.hid (H1.out.step hb2); have hc2 := H2.out.c0; have hc3 := H2.out.c1; clear hb2) | (go_at_call_of 65 (Value.int IntKind.i64 a); refine (l6In_yes a _ _ _ HA.out.1 HA.out.2).mono ?_; rintro e w3 ⟨rfl, rfl⟩) | (go_at_call_of 65 (Value.int IntKind.i64 b); refine (l6In_no b _ _ _ HB.out).mono ?_; rintro e w3 ⟨rfl, rfl⟩))
          go_ret2
          exact ownB_none HE.out H2.out.below
      · have HE := Lib.hid (stepOk_no3 (rows' := rows') (b := b) ha)
        have HA := Lib.hid (show ¬ (0 ≤ a ∧ a ≤ (rows.length : Int) - 1) from fun h => ha ⟨h.1, by omega⟩)
        clear ha
        go_enter Tryd.func36, Tryd.ntmps36
        go_wp2_with (first | (go_at_call 52; refine hd1.mono ?_; clear hd1; rintro e w1 ⟨rfl, hb1⟩; have H1 := Lib.hid (H0.out.step hb1); have hc1 := H1.out.c1; have hd2 := specDom_any _ rows' _ H1.out.r1 hn'; rw [h2] at hd2; clear hb1) | (go_at_call 52; refine hd2.mono ?_; clear hd2; rintro e w2 ⟨rfl, hb2⟩; have H2 := Lib.hid (H1.out.step hb2); have hc2 := H2.out.c0; have hc3 := H2.out.c1; clear hb2) | (go_at_call_of 65 (Value.int IntKind.i64 a); refine (l6In_no a _ _ _ HA.out).mono ?_; rintro e w3 ⟨rfl, rfl⟩))
        go_ret2
        exact ownB_none HE.out H2.out.below
end Go.Proofs.YtnniffjjbekodaaDoor
