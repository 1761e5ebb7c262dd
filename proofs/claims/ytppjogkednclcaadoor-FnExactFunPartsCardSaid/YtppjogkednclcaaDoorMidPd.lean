/- The program's FunParts. -/
import Derived.Test.YtppjogkednclcaaDoorMidPb
import Derived.Test.YtppjogkednclcaaDoorMidPc
import Derived.Laws.MakeOwn
import Derived.Test.YtppjogkednclcaaDoorMidPa
import Derived.Test.YtppjogkednclcaaDoorTo
import Derived.Deep.RegionHeld3
namespace Go.Proofs.YtppjogkednclcaaDoor
open Go.RowKit Go.Deep Go.Shelf

/-- Two lists, each in memory of its own. -/
def OwnLL (xs ys : List Int) (w : World) (e : Ending) (w' : World) : Prop :=
  ∃ v u, e = .returned (.tuple #[v, u]) ∧ OwnI 3 w' v xs w.heap.size w'.heap.size ∧ OwnI 3 w' u ys w.heap.size w'.heap.size ∧ (v.ownBlock = none ∨ v.ownBlock ≠ u.ownBlock) ∧ Below w.heap.size w w'

theorem part_step {i k : Nat} {f : List Int} {h : Nat → Nat} {q : Nat} (e : (f.getD k 0).toNat = q) : (if i = k then Value.int .i64 ((h q : Nat) : Int) else if i < k then Value.int .i64 ((h (f.getD i 0).toNat : Nat) : Int) else .int .i64 0) = if i < k + 1 then Value.int .i64 ((h (f.getD i 0).toNat : Nat) : Int) else .int .i64 0 := by
  by_cases e1 : i = k
  · subst e1
    rw [if_pos rfl, if_pos (Nat.lt_succ_self i), e]
  · by_cases e2 : i < k
    · rw [if_neg e1, if_pos e2, if_pos (by omega)]
    · rw [if_neg e1, if_neg e2, if_neg (by omega)]
theorem own_of_row {W : World} {b n lo : Nat} {t : TypeId} {R : Nat → Value} {xs : List Int} (h : W.rowIs b t n R) (hl : xs.length = n) (hn : n ≤ 200) (hlo : lo ≤ b) (hw : ∀ x ∈ xs, (Lit.int .i64 x).wf = true) (hR : ∀ i (hi : i < xs.length), R i = .int .i64 xs[i]) : OwnI t W (.slice (some ⟨b, 0, none⟩) n n) xs lo W.heap.size := by
  subst hl
  exact ⟨hw, .inr ⟨b, xs.length, R, rfl, Nat.le_refl _, by unfold maxLen; omega, hlo, h.lt, h, hR⟩⟩

theorem rowIs_heap {W W' : World} {b n : Nat} {t : TypeId} {R : Nat → Value} (hW : W'.heap = W.heap) (h : W.rowIs b t n R) : W'.rowIs b t n R := by
  obtain ⟨c, h1, h2⟩ := h
  exact ⟨c, by rw [hW]; exact h1, h2⟩

set_option maxRecDepth 100000 in
set_option maxHeartbeats 4000000 in
theorem parts_any (vf : Value) (f : List Int) (n : Nat) (w : World) (hf : IntsAt w vf f) (hfl : f.length ≤ 200) (hn0 : 0 < n) (hn : n ≤ 200)
    (hrf : ∀ i (hi : i < f.length), ∃ q : Nat, f[i] = (q : Int) ∧ q ≤ 200) :
    Calls Tryd.prog 49 #[vf, .int .i64 (n : Int)] w (OwnLL (quoN f n f.length) (remN f n f.length) w) := by
  have HFA := Lib.hid (fun W (h : Below w.heap.size w W) => hf.below h)
  have HRF := Lib.hid hrf
  obtain ⟨Af, Cf, rfl, hCf, hmf, _⟩ := hf
  unfold maxLen at hmf
  have hmk := run_make_row' (P := Tryd.prog) 72 3 (.int .i64 0) 8 Tryd.underlying72 infoInt rfl .i64 .i64 f.length (by omega) (by omega)
  clear hrf
  go_enter Tryd.func49, Tryd.ntmps49
  go_upto_region 1 with fail
  go_region
  · clear hmk
    have HR1 := Lib.hid (show ∀ W : World, W.heap = (((w.alloc (.cells (madeCells #[.int .i64 0] f.length) 3)).alloc (.cells (madeCells #[.int .i64 0] f.length) 3))).heap → W.rowIs (w.heap.size) 3 f.length (fun i => if i < 0 then .int .i64 (((f.getD i 0).toNat / n : Nat) : Int) else .int .i64 0) from fun W hW => (rowIs_heap hW ((World.rowIs_made w (.int .i64 0) f.length 3).alloc _)).congr (fun i _ => by rw [if_neg (Nat.not_lt_zero i)]))
    have HR2 := Lib.hid (show ∀ W : World, W.heap = (((w.alloc (.cells (madeCells #[.int .i64 0] f.length) 3)).alloc (.cells (madeCells #[.int .i64 0] f.length) 3))).heap → W.rowIs (w.heap.size + 1) 3 f.length (fun i => if i < 0 then .int .i64 (((f.getD i 0).toNat % n : Nat) : Int) else .int .i64 0) from fun W hW => (rowIs_heap hW (by have h := World.rowIs_made (w.alloc (.cells (madeCells #[.int .i64 0] f.length) 3)) (.int .i64 0) f.length 3; rw [World.size_alloc] at h; exact h)).congr (fun i _ => by rw [if_neg (Nat.not_lt_zero i)]))
    have HB0 := Lib.hid (((Below.refl w.heap.size w).alloc (Nat.le_refl _) (.cells (madeCells #[.int .i64 0] f.length) 3)).alloc (by rw [World.size_alloc]; omega) (.cells (madeCells #[.int .i64 0] f.length) 3))
    go_wp2
    go_loopw [8, 9, 18] (fun _ _ kv wr => ∃ k : Nat, k ≤ f.length ∧ kv = .int .i64 k ∧ wr.rowIs (w.heap.size) 3 f.length (fun i => if i < k then .int .i64 (((f.getD i 0).toNat / n : Nat) : Int) else .int .i64 0) ∧ wr.rowIs (w.heap.size + 1) 3 f.length (fun i => if i < k then .int .i64 (((f.getD i 0).toNat % n : Nat) : Int) else .int .i64 0) ∧ Below w.heap.size w wr) (fun _ _ kv _ => f.length - (intOf kv).toNat)
    case atStart => exact ⟨0, Nat.zero_le _, rfl, HR1.out _ rfl, HR2.out _ rfl, HB0.out.trans (below_drew _ _)⟩
    case round =>
      obtain ⟨k, hk, rfl, hr1, hr2, hB⟩ := hrel
      have HR1' := Lib.hid hr1
      have HR2' := Lib.hid hr2
      have HB := Lib.hid hB
      clear hB HR1 HR2 HB0
      by_cases hlt : k < f.length
      · have hc1 := hr1.cell hlt
        have hf1 := hr1.frozen k
        have hc2 := hr2.cell hlt
        have hf2 := hr2.frozen k
        rw [if_neg (Nat.lt_irrefl k)] at hc1 hc2
        have hkz : (k : Int) < (f.length : Int) := by omega
        obtain ⟨b1, o1, rfl, hcf⟩ := (HFA.out wr HB.out).get hlt
        obtain ⟨q, hq, hq2⟩ := HRF.out k hlt
        rw [hq] at hcf
        have hnz : (n : Int) ≠ 0 := by omega
        have hnz2 : n ≠ 0 := by omega
        clear hr1 hr2
        go_upto_region 5 with fail
        clear hcf
        go_region
        all_goals
          have eD : (f.getD k 0).toNat = q := by rw [getD_lt 0 hlt, hq]; rfl
          have eQ : wrap64 ((q : Int) / (n : Int)) = ((q / n : Nat) : Int) := by

            rw [← Int.natCast_ediv]
            have h5 := Nat.div_le_self q n
            generalize q / n = z at h5 ⊢
            exact IntWalk.wrap64_in (z : Int) (by omega)
          have eR : (q : Int) % (n : Int) = ((q % n : Nat) : Int) := (Int.natCast_emod q n).symm
          rw [eQ, eR]
          clear hc1 hc2 hf1 hf2
          generalize hwn : ((wr.setCell _ _).setCell _ _).drew = wn
          have hA1 : wn.rowIs (w.heap.size) 3 f.length (fun i => if i < k + 1 then .int .i64 (((f.getD i 0).toNat / n : Nat) : Int) else .int .i64 0) := by
            rw [← hwn]
            first
              | exact (((HR1'.out.set k _).setOther (by simp) _).congr fun i hi => part_step (h := fun x => x / n) eD)
              | exact (((HR1'.out.setOther (by simp) _).set k _).congr fun i hi => part_step (h := fun x => x / n) eD)
          have hA2 : wn.rowIs (w.heap.size + 1) 3 f.length (fun i => if i < k + 1 then .int .i64 (((f.getD i 0).toNat % n : Nat) : Int) else .int .i64 0) := by
            rw [← hwn]
            first
              | exact (((HR2'.out.setOther (by simp) _).set k _).congr fun i hi => part_step (h := fun x => x % n) eD)
              | exact (((HR2'.out.set k _).setOther (by simp) _).congr fun i hi => part_step (h := fun x => x % n) eD)
          have hA3 : Below w.heap.size w wn := by
            rw [← hwn]
            exact ((HB.out.setCell (by simp) _).setCell (by simp) _).trans (below_drew _ _)
          clear hwn
          simp only [Exit.inBlock, Exit.then]
          go_at_K
          go_wp2
          refine ⟨⟨k + 1, by omega, by go_num, hA1, hA2, hA3⟩, ?_⟩
          simp [intOf]; omega
      · obtain rfl : k = f.length := by omega
        clear hr1 hr2
        go_wp2
        go_ret2
        have hwf := part_wf (n := n) (k := f.length) (f := f) (fun i hi => by obtain ⟨q, hq, hq2⟩ := HRF.out i hi; rw [getD_lt 0 hi, hq]; omega) hn hn0
        refine ⟨_, _, rfl, own_of_row HR1'.out (quoN_length _ _ _) (by omega) (by omega) hwf.1 (fun i hi => ?_), own_of_row HR2'.out (remN_length _ _ _) (by omega) (by omega) hwf.2 (fun i hi => ?_), .inr (by simp [Value.ownBlock]), HB.out⟩
        · rw [quoN_length] at hi
          simp [quoN, hi]
        · rw [remN_length] at hi
          simp [remN, hi]
  · clear hmk
    have HR1 := Lib.hid (show ∀ W : World, W.heap = (((w.alloc (.cells (madeCells #[.int .i64 0] f.length) 3)).alloc (.cells (madeCells #[.int .i64 0] f.length) 3))).heap → W.rowIs (w.heap.size + 1) 3 f.length (fun i => if i < 0 then .int .i64 (((f.getD i 0).toNat / n : Nat) : Int) else .int .i64 0) from fun W hW => (rowIs_heap hW (by have h := World.rowIs_made (w.alloc (.cells (madeCells #[.int .i64 0] f.length) 3)) (.int .i64 0) f.length 3; rw [World.size_alloc] at h; exact h)).congr (fun i _ => by rw [if_neg (Nat.not_lt_zero i)]))
    have HR2 := Lib.hid (show ∀ W : World, W.heap = (((w.alloc (.cells (madeCells #[.int .i64 0] f.length) 3)).alloc (.cells (madeCells #[.int .i64 0] f.length) 3))).heap → W.rowIs (w.heap.size) 3 f.length (fun i => if i < 0 then .int .i64 (((f.getD i 0).toNat % n : Nat) : Int) else .int .i64 0) from fun W hW => (rowIs_heap hW ((World.rowIs_made w (.int .i64 0) f.length 3).alloc _)).congr (fun i _ => by rw [if_neg (Nat.not_lt_zero i)]))
    have HB0 := Lib.hid (((Below.refl w.heap.size w).alloc (Nat.le_refl _) (.cells (madeCells #[.int .i64 0] f.length) 3)).alloc (by rw [World.size_alloc]; omega) (.cells (madeCells #[.int .i64 0] f.length) 3))
    go_wp2
    go_loopw [8, 9, 18] (fun _ _ kv wr => ∃ k : Nat, k ≤ f.length ∧ kv = .int .i64 k ∧ wr.rowIs (w.heap.size + 1) 3 f.length (fun i => if i < k then .int .i64 (((f.getD i 0).toNat / n : Nat) : Int) else .int .i64 0) ∧ wr.rowIs (w.heap.size) 3 f.length (fun i => if i < k then .int .i64 (((f.getD i 0).toNat % n : Nat) : Int) else .int .i64 0) ∧ Below w.heap.size w wr) (fun _ _ kv _ => f.length - (intOf kv).toNat)
    case atStart => exact ⟨0, Nat.zero_le _, rfl, HR1.out _ rfl, HR2.out _ rfl, HB0.out.trans (below_drew _ _)⟩
    case round =>
      obtain ⟨k, hk, rfl, hr1, hr2, hB⟩ := hrel
      have HR1' := Lib.hid hr1
      have HR2' := Lib.hid hr2
      have HB := Lib.hid hB
      clear hB HR1 HR2 HB0
      by_cases hlt : k < f.length
      · have hc1 := hr1.cell hlt
        have hf1 := hr1.frozen k
        have hc2 := hr2.cell hlt
        have hf2 := hr2.frozen k
        rw [if_neg (Nat.lt_irrefl k)] at hc1 hc2
        have hkz : (k : Int) < (f.length : Int) := by omega
        obtain ⟨b1, o1, rfl, hcf⟩ := (HFA.out wr HB.out).get hlt
        obtain ⟨q, hq, hq2⟩ := HRF.out k hlt
        rw [hq] at hcf
        have hnz : (n : Int) ≠ 0 := by omega
        have hnz2 : n ≠ 0 := by omega
        clear hr1 hr2
        go_upto_region 5 with fail
        clear hcf
        go_region
        all_goals
          have eD : (f.getD k 0).toNat = q := by rw [getD_lt 0 hlt, hq]; rfl
          have eQ : wrap64 ((q : Int) / (n : Int)) = ((q / n : Nat) : Int) := by

            rw [← Int.natCast_ediv]
            have h5 := Nat.div_le_self q n
            generalize q / n = z at h5 ⊢
            exact IntWalk.wrap64_in (z : Int) (by omega)
          have eR : (q : Int) % (n : Int) = ((q % n : Nat) : Int) := (Int.natCast_emod q n).symm
          rw [eQ, eR]
          clear hc1 hc2 hf1 hf2
          generalize hwn : ((wr.setCell _ _).setCell _ _).drew = wn
          have hA1 : wn.rowIs (w.heap.size + 1) 3 f.length (fun i => if i < k + 1 then .int .i64 (((f.getD i 0).toNat / n : Nat) : Int) else .int .i64 0) := by
            rw [← hwn]
            first
              | exact (((HR1'.out.set k _).setOther (by simp) _).congr fun i hi => part_step (h := fun x => x / n) eD)
              | exact (((HR1'.out.setOther (by simp) _).set k _).congr fun i hi => part_step (h := fun x => x / n) eD)
          have hA2 : wn.rowIs (w.heap.size) 3 f.length (fun i => if i < k + 1 then .int .i64 (((f.getD i 0).toNat % n : Nat) : Int) else .int .i64 0) := by
            rw [← hwn]
            first
              | exact (((HR2'.out.setOther (by simp) _).set k _).congr fun i hi => part_step (h := fun x => x % n) eD)
              | exact (((HR2'.out.set k _).setOther (by simp) _).congr fun i hi => part_step (h := fun x => x % n) eD)
          have hA3 : Below w.heap.size w wn := by
            rw [← hwn]
            exact ((HB.out.setCell (by simp) _).setCell (by simp) _).trans (below_drew _ _)
          clear hwn
          simp only [Exit.inBlock, Exit.then]
          go_at_K
          go_wp2
          refine ⟨⟨k + 1, by omega, by go_num, hA1, hA2, hA3⟩, ?_⟩
          simp [intOf]; omega
      · obtain rfl : k = f.length := by omega
        clear hr1 hr2
        go_wp2
        go_ret2
        have hwf := part_wf (n := n) (k := f.length) (f := f) (fun i hi => by obtain ⟨q, hq, hq2⟩ := HRF.out i hi; rw [getD_lt 0 hi, hq]; omega) hn hn0
        refine ⟨_, _, rfl, own_of_row HR1'.out (quoN_length _ _ _) (by omega) (by omega) hwf.1 (fun i hi => ?_), own_of_row HR2'.out (remN_length _ _ _) (by omega) (by omega) hwf.2 (fun i hi => ?_), .inr (by simp [Value.ownBlock]), HB.out⟩
        · rw [quoN_length] at hi
          simp [quoN, hi]
        · rw [remN_length] at hi
          simp [remN, hi]
end Go.Proofs.YtppjogkednclcaaDoor

/- The program's FunParts, called. -/
namespace Go.Proofs.YtppjogkednclcaaDoor
open Go.RowKit Go.Deep Go.Shelf

theorem ownBB_nil {w W : World} (hb : Below w.heap.size w W) {t : Bool} (ht : t = false) {xs ys : List Int} (hx : xs = []) (hy : ys = []) : OwnBB xs ys t w (.returned (.tuple #[.slice none 0 0, .slice none 0 0, .bool false])) W := by
  subst ht hx hy
  exact ⟨_, _, rfl, OwnI.nil _ _ _ _, OwnI.nil _ _ _ _, .inl rfl, hb⟩
theorem part1_no {rows rows' rows2 : Rows2} {f : List Int} (h : partOk rows rows' rows2 f = false) : part1 rows rows' rows2 f = [] := by unfold part1; rw [h]; rfl
theorem part2_no {rows rows' rows2 : Rows2} {f : List Int} (h : partOk rows rows' rows2 f = false) : part2 rows rows' rows2 f = [] := by unfold part2; rw [h]; rfl

theorem two_alloc (w : World) (x y : Value) (t : TypeId) {W : World} (hb : Below (w.alloc (.cells #[x, y] t)).heap.size (w.alloc (.cells #[x, y] t)) W) : W.cell? ⟨w.heap.size, 0, none⟩ = some x ∧ W.cell? ⟨w.heap.size, 1, none⟩ = some y := by
  have h := World.rowIs_alloc w #[x, y] t (fun i => if i = 0 then x else y) (fun i hi => by
    have hi2 : i < 2 := hi
    rcases (show i = 0 ∨ i = 1 by omega) with rfl | rfl <;> rfl)
  exact ⟨(hb.cell (p := ⟨w.heap.size, 0, none⟩) h.lt).trans (h.cell (i := 0) (by simp)), (hb.cell (p := ⟨w.heap.size, 1, none⟩) h.lt).trans (h.cell (i := 1) (by simp))⟩

set_option maxRecDepth 100000 in
set_option maxHeartbeats 8000000 in
theorem implPart_any (v v' v2 vf : Value) (rows rows' rows2 : Rows2) (f : List Int) (w : World) (hv : RowsAt w v rows) (hv' : RowsAt w v' rows') (hv2 : RowsAt w v2 rows2) (hf : IntsAt w vf f) (hT : Tab w)
    (hn : bulk rows ≤ 1048576) (hn' : bulk rows' ≤ 1048576) (hn2 : bulk rows2 ≤ 1048576) :
    Calls Tryd.prog 23 #[.agg #[v], .agg #[v'], .agg #[v2], vf] w (OwnBB (part1 rows rows' rows2 f) (part2 rows rows' rows2 f) (partOk rows rows' rows2 f) w) := by
  have HFA := Lib.hid (fun W (h : Below w.heap.size w W) => hf.below h)
  have HD1 := Lib.hid (fun W (h : Below w.heap.size w W) => domainOf_any v rows W (hv.below h) (hT.below h) hn)
  have HD2 := Lib.hid (fun W (h : Below w.heap.size w W) => domainOf_any v' rows' W (hv'.below h) (hT.below h) hn')
  have HD3 := Lib.hid (fun W (h : Below w.heap.size w W) => domainOf_any v2 rows2 W (hv2.below h) (hT.below h) hn2)
  obtain ⟨A, C, rfl, _⟩ := hv
  obtain ⟨A', C', rfl, _⟩ := hv'
  obtain ⟨A2, C2, rfl, _⟩ := hv2
  obtain ⟨Af, Cf, rfl, _⟩ := hf
  have h0 := St.start3 w 26 26 26 (.slice A rows.length C) (.slice A' rows'.length C') (.slice A2 rows2.length C2)
  have hc0 := h0.cell 0 rfl
  have H0 := Lib.hid h0
  clear h0 hT
  by_cases hall : domB rows = true ∧ domB rows' = true ∧ domB rows2 = true
  · obtain ⟨h1, h2, h3⟩ := hall
    have hok := ok_of_valid (show validB rows = true by have h := h1; unfold domB at h; rw [Bool.and_eq_true] at h; exact h.1)
    have hok' := ok_of_valid (show validB rows' = true by have h := h2; unfold domB at h; rw [Bool.and_eq_true] at h; exact h.1)
    have hok2 := ok_of_valid (show validB rows2 = true by have h := h3; unfold domB at h; rw [Bool.and_eq_true] at h; exact h.1)
    obtain ⟨N, hNN⟩ : ∃ N, N = rows'.length * rows2.length := ⟨_, rfl⟩
    have hN : N ≤ 200 * 200 := by rw [hNN]; exact Nat.mul_le_mul hok'.len.2 hok2.len.2
    have HSZ := Lib.hid (fun W p p' (a : GridAt W p (gridF rows')) (b : GridAt W p' (gridF rows2)) => (show Calls Tryd.prog 47 #[.agg #[gridV p, gridV p']] W (SaysI ((N : Nat) : Int) W) by rw [hNN]; exact prodSize_any p p' rows'.length rows2.length (gridF rows') (gridF rows2) W a b hok'.gridN hok2.gridN))
    by_cases hl : N ≤ 200
    · have hp : prodOk rows' rows2 = true := by unfold prodOk; rw [h2, h3, decide_eq_true (by omega)]; rfl
      have hpt : partOk rows rows' rows2 f = monoI rows (prodL rows' rows2) f := by unfold partOk monoB; rw [hp, h1, prod_dom hp]; rfl
      have HM := Lib.hid (fun W b p p' (a : GridAt W b (gridF rows)) (a' : GridAt W p (gridF rows')) (a2 : GridAt W p' (gridF rows2)) (h : Below w.heap.size w W) => prodMono_any b p p' rows'.length rows2.length (gridF rows) (gridF rows') (gridF rows2) rows.length N (.slice Af f.length Cf) f W a hok.gridN a' a2 hok'.gridN hok2.gridN hNN (HFA.out W h) (monoI rows (prodL rows' rows2) f) (by rw [prodL_made hp, ← hNN]; exact mono_made hok f))
      have hlz : ¬ ((200 : Int) < (N : Int)) := by omega
      cases hm : monoI rows (prodL rows' rows2) f with
      | false =>
        rw [hm] at hpt HM
        have HE := Lib.hid hpt
        clear hpt hm hp hNN hok hok' hok2
        go_enter Tryd.func23, Tryd.ntmps23
        go_wp2_with (first | (go_at_call 30; refine (HD1.out _ H0.out.below).mono ?_; clear HD1; rintro e w1 ⟨⟨q1, rfl, hq1⟩, hb1⟩; obtain ⟨p1, rfl, hg1⟩ := hq1 h1; rw [h1]; have G1 := Lib.hid hg1; have H1 := Lib.hid (H0.out.step hb1); have hc1 := H1.out.cell 1 rfl; clear hb1 hc0 hg1 hq1) | (go_at_call 30; refine (HD2.out _ H1.out.below).mono ?_; clear HD2; rintro e w2 ⟨⟨q2, rfl, hq2⟩, hb2⟩; obtain ⟨p2, rfl, hg2⟩ := hq2 h2; rw [h2]; have G12 := Lib.hid (G1.out.below hb2 G1.out.lt); have G2 := Lib.hid hg2; have H2 := Lib.hid (H1.out.step hb2); have hc2 := H2.out.cell 2 rfl; clear hb2 hc1 hg2 hq2) | (go_at_call 30; refine (HD3.out _ H2.out.below).mono ?_; clear HD3; rintro e w3 ⟨⟨q3, rfl, hq3⟩, hb3⟩; obtain ⟨p3, rfl, hg3⟩ := hq3 h3; rw [h3]; have hst := (Below.refl w3.heap.size w3).alloc (Nat.le_refl _) (.cells #[gridV p2, gridV p3] 79); have G13 := Lib.hid ((G12.out.below hb3 G12.out.lt).below hst (G12.out.below hb3 G12.out.lt).lt); have G23 := Lib.hid ((G2.out.below hb3 G2.out.lt).below hst (G2.out.below hb3 G2.out.lt).lt); have G33 := Lib.hid (hg3.below hst hg3.lt); have H3 := Lib.hid ((H2.out.step hb3).step hst); clear hb3 hc2 hg3 hq3 hst) | (go_at_call 47; refine (HSZ.out _ _ _ G23.out G33.out).mono ?_; clear HSZ; rintro e w4 ⟨rfl, hb4⟩; have G14 := Lib.hid (G13.out.below hb4 G13.out.lt); have G24 := Lib.hid (G23.out.below hb4 G23.out.lt); have G34 := Lib.hid (G33.out.below hb4 G33.out.lt); have H4 := Lib.hid (H3.out.step hb4); have hx := two_alloc w3 (gridV p2) (gridV p3) 79 hb4; have hx0 := hx.1; have hx1 := hx.2; clear hb4 hx) | (go_at_call 48; refine (HM.out _ _ _ _ G14.out G24.out G34.out H4.out.below).mono ?_; clear HM; rintro e w5 ⟨rfl, hb5⟩; have H5 := Lib.hid (H4.out.step hb5); clear hb5))
        refine bodyPost_ret (v := .tuple #[.slice none 0 0, .slice none 0 0, .bool false]) (by simp [results, Tryd.results23, go_sem]) rfl ?_
        exact ownBB_nil H5.out.below HE.out (part1_no HE.out) (part2_no HE.out)
      | true =>
        rw [hm] at hpt HM
        have HE := Lib.hid hpt
        have hmm : Mono rows (prodL rows' rows2) f := by
          classical
          unfold monoI at hm
          exact of_decide_eq_true hm
        have hfl : f.length ≤ 200 := by
          have h4 := hmm.1
          have h5 := hok.len
          omega
        have HC := Lib.hid (fun W (h : Below w.heap.size w W) => parts_any (.slice Af f.length Cf) f rows2.length W (HFA.out W h) hfl (by have := hok2.len; omega) hok2.len.2 (fun i hi => by
          have h4 := hmm.2.1 _ (List.getElem_mem hi)
          rw [(prodL_yes hp).1, ← hNN] at h4
          exact ⟨f[i].toNat, by omega, by omega⟩))
        have HS2 := Lib.hid (fun W b (a : GridAt W b (gridF rows2)) => size_any b rows2.length (gridF rows2) W a hok2.gridN.le hok2.gridN.some hok2.gridN.none)
        clear hpt hm hp hNN hok hok' hok2 hmm hfl
        go_enter Tryd.func23, Tryd.ntmps23
        go_wp2_with (first | (go_at_call 30; refine (HD1.out _ H0.out.below).mono ?_; clear HD1; rintro e w1 ⟨⟨q1, rfl, hq1⟩, hb1⟩; obtain ⟨p1, rfl, hg1⟩ := hq1 h1; rw [h1]; have G1 := Lib.hid hg1; have H1 := Lib.hid (H0.out.step hb1); have hc1 := H1.out.cell 1 rfl; clear hb1 hc0 hg1 hq1) | (go_at_call 30; refine (HD2.out _ H1.out.below).mono ?_; clear HD2; rintro e w2 ⟨⟨q2, rfl, hq2⟩, hb2⟩; obtain ⟨p2, rfl, hg2⟩ := hq2 h2; rw [h2]; have G12 := Lib.hid (G1.out.below hb2 G1.out.lt); have G2 := Lib.hid hg2; have H2 := Lib.hid (H1.out.step hb2); have hc2 := H2.out.cell 2 rfl; clear hb2 hc1 hg2 hq2) | (go_at_call 30; refine (HD3.out _ H2.out.below).mono ?_; clear HD3; rintro e w3 ⟨⟨q3, rfl, hq3⟩, hb3⟩; obtain ⟨p3, rfl, hg3⟩ := hq3 h3; rw [h3]; have hst := (Below.refl w3.heap.size w3).alloc (Nat.le_refl _) (.cells #[gridV p2, gridV p3] 79); have G13 := Lib.hid ((G12.out.below hb3 G12.out.lt).below hst (G12.out.below hb3 G12.out.lt).lt); have G23 := Lib.hid ((G2.out.below hb3 G2.out.lt).below hst (G2.out.below hb3 G2.out.lt).lt); have G33 := Lib.hid (hg3.below hst hg3.lt); have H3 := Lib.hid ((H2.out.step hb3).step hst); clear hb3 hc2 hg3 hq3 hst) | (go_at_call 47; refine (HSZ.out _ _ _ G23.out G33.out).mono ?_; clear HSZ; rintro e w4 ⟨rfl, hb4⟩; have G14 := Lib.hid (G13.out.below hb4 G13.out.lt); have G24 := Lib.hid (G23.out.below hb4 G23.out.lt); have G34 := Lib.hid (G33.out.below hb4 G33.out.lt); have H4 := Lib.hid (H3.out.step hb4); have hx := two_alloc w3 (gridV p2) (gridV p3) 79 hb4; have hx0 := hx.1; have hx1 := hx.2; clear hb4 hx) | (go_at_call 48; refine (HM.out _ _ _ _ G14.out G24.out G34.out H4.out.below).mono ?_; clear HM; rintro e w5 ⟨rfl, hb5⟩; have G35 := Lib.hid (G34.out.below hb5 G34.out.lt); have H5 := Lib.hid (H4.out.step hb5); clear hb5 hx0 hx1) | (go_at_call 50; refine (HS2.out _ _ G35.out).mono ?_; clear HS2; rintro e w6 ⟨rfl, hb6⟩; have H6 := Lib.hid (H5.out.step hb6); clear hb6) | (go_at_call 49; refine (HC.out _ H6.out.below).mono ?_; clear HC; rintro e w7 ⟨u1, u2, rfl, ho1, ho2, hd, hb7⟩; have HO1 := Lib.hid ho1; have HO2 := Lib.hid ho2; have HDD := Lib.hid hd; have B7 := Lib.hid hb7; clear ho1 ho2 hd hb7))
        refine bodyPost_ret (v := .tuple #[u1, u2, .bool true]) (by simp [results, Tryd.results23, go_sem]) rfl ?_
        refine ⟨u1, u2, by rw [HE.out], ?_, ?_, HDD.out, H6.out.below.trans (B7.out.mono H6.out.below.size)⟩
        · unfold part1
          rw [if_pos HE.out]
          exact HO1.out.wider H6.out.below.size (Nat.le_refl _)
        · unfold part2
          rw [if_pos HE.out]
          exact HO2.out.wider H6.out.below.size (Nat.le_refl _)
    · have HE := Lib.hid (show partOk rows rows' rows2 f = false by unfold partOk prodOk; rw [decide_eq_false (show ¬ rows'.length * rows2.length ≤ 200 by omega), Bool.and_false]; rfl)
      have hlz : (200 : Int) < (N : Int) := by omega
      clear hNN hok hok' hok2
      go_enter Tryd.func23, Tryd.ntmps23
      go_wp2_with (first | (go_at_call 30; refine (HD1.out _ H0.out.below).mono ?_; clear HD1; rintro e w1 ⟨⟨q1, rfl, hq1⟩, hb1⟩; obtain ⟨p1, rfl, hg1⟩ := hq1 h1; rw [h1]; have G1 := Lib.hid hg1; have H1 := Lib.hid (H0.out.step hb1); have hc1 := H1.out.cell 1 rfl; clear hb1 hc0 hg1 hq1) | (go_at_call 30; refine (HD2.out _ H1.out.below).mono ?_; clear HD2; rintro e w2 ⟨⟨q2, rfl, hq2⟩, hb2⟩; obtain ⟨p2, rfl, hg2⟩ := hq2 h2; rw [h2]; have G12 := Lib.hid (G1.out.below hb2 G1.out.lt); have G2 := Lib.hid hg2; have H2 := Lib.hid (H1.out.step hb2); have hc2 := H2.out.cell 2 rfl; clear hb2 hc1 hg2 hq2) | (go_at_call 30; refine (HD3.out _ H2.out.below).mono ?_; clear HD3; rintro e w3 ⟨⟨q3, rfl, hq3⟩, hb3⟩; obtain ⟨p3, rfl, hg3⟩ := hq3 h3; rw [h3]; have hst := (Below.refl w3.heap.size w3).alloc (Nat.le_refl _) (.cells #[gridV p2, gridV p3] 79); have G13 := Lib.hid ((G12.out.below hb3 G12.out.lt).below hst (G12.out.below hb3 G12.out.lt).lt); have G23 := Lib.hid ((G2.out.below hb3 G2.out.lt).below hst (G2.out.below hb3 G2.out.lt).lt); have G33 := Lib.hid (hg3.below hst hg3.lt); have H3 := Lib.hid ((H2.out.step hb3).step hst); clear hb3 hc2 hg3 hq3 hst) | (go_at_call 47; refine (HSZ.out _ _ _ G23.out G33.out).mono ?_; clear HSZ; rintro e w4 ⟨rfl, hb4⟩; have G14 := Lib.hid (G13.out.below hb4 G13.out.lt); have G24 := Lib.hid (G23.out.below hb4 G23.out.lt); have G34 := Lib.hid (G33.out.below hb4 G33.out.lt); have H4 := Lib.hid (H3.out.step hb4); have hx := two_alloc w3 (gridV p2) (gridV p3) 79 hb4; have hx0 := hx.1; have hx1 := hx.2; clear hb4 hx))
      refine bodyPost_ret (v := .tuple #[.slice none 0 0, .slice none 0 0, .bool false]) (by simp [results, Tryd.results23, go_sem]) rfl ?_
      exact ownBB_nil H4.out.below HE.out (part1_no HE.out) (part2_no HE.out)
  · have HE := Lib.hid (show partOk rows rows' rows2 f = false by
      unfold partOk prodOk monoB
      cases e1 : domB rows <;> cases e2 : domB rows' <;> cases e3 : domB rows2 <;> simp
      exact absurd ⟨e1, e2, e3⟩ hall)
    cases e1 : domB rows <;> cases e2 : domB rows' <;> cases e3 : domB rows2
    case true.true.true => exact absurd ⟨e1, e2, e3⟩ hall
    all_goals
      clear hall
      go_enter Tryd.func23, Tryd.ntmps23
      go_wp2_with (first | (go_at_call 30; refine (HD1.out _ H0.out.below).mono ?_; clear HD1; rintro e w1 ⟨⟨q1, rfl, _⟩, hb1⟩; rw [e1]; have H1 := Lib.hid (H0.out.step hb1); have hc1 := H1.out.cell 1 rfl; clear hb1 hc0) | (go_at_call 30; refine (HD2.out _ H1.out.below).mono ?_; clear HD2; rintro e w2 ⟨⟨q2, rfl, _⟩, hb2⟩; rw [e2]; have H2 := Lib.hid (H1.out.step hb2); have hc2 := H2.out.cell 2 rfl; clear hb2 hc1) | (go_at_call 30; refine (HD3.out _ H2.out.below).mono ?_; clear HD3; rintro e w3 ⟨⟨q3, rfl, _⟩, hb3⟩; rw [e3]; have H3 := Lib.hid (H2.out.step hb3); clear hb3 hc2))
      refine bodyPost_ret (v := .tuple #[.slice none 0 0, .slice none 0 0, .bool false]) (by simp [results, Tryd.results23, go_sem]) rfl ?_
      exact ownBB_nil H3.out.below HE.out (part1_no HE.out) (part2_no HE.out)
end Go.Proofs.YtppjogkednclcaaDoor

/- Two lists of one answer as one thing in memory. Plain facts on worlds: no function is walked here. -/
namespace Go.Proofs.YtppjogkednclcaaDoor
open Go.RowKit Go.Deep

def It2 (v u : Value) (xs ys : List Int) (lo hi : Nat) : It :=
  ⟨lo, hi, fun W => OwnI 3 W v xs lo hi ∧ OwnI 3 W u ys lo hi ∧ (v.ownBlock = none ∨ v.ownBlock ≠ u.ownBlock),
    fun _ _ h k => ⟨k.1.kept fun b e => h b (k.1.block b e).1 (k.1.block b e).2.1, k.2.1.kept fun b e => h b (k.2.1.block b e).1 (k.2.1.block b e).2.1, k.2.2⟩⟩
section
variable {w W W' : World} {is : List It}
theorem St.push2 {v u : Value} {xs ys : List Int} (h : St w is W) (hb : Below W.heap.size W W') (ho : OwnI 3 W' v xs W.heap.size W'.heap.size) (ho' : OwnI 3 W' u ys W.heap.size W'.heap.size) (hd : v.ownBlock = none ∨ v.ownBlock ≠ u.ownBlock) : St w (is ++ [It2 v u xs ys W.heap.size W'.heap.size]) W' :=
  h.push (it := It2 v u xs ys W.heap.size W'.heap.size) hb (Nat.le_refl _) hb.size (Nat.le_refl _) ⟨ho, ho', hd⟩
theorem St.own2 {v u : Value} {xs ys : List Int} {lo hi : Nat} (h : St w is W) (k : Nat) (e : is[k]? = some (It2 v u xs ys lo hi)) : OwnI 3 W v xs lo hi ∧ OwnI 3 W u ys lo hi ∧ (v.ownBlock = none ∨ v.ownBlock ≠ u.ownBlock) := (h.holds.get k e).2.2.2
theorem St.ints2a {v u : Value} {xs ys : List Int} {lo hi : Nat} (h : St w is W) (k : Nat) (e : is[k]? = some (It2 v u xs ys lo hi)) : IntsAt W v xs := (h.own2 k e).1.at
theorem St.ints2b {v u : Value} {xs ys : List Int} {lo hi : Nat} (h : St w is W) (k : Nat) (e : is[k]? = some (It2 v u xs ys lo hi)) : IntsAt W u ys := (h.own2 k e).2.1.at
theorem St.turn2a {v u : Value} {xs ys zs : List Int} {lo hi : Nat} (h : St w is W) (k : Nat) (e : is[k]? = some (It2 v u xs ys lo hi)) (hg : W.grownBy W' v.ownBlock) (ho : OwnI 3 W' v zs lo hi) : St w (is.set k (It2 v u zs ys lo hi)) W' :=
  have hk := h.holds.get k e
  have h2 := h.own2 k e
  h.turn (it' := It2 v u zs ys lo hi) k e rfl rfl (Turned.of_grownBy hg (Nat.le_trans hk.2.1 hk.2.2.1) fun b e' => ⟨(h2.1.block b e').1, (h2.1.block b e').2.1⟩)
    ⟨ho, h2.2.1.kept fun b e' => hg.block b (Nat.lt_of_lt_of_le (h2.2.1.block b e').2.1 hk.2.2.1) (fun e2 => by
      rcases h2.2.2 with h3 | h3
      · rw [h3] at e2; cases e2
      · exact h3 (e2.symm.trans e'.symm)), h2.2.2⟩
theorem St.turn2b {v u : Value} {xs ys zs : List Int} {lo hi : Nat} (h : St w is W) (k : Nat) (e : is[k]? = some (It2 v u xs ys lo hi)) (hg : W.grownBy W' u.ownBlock) (ho : OwnI 3 W' u zs lo hi) : St w (is.set k (It2 v u xs zs lo hi)) W' :=
  have hk := h.holds.get k e
  have h2 := h.own2 k e
  h.turn (it' := It2 v u xs zs lo hi) k e rfl rfl (Turned.of_grownBy hg (Nat.le_trans hk.2.1 hk.2.2.1) fun b e' => ⟨(h2.2.1.block b e').1, (h2.2.1.block b e').2.1⟩)
    ⟨h2.1.kept fun b e' => hg.block b (Nat.lt_of_lt_of_le (h2.1.block b e').2.1 hk.2.2.1) (fun e2 => by
      rcases h2.2.2 with h3 | h3
      · rw [h3] at e'; cases e'
      · exact h3 (e'.trans e2)), ho, h2.2.2⟩
end
end Go.Proofs.YtppjogkednclcaaDoor

/- The law of FunParts: model and program answer alike, the arguments are left alone, and the answer owns its memory. -/
namespace Go.Proofs.YtppjogkednclcaaDoor
open Go.RowKit Go.Deep

theorem part1_short (rows rows' rows2 : Rows2) (f : List Int) (hf : f.length ≤ 1048576) : (part1 rows rows' rows2 f).length ≤ 1048576 := by
  unfold part1
  split
  · rw [quoN_length]; exact hf
  · exact Nat.zero_le _
theorem part2_short (rows rows' rows2 : Rows2) (f : List Int) (hf : f.length ≤ 1048576) : (part2 rows rows' rows2 f).length ≤ 1048576 := by
  unfold part2
  split
  · rw [remN_length]; exact hf
  · exact Nat.zero_le _

set_option maxRecDepth 100000 in
set_option maxHeartbeats 16000000 in
theorem law_parts (v0 : Value) (v1 : Value) (v2 : Value) (v3 : Value) (r0 : Rows2) (r1 : Rows2) (r2 : Rows2) (x3 : List Int) (w : World) (h0 : RowsAt w v0 r0) (h1 : RowsAt w v1 r1) (h2 : RowsAt w v2 r2) (h3 : IntsAt w v3 x3) (hT : Tab w) :
    Calls Tryd.prog 6 #[.agg #[v0], .agg #[v1], .agg #[v2], v3] w (SaysN true w) := by
  have e0 := St.start3 w 24 24 24 v0 v1 v2
  have H0 := Lib.hid h0
  have H1 := Lib.hid h1
  have H2 := Lib.hid h2
  have H3 := Lib.hid h3
  have HTT := Lib.hid hT
  obtain ⟨A0, C0, rfl, _⟩ := h0
  obtain ⟨A1, C1, rfl, _⟩ := h1
  obtain ⟨A2, C2, rfl, _⟩ := h2
  obtain ⟨A3, C3, rfl, _⟩ := h3
  have E0 := Lib.hid e0
  clear e0 hT
  have hdr : ∀ W : World, W.drew.heap = W.heap := fun _ => rfl
  by_cases hf3 : (1048576 : Int) < (x3.length : Int)
  · go_enter Tryd.func6, Tryd.ntmps6
    go_wp2
    go_ret
    exact ⟨rfl, E0.out.below⟩
  have HL3 := Lib.hid (show x3.length ≤ 1048576 by omega)
  have HM3 := Lib.hid (maxLen_ge HL3.out)
  go_enter Tryd.func6, Tryd.ntmps6
  have hc1 := E0.out.cell 0 rfl
  have hsz := szOrder_any _ r0 1048576 _ (H0.out.below E0.out.below) (by omega) (by omega)
  go_wp2_with fail
  refine hsz.mono ?_
  clear hsz
  rintro e w1 ⟨⟨q0, hr, rfl⟩, hb⟩
  have E1 := Lib.hid (E0.out.step hb)
  clear hb hc1 E0
  by_cases hneg0 : q0 < 0
  · go_wp2
    go_ret
    exact ⟨rfl, E1.out.below⟩
  have hq0 : 0 ≤ q0 ∧ q0 ≤ 1048576 ∧ bulk r0 ≤ 1048576 := by rcases hr with h | h <;> omega
  have HB0 := Lib.hid hq0.2.2
  have HM0 := Lib.hid (maxLen_ge HB0.out)
  have HL0 := Lib.hid (show lens r0 r0.length ≤ 1048576 by have := lens_all r0; have := HB0.out; omega)
  clear hr
  have hc2 := E1.out.cell 1 rfl
  have hsz := szOrder_any _ r1 q0 _ (H1.out.below E1.out.below) hq0.1 hq0.2.1
  go_wp2_with fail
  refine hsz.mono ?_
  clear hsz
  rintro e w2 ⟨⟨q1, hr, rfl⟩, hb⟩
  have E2 := Lib.hid (E1.out.step hb)
  clear hb hc2 E1
  by_cases hneg1 : q1 < 0
  · go_wp2
    go_ret
    exact ⟨rfl, E2.out.below⟩
  have hq1 : 0 ≤ q1 ∧ q1 ≤ 1048576 ∧ bulk r1 ≤ 1048576 := by rcases hr with h | h <;> omega
  have HB1 := Lib.hid hq1.2.2
  have HM1 := Lib.hid (maxLen_ge HB1.out)
  have HL1 := Lib.hid (show lens r1 r1.length ≤ 1048576 by have := lens_all r1; have := HB1.out; omega)
  clear hr
  have hc3 := E2.out.cell 2 rfl
  have hsz := szOrder_any _ r2 q1 _ (H2.out.below E2.out.below) hq1.1 hq1.2.1
  go_wp2_with fail
  refine hsz.mono ?_
  clear hsz
  rintro e w3 ⟨⟨q2, hr, rfl⟩, hb⟩
  have E3 := Lib.hid (E2.out.step hb)
  clear hb hc3 E2
  by_cases hneg2 : q2 < 0
  · go_wp2
    go_ret
    exact ⟨rfl, E3.out.below⟩
  have hq2 : 0 ≤ q2 ∧ q2 ≤ 1048576 ∧ bulk r2 ≤ 1048576 := by rcases hr with h | h <;> omega
  have HB2 := Lib.hid hq2.2.2
  have HM2 := Lib.hid (maxLen_ge HB2.out)
  have HL2 := Lib.hid (show lens r2 r2.length ≤ 1048576 by have := lens_all r2; have := HB2.out; omega)
  clear hr
  clear hq0 hq1 hq2
  have hspec : ∀ W u0 u1 u2 u3, RowsAt W u0 r0 → RowsAt W u1 r1 → RowsAt W u2 r2 → IntsAt W u3 x3 → Calls Tryd.prog 22 #[.agg #[u0], .agg #[u1], .agg #[u2], u3] W (OwnBB (part1 r0 r1 r2 x3) (part2 r0 r1 r2 x3) (partOk r0 r1 r2 x3) W) := fun W u0 u1 u2 u3 k0 k1 k2 k3 => specPart_any u0 u1 u2 u3 r0 r1 r2 x3 W k0 k1 k2 k3 HB0.out HB1.out HB2.out
  have himpl : ∀ W u0 u1 u2 u3, RowsAt W u0 r0 → RowsAt W u1 r1 → RowsAt W u2 r2 → IntsAt W u3 x3 → Tab W → Calls Tryd.prog 23 #[.agg #[u0], .agg #[u1], .agg #[u2], u3] W (OwnBB (part1 r0 r1 r2 x3) (part2 r0 r1 r2 x3) (partOk r0 r1 r2 x3) W) := fun W u0 u1 u2 u3 k0 k1 k2 k3 kT => implPart_any u0 u1 u2 u3 r0 r1 r2 x3 W k0 k1 k2 k3 kT HB0.out HB1.out HB2.out
  have hxl := part1_short r0 r1 r2 x3 HL3.out
  generalize part1 r0 r1 r2 x3 = xs at hspec himpl hxl
  generalize partOk r0 r1 r2 x3 = t at hspec himpl
  have HX := Lib.hid hxl
  have hyl := part2_short r0 r1 r2 x3 HL3.out
  generalize part2 r0 r1 r2 x3 = ys at hspec himpl hyl
  have HY := Lib.hid hyl
  have HS := Lib.hid hspec
  have HI := Lib.hid himpl
  have hne : (t != t) = false := bne_self_eq_false t
  clear hspec himpl hxl hyl
  have hc4 := E3.out.cell 0 rfl
  have hc5 := E3.out.cell 1 rfl
  have hc6 := E3.out.cell 2 rfl
  go_wp2_with fail
  go_region_held3 (fun W' : World => W'.cell? ⟨w.heap.size, 0, none⟩ = some (.slice A0 r0.length C0) ∧ W'.cell? ⟨w.heap.size + 1, 0, none⟩ = some (.slice A1 r1.length C1) ∧ W'.cell? ⟨w.heap.size + 2, 0, none⟩ = some (.slice A2 r2.length C2)) (first | exact ⟨E8.out.cell 0 rfl, E8.out.cell 1 rfl, E8.out.cell 2 rfl⟩ | exact ⟨E7.out.cell 0 rfl, E7.out.cell 1 rfl, E7.out.cell 2 rfl⟩ | exact ⟨E6.out.cell 0 rfl, E6.out.cell 1 rfl, E6.out.cell 2 rfl⟩ | exact ⟨E5.out.cell 0 rfl, E5.out.cell 1 rfl, E5.out.cell 2 rfl⟩ | exact ⟨E4.out.cell 0 rfl, E4.out.cell 1 rfl, E4.out.cell 2 rfl⟩ | exact ⟨E3.out.drew.cell 0 rfl, E3.out.drew.cell 1 rfl, E3.out.drew.cell 2 rfl⟩) (first | (go_at_call_of 9 (Value.slice A0 (List.length r0) C0); refine (toOrder_any _ r0 _ (H0.out.below E3.out.drew.below) HB0.out).mono ?_; rintro e w4 ⟨gw4, Gw4, rfl, hg, ho, hb⟩; have hE := E3.out.drew.copyR HM0.out hg ho hb; simp only [List.cons_append, List.nil_append] at hE; have E4 := Lib.hid hE; clear hE; clear hg ho hb) | (go_at_call_of 9 (Value.slice A1 (List.length r1) C1); refine (toOrder_any _ r1 _ (H1.out.below E4.out.below) HB1.out).mono ?_; rintro e w5 ⟨gw5, Gw5, rfl, hg, ho, hb⟩; have hE := E4.out.copyR HM1.out hg ho hb; simp only [List.cons_append, List.nil_append] at hE; have E5 := Lib.hid hE; clear hE; clear hg ho hb) | (go_at_call_of 9 (Value.slice A2 (List.length r2) C2); refine (toOrder_any _ r2 _ (H2.out.below E5.out.below) HB2.out).mono ?_; rintro e w6 ⟨gw6, Gw6, rfl, hg, ho, hb⟩; have hE := E5.out.copyR HM2.out hg ho hb; simp only [List.cons_append, List.nil_append] at hE; have E6 := Lib.hid hE; clear hE; clear hg ho hb) | (go_at_call_of 15 (Value.slice A3 (List.length x3) C3); refine (toIntS_any _ x3 _ (H3.out.below E6.out.below) HL3.out).mono ?_; rintro e w7 ⟨rfl, ho, hz, hb⟩; have hE := E6.out.copyI HM3.out ho hz hb; simp only [List.cons_append, List.nil_append] at hE; have E7 := Lib.hid hE; clear hE; clear ho hz hb) | (go_at_call 22; refine (HS.out _ _ _ _ _ (E7.out.rows 3 rfl) (E7.out.rows 4 rfl) (E7.out.rows 5 rfl) (E7.out.ints 6 rfl)).mono ?_; rintro e w8 ⟨u, y, rfl, hu, hy, hd, hb⟩; obtain ⟨aU, CU, rfl⟩ := hu.form; obtain ⟨bU, DU, rfl⟩ := hy.form; have hE := (E7.out.take 3).push2 hb hu hy hd; simp only [List.cons_append, List.nil_append, List.take_succ_cons, List.take_zero] at hE; have E8 := Lib.hid hE; clear hE; clear hb hu hy hd))
  clear hc4 hc5 hc6
  have hc7 := E8.out.cell 0 rfl
  go_wp2_with fail
  refine (toOrder_any _ r0 _ (H0.out.below E8.out.below) HB0.out).mono ?_
  rintro e w9 ⟨gw9, Gw9, rfl, hg, ho, hb⟩
  have hE := (E8.out.copyR HM0.out hg ho hb).box 26 (whole gw9 r0.length)
  simp only [List.cons_append, List.nil_append] at hE
  have E9 := Lib.hid hE
  clear hE hg ho hb hc7 E8
  have hc8 := E9.out.cell 1 rfl
  go_wp2_with fail
  refine (toOrder_any _ r1 _ (H1.out.below E9.out.below) HB1.out).mono ?_
  rintro e w10 ⟨gw10, Gw10, rfl, hg, ho, hb⟩
  have hE := (E9.out.copyR HM1.out hg ho hb).box 26 (whole gw10 r1.length)
  simp only [List.cons_append, List.nil_append] at hE
  have E10 := Lib.hid hE
  clear hE hg ho hb hc8 E9
  have hc9 := E10.out.cell 2 rfl
  go_wp2_with fail
  refine (toOrder_any _ r2 _ (H2.out.below E10.out.below) HB2.out).mono ?_
  rintro e w11 ⟨gw11, Gw11, rfl, hg, ho, hb⟩
  have hE := (E10.out.copyR HM2.out hg ho hb).box 26 (whole gw11 r2.length)
  simp only [List.cons_append, List.nil_append] at hE
  have E11 := Lib.hid hE
  clear hE hg ho hb hc9 E10
  go_wp2_with fail
  refine (toIntS_any _ x3 _ (H3.out.below E11.out.below) HL3.out).mono ?_
  rintro e w12 ⟨rfl, ho, hz, hb⟩
  have hE := E11.out.copyI HM3.out ho hz hb
  simp only [World.size_alloc] at hE
  simp only [List.cons_append, List.nil_append] at hE
  have E12 := Lib.hid hE
  clear hE ho hz hb E11
  have hc10 := E12.out.cell 5 rfl
  have hc11 := E12.out.cell 7 rfl
  have hc12 := E12.out.cell 9 rfl
  go_wp2_with fail
  refine (HI.out _ _ _ _ _ (E12.out.rows 4 rfl) (E12.out.rows 6 rfl) (E12.out.rows 8 rfl) (E12.out.ints 10 rfl) (HTT.out.below E12.out.below)).mono ?_
  rintro e w13 ⟨u, y, rfl, hu, hy, hd, hb⟩
  obtain ⟨aG, CG, rfl⟩ := hu.form
  obtain ⟨bG, DG, rfl⟩ := hy.form
  have hE := E12.out.push2 hb hu hy hd; simp only [List.cons_append, List.nil_append] at hE; have E13 := Lib.hid hE; clear hE
  clear hb hu hy hd E12 hc10 hc11 hc12
  have heq := eqIntS_any _ _ xs xs _ (E13.out.ints2a 11 rfl) (E13.out.ints2a 3 rfl)
  rw [decide_eq_true (rfl : xs = xs)] at heq
  go_wp2_with fail
  refine heq.mono ?_
  clear heq
  rintro e w14 ⟨rfl, nw14, rfl⟩
  have hE := E13.out.drewN nw14
  generalize World.drewN _ nw14 = Ww14 at hE ⊢
  have E14 := Lib.hid hE
  clear hE E13
  have heq := eqIntS_any _ _ ys ys _ (E14.out.ints2b 11 rfl) (E14.out.ints2b 3 rfl)
  rw [decide_eq_true (rfl : ys = ys)] at heq
  go_wp2_with fail
  refine heq.mono ?_
  clear heq
  rintro e w15 ⟨rfl, nw15, rfl⟩
  have hE := E14.out.drewN nw15
  generalize World.drewN _ nw15 = Ww15 at hE ⊢
  have E15 := Lib.hid hE
  clear hE E14
  have hc13 := E15.out.cell 5 rfl
  have hc14 := E15.out.cell 0 rfl
  go_wp2_with fail
  go_region_held3 (fun W' : World => W'.cell? ⟨w9.heap.size, 0, none⟩ = some (whole gw9 r0.length) ∧ W'.cell? ⟨w.heap.size, 0, none⟩ = some (.slice A0 r0.length C0)) (first | exact ⟨E17.out.cell 5 rfl, E17.out.cell 0 rfl⟩ | exact ⟨E16.out.cell 5 rfl, E16.out.cell 0 rfl⟩ | exact ⟨E15.out.drew.cell 5 rfl, E15.out.drew.cell 0 rfl⟩) (first | (go_at_call 9; refine (toOrder_any _ r0 _ (H0.out.below E15.out.drew.below) HB0.out).mono ?_; rintro e w16 ⟨gw16, Gw16, rfl, hg, ho, hb⟩; have hE := E15.out.drew.copyR HM0.out hg ho hb; simp only [List.cons_append, List.nil_append] at hE; have E16 := Lib.hid hE; clear hE; have heq := eqOrder_any _ _ r0 r0 w16 (E16.out.rows 4 rfl) (E16.out.rows 12 rfl); rw [decide_eq_true (rfl : r0 = r0)] at heq; have HEQ := Lib.hid heq; clear heq hg ho hb) | (go_at_call 11; refine HEQ.out.mono ?_; clear HEQ; rintro e w17 ⟨rfl, hb⟩; have hE := (E16.out.take 12).step hb; simp only [List.take_succ_cons, List.take_zero] at hE; have E17 := Lib.hid hE; clear hE; clear hb))
  clear hc13 hc14
  have hc15 := E17.out.cell 7 rfl
  have hc16 := E17.out.cell 1 rfl
  go_wp2_with fail
  go_region_held3 (fun W' : World => W'.cell? ⟨w10.heap.size, 0, none⟩ = some (whole gw10 r1.length) ∧ W'.cell? ⟨w.heap.size + 1, 0, none⟩ = some (.slice A1 r1.length C1)) (first | exact ⟨E19.out.cell 7 rfl, E19.out.cell 1 rfl⟩ | exact ⟨E18.out.cell 7 rfl, E18.out.cell 1 rfl⟩ | exact ⟨E17.out.drew.cell 7 rfl, E17.out.drew.cell 1 rfl⟩) (first | (go_at_call 9; refine (toOrder_any _ r1 _ (H1.out.below E17.out.drew.below) HB1.out).mono ?_; rintro e w18 ⟨gw18, Gw18, rfl, hg, ho, hb⟩; have hE := E17.out.drew.copyR HM1.out hg ho hb; simp only [List.cons_append, List.nil_append] at hE; have E18 := Lib.hid hE; clear hE; have heq := eqOrder_any _ _ r1 r1 w18 (E18.out.rows 6 rfl) (E18.out.rows 12 rfl); rw [decide_eq_true (rfl : r1 = r1)] at heq; have HEQ := Lib.hid heq; clear heq hg ho hb) | (go_at_call 11; refine HEQ.out.mono ?_; clear HEQ; rintro e w19 ⟨rfl, hb⟩; have hE := (E18.out.take 12).step hb; simp only [List.take_succ_cons, List.take_zero] at hE; have E19 := Lib.hid hE; clear hE; clear hb))
  clear hc15 hc16
  have hc17 := E19.out.cell 9 rfl
  have hc18 := E19.out.cell 2 rfl
  go_wp2_with fail
  go_region_held3 (fun W' : World => W'.cell? ⟨w11.heap.size, 0, none⟩ = some (whole gw11 r2.length) ∧ W'.cell? ⟨w.heap.size + 2, 0, none⟩ = some (.slice A2 r2.length C2)) (first | exact ⟨E21.out.cell 9 rfl, E21.out.cell 2 rfl⟩ | exact ⟨E20.out.cell 9 rfl, E20.out.cell 2 rfl⟩ | exact ⟨E19.out.drew.cell 9 rfl, E19.out.drew.cell 2 rfl⟩) (first | (go_at_call 9; refine (toOrder_any _ r2 _ (H2.out.below E19.out.drew.below) HB2.out).mono ?_; rintro e w20 ⟨gw20, Gw20, rfl, hg, ho, hb⟩; have hE := E19.out.drew.copyR HM2.out hg ho hb; simp only [List.cons_append, List.nil_append] at hE; have E20 := Lib.hid hE; clear hE; have heq := eqOrder_any _ _ r2 r2 w20 (E20.out.rows 8 rfl) (E20.out.rows 12 rfl); rw [decide_eq_true (rfl : r2 = r2)] at heq; have HEQ := Lib.hid heq; clear heq hg ho hb) | (go_at_call 11; refine HEQ.out.mono ?_; clear HEQ; rintro e w21 ⟨rfl, hb⟩; have hE := (E20.out.take 12).step hb; simp only [List.take_succ_cons, List.take_zero] at hE; have E21 := Lib.hid hE; clear hE; clear hb))
  clear hc17 hc18
  go_wp2_with fail
  refine (toIntS_any _ x3 _ (H3.out.below E21.out.below) HL3.out).mono ?_
  rintro e w22 ⟨rfl, ho, hz, hb⟩
  have hE := E21.out.copyI HM3.out ho hz hb; simp only [List.cons_append, List.nil_append] at hE; have E22 := Lib.hid hE; clear hE
  have heq := eqIntS_any _ _ x3 x3 w22 (E22.out.ints 10 rfl) (E22.out.ints 12 rfl)
  rw [decide_eq_true (rfl : x3 = x3)] at heq
  clear ho hz hb E21
  go_wp2_with fail
  refine heq.mono ?_
  clear heq
  rintro e w23 ⟨rfl, nw23, rfl⟩
  have hE := (E22.out.take 12).drewN nw23
  simp only [List.take_succ_cons, List.take_zero] at hE
  generalize World.drewN _ nw23 = Ww23 at hE ⊢
  have E23 := Lib.hid hE
  clear hE E22
  have hc19 := E23.out.cell 5 rfl
  have hmk := markOrder_any _ r0 (1) _ _ _ (E23.out.ownR 4 rfl) (E23.out.boundsR 4 rfl).1 (E23.out.boundsR 4 rfl).2 (by omega) (by have := HL0.out; have := HL1.out; have := HL2.out; have := HL3.out; omega)
  go_wp2_with fail
  refine hmk.mono ?_
  clear hmk
  rintro e w24 ⟨rfl, ho, ht⟩
  have hE := E23.out.turnR 4 rfl ht ho; simp only [List.set_cons_succ, List.set_cons_zero] at hE; have E24 := Lib.hid hE; clear hE
  clear ho ht hc19 E23
  have hc20 := E24.out.cell 7 rfl
  have hmk := markOrder_any _ r1 (1 + ((lens r0 r0.length : Nat) : Int)) _ _ _ (E24.out.ownR 6 rfl) (E24.out.boundsR 6 rfl).1 (E24.out.boundsR 6 rfl).2 (by omega) (by have := HL0.out; have := HL1.out; have := HL2.out; have := HL3.out; omega)
  go_wp2_with fail
  refine hmk.mono ?_
  clear hmk
  rintro e w25 ⟨rfl, ho, ht⟩
  have hE := E24.out.turnR 6 rfl ht ho; simp only [List.set_cons_succ, List.set_cons_zero] at hE; have E25 := Lib.hid hE; clear hE
  clear ho ht hc20 E24
  have hc21 := E25.out.cell 9 rfl
  have hmk := markOrder_any _ r2 (1 + ((lens r0 r0.length : Nat) : Int) + ((lens r1 r1.length : Nat) : Int)) _ _ _ (E25.out.ownR 8 rfl) (E25.out.boundsR 8 rfl).1 (E25.out.boundsR 8 rfl).2 (by omega) (by have := HL0.out; have := HL1.out; have := HL2.out; have := HL3.out; omega)
  go_wp2_with fail
  refine hmk.mono ?_
  clear hmk
  rintro e w26 ⟨rfl, ho, ht⟩
  have hE := E25.out.turnR 8 rfl ht ho; simp only [List.set_cons_succ, List.set_cons_zero] at hE; have E26 := Lib.hid hE; clear hE
  clear ho ht hc21 E25
  have hmk := markIntS_any _ x3 (1 + ((lens r0 r0.length : Nat) : Int) + ((lens r1 r1.length : Nat) : Int) + ((lens r2 r2.length : Nat) : Int)) _ _ _ (E26.out.ownI 10 rfl) (by omega) (by have := HL0.out; have := HL1.out; have := HL2.out; have := HL3.out; omega)
  go_wp2_with fail
  refine hmk.mono ?_
  clear hmk
  rintro e w27 ⟨rfl, ho, hg⟩
  have hE := E26.out.turnI 10 rfl hg ho; simp only [List.set_cons_succ, List.set_cons_zero] at hE; have E27 := Lib.hid hE; clear hE
  clear ho hg E26
  have hpos : ¬ (1 + ((lens r0 r0.length : Nat) : Int) + ((lens r1 r1.length : Nat) : Int) + ((lens r2 r2.length : Nat) : Int) + (x3.length : Int) < 0) := by omega
  have heq := eqIntS_any _ _ xs xs _ (E27.out.ints2a 11 rfl) (E27.out.ints2a 3 rfl)
  rw [decide_eq_true (rfl : xs = xs)] at heq
  go_wp2_with fail
  refine heq.mono ?_
  clear heq
  rintro e w28 ⟨rfl, nw28, rfl⟩
  have hE := E27.out.drewN nw28
  generalize World.drewN _ nw28 = Ww28 at hE ⊢
  have E28 := Lib.hid hE
  clear hE E27
  have heq := eqIntS_any _ _ ys ys _ (E28.out.ints2b 11 rfl) (E28.out.ints2b 3 rfl)
  rw [decide_eq_true (rfl : ys = ys)] at heq
  go_wp2_with fail
  refine heq.mono ?_
  clear heq
  rintro e w29 ⟨rfl, nw29, rfl⟩
  have hE := E28.out.drewN nw29
  generalize World.drewN _ nw29 = Ww29 at hE ⊢
  have E29 := Lib.hid hE
  clear hE E28
  have hmk := markIntS_any _ xs (1) _ _ _ (E29.out.own2 11 rfl).1 (by omega) (by have := HX.out; have := HY.out; omega)
  go_wp2_with fail
  refine hmk.mono ?_
  clear hmk
  rintro e w30 ⟨rfl, ho, hg⟩
  have hE := E29.out.turn2a 11 rfl hg ho; simp only [List.set_cons_succ, List.set_cons_zero] at hE; have E30 := Lib.hid hE; clear hE
  clear ho hg E29
  have hmk := markIntS_any _ ys (1 + (xs.length : Int)) _ _ _ (E30.out.own2 11 rfl).2.1 (by omega) (by have := HX.out; have := HY.out; omega)
  go_wp2_with fail
  refine hmk.mono ?_
  clear hmk
  rintro e w31 ⟨rfl, ho, hg⟩
  have hE := E30.out.turn2b 11 rfl hg ho; simp only [List.set_cons_succ, List.set_cons_zero] at hE; have E31 := Lib.hid hE; clear hE
  clear ho hg E30
  have hposa : ¬ (1 + (xs.length : Int) < 0) := by omega
  have hpos2 : ¬ (1 + (xs.length : Int) + (ys.length : Int) < 0) := by omega
  have hq : ((1 + (xs.length : Int) + (ys.length : Int)) != (1 + (xs.length : Int) + (ys.length : Int))) = false := bne_self_eq_false _
  have hhd := heldIntS_any _ (1) xs.length _ (E31.out.ints2a 11 rfl) (by omega) (by have := HX.out; have := HY.out; omega)
  go_wp2_with fail
  refine hhd.mono ?_
  clear hhd
  rintro e w32 ⟨rfl, nw32, rfl⟩
  have hE := E31.out.drewN nw32
  generalize World.drewN _ nw32 = Ww32 at hE ⊢
  have E32 := Lib.hid hE
  clear hE E31
  have hhd := heldIntS_any _ (1 + (xs.length : Int)) ys.length _ (E32.out.ints2b 11 rfl) (by omega) (by have := HX.out; have := HY.out; omega)
  go_wp2_with fail
  refine hhd.mono ?_
  clear hhd
  rintro e w33 ⟨rfl, nw33, rfl⟩
  have hE := E32.out.drewN nw33
  generalize World.drewN _ nw33 = Ww33 at hE ⊢
  have E33 := Lib.hid hE
  clear hE E32
  have HQ := Lib.hid hq
  have HPP := Lib.hid hpos2
  have HNE := Lib.hid hne
  have HPA := Lib.hid hposa
  clear hq hpos hpos2 hne hposa
  have hc22 := E33.out.cell 0 rfl
  have hc23 := E33.out.cell 1 rfl
  have hc24 := E33.out.cell 2 rfl
  go_wp2_with fail
  go_region_held3 (fun W' : World => W'.cell? ⟨w.heap.size, 0, none⟩ = some (.slice A0 r0.length C0) ∧ W'.cell? ⟨w.heap.size + 1, 0, none⟩ = some (.slice A1 r1.length C1) ∧ W'.cell? ⟨w.heap.size + 2, 0, none⟩ = some (.slice A2 r2.length C2)) (first | exact ⟨E38.out.cell 0 rfl, E38.out.cell 1 rfl, E38.out.cell 2 rfl⟩ | exact ⟨E37.out.cell 0 rfl, E37.out.cell 1 rfl, E37.out.cell 2 rfl⟩ | exact ⟨E36.out.cell 0 rfl, E36.out.cell 1 rfl, E36.out.cell 2 rfl⟩ | exact ⟨E35.out.cell 0 rfl, E35.out.cell 1 rfl, E35.out.cell 2 rfl⟩ | exact ⟨E34.out.cell 0 rfl, E34.out.cell 1 rfl, E34.out.cell 2 rfl⟩ | exact ⟨E33.out.drew.cell 0 rfl, E33.out.drew.cell 1 rfl, E33.out.drew.cell 2 rfl⟩) (first | (go_at_call_of 9 (Value.slice A0 (List.length r0) C0); refine (toOrder_any _ r0 _ (H0.out.below E33.out.drew.below) HB0.out).mono ?_; rintro e w34 ⟨gw34, Gw34, rfl, hg, ho, hb⟩; have hE := E33.out.drew.copyR HM0.out hg ho hb; simp only [List.cons_append, List.nil_append] at hE; have E34 := Lib.hid hE; clear hE; clear hg ho hb) | (go_at_call_of 9 (Value.slice A1 (List.length r1) C1); refine (toOrder_any _ r1 _ (H1.out.below E34.out.below) HB1.out).mono ?_; rintro e w35 ⟨gw35, Gw35, rfl, hg, ho, hb⟩; have hE := E34.out.copyR HM1.out hg ho hb; simp only [List.cons_append, List.nil_append] at hE; have E35 := Lib.hid hE; clear hE; clear hg ho hb) | (go_at_call_of 9 (Value.slice A2 (List.length r2) C2); refine (toOrder_any _ r2 _ (H2.out.below E35.out.below) HB2.out).mono ?_; rintro e w36 ⟨gw36, Gw36, rfl, hg, ho, hb⟩; have hE := E35.out.copyR HM2.out hg ho hb; simp only [List.cons_append, List.nil_append] at hE; have E36 := Lib.hid hE; clear hE; clear hg ho hb) | (go_at_call_of 15 (Value.slice A3 (List.length x3) C3); refine (toIntS_any _ x3 _ (H3.out.below E36.out.below) HL3.out).mono ?_; rintro e w37 ⟨rfl, ho, hz, hb⟩; have hE := E36.out.copyI HM3.out ho hz hb; simp only [List.cons_append, List.nil_append] at hE; have E37 := Lib.hid hE; clear hE; clear ho hz hb) | (go_at_call 23; refine (HI.out _ _ _ _ _ (E37.out.rows 12 rfl) (E37.out.rows 13 rfl) (E37.out.rows 14 rfl) (E37.out.ints 15 rfl) (HTT.out.below E37.out.below)).mono ?_; rintro e w38 ⟨u, y, rfl, hu, hy, hd, hb⟩; obtain ⟨aV, CV, rfl⟩ := hu.form; obtain ⟨bV, DV, rfl⟩ := hy.form; have hE := (E37.out.take 12).push2 hb hu hy hd; simp only [List.cons_append, List.nil_append, List.take_succ_cons, List.take_zero] at hE; have E38 := Lib.hid hE; clear hE; clear hb hu hy hd))
  clear hc22 hc23 hc24
  have hq := HQ.out
  have hpos2 := HPP.out
  have hne := HNE.out
  have hposa := HPA.out
  have heq := eqIntS_any _ _ xs xs _ (E38.out.ints2a 12 rfl) (E38.out.ints2a 3 rfl)
  rw [decide_eq_true (rfl : xs = xs)] at heq
  go_wp2_with fail
  refine heq.mono ?_
  clear heq
  rintro e w39 ⟨rfl, nw39, rfl⟩
  have hE := E38.out.drewN nw39
  generalize World.drewN _ nw39 = Ww39 at hE ⊢
  have E39 := Lib.hid hE
  clear hE E38
  have heq := eqIntS_any _ _ ys ys _ (E39.out.ints2b 12 rfl) (E39.out.ints2b 3 rfl)
  rw [decide_eq_true (rfl : ys = ys)] at heq
  go_wp2_with fail
  refine heq.mono ?_
  clear heq
  rintro e w40 ⟨rfl, nw40, rfl⟩
  have hE := E39.out.drewN nw40
  generalize World.drewN _ nw40 = Ww40 at hE ⊢
  have E40 := Lib.hid hE
  clear hE E39
  have hhd := heldIntS_any _ (1) xs.length _ (E40.out.ints2a 11 rfl) (by omega) (by have := HX.out; have := HY.out; omega)
  go_wp2_with fail
  refine hhd.mono ?_
  clear hhd
  rintro e w41 ⟨rfl, nw41, rfl⟩
  have hE := E40.out.drewN nw41
  generalize World.drewN _ nw41 = Ww41 at hE ⊢
  have E41 := Lib.hid hE
  clear hE E40
  have hhd := heldIntS_any _ (1 + (xs.length : Int)) ys.length _ (E41.out.ints2b 11 rfl) (by omega) (by have := HX.out; have := HY.out; omega)
  go_wp2_with fail
  refine hhd.mono ?_
  clear hhd
  rintro e w42 ⟨rfl, nw42, rfl⟩
  have hE := E41.out.drewN nw42
  generalize World.drewN _ nw42 = Ww42 at hE ⊢
  have E42 := Lib.hid hE
  clear hE E41
  go_wp2
  go_ret
  exact ⟨rfl, E42.out.below⟩
end Go.Proofs.YtppjogkednclcaaDoor
