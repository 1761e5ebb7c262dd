/- What FunJoin and FunMeet answer, and the model's: joins of what two lists have (l3Both). -/
import Derived.Test.YtnniffjjbekodaaDoorAfterS
import Derived.Test.YtnniffjjbekodaaDoorBelowS
import Derived.Test.YtnniffjjbekodaaDoorBackS
import Derived.Test.YtnniffjjbekodaaDoorOkG
import Derived.StillTailTactics
import Derived.Test.YtnniffjjbekodaaDoorImplFB
import Derived.Test.YtnniffjjbekodaaDoorTops
import Derived.Laws.MakeOwn
import Derived.Test.YtnniffjjbekodaaDoorEnv
import Derived.Test.YtnniffjjbekodaaDoorTo
import Derived.Deep.RegionHeld3
namespace Go.Proofs.YtnniffjjbekodaaDoor
open Go.RowKit Go.Deep

/-- The joins of what two lists have, for the first k elements. -/
def bothN (rows : Rows2) (f g : List Int) (k : Nat) : List Int := (List.range k).map fun i => joinI rows (f.getD i 0).toNat (g.getD i 0).toNat
theorem bothN_length (rows : Rows2) (f g : List Int) (k : Nat) : (bothN rows f g k).length = k := by unfold bothN; simp
theorem bothN_succ (rows : Rows2) (f g : List Int) (k : Nat) : bothN rows f g (k + 1) = bothN rows f g k ++ [joinI rows (f.getD k 0).toNat (g.getD k 0).toNat] := by
  unfold bothN
  rw [List.range_succ, List.map_append]
  rfl
def bothOk (rows : Rows2) (f g : List Int) : Bool := (List.range f.length).all fun i => decide (0 ≤ joinI rows (f.getD i 0).toNat (g.getD i 0).toNat)
theorem bothOk_no {rows : Rows2} {f g : List Int} {i : Nat} (hi : i < f.length) (h : joinI rows (f.getD i 0).toNat (g.getD i 0).toNat < 0) : bothOk rows f g = false := by
  unfold bothOk
  rw [List.all_eq_false]
  exact ⟨i, List.mem_range.2 hi, by rw [decide_eq_false (by omega)]; simp⟩
theorem bothOk_yes {rows : Rows2} {f g : List Int} (h : ∀ i, i < f.length → 0 ≤ joinI rows (f.getD i 0).toNat (g.getD i 0).toNat) : bothOk rows f g = true := by
  unfold bothOk
  rw [List.all_eq_true]
  exact fun i hi => decide_eq_true (h i (List.mem_range.1 hi))
theorem bothOk_at {rows : Rows2} {f g : List Int} (h : bothOk rows f g = true) {i : Nat} (hi : i < f.length) : 0 ≤ joinI rows (f.getD i 0).toNat (g.getD i 0).toNat := by
  unfold bothOk at h
  rw [List.all_eq_true] at h
  exact of_decide_eq_true (h i (List.mem_range.2 hi))
def bothL (rows : Rows2) (f g : List Int) : List Int := if bothOk rows f g = true then bothN rows f g f.length else []
theorem joinI_bounds {rows : Rows2} (h : Ok rows) {a : Nat} (ha : a < rows.length) (b : Nat) : -1 ≤ joinI rows a b ∧ joinI rows a b < rows.length := by
  unfold joinI
  cases hf : (rows.getD a []).find? (joinTest rows a b) with
  | none => exact ⟨by simp, by simp; omega⟩
  | some c =>
    have hm := List.mem_of_find?_eq_some hf
    rw [getD_at [] ha] at hm
    have := (h.asc a ha).2 c hm
    exact ⟨by simp; omega, by simp; omega⟩

theorem ownB_nil {xs : List Int} {t : Bool} {w W : World} (hx : xs = []) (ht : t = false) (hb : Below w.heap.size w W) : OwnB xs t w (.returned (.tuple #[.slice (some ⟨W.heap.size, 0, none⟩) 0 0, .bool false])) (W.alloc (.cells #[] 3)) := by
  subst hx ht
  exact ⟨_, rfl, empty_own W hb.size, hb.alloc hb.size _⟩
/-- Behind an append to a list of the call's own. -/
theorem HeldG.grow {w : World} {v vf vg : Value} {rows : Rows2} {f g : List Int} {W w1 : World} (h : HeldG w v vf vg rows f g W) (hv : RowsAt w v rows) (hf : IntsAt w vf f) (hg : IntsAt w vg g) {u : Value} {n : Nat} {xs : List Value} (ho : W.ownsRow (w.heap.size + 1) 3 1 u n xs) (o : Obj) {row : Option Nat} (hgr : (W.alloc o).grownBy w1 row) (hr : row = u.ownBlock := by rfl) : HeldG w v vf vg rows f g w1 := by
  subst hr
  have hz := h.1.2.2.2
  have hb : Below (w.heap.size + 1) W w1 := ((Below.refl (w.heap.size + 1) W).alloc (by omega) o).grown hgr (by rw [World.size_alloc]; omega) (fun b e => (ho.lt b e).1)
  have hw : Below w.heap.size w w1 := h.1.2.2.1.trans (hb.mono (by omega))
  exact ⟨⟨(hb.cell (p := ⟨w.heap.size, 0, none⟩) (by show w.heap.size < w.heap.size + 1; omega)).trans h.1.1, hv.below hw, hw, by have := hb.size; omega⟩, hf.below hw, hg.below hw⟩

set_option maxRecDepth 100000 in
set_option maxHeartbeats 4000000 in
theorem l3Both_any (v vf vg : Value) (rows : Rows2) (f g : List Int) (w : World) (hv : RowsAt w v rows) (hf : IntsAt w vf f) (hg : IntsAt w vg g) (hok : Ok rows)
    (hrf : ∀ x ∈ f, 0 ≤ x ∧ x < rows.length) (hrg : ∀ x ∈ g, 0 ≤ x ∧ x < rows.length) (he : f.length = g.length) (hfl : f.length ≤ 1048576) :
    Calls Tryd.prog 69 #[.agg #[v], vf, vg] w (OwnB (bothL rows f g) (bothOk rows f g) w) := by
  have HV0 := Lib.hid hv
  have HF0 := Lib.hid hf
  have HG0 := Lib.hid hg
  have hn := hok.bulk
  have hl := valid_lists (valid_of_ok hok)
  have hl200 := hok.len.2
  have hH := Held.start w 28 hv
  have hB1 := (Below.refl w.heap.size w).alloc (Nat.le_refl _) (.cells #[v] 28)
  have hh : HeldG w v vf vg rows f g (w.alloc (.cells #[v] 28)) := ⟨hH, hf.below hB1, hg.below hB1⟩
  have hs : (w.alloc (.cells #[v] 28)).heap.size = w.heap.size + 1 := World.size_alloc _ _
  have hO := World.ownsRow_made (e := 3) (size := 1) (w.alloc (.cells #[v] 28)) #[] 0 (base := w.heap.size + 1) (by rw [hs]; omega) (Nat.zero_le _) (by simp)
  rw [hs] at hO
  have hT := hh.step ((Below.refl _ _).alloc (Nat.le_refl _) (.cells #[] 3))
  obtain ⟨i0, hi0, hz0, hz1, hz2⟩ := info_parts infoInt
  obtain ⟨A, C, rfl, _⟩ := hv
  obtain ⟨Af, Cf, rfl, _⟩ := hf
  obtain ⟨Ag, Cg, rfl, _⟩ := hg
  have HO := Lib.hid hO
  have HT := Lib.hid hT
  have HRF := Lib.hid hrf
  have HRG := Lib.hid hrg
  have HEQ := Lib.hid he
  have HOK := Lib.hid hok
  clear hB1 hh hH hs hO hT hrf hrg he hok
  go_enter Tryd.func69, Tryd.ntmps69
  go_wp2
  go_loopw [8, 9] (fun ov kv wr => ∃ k : Nat, k ≤ f.length ∧ kv = .int .i64 k ∧ wr.ownsRow (w.heap.size + 1) 3 1 ov (bothN rows f g k).length (cellsI (bothN rows f g k)) ∧ (∀ q, q < k → 0 ≤ joinI rows (f.getD q 0).toNat (g.getD q 0).toNat) ∧ HeldG w (.slice A rows.length C) (.slice Af f.length Cf) (.slice Ag g.length Cg) rows f g wr) (fun _ kv _ => f.length - (intOf kv).toNat)
  case atStart => exact ⟨0, Nat.zero_le _, rfl, HO.out, fun _ h => absurd h (Nat.not_lt_zero _), HT.out⟩
  case round =>
    obtain ⟨k, hk, rfl, hown, hp, hh⟩ := hrel
    have HOWN := Lib.hid hown
    have HP := Lib.hid hp
    have HK := Lib.hid hh
    have hcell := hh.1.1
    have hcl := Nat.le_of_eq (bothN_length rows f g k)
    clear hown hp HO HT
    by_cases hlt : k < f.length
    · have hltg : k < g.length := by have := HEQ.out; omega
      have hkg : (k : Int) < (g.length : Int) := by omega
      obtain ⟨bf, o_f, rfl, hcf⟩ := hh.2.1.get hlt
      obtain ⟨bg, o_g, rfl, hcg⟩ := hh.2.2.get hltg
      have hr1 := HRF.out _ (List.getElem_mem hlt)
      have hr2 := HRG.out _ (List.getElem_mem hltg)
      have e1 : f.getD k 0 = f[k] := getD_lt 0 hlt
      have e2 : g.getD k 0 = g[k] := getD_lt 0 hltg
      have hcb := joinI_bounds HOK.out (a := f[k].toNat) (by omega) g[k].toNat
      have hj := l1Join_any _ rows f[k] g[k] f[k].toNat g[k].toNat _ (HK.out.drew).1.2.1 hn hl (by omega) (by omega) (by omega) (by omega)
      clear hh
      obtain ⟨c, hc⟩ : ∃ c, joinI rows f[k].toNat g[k].toNat = c := ⟨_, rfl⟩
      have HA := Lib.hid (show joinI rows (f.getD k 0).toNat (g.getD k 0).toNat = c by rw [e1, e2]; exact hc)
      rw [hc] at hj hcb
      have HJ := Lib.hid hj
      clear hj hc hr1 hr2 e1 e2
      by_cases hc0 : c < 0
      · have HE := Lib.hid (bothOk_no hlt (by rw [HA.out]; exact hc0))
        go_wp2
        go_still_tail 9, (by kernel_rfl)
        go_wp2_with (go_at_call 87; refine HJ.out.mono ?_; clear HJ; rintro e w3 ⟨rfl, hb3⟩; have H3 := Lib.hid (HK.out.drew.step hb3); clear hb3)
        go_ret2
        rw [HE.out]
        exact ownB_nil (by unfold bothL; rw [HE.out]; rfl) rfl H3.out.1.2.2.1
      · have HOD := Lib.hid (owns_below HOWN.out (below_drew wr _))
        go_wp2
        go_still_tail 9, (by kernel_rfl)
        clear hcf hcg hcell
        go_wp2_with (first | (go_at_call 87; refine HJ.out.mono ?_; clear HJ; rintro e w3 ⟨rfl, hb3⟩; have H3 := Lib.hid (HK.out.drew.step hb3); have HOW3 := Lib.hid (owns_below HOD.out hb3); have hbz : w.heap.size < w3.heap.size := H3.out.1.2.2.2; clear hb3) | (at_builtin; refine wpList_append_own _ rfl _ _ 25 rfl (w.heap.size + 1) 3 i0 (.int .i64 0) 1 8 Tryd.underlying25 hi0 hz0 hz1 hz2 rfl (by decide) _ _ _ rfl (HOW3.out.alloc _) ⟨w3.heap.size, 0, none⟩ 1 1 [.int .i64 c] rfl rfl (cell_one_new _ _ _) (by simp [Value.oneCell']) (by unfold maxLen; omega) (by omega) (by simp; omega) ?_; intro v' w1 hown' hgrow _))
        go_roundw
        case rel =>
          refine ⟨k + 1, by omega, by go_num, ?_, fun q hq => ?_, H3.out.grow HV0.out HF0.out HG0.out HOW3.out _ hgrow⟩
          · rw [bothN_succ, HA.out, List.length_append, show cellsI (bothN rows f g k ++ [c]) = cellsI (bothN rows f g k) ++ [.int .i64 c] by simp]
            exact hown'
          · by_cases e : q = k
            · subst e; rw [HA.out]; omega
            · exact HP.out q (by omega)
        case measure => simp [intOf]; omega
    · obtain rfl : k = f.length := by omega
      have HE := Lib.hid (bothOk_yes HP.out)
      clear hh
      go_wp2
      go_ret2
      refine ⟨_, by rw [HE.out]; rfl, ?_, HK.out.1.2.2.1⟩
      unfold bothL
      rw [if_pos HE.out]
      refine OwnI.of_owns (owns_weaker HOWN.out (Nat.le_add_right _ _)) ?_ (fun b hb => (HOWN.out.lt b hb).2)
      intro y hy
      unfold bothN at hy
      obtain ⟨i, hi, rfl⟩ := List.mem_map.1 hy
      rw [List.mem_range] at hi
      have h1 := HP.out i hi
      have hr1 := HRF.out (f.getD i 0) (by rw [getD_lt 0 hi]; exact List.getElem_mem _)
      have h2 := joinI_bounds HOK.out (a := (f.getD i 0).toNat) (by omega) (g.getD i 0).toNat
      exact wf_int h1 (by omega)

/-- What FunJoin answers. -/
noncomputable def fjoinOk (rows rows' : Rows2) (f g : List Int) : Bool := monoB rows rows' f && monoB rows rows' g && bothOk rows' f g
noncomputable def fjoinL (rows rows' : Rows2) (f g : List Int) : List Int := if fjoinOk rows rows' f g = true then bothN rows' f g f.length else []
theorem fjoin_no1 {rows rows' : Rows2} {f g : List Int} (h : monoB rows rows' f = false) : fjoinOk rows rows' f g = false := by unfold fjoinOk; rw [h]; rfl
theorem fjoin_no2 {rows rows' : Rows2} {f g : List Int} (h : monoB rows rows' g = false) : fjoinOk rows rows' f g = false := by unfold fjoinOk; rw [h]; simp
theorem fjoin_both {rows rows' : Rows2} {f g : List Int} (h1 : monoB rows rows' f = true) (h2 : monoB rows rows' g = true) : fjoinOk rows rows' f g = bothOk rows' f g ∧ fjoinL rows rows' f g = bothL rows' f g := by
  have h : fjoinOk rows rows' f g = bothOk rows' f g := by unfold fjoinOk; rw [h1, h2]; rfl
  refine ⟨h, ?_⟩
  unfold fjoinL bothL
  rw [h]
theorem fjoinL_nil {rows rows' : Rows2} {f g : List Int} (h : fjoinOk rows rows' f g = false) : fjoinL rows rows' f g = [] := by unfold fjoinL; rw [h]; rfl
theorem OwnB.later {xs : List Int} {t : Bool} {w W W' : World} {e : Ending} (hb : Below w.heap.size w W) (h : OwnB xs t W e W') : OwnB xs t w e W' := by
  obtain ⟨v, he, ho, hb'⟩ := h
  exact ⟨v, he, ho.wider hb.size (Nat.le_refl _), hb.trans (hb'.mono hb.size)⟩

set_option maxRecDepth 100000 in
set_option maxHeartbeats 8000000 in
theorem specFunJoin_any (v v' vf vg : Value) (rows rows' : Rows2) (f g : List Int) (w : World) (hv : RowsAt w v rows) (hv' : RowsAt w v' rows') (hf : IntsAt w vf f) (hg : IntsAt w vg g)
    (hn : bulk rows ≤ 1048576) (hn' : bulk rows' ≤ 1048576) :
    Calls Tryd.prog 40 #[.agg #[v], .agg #[v'], vf, vg] w (OwnB (fjoinL rows rows' f g) (fjoinOk rows rows' f g) w) := by
  have hT := TwoF.start w 28 28 hv hv' hf
  have hG := hg.below hT.1.below
  obtain ⟨A, C, rfl, _⟩ := hv
  obtain ⟨A', C', rfl, _⟩ := hv'
  obtain ⟨Af, Cf, rfl, _⟩ := hf
  obtain ⟨Ag, Cg, rfl, _⟩ := hg
  have H0 := Lib.hid hT
  have G0 := Lib.hid hG
  have hcell := hT.1.c0
  have hcell1 := hT.1.c1
  have hd1 := specMono_any _ _ _ rows rows' f _ hT.1.r0 hT.1.r1 hT.2 hn hn'
  clear hT hG
  cases h1 : monoB rows rows' f with
  | false =>
    rw [h1] at hd1
    have HE := Lib.hid (fjoin_no1 (g := g) h1)
    go_enter Tryd.func40, Tryd.ntmps40
    go_wp2_with (go_at_call 17; refine hd1.mono ?_; clear hd1; rintro e w1 ⟨rfl, hb1⟩; have H1 := Lib.hid (H0.out.step hb1); clear hb1)
    go_ret2
    exact ownB_nil (fjoinL_nil HE.out) HE.out H1.out.1.below
  | true =>
    rw [h1] at hd1
    cases h2 : monoB rows rows' g with
    | false =>
      have HE := Lib.hid (fjoin_no2 (f := f) h2)
      go_enter Tryd.func40, Tryd.ntmps40
      go_wp2_with (first | (go_at_call 17; refine hd1.mono ?_; clear hd1; rintro e w1 ⟨rfl, hb1⟩; have H1 := Lib.hid (H0.out.step hb1); have hc1 := H1.out.1.c0; have hc2 := H1.out.1.c1; have hd2 := specMono_any _ _ _ rows rows' g _ H1.out.1.r0 H1.out.1.r1 (G0.out.below hb1) hn hn'; rw [h2] at hd2; clear hb1) | (go_at_call 17; refine hd2.mono ?_; clear hd2; rintro e w2 ⟨rfl, hb2⟩; have H2 := Lib.hid (H1.out.step hb2); clear hb2))
      go_ret2
      exact ownB_nil (fjoinL_nil HE.out) HE.out H2.out.1.below
    | true =>
      obtain ⟨hD, hD', hm1⟩ := monoB_parts h1
      obtain ⟨_, _, hm2⟩ := monoB_parts h2
      have hok' := ok_of_valid (show validB rows' = true by unfold domB at hD'; rw [Bool.and_eq_true] at hD'; exact hD'.1)
      have hlen := dom_len hD
      have HC := Lib.hid (fun W a b c => l3Both_any (.slice A' rows'.length C') (.slice Af f.length Cf) (.slice Ag g.length Cg) rows' f g W a b c hok' hm1.2.1 hm2.2.1 (by rw [hm1.1, hm2.1]) (by rw [hm1.1]; omega))
      have HE := Lib.hid (fjoin_both h1 h2)
      clear hD hD' hm1 hm2 hok' hlen h1
      go_enter Tryd.func40, Tryd.ntmps40
      go_wp2_with (first | (go_at_call 17; refine hd1.mono ?_; clear hd1; rintro e w1 ⟨rfl, hb1⟩; have H1 := Lib.hid (H0.out.step hb1); have G1 := Lib.hid (G0.out.below hb1); have hc1 := H1.out.1.c0; have hc2 := H1.out.1.c1; have hd2 := specMono_any _ _ _ rows rows' g _ H1.out.1.r0 H1.out.1.r1 (G0.out.below hb1) hn hn'; rw [h2] at hd2; clear hb1) | (go_at_call 17; refine hd2.mono ?_; clear hd2; rintro e w2 ⟨rfl, hb2⟩; have H2 := Lib.hid (H1.out.step hb2); have G2 := Lib.hid (G1.out.below hb2); have hc3 := H2.out.1.c1; clear hb2) | (go_at_call 69; refine (HC.out _ H2.out.1.r1 H2.out.2 G2.out).mono ?_; rintro e w3 ⟨u, rfl, hu, hb3⟩; have HU := Lib.hid hu; have B3 := Lib.hid hb3; clear hu hb3))
      go_ret2
      rw [HE.out.1, HE.out.2]
      exact ⟨u, rfl, HU.out.wider H2.out.1.below.size (Nat.le_refl _), H2.out.1.below.trans (B3.out.mono H2.out.1.below.size)⟩
end Go.Proofs.YtnniffjjbekodaaDoor

/- The program's FunJoin. -/
namespace Go.Proofs.YtnniffjjbekodaaDoor
open Go.RowKit Go.Deep Go.Shelf

/-- A method value: the join of a grid. -/
abbrev joinV (p : Nat) : Value := .func (.func 73) #[.pointer (some ⟨p, 0, none⟩)] #[]

theorem ownB_zero {xs : List Int} {t : Bool} {w W : World} (hx : xs = []) (ht : t = false) (hb : Below w.heap.size w W) : OwnB xs t w (.returned (.tuple #[.slice none 0 0, .bool false])) W := by
  subst hx ht
  exact ⟨_, rfl, OwnI.nil _ _ _ _, hb⟩
theorem bothL_no {rows : Rows2} {f g : List Int} (h : bothOk rows f g = false) : bothL rows f g = [] := by unfold bothL; rw [h]; rfl

set_option maxRecDepth 100000 in
set_option maxHeartbeats 8000000 in
theorem combined_any (p : Nat) (vf vg : Value) (rows : Rows2) (f g : List Int) (w : World) (hf : IntsAt w vf f) (hg : IntsAt w vg g) (hG : GridAt w p (gridF rows)) (hT : Tab w) (hok : Ok rows)
    (hrf : ∀ x ∈ f, 0 ≤ x ∧ x < rows.length) (hrg : ∀ x ∈ g, 0 ≤ x ∧ x < rows.length) (he : f.length = g.length) (hfl : f.length ≤ 200) :
    Calls Tryd.prog 72 #[vf, vg, joinV p] w (OwnB (bothL rows f g) (bothOk rows f g) w) := by
  have HFA := Lib.hid (fun W (h : Below w.heap.size w W) => hf.below h)
  have HGA := Lib.hid (fun W (h : Below w.heap.size w W) => hg.below h)
  have HGR := Lib.hid (fun W (h : Below w.heap.size w W) => hG.below h hG.lt)
  have HTT := Lib.hid (fun W (h : Below w.heap.size w W) => hT.below h)
  have hl200 := hok.len.2
  obtain ⟨Af, Cf, rfl, hCf, hmf, _⟩ := hf
  obtain ⟨Ag, Cg, rfl, hCg, hmg, _⟩ := hg
  unfold maxLen at hmf hmg
  have hmk := run_make_row' (P := Tryd.prog) 64 3 (.int .i64 0) 8 Tryd.underlying64 infoInt rfl .i64 .i64 f.length (by omega) (by omega)
  have HRW := Lib.hid (World.rowIs_made w (.int .i64 0) f.length 3)
  have HB0 := Lib.hid ((Below.refl w.heap.size w).alloc (Nat.le_refl _) (.cells (madeCells #[.int .i64 0] f.length) 3))
  have HRF := Lib.hid hrf
  have HRG := Lib.hid hrg
  have HEQ := Lib.hid he
  have HOK := Lib.hid hok
  clear hG hT hrf hrg he hok
  go_enter Tryd.func72, Tryd.ntmps72
  go_wp2
  clear hmk
  go_loopw [9, 15] (fun _ kv wr => ∃ k : Nat, k ≤ f.length ∧ kv = .int .i64 k ∧ wr.rowIs w.heap.size 3 f.length (fun i => if i < k then .int .i64 (joinI rows (f.getD i 0).toNat (g.getD i 0).toNat) else .int .i64 0) ∧ (∀ q, q < k → 0 ≤ joinI rows (f.getD q 0).toNat (g.getD q 0).toNat) ∧ Below w.heap.size w wr) (fun _ kv _ => f.length - (intOf kv).toNat)
  case atStart => exact ⟨0, Nat.zero_le _, rfl, HRW.out.congr (fun i _ => by rw [if_neg (Nat.not_lt_zero i)]), fun _ h => absurd h (Nat.not_lt_zero _), HB0.out⟩
  case round =>
    obtain ⟨k, hk, rfl, hr, hp, hB⟩ := hrel
    have HR := Lib.hid hr
    have HB := Lib.hid hB
    have HP := Lib.hid hp
    clear hB hp HRW HB0
    by_cases hlt : k < f.length
    · have hkz : (k : Int) < (f.length : Int) := by omega
      have hltg : k < g.length := by have := HEQ.out; omega
      have hkg : (k : Int) < (g.length : Int) := by omega
      obtain ⟨b1, o1, rfl, hcf⟩ := (HFA.out wr HB.out).get hlt
      obtain ⟨b2, o2, rfl, hcg⟩ := (HGA.out wr HB.out).get hltg
      have hr1 := HRF.out _ (List.getElem_mem hlt)
      have hr2 := HRG.out _ (List.getElem_mem hltg)
      have e1 : f.getD k 0 = f[k] := getD_lt 0 hlt
      have e2 : g.getD k 0 = g[k] := getD_lt 0 hltg
      have hj := fun W (h : Below w.heap.size w W) => join_any p f[k].toNat g[k].toNat f[k] g[k] (gridF rows) W (HGR.out W h) (HTT.out W h) (by omega) (by omega) (by omega) (by omega) (fun q hq => HOK.out.lt200 hq)
      rw [← join_eq HOK.out (by omega) (by omega)] at hj
      have hcb := joinI_bounds HOK.out (a := f[k].toNat) (by omega) g[k].toNat
      obtain ⟨c, hc⟩ : ∃ c, joinI rows f[k].toNat g[k].toNat = c := ⟨_, rfl⟩
      have HA := Lib.hid (show joinI rows (f.getD k 0).toNat (g.getD k 0).toNat = c by rw [e1, e2]; exact hc)
      rw [hc] at hj hcb
      have HJ := Lib.hid hj
      have HRL := Lib.hid hr.lt
      clear hj hc hr1 hr2 e1 e2 hr
      have hkl : w.heap.size < wr.heap.size := HRL.out
      have hc1 : wr.cell? ⟨w.heap.size, k, none⟩ = some (.int .i64 0) := by
        have := HR.out.cell hlt
        rw [if_neg (Nat.lt_irrefl k)] at this
        exact this
      have hf1 := HR.out.frozen k
      have HC1 := Lib.hid hc1
      have HF1 := Lib.hid hf1
      clear hc1 hf1
      by_cases hc0 : c < 0
      · have HE := Lib.hid (bothOk_no hlt (by rw [HA.out]; exact hc0))
        go_upto_region 5 with fail
        go_region_with (first | (go_at_call 73; refine (HJ.out _ (HB.out.trans (below_drew wr _))).mono ?_; clear HJ; rintro e w3 ⟨rfl, hb3⟩; have hc3 : w3.cell? ⟨w.heap.size, k, none⟩ = some (.int .i64 0) := (hb3.cell (p := ⟨w.heap.size, k, none⟩) hkl).trans HC1.out; have hf3 : w3.frozen? ⟨w.heap.size, k, none⟩ = false := (hb3.frozen (p := ⟨w.heap.size, k, none⟩) hkl).trans HF1.out; have HB3 := Lib.hid ((HB.out.trans (below_drew wr _)).trans (hb3.mono HB.out.size)); clear hb3))
        all_goals
          have hc4 := World.cell?_setCell_same' w3 ⟨w.heap.size, k, none⟩ (.int .i64 c) (by rw [hc3]; rfl)
          go_wp2
          go_ret2
          refine ownB_zero (bothL_no HE.out) HE.out ?_
          exact HB3.out.setCell (p := ⟨w.heap.size, k, none⟩) (Nat.le_refl _) _
      · go_upto_region 5 with fail
        go_region_with (first | (go_at_call 73; refine (HJ.out _ (HB.out.trans (below_drew wr _))).mono ?_; clear HJ; rintro e w3 ⟨rfl, hb3⟩; have hc3 : w3.cell? ⟨w.heap.size, k, none⟩ = some (.int .i64 0) := (hb3.cell (p := ⟨w.heap.size, k, none⟩) hkl).trans HC1.out; have hf3 : w3.frozen? ⟨w.heap.size, k, none⟩ = false := (hb3.frozen (p := ⟨w.heap.size, k, none⟩) hkl).trans HF1.out; have HB3 := Lib.hid ((HB.out.trans (below_drew wr _)).trans (hb3.mono HB.out.size)); have HR3 := Lib.hid (HR.out.of_block (hb3.block w.heap.size hkl)); clear hb3))
        all_goals
          have hc4 := World.cell?_setCell_same' w3 ⟨w.heap.size, k, none⟩ (.int .i64 c) (by rw [hc3]; rfl)
          go_wp2
          go_roundw
          case rel =>
            refine ⟨k + 1, by omega, by go_num, (HR3.out.set k (.int .i64 c)).congr (fun i hi => ?_), fun q hq => ?_, HB3.out.setCell (p := ⟨w.heap.size, k, none⟩) (Nat.le_refl _) _⟩
            · by_cases e : i = k
              · subst e; rw [if_pos (Nat.lt_succ_self i), HA.out]; simp
              · by_cases e2 : i < k
                · simp [e, e2, show i < k + 1 by omega]
                · simp [e, e2, show ¬ i < k + 1 by omega]
            · by_cases e : q = k
              · subst e; rw [HA.out]; omega
              · exact HP.out q (by omega)
          case measure => simp [intOf]; omega
    · obtain rfl : k = f.length := by omega
      have HE := Lib.hid (bothOk_yes HP.out)
      clear hr
      go_wp2
      go_ret2
      have hl := bothN_length rows f g f.length
      refine ⟨_, by rw [HE.out]; rfl, ?_, HB.out⟩
      unfold bothL
      rw [if_pos HE.out]
      refine ⟨?_, .inr ⟨w.heap.size, f.length, _, by rw [hl]; rfl, by rw [hl]; exact Nat.le_refl _, by unfold maxLen; omega, Nat.le_refl _, HR.out.lt, HR.out, fun i hi => ?_⟩⟩
      · intro y hy
        unfold bothN at hy
        obtain ⟨i, hi, rfl⟩ := List.mem_map.1 hy
        rw [List.mem_range] at hi
        have h1 := HP.out i hi
        have hr1 := HRF.out (f.getD i 0) (by rw [getD_lt 0 hi]; exact List.getElem_mem _)
        have h2 := joinI_bounds HOK.out (a := (f.getD i 0).toNat) (by omega) (g.getD i 0).toNat
        exact wf_int h1 (by omega)
      · rw [hl] at hi
        simp [bothN, hi]

set_option maxRecDepth 100000 in
set_option maxHeartbeats 8000000 in
theorem implFunJoin_any (v v' vf vg : Value) (rows rows' : Rows2) (f g : List Int) (w : World) (hv : RowsAt w v rows) (hv' : RowsAt w v' rows') (hf : IntsAt w vf f) (hg : IntsAt w vg g) (hT : Tab w) (hn : bulk rows ≤ 1048576) (hn' : bulk rows' ≤ 1048576) :
    Calls Tryd.prog 41 #[.agg #[v], .agg #[v'], vf, vg] w (OwnB (fjoinL rows rows' f g) (fjoinOk rows rows' f g) w) := by
  have h0 := TwoF.start w 28 28 hv hv' hf
  have hg0 := hg.below h0.1.below
  have hl := rows_two h0.2 hg0
  have b1 := (Below.refl ((w.alloc (.cells #[v] 28)).alloc (.cells #[v'] 28)).heap.size ((w.alloc (.cells #[v] 28)).alloc (.cells #[v'] 28))).alloc (Nat.le_refl _) (.cells #[vf, vg] 25)
  have h1 := h0.step b1
  have hg1 := hg0.below b1
  have hT1 := (hT.below h0.1.below).below b1
  have hcall := funTypeOf_any v v' _ rows rows' [f, g] _ h1.1.r0 h1.1.r1 hl hT1 hn hn'
  have hs : ((w.alloc (.cells #[v] 28)).alloc (.cells #[v'] 28)).heap.size = w.heap.size + 2 := by rw [World.size_alloc, World.size_alloc]
  rw [ftB_two, hs] at hcall
  have hc0 := h0.1.c0
  have hc1 := h0.1.c1
  obtain ⟨A, C, rfl, _⟩ := hv
  obtain ⟨A', C', rfl, _⟩ := hv'
  obtain ⟨Af, Cf, rfl, _⟩ := hf
  obtain ⟨Ag, Cg, rfl, _⟩ := hg
  have H1 := Lib.hid h1
  have G1 := Lib.hid hg1
  have T1 := Lib.hid hT1
  clear h0 hl b1 h1 hT1 hs hT hg0 hg1
  cases hm : monoB rows rows' f && monoB rows rows' g with
  | false =>
    rw [hm] at hcall
    have HE := Lib.hid (show fjoinOk rows rows' f g = false by unfold fjoinOk; rw [hm]; rfl)
    clear hm
    go_enter Tryd.func41, Tryd.ntmps41
    go_wp2_with (go_at_call 55; refine hcall.mono ?_; clear hcall; rintro e w1 ⟨⟨q, q', rfl, _⟩, hb1⟩; have H2 := Lib.hid ((H1.out.step hb1).step ((Below.refl _ w1).alloc (Nat.le_refl _) (.cells #[.pointer q, .pointer q'] 60))); clear hb1)
    go_ret2
    exact ownB_zero (fjoinL_nil HE.out) HE.out H2.out.1.below
  | true =>
    rw [hm] at hcall
    rw [Bool.and_eq_true] at hm
    obtain ⟨hok, hok', hmo⟩ := monoB_ok hm.1
    obtain ⟨_, _, hmo2⟩ := monoB_ok hm.2
    have HE := Lib.hid (fjoin_both hm.1 hm.2)
    have hl200 := hok.len.2
    have HC := Lib.hid (fun p W h1 h2 h3 h4 => combined_any p (.slice Af f.length Cf) (.slice Ag g.length Cg) rows' f g W h1 h2 h3 h4 hok' hmo.2.1 hmo2.2.1 (by rw [hmo.1, hmo2.1]) (by rw [hmo.1]; exact hl200))
    clear hm hmo hmo2 hok hok' hl200
    have hcall2 := hcall.mono (fun e w' h => h.yes)
    clear hcall
    go_enter Tryd.func41, Tryd.ntmps41
    go_wp2_with (first | (go_at_call 55; refine hcall2.mono ?_; clear hcall2; rintro e w1 ⟨⟨p, p', rfl, _, _, hg, hg'⟩, hb1⟩; have B2 := Lib.hid ((Below.refl w1.heap.size w1).alloc (Nat.le_refl _) (.cells #[.pointer (some ⟨p, 0, none⟩), .pointer (some ⟨p', 0, none⟩)] 60)); have H2 := Lib.hid ((H1.out.step hb1).step B2.out); have G2 := Lib.hid ((G1.out.below hb1).below B2.out); have T2 := Lib.hid ((T1.out.below hb1).below B2.out); have GR2 := Lib.hid (hg'.below B2.out hg'.lt); obtain ⟨hl0, hl1⟩ := two_new w1 (.pointer (some ⟨p, 0, none⟩)) (.pointer (some ⟨p', 0, none⟩)) 60; clear hl0 hb1 hg hg') | (go_at_call 72; refine (HC.out p' _ H2.out.2 G2.out GR2.out T2.out).mono ?_; rintro e w3 ⟨u, rfl, hu, hb3⟩; have HU := Lib.hid hu; have B3 := Lib.hid hb3; clear hu hb3))
    go_ret2
    rw [HE.out.1, HE.out.2]
    exact ⟨u, rfl, HU.out.wider H2.out.1.below.size (Nat.le_refl _), H2.out.1.below.trans (B3.out.mono H2.out.1.below.size)⟩
end Go.Proofs.YtnniffjjbekodaaDoor

/- The law of FunJoin: model and program answer alike, the arguments are left alone, and the answer owns its memory. -/
namespace Go.Proofs.YtnniffjjbekodaaDoor
open Go.RowKit Go.Deep

theorem fjoin_short (rows rows' : Rows2) (f g : List Int) (hf : f.length ≤ 1048576) (_ : g.length ≤ 1048576) : (fjoinL rows rows' f g).length ≤ 1048576 := by
  unfold fjoinL
  split
  · rw [bothN_length]; exact hf
  · exact Nat.zero_le _

set_option maxRecDepth 100000 in
set_option maxHeartbeats 16000000 in
theorem law_fjoin (v0 : Value) (v1 : Value) (v2 : Value) (v3 : Value) (r0 : Rows2) (r1 : Rows2) (x2 : List Int) (x3 : List Int) (w : World) (h0 : RowsAt w v0 r0) (h1 : RowsAt w v1 r1) (h2 : IntsAt w v2 x2) (h3 : IntsAt w v3 x3) (hT : Tab w) :
    Calls Tryd.prog 11 #[.agg #[v0], .agg #[v1], v2, v3] w (SaysN true w) := by
  have e0 := St.start2 w 24 24 v0 v1
  have H0 := Lib.hid h0
  have H1 := Lib.hid h1
  have H2 := Lib.hid h2
  have H3 := Lib.hid h3
  have HTT := Lib.hid hT
  obtain ⟨A0, C0, rfl, _⟩ := h0
  obtain ⟨A1, C1, rfl, _⟩ := h1
  obtain ⟨A2, C2, rfl, _⟩ := h2
  obtain ⟨A3, C3, rfl, _⟩ := h3
  have E0 := Lib.hid e0
  clear e0 hT
  have hdr : ∀ W : World, W.drew.heap = W.heap := fun _ => rfl
  by_cases hf2 : (1048576 : Int) < (x2.length : Int)
  · go_enter Tryd.func11, Tryd.ntmps11
    go_wp2
    go_ret
    exact ⟨rfl, E0.out.below⟩
  by_cases hf3 : (1048576 : Int) < (x3.length : Int)
  · go_enter Tryd.func11, Tryd.ntmps11
    go_wp2
    go_ret
    exact ⟨rfl, E0.out.below⟩
  have HL2 := Lib.hid (show x2.length ≤ 1048576 by omega)
  have HL3 := Lib.hid (show x3.length ≤ 1048576 by omega)
  have HM2 := Lib.hid (maxLen_ge HL2.out)
  have HM3 := Lib.hid (maxLen_ge HL3.out)
  go_enter Tryd.func11, Tryd.ntmps11
  have hc1 := E0.out.cell 0 rfl
  have hsz := szOrder_any _ r0 1048576 _ (H0.out.below E0.out.below) (by omega) (by omega)
  go_wp2_with fail
  refine hsz.mono ?_
  clear hsz
  rintro e w1 ⟨⟨q0, hr, rfl⟩, hb⟩
  have E1 := Lib.hid (E0.out.step hb)
  clear hb hc1 E0
  by_cases hneg0 : q0 < 0
  · go_wp2
    go_ret
    exact ⟨rfl, E1.out.below⟩
  have hq0 : 0 ≤ q0 ∧ q0 ≤ 1048576 ∧ bulk r0 ≤ 1048576 := by rcases hr with h | h <;> omega
  have HB0 := Lib.hid hq0.2.2
  have HM0 := Lib.hid (maxLen_ge HB0.out)
  have HL0 := Lib.hid (show lens r0 r0.length ≤ 1048576 by have := lens_all r0; have := HB0.out; omega)
  clear hr
  have hc2 := E1.out.cell 1 rfl
  have hsz := szOrder_any _ r1 q0 _ (H1.out.below E1.out.below) hq0.1 hq0.2.1
  go_wp2_with fail
  refine hsz.mono ?_
  clear hsz
  rintro e w2 ⟨⟨q1, hr, rfl⟩, hb⟩
  have E2 := Lib.hid (E1.out.step hb)
  clear hb hc2 E1
  by_cases hneg1 : q1 < 0
  · go_wp2
    go_ret
    exact ⟨rfl, E2.out.below⟩
  have hq1 : 0 ≤ q1 ∧ q1 ≤ 1048576 ∧ bulk r1 ≤ 1048576 := by rcases hr with h | h <;> omega
  have HB1 := Lib.hid hq1.2.2
  have HM1 := Lib.hid (maxLen_ge HB1.out)
  have HL1 := Lib.hid (show lens r1 r1.length ≤ 1048576 by have := lens_all r1; have := HB1.out; omega)
  clear hr
  clear hq0 hq1
  have hspec : ∀ W u0 u1 u2 u3, RowsAt W u0 r0 → RowsAt W u1 r1 → IntsAt W u2 x2 → IntsAt W u3 x3 → Calls Tryd.prog 40 #[.agg #[u0], .agg #[u1], u2, u3] W (OwnB (fjoinL r0 r1 x2 x3) (fjoinOk r0 r1 x2 x3) W) := fun W u0 u1 u2 u3 k0 k1 k2 k3 => specFunJoin_any u0 u1 u2 u3 r0 r1 x2 x3 W k0 k1 k2 k3 HB0.out HB1.out
  have himpl : ∀ W u0 u1 u2 u3, RowsAt W u0 r0 → RowsAt W u1 r1 → IntsAt W u2 x2 → IntsAt W u3 x3 → Tab W → Calls Tryd.prog 41 #[.agg #[u0], .agg #[u1], u2, u3] W (OwnB (fjoinL r0 r1 x2 x3) (fjoinOk r0 r1 x2 x3) W) := fun W u0 u1 u2 u3 k0 k1 k2 k3 kT => implFunJoin_any u0 u1 u2 u3 r0 r1 x2 x3 W k0 k1 k2 k3 kT HB0.out HB1.out
  have hxl := fjoin_short r0 r1 x2 x3 HL2.out HL3.out
  generalize fjoinL r0 r1 x2 x3 = xs at hspec himpl hxl
  generalize fjoinOk r0 r1 x2 x3 = t at hspec himpl
  have HX := Lib.hid hxl
  have HS := Lib.hid hspec
  have HI := Lib.hid himpl
  have hne : (t != t) = false := bne_self_eq_false t
  clear hspec himpl hxl
  have hc3 := E2.out.cell 0 rfl
  have hc4 := E2.out.cell 1 rfl
  go_wp2_with fail
  go_region_held3 (fun W' : World => W'.cell? ⟨w.heap.size, 0, none⟩ = some (.slice A0 r0.length C0) ∧ W'.cell? ⟨w.heap.size + 1, 0, none⟩ = some (.slice A1 r1.length C1)) (first | exact ⟨E7.out.cell 0 rfl, E7.out.cell 1 rfl⟩ | exact ⟨E6.out.cell 0 rfl, E6.out.cell 1 rfl⟩ | exact ⟨E5.out.cell 0 rfl, E5.out.cell 1 rfl⟩ | exact ⟨E4.out.cell 0 rfl, E4.out.cell 1 rfl⟩ | exact ⟨E3.out.cell 0 rfl, E3.out.cell 1 rfl⟩ | exact ⟨E2.out.drew.cell 0 rfl, E2.out.drew.cell 1 rfl⟩) (first | (go_at_call_of 18 (Value.slice A0 (List.length r0) C0); refine (toOrder_any _ r0 _ (H0.out.below E2.out.drew.below) HB0.out).mono ?_; rintro e w3 ⟨gw3, Gw3, rfl, hg, ho, hb⟩; have hE := E2.out.drew.copyR HM0.out hg ho hb; simp only [List.cons_append, List.nil_append] at hE; have E3 := Lib.hid hE; clear hE; clear hg ho hb) | (go_at_call_of 18 (Value.slice A1 (List.length r1) C1); refine (toOrder_any _ r1 _ (H1.out.below E3.out.below) HB1.out).mono ?_; rintro e w4 ⟨gw4, Gw4, rfl, hg, ho, hb⟩; have hE := E3.out.copyR HM1.out hg ho hb; simp only [List.cons_append, List.nil_append] at hE; have E4 := Lib.hid hE; clear hE; clear hg ho hb) | (go_at_call_of 19 (Value.slice A2 (List.length x2) C2); refine (toIntS_any _ x2 _ (H2.out.below E4.out.below) HL2.out).mono ?_; rintro e w5 ⟨rfl, ho, hz, hb⟩; have hE := E4.out.copyI HM2.out ho hz hb; simp only [List.cons_append, List.nil_append] at hE; have E5 := Lib.hid hE; clear hE; clear ho hz hb) | (go_at_call_of 19 (Value.slice A3 (List.length x3) C3); refine (toIntS_any _ x3 _ (H3.out.below E5.out.below) HL3.out).mono ?_; rintro e w6 ⟨rfl, ho, hz, hb⟩; have hE := E5.out.copyI HM3.out ho hz hb; simp only [List.cons_append, List.nil_append] at hE; have E6 := Lib.hid hE; clear hE; clear ho hz hb) | (go_at_call 40; refine (HS.out _ _ _ _ _ (E6.out.rows 2 rfl) (E6.out.rows 3 rfl) (E6.out.ints 4 rfl) (E6.out.ints 5 rfl)).mono ?_; rintro e w7 ⟨u, rfl, hu, hb⟩; obtain ⟨aU, CU, rfl⟩ := hu.form; have hE := (E6.out.take 2).pushI hb hu; simp only [List.cons_append, List.nil_append, List.take_succ_cons, List.take_zero] at hE; have E7 := Lib.hid hE; clear hE; clear hb hu))
  clear hc3 hc4
  have hc5 := E7.out.cell 0 rfl
  go_wp2_with fail
  refine (toOrder_any _ r0 _ (H0.out.below E7.out.below) HB0.out).mono ?_
  rintro e w8 ⟨gw8, Gw8, rfl, hg, ho, hb⟩
  have hE := (E7.out.copyR HM0.out hg ho hb).box 28 (whole gw8 r0.length)
  simp only [List.cons_append, List.nil_append] at hE
  have E8 := Lib.hid hE
  clear hE hg ho hb hc5 E7
  have hc6 := E8.out.cell 1 rfl
  go_wp2_with fail
  refine (toOrder_any _ r1 _ (H1.out.below E8.out.below) HB1.out).mono ?_
  rintro e w9 ⟨gw9, Gw9, rfl, hg, ho, hb⟩
  have hE := (E8.out.copyR HM1.out hg ho hb).box 28 (whole gw9 r1.length)
  simp only [List.cons_append, List.nil_append] at hE
  have E9 := Lib.hid hE
  clear hE hg ho hb hc6 E8
  go_wp2_with fail
  refine (toIntS_any _ x2 _ (H2.out.below E9.out.below) HL2.out).mono ?_
  rintro e w10 ⟨rfl, ho, hz, hb⟩
  have hE := E9.out.copyI HM2.out ho hz hb
  simp only [World.size_alloc] at hE
  simp only [List.cons_append, List.nil_append] at hE
  have E10 := Lib.hid hE
  clear hE ho hz hb E9
  go_wp2_with fail
  refine (toIntS_any _ x3 _ (H3.out.below E10.out.below) HL3.out).mono ?_
  rintro e w11 ⟨rfl, ho, hz, hb⟩
  have hE := E10.out.copyI HM3.out ho hz hb
  simp only [List.cons_append, List.nil_append] at hE
  have E11 := Lib.hid hE
  clear hE ho hz hb E10
  have hc7 := E11.out.cell 4 rfl
  have hc8 := E11.out.cell 6 rfl
  go_wp2_with fail
  refine (HI.out _ _ _ _ _ (E11.out.rows 3 rfl) (E11.out.rows 5 rfl) (E11.out.ints 7 rfl) (E11.out.ints 8 rfl) (HTT.out.below E11.out.below)).mono ?_
  rintro e w12 ⟨u, rfl, hu, hb⟩
  obtain ⟨aG, CG, rfl⟩ := hu.form
  have hE := E11.out.pushI hb hu; simp only [List.cons_append, List.nil_append] at hE; have E12 := Lib.hid hE; clear hE
  clear hb hu E11 hc7 hc8
  have heq := eqIntS_any _ _ xs xs _ (E12.out.ints 9 rfl) (E12.out.ints 2 rfl)
  rw [decide_eq_true (rfl : xs = xs)] at heq
  go_wp2_with fail
  refine heq.mono ?_
  clear heq
  rintro e w13 ⟨rfl, nw13, rfl⟩
  have hE := E12.out.drewN nw13
  generalize World.drewN _ nw13 = Ww13 at hE ⊢
  have E13 := Lib.hid hE
  clear hE E12
  have hc9 := E13.out.cell 4 rfl
  have hc10 := E13.out.cell 0 rfl
  go_wp2_with fail
  go_region_held3 (fun W' : World => W'.cell? ⟨w8.heap.size, 0, none⟩ = some (whole gw8 r0.length) ∧ W'.cell? ⟨w.heap.size, 0, none⟩ = some (.slice A0 r0.length C0)) (first | exact ⟨E15.out.cell 4 rfl, E15.out.cell 0 rfl⟩ | exact ⟨E14.out.cell 4 rfl, E14.out.cell 0 rfl⟩ | exact ⟨E13.out.drew.cell 4 rfl, E13.out.drew.cell 0 rfl⟩) (first | (go_at_call 18; refine (toOrder_any _ r0 _ (H0.out.below E13.out.drew.below) HB0.out).mono ?_; rintro e w14 ⟨gw14, Gw14, rfl, hg, ho, hb⟩; have hE := E13.out.drew.copyR HM0.out hg ho hb; simp only [List.cons_append, List.nil_append] at hE; have E14 := Lib.hid hE; clear hE; have heq := eqOrder_any _ _ r0 r0 w14 (E14.out.rows 3 rfl) (E14.out.rows 10 rfl); rw [decide_eq_true (rfl : r0 = r0)] at heq; have HEQ := Lib.hid heq; clear heq hg ho hb) | (go_at_call 21; refine HEQ.out.mono ?_; clear HEQ; rintro e w15 ⟨rfl, hb⟩; have hE := (E14.out.take 10).step hb; simp only [List.take_succ_cons, List.take_zero] at hE; have E15 := Lib.hid hE; clear hE; clear hb))
  clear hc9 hc10
  have hc11 := E15.out.cell 6 rfl
  have hc12 := E15.out.cell 1 rfl
  go_wp2_with fail
  go_region_held3 (fun W' : World => W'.cell? ⟨w9.heap.size, 0, none⟩ = some (whole gw9 r1.length) ∧ W'.cell? ⟨w.heap.size + 1, 0, none⟩ = some (.slice A1 r1.length C1)) (first | exact ⟨E17.out.cell 6 rfl, E17.out.cell 1 rfl⟩ | exact ⟨E16.out.cell 6 rfl, E16.out.cell 1 rfl⟩ | exact ⟨E15.out.drew.cell 6 rfl, E15.out.drew.cell 1 rfl⟩) (first | (go_at_call 18; refine (toOrder_any _ r1 _ (H1.out.below E15.out.drew.below) HB1.out).mono ?_; rintro e w16 ⟨gw16, Gw16, rfl, hg, ho, hb⟩; have hE := E15.out.drew.copyR HM1.out hg ho hb; simp only [List.cons_append, List.nil_append] at hE; have E16 := Lib.hid hE; clear hE; have heq := eqOrder_any _ _ r1 r1 w16 (E16.out.rows 5 rfl) (E16.out.rows 10 rfl); rw [decide_eq_true (rfl : r1 = r1)] at heq; have HEQ := Lib.hid heq; clear heq hg ho hb) | (go_at_call 21; refine HEQ.out.mono ?_; clear HEQ; rintro e w17 ⟨rfl, hb⟩; have hE := (E16.out.take 10).step hb; simp only [List.take_succ_cons, List.take_zero] at hE; have E17 := Lib.hid hE; clear hE; clear hb))
  clear hc11 hc12
  go_wp2_with fail
  refine (toIntS_any _ x2 _ (H2.out.below E17.out.below) HL2.out).mono ?_
  rintro e w18 ⟨rfl, ho, hz, hb⟩
  have hE := E17.out.copyI HM2.out ho hz hb; simp only [List.cons_append, List.nil_append] at hE; have E18 := Lib.hid hE; clear hE
  have heq := eqIntS_any _ _ x2 x2 w18 (E18.out.ints 7 rfl) (E18.out.ints 10 rfl)
  rw [decide_eq_true (rfl : x2 = x2)] at heq
  clear ho hz hb E17
  go_wp2_with fail
  refine heq.mono ?_
  clear heq
  rintro e w19 ⟨rfl, nw19, rfl⟩
  have hE := (E18.out.take 10).drewN nw19
  simp only [List.take_succ_cons, List.take_zero] at hE
  generalize World.drewN _ nw19 = Ww19 at hE ⊢
  have E19 := Lib.hid hE
  clear hE E18
  go_wp2_with fail
  refine (toIntS_any _ x3 _ (H3.out.below E19.out.below) HL3.out).mono ?_
  rintro e w20 ⟨rfl, ho, hz, hb⟩
  have hE := E19.out.copyI HM3.out ho hz hb; simp only [List.cons_append, List.nil_append] at hE; have E20 := Lib.hid hE; clear hE
  have heq := eqIntS_any _ _ x3 x3 w20 (E20.out.ints 8 rfl) (E20.out.ints 10 rfl)
  rw [decide_eq_true (rfl : x3 = x3)] at heq
  clear ho hz hb E19
  go_wp2_with fail
  refine heq.mono ?_
  clear heq
  rintro e w21 ⟨rfl, nw21, rfl⟩
  have hE := (E20.out.take 10).drewN nw21
  simp only [List.take_succ_cons, List.take_zero] at hE
  generalize World.drewN _ nw21 = Ww21 at hE ⊢
  have E21 := Lib.hid hE
  clear hE E20
  have hc13 := E21.out.cell 4 rfl
  have hmk := markOrder_any _ r0 (1) _ _ _ (E21.out.ownR 3 rfl) (E21.out.boundsR 3 rfl).1 (E21.out.boundsR 3 rfl).2 (by omega) (by have := HL0.out; have := HL1.out; have := HL2.out; have := HL3.out; omega)
  go_wp2_with fail
  refine hmk.mono ?_
  clear hmk
  rintro e w22 ⟨rfl, ho, ht⟩
  have hE := E21.out.turnR 3 rfl ht ho; simp only [List.set_cons_succ, List.set_cons_zero] at hE; have E22 := Lib.hid hE; clear hE
  clear ho ht hc13 E21
  have hc14 := E22.out.cell 6 rfl
  have hmk := markOrder_any _ r1 (1 + ((lens r0 r0.length : Nat) : Int)) _ _ _ (E22.out.ownR 5 rfl) (E22.out.boundsR 5 rfl).1 (E22.out.boundsR 5 rfl).2 (by omega) (by have := HL0.out; have := HL1.out; have := HL2.out; have := HL3.out; omega)
  go_wp2_with fail
  refine hmk.mono ?_
  clear hmk
  rintro e w23 ⟨rfl, ho, ht⟩
  have hE := E22.out.turnR 5 rfl ht ho; simp only [List.set_cons_succ, List.set_cons_zero] at hE; have E23 := Lib.hid hE; clear hE
  clear ho ht hc14 E22
  have hmk := markIntS_any _ x2 (1 + ((lens r0 r0.length : Nat) : Int) + ((lens r1 r1.length : Nat) : Int)) _ _ _ (E23.out.ownI 7 rfl) (by omega) (by have := HL0.out; have := HL1.out; have := HL2.out; have := HL3.out; omega)
  go_wp2_with fail
  refine hmk.mono ?_
  clear hmk
  rintro e w24 ⟨rfl, ho, hg⟩
  have hE := E23.out.turnI 7 rfl hg ho; simp only [List.set_cons_succ, List.set_cons_zero] at hE; have E24 := Lib.hid hE; clear hE
  clear ho hg E23
  have hmk := markIntS_any _ x3 (1 + ((lens r0 r0.length : Nat) : Int) + ((lens r1 r1.length : Nat) : Int) + (x2.length : Int)) _ _ _ (E24.out.ownI 8 rfl) (by omega) (by have := HL0.out; have := HL1.out; have := HL2.out; have := HL3.out; omega)
  go_wp2_with fail
  refine hmk.mono ?_
  clear hmk
  rintro e w25 ⟨rfl, ho, hg⟩
  have hE := E24.out.turnI 8 rfl hg ho; simp only [List.set_cons_succ, List.set_cons_zero] at hE; have E25 := Lib.hid hE; clear hE
  clear ho hg E24
  have hpos : ¬ (1 + ((lens r0 r0.length : Nat) : Int) + ((lens r1 r1.length : Nat) : Int) + (x2.length : Int) + (x3.length : Int) < 0) := by omega
  have heq := eqIntS_any _ _ xs xs _ (E25.out.ints 9 rfl) (E25.out.ints 2 rfl)
  rw [decide_eq_true (rfl : xs = xs)] at heq
  go_wp2_with fail
  refine heq.mono ?_
  clear heq
  rintro e w26 ⟨rfl, nw26, rfl⟩
  have hE := E25.out.drewN nw26
  generalize World.drewN _ nw26 = Ww26 at hE ⊢
  have E26 := Lib.hid hE
  clear hE E25
  have hmk := markIntS_any _ xs 1 _ _ _ (E26.out.ownI 9 rfl) (by omega) (by have := HX.out; omega)
  go_wp2_with fail
  refine hmk.mono ?_
  clear hmk
  rintro e w27 ⟨rfl, ho, hg⟩
  have hE := E26.out.turnI 9 rfl hg ho; simp only [List.set_cons_succ, List.set_cons_zero] at hE; have E27 := Lib.hid hE; clear hE
  clear ho hg E26
  have hpos2 : ¬ (1 + (xs.length : Int) < 0) := by omega
  have hq : ((1 + (xs.length : Int)) != (1 + (xs.length : Int))) = false := bne_self_eq_false _
  have hhd := heldIntS_any _ 1 xs.length _ (E27.out.ints 9 rfl) (by omega) (by have := HX.out; omega)
  go_wp2_with fail
  refine hhd.mono ?_
  clear hhd
  rintro e w28 ⟨rfl, nw28, rfl⟩
  have hE := E27.out.drewN nw28
  generalize World.drewN _ nw28 = Ww28 at hE ⊢
  have E28 := Lib.hid hE
  clear hE E27
  have HQ := Lib.hid hq
  have HPP := Lib.hid hpos2
  have HNE := Lib.hid hne
  clear hq hpos hpos2 hne
  have hc15 := E28.out.cell 0 rfl
  have hc16 := E28.out.cell 1 rfl
  go_wp2_with fail
  go_region_held3 (fun W' : World => W'.cell? ⟨w.heap.size, 0, none⟩ = some (.slice A0 r0.length C0) ∧ W'.cell? ⟨w.heap.size + 1, 0, none⟩ = some (.slice A1 r1.length C1)) (first | exact ⟨E33.out.cell 0 rfl, E33.out.cell 1 rfl⟩ | exact ⟨E32.out.cell 0 rfl, E32.out.cell 1 rfl⟩ | exact ⟨E31.out.cell 0 rfl, E31.out.cell 1 rfl⟩ | exact ⟨E30.out.cell 0 rfl, E30.out.cell 1 rfl⟩ | exact ⟨E29.out.cell 0 rfl, E29.out.cell 1 rfl⟩ | exact ⟨E28.out.drew.cell 0 rfl, E28.out.drew.cell 1 rfl⟩) (first | (go_at_call_of 18 (Value.slice A0 (List.length r0) C0); refine (toOrder_any _ r0 _ (H0.out.below E28.out.drew.below) HB0.out).mono ?_; rintro e w29 ⟨gw29, Gw29, rfl, hg, ho, hb⟩; have hE := E28.out.drew.copyR HM0.out hg ho hb; simp only [List.cons_append, List.nil_append] at hE; have E29 := Lib.hid hE; clear hE; clear hg ho hb) | (go_at_call_of 18 (Value.slice A1 (List.length r1) C1); refine (toOrder_any _ r1 _ (H1.out.below E29.out.below) HB1.out).mono ?_; rintro e w30 ⟨gw30, Gw30, rfl, hg, ho, hb⟩; have hE := E29.out.copyR HM1.out hg ho hb; simp only [List.cons_append, List.nil_append] at hE; have E30 := Lib.hid hE; clear hE; clear hg ho hb) | (go_at_call_of 19 (Value.slice A2 (List.length x2) C2); refine (toIntS_any _ x2 _ (H2.out.below E30.out.below) HL2.out).mono ?_; rintro e w31 ⟨rfl, ho, hz, hb⟩; have hE := E30.out.copyI HM2.out ho hz hb; simp only [List.cons_append, List.nil_append] at hE; have E31 := Lib.hid hE; clear hE; clear ho hz hb) | (go_at_call_of 19 (Value.slice A3 (List.length x3) C3); refine (toIntS_any _ x3 _ (H3.out.below E31.out.below) HL3.out).mono ?_; rintro e w32 ⟨rfl, ho, hz, hb⟩; have hE := E31.out.copyI HM3.out ho hz hb; simp only [List.cons_append, List.nil_append] at hE; have E32 := Lib.hid hE; clear hE; clear ho hz hb) | (go_at_call 41; refine (HI.out _ _ _ _ _ (E32.out.rows 10 rfl) (E32.out.rows 11 rfl) (E32.out.ints 12 rfl) (E32.out.ints 13 rfl) (HTT.out.below E32.out.below)).mono ?_; rintro e w33 ⟨u, rfl, hu, hb⟩; obtain ⟨aV, CV, rfl⟩ := hu.form; have hE := (E32.out.take 10).pushI hb hu; simp only [List.cons_append, List.nil_append, List.take_succ_cons, List.take_zero] at hE; have E33 := Lib.hid hE; clear hE; clear hb hu))
  clear hc15 hc16
  have hq := HQ.out
  have hpos2 := HPP.out
  have hne := HNE.out
  have heq := eqIntS_any _ _ xs xs _ (E33.out.ints 10 rfl) (E33.out.ints 2 rfl)
  rw [decide_eq_true (rfl : xs = xs)] at heq
  go_wp2_with fail
  refine heq.mono ?_
  clear heq
  rintro e w34 ⟨rfl, nw34, rfl⟩
  have hE := E33.out.drewN nw34
  generalize World.drewN _ nw34 = Ww34 at hE ⊢
  have E34 := Lib.hid hE
  clear hE E33
  have hhd := heldIntS_any _ 1 xs.length _ (E34.out.ints 9 rfl) (by omega) (by have := HX.out; omega)
  go_wp2_with fail
  refine hhd.mono ?_
  clear hhd
  rintro e w35 ⟨rfl, nw35, rfl⟩
  have hE := E34.out.drewN nw35
  generalize World.drewN _ nw35 = Ww35 at hE ⊢
  have E35 := Lib.hid hE
  clear hE E34
  go_wp2
  go_ret
  exact ⟨rfl, E35.out.below⟩
end Go.Proofs.YtnniffjjbekodaaDoor
