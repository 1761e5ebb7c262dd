/- The program's funTypeOf: two domains, and lists that are monotone functions between them. -/
import Derived.Test.YtkomghohdhengaaDoorPc22
import Derived.Test.YtkomghohdhengaaDoorPc20
import Derived.Laws.MakeOwn
import Derived.Test.YtkomghohdhengaaDoorPc23
import Derived.Test.YtkomghohdhengaaDoorPc19
import Derived.Lib.QuietBelow
import Derived.BigQuiet
import Derived.Test.YtkomghohdhengaaDoorPc16
import Derived.Test.YtkomghohdhengaaDoorPc13
import Derived.Test.YtkomghohdhengaaDoorPc8
import Derived.Test.YtkomghohdhengaaDoorPc1
import Derived.Test.YtkomghohdhengaaDoorPc14
import Derived.Deep.RegionHeld3
import Derived.Deep.AppendLies
namespace Go.Proofs.YtkomghohdhengaaDoor
open Go.RowKit Go.Deep Go.Shelf

/-- Two domains, and monotone functions between them. -/
noncomputable def ftB (rows rows' : Rows2) (fs : List (List Int)) : Bool := domB rows && domB rows' && fs.all fun f => monoI rows rows' f
theorem ftB_one (rows rows' : Rows2) (f : List Int) : ftB rows rows' [f] = monoB rows rows' f := by unfold ftB monoB; simp
theorem ftB_no {rows rows' : Rows2} {fs : List (List Int)} {i : Nat} (hi : i < fs.length) (h : monoI rows rows' fs[i] = false) : ftB rows rows' fs = false := by
  unfold ftB
  rw [Bool.and_eq_false_iff]
  right
  rw [List.all_eq_false]
  exact ⟨_, List.getElem_mem hi, by rw [h]; simp⟩
theorem ftB_yes {rows rows' : Rows2} {fs : List (List Int)} (h1 : domB rows = true) (h2 : domB rows' = true) (h : ∀ i (hi : i < fs.length), monoI rows rows' fs[i] = true) : ftB rows rows' fs = true := by
  unfold ftB
  rw [h1, h2, Bool.true_and, Bool.true_and, List.all_eq_true]
  intro x hx
  obtain ⟨i, hi, rfl⟩ := List.getElem_of_mem hx
  exact h i hi

/-- What funTypeOf answers. -/
def FtP (t : Bool) (rows rows' : Rows2) (w : World) (e : Ending) (w' : World) : Prop :=
  (∃ q q' : Option Addr, e = .returned (.tuple #[.agg #[.pointer q, .pointer q'], .bool t]) ∧
    (t = true → ∃ p p' : Nat, q = some ⟨p, 0, none⟩ ∧ q' = some ⟨p', 0, none⟩ ∧ w.heap.size ≤ p ∧ w.heap.size ≤ p' ∧ GridAt w' p (gridF rows) ∧ GridAt w' p' (gridF rows'))) ∧ Below w.heap.size w w'
theorem FtP.no {t : Bool} {rows rows' : Rows2} {w w' : World} (ht : t = false) (hb : Below w.heap.size w w') : FtP t rows rows' w (.returned (.tuple #[.agg #[.pointer none, .pointer none], .bool false])) w' :=
  ⟨⟨none, none, by rw [ht], fun h => (by rw [ht] at h; cases h)⟩, hb⟩

/-- The variable of the result, as it begins. -/
def Zero2 (r : Nat) (W : World) : Prop := W.heap[r]? = some (.cells #[.pointer none, .pointer none] 72 (0, 0))
theorem Zero2.lt {r : Nat} {W : World} (h : Zero2 r W) : r < W.heap.size := by
  obtain ⟨hlt, _⟩ := Array.getElem?_eq_some_iff.1 h
  exact hlt
theorem Zero2.below {r : Nat} {W W' : World} (h : Zero2 r W) (hb : Below W.heap.size W W') : Zero2 r W' := by
  unfold Zero2
  rw [hb.block r h.lt]
  exact h
theorem Zero2.cells {r : Nat} {W : World} (h : Zero2 r W) : W.cell? ⟨r, 0, none⟩ = some (.pointer none) ∧ W.cell? ⟨r, 1, none⟩ = some (.pointer none) ∧ ∀ o, W.frozen? ⟨r, o, none⟩ = false :=
  ⟨by rw [cell_of_row W r _ _ _ _ h]; rfl, by rw [cell_of_row W r _ _ _ _ h]; rfl, fun o => frozen_of_row W r o _ _ h⟩

/-- While funTypeOf runs. -/
structure Ft (w : World) (v v' vl : Value) (rows rows' fs : Rows2) (W : World) : Prop where
  two : Two w v v' rows rows' W
  zero : Zero2 (w.heap.size + 2) W
  lists : RowsAt W vl fs
  tab : Tab W
theorem Ft.step {w : World} {v v' vl : Value} {rows rows' fs : Rows2} {W W' : World} (h : Ft w v v' vl rows rows' fs W) (hb : Below W.heap.size W W') : Ft w v v' vl rows rows' fs W' :=
  ⟨h.two.step hb, h.zero.below hb, h.lists.below hb, h.tab.below hb⟩
theorem Ft.start (w : World) {v v' vl : Value} {rows rows' fs : Rows2} (hv : RowsAt w v rows) (hv' : RowsAt w v' rows') (hl : RowsAt w vl fs) (hT : Tab w) :
    Ft w v v' vl rows rows' fs (((w.alloc (.cells #[v] 25)).alloc (.cells #[v'] 25)).alloc (.cells #[.pointer none, .pointer none] 72)) := by
  have h2 := Two.start w 25 25 hv hv'
  have s2 : ((w.alloc (.cells #[v] 25)).alloc (.cells #[v'] 25)).heap.size = w.heap.size + 2 := by rw [World.size_alloc, World.size_alloc]
  have b3 := (Below.refl ((w.alloc (.cells #[v] 25)).alloc (.cells #[v'] 25)).heap.size ((w.alloc (.cells #[v] 25)).alloc (.cells #[v'] 25))).alloc (Nat.le_refl _) (.cells #[.pointer none, .pointer none] 72)
  refine ⟨h2.step b3, ?_, (hl.below h2.below).below b3, (hT.below h2.below).below b3⟩
  have h := heap_alloc_new ((w.alloc (.cells #[v] 25)).alloc (.cells #[v'] 25)) (.cells #[.pointer none, .pointer none] 72)
  rw [s2] at h
  exact h

set_option maxRecDepth 100000 in
set_option maxHeartbeats 4000000 in
theorem funTypeOf_any (v v' vl : Value) (rows rows' fs : Rows2) (w : World) (hv : RowsAt w v rows) (hv' : RowsAt w v' rows') (hl : RowsAt w vl fs) (hT : Tab w) (hn : bulk rows ≤ 1048576) (hn' : bulk rows' ≤ 1048576) :
    Calls Tryd.prog 73 #[.agg #[v], .agg #[v'], vl] w (FtP (ftB rows rows' fs) rows rows' w) := by
  have hF := Ft.start w hv hv' hl hT
  obtain ⟨A, C, rfl, _⟩ := hv
  obtain ⟨A', C', rfl, _⟩ := hv'
  obtain ⟨Al, Cl, rfl, hCl, hml, _⟩ := hl
  unfold maxLen at hml
  have H0 := Lib.hid hF
  have hc0 := hF.two.c0
  clear hF hT
  cases h1 : domB rows with
  | false =>
    have hd := domainOf_no _ rows _ H0.out.two.r0 H0.out.tab hn h1
    have HE := Lib.hid (show ftB rows rows' fs = false by unfold ftB; rw [h1]; rfl)
    go_enter Tryd.func73, Tryd.ntmps73
    cases h2 : domB rows' with
    | false =>
      go_wp2_with (first | (go_at_call 102; refine hd.mono ?_; clear hd; rintro e w1 ⟨rfl, hb1⟩; have H1 := Lib.hid (H0.out.step hb1); have hc1 := H1.out.two.c1; have hd2 := domainOf_no _ rows' _ H1.out.two.r1 H1.out.tab hn' h2; clear hb1) | (go_at_call 102; refine hd2.mono ?_; clear hd2; rintro e w2 ⟨rfl, hb2⟩; have H2 := Lib.hid (H1.out.step hb2); obtain ⟨z0, z1, z2⟩ := H2.out.zero.cells; clear hb2))
      refine bodyPost_ret (v := .tuple #[.agg #[.pointer none, .pointer none], .bool false]) (by simp [results, Tryd.results73, go_sem, z0, z1]) rfl ?_
      exact FtP.no HE.out (H2.out.two.below.setCell (by show w.heap.size ≤ w.heap.size + 2; omega) _ |>.setCell (by show w.heap.size ≤ w.heap.size + 2; omega) _)
    | true =>
      go_wp2_with (first | (go_at_call 102; refine hd.mono ?_; clear hd; rintro e w1 ⟨rfl, hb1⟩; have H1 := Lib.hid (H0.out.step hb1); have hc1 := H1.out.two.c1; have hd2 := domainOf_yes _ rows' _ H1.out.two.r1 H1.out.tab hn' h2; clear hb1) | (go_at_call 102; refine hd2.mono ?_; clear hd2; rintro e w2 ⟨⟨p, rfl, _⟩, hb2⟩; have H2 := Lib.hid (H1.out.step hb2); obtain ⟨z0, z1, z2⟩ := H2.out.zero.cells; clear hb2))
      refine bodyPost_ret (v := .tuple #[.agg #[.pointer none, .pointer none], .bool false]) (by simp [results, Tryd.results73, go_sem, z0, z1]) rfl ?_
      exact FtP.no HE.out (H2.out.two.below.setCell (by show w.heap.size ≤ w.heap.size + 2; omega) _ |>.setCell (by show w.heap.size ≤ w.heap.size + 2; omega) _)
  | true =>
    have hd := domainOf_yes _ rows _ H0.out.two.r0 H0.out.tab hn h1
    cases h2 : domB rows' with
    | false =>
      have HE := Lib.hid (show ftB rows rows' fs = false by unfold ftB; rw [h1, h2]; rfl)
      go_enter Tryd.func73, Tryd.ntmps73
      go_wp2_with (first | (go_at_call 102; refine hd.mono ?_; clear hd; rintro e w1 ⟨⟨p, rfl, _⟩, hb1⟩; have H1 := Lib.hid (H0.out.step hb1); have hc1 := H1.out.two.c1; have hd2 := domainOf_no _ rows' _ H1.out.two.r1 H1.out.tab hn' h2; clear hb1) | (go_at_call 102; refine hd2.mono ?_; clear hd2; rintro e w2 ⟨rfl, hb2⟩; have H2 := Lib.hid (H1.out.step hb2); obtain ⟨z0, z1, z2⟩ := H2.out.zero.cells; clear hb2))
      refine bodyPost_ret (v := .tuple #[.agg #[.pointer none, .pointer none], .bool false]) (by simp [results, Tryd.results73, go_sem, z0, z1]) rfl ?_
      exact FtP.no HE.out (H2.out.two.below.setCell (by show w.heap.size ≤ w.heap.size + 2; omega) _ |>.setCell (by show w.heap.size ≤ w.heap.size + 2; omega) _)
    | true =>
      have hok := ok_of_valid (show validB rows = true by unfold domB at h1; rw [Bool.and_eq_true] at h1; exact h1.1)
      have hok' := ok_of_valid (show validB rows' = true by unfold domB at h2; rw [Bool.and_eq_true] at h2; exact h2.1)
      have HMONO := Lib.hid (fun p p' vf f W hg hg' hf => isMonotone_any p p' rows.length rows'.length (gridF rows) (gridF rows') vf f W hg hg' hok.gridN hok'.gridN hf (monoI rows rows' f) (mono_grid hok hok' f))
      have HY := Lib.hid (fun h => ftB_yes (fs := fs) h1 h2 h)
      have hsz : (((w.alloc (.cells #[.slice A rows.length C] 25)).alloc (.cells #[.slice A' rows'.length C'] 25)).alloc (.cells #[.pointer none, .pointer none] 72)).heap.size = w.heap.size + 3 := by rw [World.size_alloc, World.size_alloc, World.size_alloc]
      have HSZ := Lib.hid hsz
      clear hok hok' hsz
      go_enter Tryd.func73, Tryd.ntmps73
      go_wp2_with (first | (go_at_call 102; refine hd.mono ?_; clear hd; rintro e w1 ⟨⟨p, rfl, hp, hg⟩, hb1⟩; have H1 := Lib.hid (H0.out.step hb1); have hc1 := H1.out.two.c1; have hd2 := domainOf_yes _ rows' _ H1.out.two.r1 H1.out.tab hn' h2; have HP := Lib.hid (show w.heap.size + 3 ≤ p by rw [← HSZ.out]; exact hp); have HP1 := Lib.hid (Nat.le_trans (Nat.le_of_eq HSZ.out.symm) hb1.size); have HG := Lib.hid hg; clear hb1 hp hg) | (go_at_call 102; refine hd2.mono ?_; clear hd2; rintro e w2 ⟨⟨p', rfl, hp', hg'⟩, hb2⟩; have H2 := Lib.hid (H1.out.step hb2); have HP' := Lib.hid (Nat.le_trans HP1.out hp'); have HG2 := Lib.hid (HG.out.below hb2 HG.out.lt); have HG' := Lib.hid hg'; clear hb2 hp' hg'))
      go_loopw [13, 33] (fun _ kv wr => ∃ k : Nat, k ≤ fs.length ∧ kv = .int .i64 k ∧ (∀ i (hi : i < fs.length), i < k → monoI rows rows' fs[i] = true) ∧ GridAt wr p (gridF rows) ∧ GridAt wr p' (gridF rows') ∧ Ft w (.slice A rows.length C) (.slice A' rows'.length C') (.slice Al fs.length Cl) rows rows' fs wr) (fun _ kv _ => fs.length - (intOf kv).toNat)
      case atStart => exact ⟨0, Nat.zero_le _, rfl, fun _ _ h => absurd h (Nat.not_lt_zero _), HG2.out, HG'.out, H2.out⟩
      case round =>
        obtain ⟨k, hk, rfl, hall, hg, hg', hh⟩ := hrel
        have HA := Lib.hid hall
        have HGk := Lib.hid hg
        have HGk' := Lib.hid hg'
        have HK := Lib.hid hh
        clear hall hg hg'
        by_cases hlt : k < fs.length
        · obtain ⟨_, _, e0, _, _, hx⟩ := hh.lists
          cases e0
          obtain ⟨b0, o0, u, rfl, hcu, hu⟩ := hx k hlt
          clear hh hx
          have hcall := HMONO.out p p' u fs[k] wr HGk.out HGk'.out hu
          obtain ⟨Au, Cu, rfl, _⟩ := hu
          cases hm : monoI rows rows' fs[k] with
          | true =>
            rw [hm] at hcall
            have HM := Lib.hid hm
            clear hm
            go_wp2_with (go_at_call 104; refine hcall.mono ?_; clear hcall; rintro e w3 ⟨rfl, hb3⟩; have H3 := Lib.hid (HK.out.step hb3); have HG3 := Lib.hid (HGk.out.below hb3 HGk.out.lt); have HG3' := Lib.hid (HGk'.out.below hb3 HGk'.out.lt); clear hb3)
            go_roundw
            case rel =>
              refine ⟨k + 1, by omega, by go_num, fun i hi hlt' => ?_, HG3.out, HG3'.out, H3.out⟩
              by_cases e : i = k
              · subst e; exact HM.out
              · exact HA.out i hi (by omega)
            case measure => simp [intOf]; omega
          | false =>
            rw [hm] at hcall
            have HE := Lib.hid (ftB_no hlt hm)
            clear hm
            go_wp2_with (go_at_call 104; refine hcall.mono ?_; clear hcall; rintro e w3 ⟨rfl, hb3⟩; have H3 := Lib.hid (HK.out.step hb3); obtain ⟨z0, z1, z2⟩ := H3.out.zero.cells; clear hb3)
            refine bodyPost_ret (v := .tuple #[.agg #[.pointer none, .pointer none], .bool false]) (by simp [results, Tryd.results73, go_sem, z0, z1]) rfl ?_
            exact FtP.no HE.out (H3.out.two.below.setCell (by show w.heap.size ≤ w.heap.size + 2; omega) _ |>.setCell (by show w.heap.size ≤ w.heap.size + 2; omega) _)
        · obtain rfl : k = fs.length := by omega
          have HE := Lib.hid (HY.out fun i hi => HA.out i hi hi)
          obtain ⟨z0, z1, z2⟩ := HK.out.zero.cells
          clear hh
          go_wp2
          refine bodyPost_ret (v := .tuple #[.agg #[.pointer (some ⟨p, 0, none⟩), .pointer (some ⟨p', 0, none⟩)], .bool true]) (by simp [results, Tryd.results73, go_sem, z0, z1]) rfl ?_
          refine ⟨⟨_, _, by rw [HE.out], fun _ => ⟨p, p', rfl, rfl, by have := HP.out; omega, by have := HP'.out; omega, ?_, ?_⟩⟩, (HK.out.two.below.setCell (by show w.heap.size ≤ w.heap.size + 2; omega) _ |>.setCell (by show w.heap.size ≤ w.heap.size + 2; omega) _)⟩
          · exact (HGk.out.setOther (by have := HP.out; show p ≠ w.heap.size + 2; omega) _).setOther (by have := HP.out; show p ≠ w.heap.size + 2; omega) _
          · exact (HGk'.out.setOther (by have := HP'.out; show p' ≠ w.heap.size + 2; omega) _).setOther (by have := HP'.out; show p' ≠ w.heap.size + 2; omega) _
end Go.Proofs.YtkomghohdhengaaDoor

/- The program's FunMonotone. -/
namespace Go.Proofs.YtkomghohdhengaaDoor
open Go.RowKit Go.Deep Go.Shelf

theorem rows_one {w : World} {vf : Value} {f : List Int} (hf : IntsAt w vf f) : RowsAt (w.alloc (.cells #[vf] 26)) (.slice (some ⟨w.heap.size, 0, none⟩) 1 1) [f] := by
  refine ⟨some ⟨w.heap.size, 0, none⟩, 1, rfl, Nat.le_refl _, by unfold maxLen; omega, fun i hi => ?_⟩
  obtain rfl : i = 0 := by simpa using hi
  exact ⟨w.heap.size, 0, vf, rfl, (World.rowIs_alloc w #[vf] 26 (fun _ => vf) (fun i hi => by simp at hi; subst hi; rfl)).cell (i := 0) (by simp), hf.below ((Below.refl _ w).alloc (Nat.le_refl _) _)⟩
theorem rows_two {w : World} {vf vg : Value} {f g : List Int} (hf : IntsAt w vf f) (hg : IntsAt w vg g) : RowsAt (w.alloc (.cells #[vf, vg] 26)) (.slice (some ⟨w.heap.size, 0, none⟩) 2 2) [f, g] := by
  have hr := World.rowIs_alloc w #[vf, vg] 26 (fun i => if i = 0 then vf else vg) (fun i hi => by
    have hi' : i < 2 := by simpa using hi
    obtain rfl | rfl : i = 0 ∨ i = 1 := by omega
    · rfl
    · rfl)
  refine ⟨some ⟨w.heap.size, 0, none⟩, 2, rfl, Nat.le_refl _, by unfold maxLen; omega, fun i hi => ?_⟩
  have hi' : i < 2 := by simpa using hi
  have hc := hr.cell (i := i) (by simpa using hi')
  obtain rfl | rfl : i = 0 ∨ i = 1 := by omega
  · exact ⟨w.heap.size, 0, vf, rfl, by simp, hf.below ((Below.refl _ w).alloc (Nat.le_refl _) _)⟩
  · exact ⟨w.heap.size, 0, vg, rfl, by simp, hg.below ((Below.refl _ w).alloc (Nat.le_refl _) _)⟩

set_option maxRecDepth 100000 in
set_option maxHeartbeats 4000000 in
theorem implMono_any (v v' vf : Value) (rows rows' : Rows2) (f : List Int) (w : World) (hv : RowsAt w v rows) (hv' : RowsAt w v' rows') (hf : IntsAt w vf f) (hT : Tab w) (hn : bulk rows ≤ 1048576) (hn' : bulk rows' ≤ 1048576) :
    Calls Tryd.prog 53 #[.agg #[v], .agg #[v'], vf] w (SaysN (monoB rows rows' f) w) := by
  have h0 := TwoF.start w 25 25 hv hv' hf
  have hl := rows_one h0.2
  have b1 := (Below.refl ((w.alloc (.cells #[v] 25)).alloc (.cells #[v'] 25)).heap.size ((w.alloc (.cells #[v] 25)).alloc (.cells #[v'] 25))).alloc (Nat.le_refl _) (.cells #[vf] 26)
  have h1 := h0.step b1
  have hT1 := (hT.below h0.1.below).below b1
  have hcall := funTypeOf_any v v' _ rows rows' [f] _ h1.1.r0 h1.1.r1 hl hT1 hn hn'
  have hs : ((w.alloc (.cells #[v] 25)).alloc (.cells #[v'] 25)).heap.size = w.heap.size + 2 := by rw [World.size_alloc, World.size_alloc]
  rw [ftB_one, hs] at hcall
  generalize monoB rows rows' f = t at hcall ⊢
  have hB := h1.1.below
  have hc0 := h0.1.c0
  have hc1 := h0.1.c1
  obtain ⟨A, C, rfl, _⟩ := hv
  obtain ⟨A', C', rfl, _⟩ := hv'
  obtain ⟨Af, Cf, rfl, _⟩ := hf
  have HB := Lib.hid hB
  clear h0 hl b1 h1 hT1 hs hB hT
  go_enter Tryd.func53, Tryd.ntmps53
  go_wp2_with (go_at_call 73; refine hcall.mono ?_; clear hcall; rintro e w1 ⟨⟨q, q', rfl, _⟩, hb1⟩; have H1 := Lib.hid (HB.out.trans (hb1.mono HB.out.size)); clear hb1)
  go_ret
  exact ⟨rfl, H1.out.alloc H1.out.size _⟩
end Go.Proofs.YtkomghohdhengaaDoor

/- The program's FunPair. -/
namespace Go.Proofs.YtkomghohdhengaaDoor
open Go.RowKit Go.Deep Go.Shelf

set_option maxRecDepth 100000 in
set_option maxHeartbeats 4000000 in
theorem paired_any (vf vg : Value) (f g : List Int) (n : Nat) (w : World) (hf : IntsAt w vf f) (hg : IntsAt w vg g) (hfl : f.length ≤ 200) (hgl : g.length = f.length) (hn : n ≤ 200)
    (hrf : ∀ x ∈ f, 0 ≤ x ∧ x ≤ 200) (hrg : ∀ x ∈ g, 0 ≤ x ∧ x ≤ 200) :
    Calls Tryd.prog 107 #[vf, vg, .int .i64 (n : Int)] w (OwnQ (pairN f g n f.length) w) := by
  have HFA := Lib.hid (fun W (h : Below w.heap.size w W) => hf.below h)
  have HGA := Lib.hid (fun W (h : Below w.heap.size w W) => hg.below h)
  have HRF := Lib.hid hrf
  have HRG := Lib.hid hrg
  have HGL := Lib.hid hgl
  obtain ⟨Af, Cf, rfl, hCf, hmf, _⟩ := hf
  obtain ⟨Ag, Cg, rfl, hCg, hmg, _⟩ := hg
  unfold maxLen at hmf hmg
  have hmk := run_make_row' (P := Tryd.prog) 75 3 (.int .i64 0) 8 Tryd.underlying75 infoInt rfl .i64 .i64 f.length (by omega) (by omega)
  have HRW := Lib.hid (World.rowIs_made w (.int .i64 0) f.length 3)
  have HB0 := Lib.hid ((Below.refl w.heap.size w).alloc (Nat.le_refl _) (.cells (madeCells #[.int .i64 0] f.length) 3))
  clear hrf hrg hgl
  go_enter Tryd.func107, Tryd.ntmps107
  go_wp2
  clear hmk
  go_loopw [8, 14] (fun _ kv wr => ∃ k : Nat, k ≤ f.length ∧ kv = .int .i64 k ∧ wr.rowIs w.heap.size 3 f.length (fun i => if i < k then .int .i64 (f.getD i 0 * (n : Int) + g.getD i 0) else .int .i64 0) ∧ Below w.heap.size w wr) (fun _ kv _ => f.length - (intOf kv).toNat)
  case atStart => exact ⟨0, Nat.zero_le _, rfl, HRW.out.congr (fun i _ => by rw [if_neg (Nat.not_lt_zero i)]), HB0.out⟩
  case round =>
    obtain ⟨k, hk, rfl, hr, hB⟩ := hrel
    have HR := Lib.hid hr
    have HB := Lib.hid hB
    clear hB HRW HB0
    by_cases hlt : k < f.length
    · have hc := hr.cell hlt
      have hfz := hr.frozen k
      rw [if_neg (Nat.lt_irrefl k)] at hc
      have hkz : (k : Int) < (f.length : Int) := by omega
      have hltg : k < g.length := by have := HGL.out; omega
      have hkg : (k : Int) < (g.length : Int) := by omega
      obtain ⟨b1, o1, rfl, hcf⟩ := (HFA.out wr HB.out).get hlt
      obtain ⟨b2, o2, rfl, hcg⟩ := (HGA.out wr HB.out).get hltg
      have hr1 := HRF.out _ (List.getElem_mem hlt)
      have hr2 := HRG.out _ (List.getElem_mem hltg)
      have hpk := mul_small (a := f[k]) (b := (n : Int)) hr1.1 hr1.2 (by omega) (by omega)
      have HA := Lib.hid (show f.getD k 0 * (n : Int) + g.getD k 0 = f[k] * (n : Int) + g[k] by rw [getD_lt 0 hlt, getD_lt 0 hltg])
      have HRD := Lib.hid (show wr.drew.rowIs w.heap.size 3 f.length _ from HR.out)
      have HBD := Lib.hid (HB.out.trans (below_drew wr _))
      have hcd : wr.drew.cell? ⟨w.heap.size, k, none⟩ = some (.int .i64 0) := hc
      have hfd : wr.drew.frozen? ⟨w.heap.size, k, none⟩ = false := hfz
      clear hr
      go_upto_region 5 with fail
      go_still_tail 14, (by kernel_rfl)
      change wpList _ _ _ _ _ wr.drew
      clear hcf hcg hc hfz
      generalize wr.drew = wd at HRD HBD hcd hfd ⊢
      go_wp2
      go_roundw
      case rel =>
        refine ⟨k + 1, by omega, by go_num, (HRD.out.set k (.int .i64 (f[k] * (n : Int) + g[k]))).congr (fun i hi => ?_), HBD.out.setCell (p := ⟨w.heap.size, k, none⟩) (Nat.le_refl _) _⟩
        by_cases e : i = k
        · subst e; rw [if_pos (Nat.lt_succ_self i), HA.out]; simp
        · by_cases e2 : i < k
          · simp [e, e2, show i < k + 1 by omega]
          · simp [e, e2, show ¬ i < k + 1 by omega]
      case measure => simp [intOf]; omega
    · obtain rfl : k = f.length := by omega
      clear hr
      go_wp2
      go_ret
      have hl := pairN_length f g n f.length
      refine ⟨_, rfl, ⟨?_, .inr ⟨w.heap.size, f.length, _, by rw [hl]; rfl, by rw [hl]; exact Nat.le_refl _, by unfold maxLen; omega, Nat.le_refl _, HR.out.lt, HR.out, fun i hi => ?_⟩⟩, HB.out⟩
      · intro y hy
        unfold pairN at hy
        obtain ⟨i, hi, rfl⟩ := List.mem_map.1 hy
        rw [List.mem_range] at hi
        have hig : i < g.length := by have := HGL.out; omega
        rw [getD_lt 0 hi, getD_lt 0 hig]
        have hr1 := HRF.out _ (List.getElem_mem hi)
        have hr2 := HRG.out _ (List.getElem_mem hig)
        have hpk := mul_small (a := f[i]) (b := (n : Int)) hr1.1 hr1.2 (by omega) (by omega)
        exact wf_int (by omega) (by omega)
      · rw [hl] at hi
        simp [pairN, hi]

set_option maxRecDepth 100000 in
set_option maxHeartbeats 4000000 in
theorem implPair_any (v v' v2 vf vg : Value) (rows rows' rows2 : Rows2) (f g : List Int) (w : World) (hv : RowsAt w v rows) (hv' : RowsAt w v' rows') (hv2 : RowsAt w v2 rows2) (hf : IntsAt w vf f) (hg : IntsAt w vg g) (hT : Tab w)
    (hn : bulk rows ≤ 1048576) (hn' : bulk rows' ≤ 1048576) (hn2 : bulk rows2 ≤ 1048576) :
    Calls Tryd.prog 48 #[.agg #[v], .agg #[v'], .agg #[v2], vf, vg] w (OwnB (pairL rows rows' rows2 f g) (pairOk rows rows' rows2 f g) w) := by
  have h0 := ThrL.start w 25 hv hv' hv2 hf hg
  have hT0 := hT.below h0.below
  have hd1 := implMono_any _ _ _ rows rows' f _ h0.thr.two.r0 h0.thr.two.r1 h0.f hT0 hn hn'
  obtain ⟨A, C, rfl, _⟩ := hv
  obtain ⟨A', C', rfl, _⟩ := hv'
  obtain ⟨A2, C2, rfl, _⟩ := hv2
  obtain ⟨Af, Cf, rfl, _⟩ := hf
  obtain ⟨Ag, Cg, rfl, _⟩ := hg
  have H0 := Lib.hid h0
  have T0 := Lib.hid hT0
  have hc0 := h0.thr.two.c0
  have hc1 := h0.thr.two.c1
  clear h0 hT0 hT
  cases h1 : monoB rows rows' f with
  | false =>
    rw [h1] at hd1
    have HE := Lib.hid (show pairOk rows rows' rows2 f g = false by unfold pairOk; rw [h1]; rfl)
    go_enter Tryd.func48, Tryd.ntmps48
    go_wp2_with (go_at_call 53; refine hd1.mono ?_; clear hd1; rintro e w1 ⟨rfl, hb1⟩; have H1 := Lib.hid (H0.out.step hb1); clear hb1)
    go_ret2
    refine ⟨_, by rw [HE.out]; rfl, ?_, H1.out.below⟩
    unfold pairL
    rw [HE.out]
    exact OwnI.nil _ _ _ _
  | true =>
    rw [h1] at hd1
    cases h2 : monoB rows rows2 g with
    | false =>
      have HE := Lib.hid (show pairOk rows rows' rows2 f g = false by unfold pairOk; rw [h1, h2]; rfl)
      go_enter Tryd.func48, Tryd.ntmps48
      go_wp2_with (first | (go_at_call 53; refine hd1.mono ?_; clear hd1; rintro e w1 ⟨rfl, hb1⟩; have H1 := Lib.hid (H0.out.step hb1); have hd2 := implMono_any _ _ _ rows rows2 g _ H1.out.thr.two.r0 H1.out.thr.r2 H1.out.g (T0.out.below hb1) hn hn2; rw [h2] at hd2; have he1 := H1.out.thr.two.c0; have he2 := H1.out.thr.c2; clear hb1) | (go_at_call 53; refine hd2.mono ?_; clear hd2; rintro e w2 ⟨rfl, hb2⟩; have H2 := Lib.hid (H1.out.step hb2); clear hb2))
      go_ret2
      refine ⟨_, by rw [HE.out]; rfl, ?_, H2.out.below⟩
      unfold pairL
      rw [HE.out]
      exact OwnI.nil _ _ _ _
    | true =>
      obtain ⟨hD, hD', hm1⟩ := monoB_parts h1
      obtain ⟨_, hD2, hm2⟩ := monoB_parts h2
      have hl' := dom_len hD'
      have hl2 := dom_len hD2
      have hp := mul_small (a := (rows'.length : Int)) (b := (rows2.length : Int)) (by omega) (by omega) (by omega) (by omega)
      by_cases hle : rows'.length * rows2.length ≤ 200
      · have HE := Lib.hid (show pairOk rows rows' rows2 f g = true by unfold pairOk; rw [h1, h2, decide_eq_true hle]; rfl)
        have hpi : (rows'.length : Int) * (rows2.length : Int) ≤ 200 := by
          have := Int.ofNat_le.2 hle
          rw [Int.natCast_mul] at this
          exact this
        have hl200 := dom_len hD
        have HC := Lib.hid (fun W h h' => paired_any (.slice Af f.length Cf) (.slice Ag g.length Cg) f g rows2.length W h h' (by rw [hm1.1]; exact hl200) (by rw [hm1.1, hm2.1]) hl2 (fun x hx => by have := hm1.2.1 x hx; omega) (fun x hx => by have := hm2.2.1 x hx; omega))
        clear hm1 hm2 hD hD' hD2 hle hl200
        go_enter Tryd.func48, Tryd.ntmps48
        go_wp2_with (first | (go_at_call 53; refine hd1.mono ?_; clear hd1; rintro e w1 ⟨rfl, hb1⟩; have H1 := Lib.hid (H0.out.step hb1); have hd2 := implMono_any _ _ _ rows rows2 g _ H1.out.thr.two.r0 H1.out.thr.r2 H1.out.g (T0.out.below hb1) hn hn2; rw [h2] at hd2; have he1 := H1.out.thr.two.c0; have he2 := H1.out.thr.c2; clear hb1) | (go_at_call 53; refine hd2.mono ?_; clear hd2; rintro e w2 ⟨rfl, hb2⟩; have H2 := Lib.hid (H1.out.step hb2); have he3 := H2.out.thr.two.c1; have he4 := H2.out.thr.c2; clear hb2 he1 he2) | (go_at_call 107; refine (HC.out _ H2.out.f H2.out.g).mono ?_; rintro e w3 ⟨u, rfl, hu, hb3⟩; have HU := Lib.hid hu; have B3 := Lib.hid hb3; clear hu hb3))
        go_ret2
        refine ⟨u, by rw [HE.out]; rfl, ?_, H2.out.below.trans (B3.out.mono H2.out.below.size)⟩
        unfold pairL
        rw [if_pos HE.out]
        exact HU.out.wider H2.out.below.size (Nat.le_refl _)
      · have HE := Lib.hid (show pairOk rows rows' rows2 f g = false by unfold pairOk; rw [decide_eq_false hle, Bool.and_false])
        have hpi : (200 : Int) < (rows'.length : Int) * (rows2.length : Int) := by
          have := Int.ofNat_lt.2 (show 200 < rows'.length * rows2.length by omega)
          rw [Int.natCast_mul] at this
          exact this
        clear hm1 hm2 hD hD' hD2 hle
        go_enter Tryd.func48, Tryd.ntmps48
        go_wp2_with (first | (go_at_call 53; refine hd1.mono ?_; clear hd1; rintro e w1 ⟨rfl, hb1⟩; have H1 := Lib.hid (H0.out.step hb1); have hd2 := implMono_any _ _ _ rows rows2 g _ H1.out.thr.two.r0 H1.out.thr.r2 H1.out.g (T0.out.below hb1) hn hn2; rw [h2] at hd2; have he1 := H1.out.thr.two.c0; have he2 := H1.out.thr.c2; clear hb1) | (go_at_call 53; refine hd2.mono ?_; clear hd2; rintro e w2 ⟨rfl, hb2⟩; have H2 := Lib.hid (H1.out.step hb2); have he3 := H2.out.thr.two.c1; have he4 := H2.out.thr.c2; clear hb2 he1 he2))
        go_ret2
        refine ⟨_, by rw [HE.out]; rfl, ?_, H2.out.below⟩
        unfold pairL
        rw [HE.out]
        exact OwnI.nil _ _ _ _
end Go.Proofs.YtkomghohdhengaaDoor

/- The walk of isMonotone: from a grid to a product of two grids. -/
namespace Go.Proofs.YtkomghohdhengaaDoor
open Go.RowKit Go.Deep Go.Shelf

set_option maxRecDepth 100000 in
set_option maxHeartbeats 8000000 in
theorem prodMono_any (b p p' m m' : Nat) (g h h' : Nat → Nat) (n n' : Nat) (vf : Value) (f : List Int) (w : World) (hg : GridAt w b g) (hn : GridN g n) (kg : GridAt w p h) (kg' : GridAt w p' h') (kn : GridN h m) (kn' : GridN h' m') (hNN : n' = m * m') (hf : IntsAt w vf f) (t : Bool) (ht : t = true ↔ MonoQ (bitB g) (prodB h h' m') n n' f) :
    Calls Tryd.prog 104 #[.iface 70 (.pointer (some ⟨b, 0, none⟩)), .iface 114 (.agg #[gridV p, gridV p']), vf] w (SaysN t w) := by
  have hmS := run_size
  have hmB := run_below
  have hmN := fun b w => run_nilAhead 296 b w
  have hmS2 := run_prod_size
  have hmB2 := run_prod_below
  have hmN2 := fun v v' w => run_prod_nilAhead 296 v v' w
  have hM : MK w (fun W => GridAt W b g ∧ (GridAt W p h ∧ GridAt W p' h')) vf f w := ⟨⟨hg, kg, kg'⟩, hf, Below.refl _ _⟩
  have hK : Stays w (fun W => GridAt W b g ∧ (GridAt W p h ∧ GridAt W p' h')) := (Stays.grid hg.lt).and (Stays.grids kg.lt kg'.lt)
  have hnle : n ≤ 200 := hn.le
  have hnle' : n' ≤ 40000 := by rw [hNN]; exact Nat.le_trans (Nat.mul_le_mul kn.le kn'.le) (by decide)
  have hsz := fun W (hk : (fun W => GridAt W b g ∧ (GridAt W p h ∧ GridAt W p' h')) W) => size_any b n g W hk.1 hn.le hn.some hn.none
  have hsz' := fun W (hk : (fun W => GridAt W b g ∧ (GridAt W p h ∧ GridAt W p' h')) W) => (show Calls Tryd.prog 103 #[.agg #[gridV p, gridV p']] W (SaysI ((n' : Nat) : Int) W) by rw [hNN]; exact prodSize_any p p' m m' h h' W hk.2.1 hk.2.2 kn kn')
  have hbF := fun W (hk : (fun W => GridAt W b g ∧ (GridAt W p h ∧ GridAt W p' h')) W) (x y : Nat) (hx : x < n) (hy : y < n) => (show Calls Tryd.prog 148 #[.pointer (some ⟨b, 0, none⟩), .int .i64 (x : Int), .int .i64 (y : Int)] W (SaysN (bitB g x y) W) from gbelow_any b g x y x y W hk.1 rfl (by omega) rfl (by omega))
  have hbT := fun W (hk : (fun W => GridAt W b g ∧ (GridAt W p h ∧ GridAt W p' h')) W) (x y : Nat) (hx : x < n') (hy : y < n') => prodBelow_any p p' m m' h h' x y W hk.2.1 hk.2.2 kn kn' (by rw [← hNN]; exact hx) (by rw [← hNN]; exact hy)
  obtain ⟨Af, Cf, rfl, hCf, hmf, _, _⟩ := hf
  unfold maxLen at hmf
  have HM := Lib.hid hM
  have HSZ := Lib.hid hsz
  have HSZ' := Lib.hid hsz'
  have HT := Lib.hid ht
  have HBF := Lib.hid hbF
  have HBT := Lib.hid hbT
  have HKK := Lib.hid hK
  clear hg hn kg kg' kn kn' hM hsz hsz' hbF hbT ht hK hNN
  by_cases hfl : f.length = n
  · have hb : ((f.length : Int) == (n : Int)) = true := by rw [beq_iff_eq]; omega
    have hb2 : (f.length == n) = true := by rw [beq_iff_eq]; omega
    have hb3 : ((f.length : Int) != (n : Int)) = false := by unfold bne; rw [hb]; rfl
    have hb4 : (f.length != n) = false := by unfold bne; rw [hb2]; rfl
    have hfn : f.length ≤ 200 := by omega
    have HFL := Lib.hid hfl
    clear hfl
    by_cases hout : ∃ x ∈ f, outN n' x = true
    · obtain rfl : t = false := by
        cases t with
        | false => rfl
        | true =>
          obtain ⟨x, hx, ho⟩ := hout
          have := (HT.out.1 rfl).2.1 x hx
          rw [this] at ho
          cases ho
      have HAB := Lib.hid (fun W h => allBelow_any (.slice Af f.length Cf) f n' W false ⟨fun h => (by cases h), fun h => by obtain ⟨x, hx, ho⟩ := hout; rw [h x hx] at ho; cases ho⟩ h)
      clear hout
      go_enter Tryd.func104, Tryd.ntmps104
      go_wp2_with (first | (go_at_call 106; refine (HSZ.out _ HM.out.kept).mono ?_; clear HSZ; rintro e w1 ⟨rfl, hb1⟩; have M1 := Lib.hid (HM.out.step HKK.out hb1); clear hb1) | (go_at_call 103; refine (HSZ'.out _ M1.out.kept).mono ?_; clear HSZ'; rintro e w2 ⟨rfl, hb2⟩; have M2 := Lib.hid (M1.out.step HKK.out hb2); clear hb2) | (go_at_call 149; refine (HAB.out _ M2.out.f).mono ?_; rintro e w3 ⟨rfl, hb9⟩; have M3 := Lib.hid (M2.out.step HKK.out hb9); clear hb9))
      go_ret
      exact ⟨rfl, M3.out.below⟩
    · have HAB := Lib.hid (fun W h => allBelow_any (.slice Af f.length Cf) f n' W true ⟨fun _ x hx => by cases hq : outN n' x with | false => rfl | true => exact absurd ⟨x, hx, hq⟩ hout, fun _ => rfl⟩ h)
      have HO := Lib.hid hout
      clear hout
      go_enter Tryd.func104, Tryd.ntmps104
      go_wp2_with (first | (go_at_call 106; refine (HSZ.out _ HM.out.kept).mono ?_; clear HSZ; rintro e w1 ⟨rfl, hb1⟩; have M1 := Lib.hid (HM.out.step HKK.out hb1); clear hb1) | (go_at_call 103; refine (HSZ'.out _ M1.out.kept).mono ?_; clear HSZ'; rintro e w2 ⟨rfl, hb2⟩; have M2 := Lib.hid (M1.out.step HKK.out hb2); clear hb2) | (go_at_call 149; refine (HAB.out _ M2.out.f).mono ?_; rintro e w3 ⟨rfl, hb9⟩; have M3 := Lib.hid (M2.out.step HKK.out hb9); clear hb9))
      have HRNG := Lib.hid (show ∀ q (hq : q < f.length), 0 ≤ f[q] ∧ f[q] < n' from fun q hq => by
        have h : ¬ (outN n' f[q] = true) := fun h => HO.out ⟨_, List.getElem_mem hq, h⟩
        unfold outN at h
        rw [Bool.or_eq_true, decide_eq_true_iff, decide_eq_true_iff] at h
        omega)
      clear HO
      go_loopw [7, 23] (fun _ av wr => ∃ a : Nat, a ≤ f.length ∧ av = .int .i64 a ∧ (∀ q, q < a → ∀ c, c < f.length → (bitB g) q c = true → (prodB h h' m') (f.getD q 0).toNat (f.getD c 0).toNat = true) ∧ MK w (fun W => GridAt W b g ∧ (GridAt W p h ∧ GridAt W p' h')) (.slice Af f.length Cf) f wr) (fun _ av _ => f.length - (intOf av).toNat)
      case atStart => exact ⟨0, Nat.zero_le _, rfl, fun _ h => absurd h (Nat.not_lt_zero _), M3.out⟩
      case round =>
        obtain ⟨a, ha, rfl, hp, hm⟩ := hrel
        have HP := Lib.hid hp
        have MA := Lib.hid hm
        clear hp hm
        by_cases hal : a < f.length
        · go_wp2
          go_loopw [8, 28] (fun _ cv wr => ∃ c : Nat, c ≤ f.length ∧ cv = .int .i64 c ∧ (∀ q, q < c → (bitB g) a q = true → (prodB h h' m') (f.getD a 0).toNat (f.getD q 0).toNat = true) ∧ MK w (fun W => GridAt W b g ∧ (GridAt W p h ∧ GridAt W p' h')) (.slice Af f.length Cf) f wr) (fun _ cv _ => f.length - (intOf cv).toNat)
          case atStart => exact ⟨0, Nat.zero_le _, rfl, fun _ h => absurd h (Nat.not_lt_zero _), MA.out⟩
          case round =>
            obtain ⟨c, hc, rfl, hp, hm⟩ := hrel
            have HQ := Lib.hid hp
            have MC := Lib.hid hm
            clear hp hm
            by_cases hcl : c < f.length
            · have hfa := HRNG.out a hal
              have hfc := HRNG.out c hcl
              obtain ⟨ka, hka⟩ : ∃ ka : Nat, f[a] = (ka : Int) := ⟨f[a].toNat, by omega⟩
              obtain ⟨kc, hkc⟩ : ∃ kc : Nat, f[c] = (kc : Int) := ⟨f[c].toNat, by omega⟩
              have hDa : (f.getD a 0).toNat = ka := by rw [getD_lt 0 hal, hka]; rfl
              have hDc : (f.getD c 0).toNat = kc := by rw [getD_lt 0 hcl, hkc]; rfl
              have hka2 : ka < n' := by omega
              have hkc2 : kc < n' := by omega
              have hcA : ∀ W, IntsAt W (.slice Af f.length Cf) f → ∃ b o, Af = some ⟨b, o, none⟩ ∧ W.cell? ⟨b, o + a, none⟩ = some (.int .i64 (ka : Int)) ∧ W.cell? ⟨b, o + c, none⟩ = some (.int .i64 (kc : Int)) := fun W h => by
                obtain ⟨b1, o1, e1, h1⟩ := h.get hal
                obtain ⟨b2, o2, e2, h2⟩ := h.get hcl
                rw [e1] at e2
                cases e2
                rw [hka] at h1
                rw [hkc] at h2
                exact ⟨b1, o1, e1, h1, h2⟩
              have HCA := Lib.hid hcA
              obtain ⟨b1, o1, rfl, h1, h2⟩ := hcA _ MC.out.f
              clear hcA hfa hfc hka hkc
              have hcall := fun d os => HBF.out _ (MC.out.step HKK.out (below_regrown wr d os)).kept a c (by have := HFL.out; omega) (by have := HFL.out; omega)
              have hcall' := fun d os => HBT.out _ (MC.out.step HKK.out (below_regrown wr d os)).kept ka kc hka2 hkc2
              have hl1 := fun d os => cell_regrown h1 d os
              have hl2 := fun d os => cell_regrown h2 d os
              cases hbit : (bitB g) a c with
              | false =>
                simp only [hbit] at hcall
                have HB := Lib.hid hbit
                clear hbit
                go_wp2
                refine wp_region_quiet_below (by kernel_rfl) (by kernel_rfl) ?_
                repeat (go_big_quiet_step (first | (go_at_call 148; exact Calls.regrown_of (hcall _ _)) | (go_at_call 192; exact Calls.regrown_of (hcall' _ _))))
                refine wpQuiet_nil ?_
                intro _ hw'
                obtain ⟨⟨dq, osq⟩, hw''⟩ := hw'
                subst hw''
                clear hcall hcall' hl1 hl2
                go_wp2
                go_roundw
                case rel =>
                  refine ⟨c + 1, by omega, by go_num, fun q hq hb => ?_, (MC.out.step HKK.out (below_regrown wr dq osq))⟩
                  by_cases e : q = c
                  · subst e; rw [HB.out] at hb; cases hb
                  · exact HQ.out q (by omega) hb
                case measure => simp [intOf]; omega
              | true =>
                simp only [hbit] at hcall
                cases hbit' : (prodB h h' m') ka kc with
                | true =>
                  simp only [hbit'] at hcall'
                  have HB := Lib.hid (show (prodB h h' m') (f.getD a 0).toNat (f.getD c 0).toNat = true by rw [hDa, hDc]; exact hbit')
                  clear hbit hbit' hDa hDc
                  go_wp2
                  refine wp_region_quiet_below (by kernel_rfl) (by kernel_rfl) ?_
                  repeat (go_big_quiet_step (first | (go_at_call 148; exact Calls.regrown_of (hcall _ _)) | (go_at_call 192; exact Calls.regrown_of (hcall' _ _))))
                  refine wpQuiet_nil ?_
                  intro _ hw'
                  obtain ⟨⟨dq, osq⟩, hw''⟩ := hw'
                  subst hw''
                  clear hcall hcall' hl1 hl2
                  go_wp2
                  go_roundw
                  case rel =>
                    refine ⟨c + 1, by omega, by go_num, fun q hq hb => ?_, (MC.out.step HKK.out (below_regrown wr dq osq))⟩
                    by_cases e : q = c
                    · subst e; exact HB.out
                    · exact HQ.out q (by omega) hb
                  case measure => simp [intOf]; omega
                | false =>
                  simp only [hbit'] at hcall'
                  obtain rfl : t = false := by
                    cases t with
                    | false => rfl
                    | true =>
                      have := (HT.out.1 rfl).2.2 a c (by have := HFL.out; omega) (by have := HFL.out; omega) hbit
                      rw [hDa, hDc, hbit'] at this
                      cases this
                  clear hbit hbit' hDa hDc
                  go_wp2
                  refine wp_region_quiet_below (by kernel_rfl) (by kernel_rfl) ?_
                  repeat (go_big_quiet_step (first | (go_at_call 148; exact Calls.regrown_of (hcall _ _)) | (go_at_call 192; exact Calls.regrown_of (hcall' _ _))))
                  refine wpQuiet_nil ?_
                  intro _ hw'
                  obtain ⟨⟨dq, osq⟩, hw''⟩ := hw'
                  subst hw''
                  clear hcall hcall' hl1 hl2
                  go_wp2
                  go_ret
                  exact ⟨rfl, (MC.out.step HKK.out (below_regrown wr dq osq)).below⟩
            · obtain rfl : c = f.length := by omega
              go_wp2
              go_roundw
              case rel =>
                refine ⟨a + 1, by omega, by go_num, fun q hq c hc hb => ?_, MC.out⟩
                by_cases e : q = a
                · subst e; exact HQ.out c hc hb
                · exact HP.out q (by omega) c hc hb
              case measure => simp [intOf]; omega
        · obtain rfl : a = f.length := by omega
          obtain rfl : t = true := HT.out.2 ⟨HFL.out, fun x hx => by
            obtain ⟨i, hi, rfl⟩ := List.getElem_of_mem hx
            have := HRNG.out i hi
            unfold outN
            rw [Bool.or_eq_false_iff, decide_eq_false_iff_not, decide_eq_false_iff_not]
            omega, fun p q hp hq hb => HP.out p (by rw [HFL.out]; exact hp) q (by rw [HFL.out]; exact hq) hb⟩
          go_wp2
          go_ret
          exact ⟨rfl, MA.out.below⟩
  · have hb : ((f.length : Int) == (n : Int)) = false := by rw [beq_eq_false_iff_ne]; omega
    have hb2 : (f.length == n) = false := by rw [beq_eq_false_iff_ne]; omega
    have hb3 : ((f.length : Int) != (n : Int)) = true := by unfold bne; rw [hb]; rfl
    have hb4 : (f.length != n) = true := by unfold bne; rw [hb2]; rfl
    obtain rfl : t = false := by
      cases t with
      | false => rfl
      | true => exact absurd (HT.out.1 rfl).1 hfl
    clear hfl
    go_enter Tryd.func104, Tryd.ntmps104
    go_wp2_with (go_at_call 106; refine (HSZ.out _ HM.out.kept).mono ?_; clear HSZ; rintro e w1 ⟨rfl, hb1⟩; have M1 := Lib.hid (HM.out.step HKK.out hb1); clear hb1)
    go_ret
    exact ⟨rfl, M1.out.below⟩
end Go.Proofs.YtkomghohdhengaaDoor

/- The program's FunStrict. -/
namespace Go.Proofs.YtkomghohdhengaaDoor
open Go.RowKit Go.Deep Go.Shelf

/-- What funTypeOf answers where both are domains and the lists monotone functions. -/
def FtYes (rows rows' : Rows2) (w : World) (e : Ending) (w' : World) : Prop :=
  (∃ p p' : Nat, e = .returned (.tuple #[.agg #[.pointer (some ⟨p, 0, none⟩), .pointer (some ⟨p', 0, none⟩)], .bool true]) ∧ w.heap.size ≤ p ∧ w.heap.size ≤ p' ∧ GridAt w' p (gridF rows) ∧ GridAt w' p' (gridF rows')) ∧ Below w.heap.size w w'
theorem FtP.yes {rows rows' : Rows2} {w w' : World} {e : Ending} (h : FtP true rows rows' w e w') : FtYes rows rows' w e w' := by
  obtain ⟨⟨q, q', he, h⟩, hb⟩ := h
  obtain ⟨p, p', rfl, rfl, h1, h2, h3, h4⟩ := h rfl
  exact ⟨⟨p, p', he, h1, h2, h3, h4⟩, hb⟩
theorem monoB_ok {rows rows' : Rows2} {f : List Int} (h : monoB rows rows' f = true) : Ok rows ∧ Ok rows' ∧ Mono rows rows' f := by
  obtain ⟨h1, h2, h3⟩ := monoB_parts h
  unfold domB at h1 h2
  rw [Bool.and_eq_true] at h1 h2
  exact ⟨ok_of_valid h1.1, ok_of_valid h2.1, h3⟩
theorem leastG {rows : Rows2} (h : Ok rows) (b : Nat) (w : World) (hg : GridAt w b (gridF rows)) (hT : Tab w) :
    Calls Tryd.prog 92 #[.pointer (some ⟨b, 0, none⟩)] w (SaysI (leastI rows) w) := by
  rw [least_eq h]
  exact least_any b rows.length (gridF rows) w hg hT h.gridN

end Go.Proofs.YtkomghohdhengaaDoor

/- The program's steps (funType.step). -/
namespace Go.Proofs.YtkomghohdhengaaDoor
open Go.RowKit Go.Deep Go.Shelf

theorem two_fresh (W : World) (a b : Value) (t : TypeId) : (W.alloc (.cells #[a, b] t)).cell? ⟨W.heap.size, 0, none⟩ = some a ∧ (W.alloc (.cells #[a, b] t)).cell? ⟨W.heap.size, 1, none⟩ = some b :=
  ⟨by rw [cell_of_row _ W.heap.size 0 _ _ _ (heap_alloc_new _ _)]; rfl, by rw [cell_of_row _ W.heap.size 1 _ _ _ (heap_alloc_new _ _)]; rfl⟩
set_option maxRecDepth 100000 in
set_option maxHeartbeats 4000000 in
theorem step_any (p p' : Nat) (rows rows' : Rows2) (a b : Int) (an m' : Nat) (w : World) (hg : GridAt w p (gridF rows)) (hg' : GridAt w p' (gridF rows')) (hT : Tab w) (hok : Ok rows) (hok' : Ok rows')
    (ha : a = an) (hal : an < rows.length) (hb0 : 0 ≤ b) (hb1 : b ≤ 1048576) (hme : leastI rows' = m') (hml : m' < rows'.length) :
    Calls Tryd.prog 99 #[.agg #[.pointer (some ⟨p, 0, none⟩), .pointer (some ⟨p', 0, none⟩)], .int .i64 a, .int .i64 b] w (OwnQ (stepN rows rows' an b rows.length) w) := by
  subst ha
  have b0 := (Below.refl w.heap.size w).alloc (Nat.le_refl _) (.cells #[.pointer (some ⟨p, 0, none⟩), .pointer (some ⟨p', 0, none⟩)] 72)
  obtain ⟨hq0, hq1⟩ := two_fresh w (.pointer (some ⟨p, 0, none⟩)) (.pointer (some ⟨p', 0, none⟩)) 72
  have HL := Lib.hid (fun b W hg hT => leastG hok' b W hg hT)
  simp only [hme] at HL
  have hl200 := hok.len.2
  have hl200' := hok'.len.2
  have HSZ := Lib.hid (fun W h => size_any p rows.length (gridF rows) W h hok.gridN.le hok.gridN.some hok.gridN.none)
  have HBIT := Lib.hid (fun k (h : an < rows.length) => upB_grid hok (b := k) h)
  have G0 := Lib.hid (hg.below b0 hg.lt)
  have G0' := Lib.hid (hg'.below b0 hg'.lt)
  have T0 := Lib.hid (hT.below b0)
  have B0 := Lib.hid b0
  have HME := Lib.hid hme
  have hpl : p < w.heap.size := hg.lt
  obtain ⟨i0, hi0, hz0, hz1, hz2⟩ := info_parts infoInt
  have hmk := run_make_row' (P := Tryd.prog) 75 3 (.int .i64 0) 8 Tryd.underlying75 infoInt rfl .i64 .i64 rows.length (by omega) (by omega)
  clear hg hg' hT b0 hok hok' hme
  go_enter Tryd.func99, Tryd.ntmps99
  go_wp2_with (first | (go_at_call 92; refine (HL.out p' _ G0'.out T0.out).mono ?_; rintro e w1 ⟨rfl, hb1⟩; have B1 := Lib.hid (B0.out.trans (hb1.mono B0.out.size)); have G1 := Lib.hid (G0.out.below hb1 G0.out.lt); have hq1' := (hb1.cell (p := ⟨w.heap.size, 0, none⟩) (cell_lt hq0)).trans hq0; clear hb1) | (go_at_call 106; refine (HSZ.out _ G1.out).mono ?_; rintro e w2 ⟨rfl, hb2⟩; have B2 := Lib.hid (B1.out.trans (hb2.mono B1.out.size)); have G2 := Lib.hid (G1.out.below hb2 G1.out.lt); have hq2 := (hb2.cell (p := ⟨w.heap.size, 0, none⟩) (cell_lt hq1')).trans hq1'; clear hb2))
  have HRW := Lib.hid (World.rowIs_made w2 (.int .i64 0) rows.length 3)
  have bA := (Below.refl w2.heap.size w2).alloc (Nat.le_refl _) (.cells (madeCells #[.int .i64 0] rows.length) 3)
  have hLw : w.heap.size < w2.heap.size := cell_lt hq2
  have HG3 := Lib.hid (G2.out.below bA G2.out.lt)
  have HB3 := Lib.hid (B2.out.trans (bA.mono B2.out.size))
  have HQ3 := Lib.hid ((bA.cell (p := ⟨w.heap.size, 0, none⟩) hLw).trans hq2)
  clear bA hq0 hq1 hq1' hq2 hmk
  go_loopw [9, 19] (fun _ kv wr => ∃ k : Nat, k ≤ rows.length ∧ kv = .int .i64 k ∧ wr.rowIs w2.heap.size 3 rows.length (fun i => if i < k then .int .i64 (stepAt rows rows' an b i) else .int .i64 0) ∧ GridAt wr p (gridF rows) ∧ wr.cell? ⟨w.heap.size, 0, none⟩ = some (.pointer (some ⟨p, 0, none⟩)) ∧ Below w.heap.size w wr) (fun _ kv _ => rows.length - (intOf kv).toNat)
  case atStart => exact ⟨0, Nat.zero_le _, rfl, HRW.out.congr (fun i _ => by rw [if_neg (Nat.not_lt_zero i)]), HG3.out, HQ3.out, HB3.out⟩
  case round =>
    obtain ⟨k, hk, rfl, hr, hG, hq, hB⟩ := hrel
    have HR := Lib.hid hr
    have HG := Lib.hid hG
    have HQ := Lib.hid hq
    have HB := Lib.hid hB
    clear hG hB HRW HG3 HQ3 HB3
    by_cases hlt : k < rows.length
    · have hc := hr.cell hlt
      have hf := hr.frozen k
      have hLz := hr.lt
      have hkz : (k : Int) < (rows.length : Int) := by omega
      have hne : w.heap.size ≠ w2.heap.size := by omega
      have HS1 := Lib.hid (hr.set k (.int .i64 (m' : Int)))
      have HG1 := Lib.hid (HG.out.setOther (a := ⟨w2.heap.size, k, none⟩) (by show p ≠ w2.heap.size; omega) (.int .i64 (m' : Int)))
      have hcall := gbelow_any p (gridF rows) an k an k _ HG1.out rfl (by omega) rfl (by omega)
      have HB1 := Lib.hid (HB.out.setCell (p := ⟨w2.heap.size, k, none⟩) (by show w.heap.size ≤ w2.heap.size; omega) (.int .i64 (m' : Int)))
      have HQ1 : Hid ((wr.setCell ⟨w2.heap.size, k, none⟩ (.int .i64 (m' : Int))).cell? ⟨w.heap.size, 0, none⟩ = some (.pointer (some ⟨p, 0, none⟩))) := Lib.hid ((World.cell?_of_block (Below.heap_setCell _ ⟨w2.heap.size, k, none⟩ _ w.heap.size hne)).trans HQ.out)
      rw [HBIT.out k hal] at hcall
      have hif : (if k < k then Value.int IntKind.i64 (stepAt rows rows' an b k) else Value.int IntKind.i64 0) = .int .i64 0 := if_neg (Nat.lt_irrefl k)
      rw [hif] at hc
      clear hr hif
      cases hup : upB rows an (k : Int) with
      | true =>
        rw [hup] at hcall
        have HA := Lib.hid (show stepAt rows rows' an b k = b by unfold stepAt; rw [if_pos hup])
        clear hup
        go_wp2_with (go_at_call 148; refine hcall.mono ?_; clear hcall; rintro e w5 ⟨rfl, hb5⟩; have HS5 := Lib.hid (rowIs_below HS1.out hb5 HS1.out.lt); have HG5 := Lib.hid (HG1.out.below hb5 HG1.out.lt); have HB5 := Lib.hid (HB1.out.trans (hb5.mono HB1.out.size)); have HQ5 := Lib.hid ((hb5.cell (p := ⟨w.heap.size, 0, none⟩) (cell_lt HQ1.out)).trans HQ1.out); have hc5 := HS5.out.cell hlt; have hf5 := HS5.out.frozen k; clear hb5)
        go_roundw
        case rel =>
          refine ⟨k + 1, by omega, by go_num, (HS5.out.set k (.int .i64 b)).congr (fun i hi => ?_), HG5.out.setOther (a := ⟨w2.heap.size, k, none⟩) (by show p ≠ w2.heap.size; omega) _, (World.cell?_of_block (Below.heap_setCell _ ⟨w2.heap.size, k, none⟩ _ w.heap.size hne)).trans HQ5.out, HB5.out.setCell (p := ⟨w2.heap.size, k, none⟩) (by show w.heap.size ≤ w2.heap.size; omega) _⟩
          by_cases e : i = k
          · subst e; simp [HA.out]
          · by_cases e2 : i < k
            · simp [e, e2, show i < k + 1 by omega]
            · simp [e, e2, show ¬ i < k + 1 by omega]
        case measure => simp [intOf]; omega
      | false =>
        rw [hup] at hcall
        have HA := Lib.hid (show stepAt rows rows' an b k = (m' : Int) by unfold stepAt; rw [if_neg (by rw [hup]; simp), HME.out])
        clear hup
        go_wp2_with (go_at_call 148; refine hcall.mono ?_; clear hcall; rintro e w5 ⟨rfl, hb5⟩; have HS5 := Lib.hid (rowIs_below HS1.out hb5 HS1.out.lt); have HG5 := Lib.hid (HG1.out.below hb5 HG1.out.lt); have HB5 := Lib.hid (HB1.out.trans (hb5.mono HB1.out.size)); have HQ5 := Lib.hid ((hb5.cell (p := ⟨w.heap.size, 0, none⟩) (cell_lt HQ1.out)).trans HQ1.out); clear hb5)
        go_roundw
        case rel =>
          refine ⟨k + 1, by omega, by go_num, HS5.out.congr (fun i hi => ?_), HG5.out, HQ5.out, HB5.out⟩
          by_cases e : i = k
          · subst e; simp [HA.out]
          · by_cases e2 : i < k
            · simp [e, e2, show i < k + 1 by omega]
            · simp [e, e2, show ¬ i < k + 1 by omega]
        case measure => simp [intOf]; omega
    · obtain rfl : k = rows.length := by omega
      clear hr hq
      go_wp2
      go_ret
      have hl := stepN_length rows rows' an b rows.length
      refine ⟨_, rfl, ⟨?_, .inr ⟨w2.heap.size, rows.length, _, by rw [hl]; rfl, by rw [hl]; exact Nat.le_refl _, by unfold maxLen; omega, by omega, HR.out.lt, HR.out, fun i hi => ?_⟩⟩, HB.out⟩
      · intro y hy
        unfold stepN at hy
        obtain ⟨i, _, rfl⟩ := List.mem_map.1 hy
        unfold stepAt
        split
        · exact wf_int hb0 hb1
        · rw [HME.out]
          exact wf_int (by omega) (by omega)
      · rw [hl] at hi
        simp [stepN, hi]
end Go.Proofs.YtkomghohdhengaaDoor

/- The program's FunStep. -/
namespace Go.Proofs.YtkomghohdhengaaDoor
open Go.RowKit Go.Deep Go.Shelf

theorem ftB_nil (rows rows' : Rows2) : ftB rows rows' [] = (domB rows && domB rows') := by unfold ftB; simp
theorem rows_nil (w : World) : RowsAt w (.slice none 0 0) [] := ⟨none, 0, rfl, Nat.le_refl _, Nat.zero_le _, fun _ hi => absurd hi (Nat.not_lt_zero _)⟩
/-- No list. -/
theorem stepB_nil {rows rows' : Rows2} {a b : Int} {w W : World} (h : stepOk rows rows' a b = false) (hb : Below w.heap.size w W) : OwnB (stepL rows rows' a b) (stepOk rows rows' a b) w (.returned (.tuple #[.slice none 0 0, .bool false])) W := by
  unfold stepL
  rw [h]
  exact ⟨_, rfl, OwnI.nil _ _ _ _, hb⟩

set_option maxRecDepth 100000 in
set_option maxHeartbeats 8000000 in
theorem implStep_any (v v' : Value) (rows rows' : Rows2) (a b : Int) (w : World) (hv : RowsAt w v rows) (hv' : RowsAt w v' rows') (hT : Tab w) (hn : bulk rows ≤ 1048576) (hn' : bulk rows' ≤ 1048576) :
    Calls Tryd.prog 44 #[.agg #[v], .agg #[v'], .int .i64 a, .int .i64 b] w (OwnB (stepL rows rows' a b) (stepOk rows rows' a b) w) := by
  have h0 := Two.start w 25 25 hv hv'
  have hT1 := hT.below h0.below
  have hcall := funTypeOf_any v v' _ rows rows' [] _ h0.r0 h0.r1 (rows_nil _) hT1 hn hn'
  rw [ftB_nil] at hcall
  have hc0 := h0.c0
  have hc1 := h0.c1
  obtain ⟨A, C, rfl, _⟩ := hv
  obtain ⟨A', C', rfl, _⟩ := hv'
  have H0 := Lib.hid h0
  have T0 := Lib.hid hT1
  clear h0 hT1 hT
  cases hm : domB rows && domB rows' with
  | false =>
    rw [hm] at hcall
    have HE := Lib.hid (show stepOk rows rows' a b = false by unfold stepOk; rw [hm]; rfl)
    clear hm
    go_enter Tryd.func44, Tryd.ntmps44
    go_wp2_with (go_at_call 73; refine hcall.mono ?_; clear hcall; rintro e w1 ⟨⟨q, q', rfl, _⟩, hb1⟩; have H2 := Lib.hid ((H0.out.step hb1).step ((Below.refl _ w1).alloc (Nat.le_refl _) (.cells #[.pointer q, .pointer q'] 72))); clear hb1)
    go_ret2
    exact stepB_nil HE.out H2.out.below
  | true =>
    rw [hm] at hcall
    rw [Bool.and_eq_true] at hm
    have hok := ok_of_valid (show validB rows = true by have h := hm.1; unfold domB at h; rw [Bool.and_eq_true] at h; exact h.1)
    have hok' := ok_of_valid (show validB rows' = true by have h := hm.2; unfold domB at h; rw [Bool.and_eq_true] at h; exact h.1)
    obtain ⟨m', hml, hme⟩ := dom_least hm.2
    have hcall2 := hcall.mono (fun e w' h => h.yes)
    clear hcall
    by_cases ha : 0 ≤ a ∧ a < rows.length
    · by_cases hb : 0 ≤ b ∧ b < rows'.length
      · have HE := Lib.hid (show stepOk rows rows' a b = true by unfold stepOk; rw [hm.1, hm.2, decide_eq_true ha, decide_eq_true hb]; rfl)
        have hl200 := hok'.len.2
        have HC := Lib.hid (fun p p' W hg hg' hT => step_any p p' rows rows' a b a.toNat m' W hg hg' hT hok hok' (by omega) (by omega) hb.1 (by omega) hme hml)
        have HA := Lib.hid (decide_eq_true ha)
        have HB := Lib.hid (decide_eq_true hb)
        clear ha hb hok hok' hm hme hl200
        go_enter Tryd.func44, Tryd.ntmps44
        go_wp2_with (first | (go_at_call 73; refine hcall2.mono ?_; clear hcall2; rintro e w1 ⟨⟨p, p', rfl, _, _, hg, hg'⟩, hb1⟩; have B2 := Lib.hid ((Below.refl w1.heap.size w1).alloc (Nat.le_refl _) (.cells #[.pointer (some ⟨p, 0, none⟩), .pointer (some ⟨p', 0, none⟩)] 72)); have H2 := Lib.hid ((H0.out.step hb1).step B2.out); have T2 := Lib.hid ((T0.out.below hb1).below B2.out); have G2 := Lib.hid (hg.below B2.out hg.lt); have G2' := Lib.hid (hg'.below B2.out hg'.lt); obtain ⟨hq0, hq1⟩ := two_fresh w1 (.pointer (some ⟨p, 0, none⟩)) (.pointer (some ⟨p', 0, none⟩)) 72; have Q0 := Lib.hid hq0; have Q1 := Lib.hid hq1; have hd0 := H2.out.c0; clear hb1 hg hg' hq0 hq1) | (go_at_call_of 83 (Value.int IntKind.i64 a); refine (isElement_any _ rows a _ H2.out.r0).mono ?_; rintro e w2 ⟨hre, hb2⟩; rw [HA.out] at hre; subst hre; have H3 := Lib.hid (H2.out.step hb2); have T3 := Lib.hid (T2.out.below hb2); have G3 := Lib.hid (G2.out.below hb2 G2.out.lt); have G3' := Lib.hid (G2'.out.below hb2 G2'.out.lt); have Q3 := Lib.hid ((hb2.cell (p := ⟨w1.heap.size, 0, none⟩) (cell_lt Q0.out)).trans Q0.out); have Q3' := Lib.hid ((hb2.cell (p := ⟨w1.heap.size, 1, none⟩) (cell_lt Q1.out)).trans Q1.out); have hd1 := H3.out.c1; clear hb2) | (go_at_call_of 83 (Value.int IntKind.i64 b); refine (isElement_any _ rows' b _ H3.out.r1).mono ?_; rintro e w3 ⟨hre, hb3⟩; rw [HB.out] at hre; subst hre; have H4 := Lib.hid (H3.out.step hb3); have T4 := Lib.hid (T3.out.below hb3); have G4 := Lib.hid (G3.out.below hb3 G3.out.lt); have G4' := Lib.hid (G3'.out.below hb3 G3'.out.lt); have hq4 := ((hb3.cell (p := ⟨w1.heap.size, 0, none⟩) (cell_lt Q3.out)).trans Q3.out); have hq4' := ((hb3.cell (p := ⟨w1.heap.size, 1, none⟩) (cell_lt Q3'.out)).trans Q3'.out); clear hb3) | (go_at_call 99; refine (HC.out p p' _ G4.out G4'.out T4.out).mono ?_; rintro e w4 ⟨u, rfl, hu, hb4⟩; have HU := Lib.hid hu; have B4 := Lib.hid hb4; clear hu hb4))
        go_ret2
        refine ⟨u, by rw [HE.out]; rfl, ?_, H4.out.below.trans (B4.out.mono H4.out.below.size)⟩
        unfold stepL
        rw [if_pos HE.out]
        exact HU.out.wider H4.out.below.size (Nat.le_refl _)
      · have HE := Lib.hid (stepOk_no4 (rows := rows) (a := a) hb)
        have HA := Lib.hid (decide_eq_true ha)
        have HB := Lib.hid (decide_eq_false hb)
        clear ha hb hok hok' hm hme
        go_enter Tryd.func44, Tryd.ntmps44
        go_wp2_with (first | (go_at_call 73; refine hcall2.mono ?_; clear hcall2; rintro e w1 ⟨⟨p, p', rfl, _, _, hg, hg'⟩, hb1⟩; have B2 := Lib.hid ((Below.refl w1.heap.size w1).alloc (Nat.le_refl _) (.cells #[.pointer (some ⟨p, 0, none⟩), .pointer (some ⟨p', 0, none⟩)] 72)); have H2 := Lib.hid ((H0.out.step hb1).step B2.out); have hd0 := H2.out.c0; clear hb1 hg hg') | (go_at_call_of 83 (Value.int IntKind.i64 a); refine (isElement_any _ rows a _ H2.out.r0).mono ?_; rintro e w2 ⟨hre, hb2⟩; rw [HA.out] at hre; subst hre; have H3 := Lib.hid (H2.out.step hb2); have hd1 := H3.out.c1; clear hb2) | (go_at_call_of 83 (Value.int IntKind.i64 b); refine (isElement_any _ rows' b _ H3.out.r1).mono ?_; rintro e w3 ⟨hre, hb3⟩; rw [HB.out] at hre; subst hre; have H4 := Lib.hid (H3.out.step hb3); clear hb3))
        go_ret2
        exact stepB_nil HE.out H4.out.below
    · have HE := Lib.hid (stepOk_no3 (rows' := rows') (b := b) ha)
      have HA := Lib.hid (decide_eq_false ha)
      clear ha hok hok' hm hme
      go_enter Tryd.func44, Tryd.ntmps44
      go_wp2_with (first | (go_at_call 73; refine hcall2.mono ?_; clear hcall2; rintro e w1 ⟨⟨p, p', rfl, _, _, hg, hg'⟩, hb1⟩; have B2 := Lib.hid ((Below.refl w1.heap.size w1).alloc (Nat.le_refl _) (.cells #[.pointer (some ⟨p, 0, none⟩), .pointer (some ⟨p', 0, none⟩)] 72)); have H2 := Lib.hid ((H0.out.step hb1).step B2.out); have hd0 := H2.out.c0; clear hb1 hg hg') | (go_at_call_of 83 (Value.int IntKind.i64 a); refine (isElement_any _ rows a _ H2.out.r0).mono ?_; rintro e w2 ⟨hre, hb2⟩; rw [HA.out] at hre; subst hre; have H3 := Lib.hid (H2.out.step hb2); clear hb2))
      go_ret2
      exact stepB_nil HE.out H3.out.below
end Go.Proofs.YtkomghohdhengaaDoor

/- The program's FunSteps. -/
namespace Go.Proofs.YtkomghohdhengaaDoor
open Go.RowKit Go.Deep Go.Shelf

theorem startsL_no {rows rows' : Rows2} {f : List Int} (h : monoB rows rows' f = false) : startsL rows rows' f = [] := by unfold startsL; rw [if_neg (by rw [h]; simp)]
theorem startsL_yes {rows rows' : Rows2} {f : List Int} (h : monoB rows rows' f = true) : startsL rows rows' f = startsN rows rows' f f.length := by unfold startsL; rw [if_pos h]

set_option maxRecDepth 100000 in
set_option maxHeartbeats 8000000 in
theorem implSteps_any (v v' vf : Value) (rows rows' : Rows2) (f : List Int) (w : World) (hv : RowsAt w v rows) (hv' : RowsAt w v' rows') (hf : IntsAt w vf f) (hT : Tab w) (hn : bulk rows ≤ 1048576) (hn' : bulk rows' ≤ 1048576) :
    Calls Tryd.prog 42 #[.agg #[v], .agg #[v'], vf] w (OwnB (startsL rows rows' f) (monoB rows rows' f) w) := by
  have h0 := TwoF.start w 25 25 hv hv' hf
  have hl := rows_one h0.2
  have b1 := (Below.refl ((w.alloc (.cells #[v] 25)).alloc (.cells #[v'] 25)).heap.size ((w.alloc (.cells #[v] 25)).alloc (.cells #[v'] 25))).alloc (Nat.le_refl _) (.cells #[vf] 26)
  have h1 := h0.step b1
  have hT1 := (hT.below h0.1.below).below b1
  have hcall := funTypeOf_any v v' _ rows rows' [f] _ h1.1.r0 h1.1.r1 hl hT1 hn hn'
  have hs : ((w.alloc (.cells #[v] 25)).alloc (.cells #[v'] 25)).heap.size = w.heap.size + 2 := by rw [World.size_alloc, World.size_alloc]
  rw [ftB_one, hs] at hcall
  have hc0 := h0.1.c0
  have hc1 := h0.1.c1
  obtain ⟨A, C, rfl, _⟩ := hv
  obtain ⟨A', C', rfl, _⟩ := hv'
  obtain ⟨Af, Cf, rfl, _⟩ := hf
  have H1 := Lib.hid h1
  have T1 := Lib.hid hT1
  clear h0 hl b1 h1 hT1 hs hT
  cases hm : monoB rows rows' f with
  | false =>
    rw [hm] at hcall
    have HE := Lib.hid (startsL_no hm)
    clear hm
    go_enter Tryd.func42, Tryd.ntmps42
    go_wp2_with (go_at_call 73; refine hcall.mono ?_; clear hcall; rintro e w1 ⟨⟨q, q', rfl, _⟩, hb1⟩; have H2 := Lib.hid ((H1.out.step hb1).step ((Below.refl _ w1).alloc (Nat.le_refl _) (.cells #[.pointer q, .pointer q'] 72))); clear hb1)
    go_ret2
    exact ⟨_, rfl, by rw [HE.out]; exact OwnI.nil _ _ _ _, H2.out.1.below⟩
  | true =>
    rw [hm] at hcall
    have HE := Lib.hid (startsL_yes hm)
    obtain ⟨hok, hok', hmo⟩ := monoB_ok hm
    have HS := Lib.hid (fun p p' W h1 h2 h3 h4 => starts_any (.slice Af f.length Cf) f p p' rows rows' W h1 h2 h3 h4 hok hok' hmo.1)
    have hcall2 := hcall.mono (fun e w' h => h.yes)
    clear hm hok hok' hmo hcall
    go_enter Tryd.func42, Tryd.ntmps42
    go_wp2_with (first | (go_at_call 73; refine hcall2.mono ?_; clear hcall2; rintro e w1 ⟨⟨p, p', rfl, _, _, hg, hg'⟩, hb1⟩; have B2 := Lib.hid ((Below.refl w1.heap.size w1).alloc (Nat.le_refl _) (.cells #[.pointer (some ⟨p, 0, none⟩), .pointer (some ⟨p', 0, none⟩)] 72)); have H2 := Lib.hid ((H1.out.step hb1).step B2.out); have T2 := Lib.hid ((T1.out.below hb1).below B2.out); have GR := Lib.hid (hg.below B2.out hg.lt); have GR2 := Lib.hid (hg'.below B2.out hg'.lt); have hbx := Bx.start w1 (.pointer (some ⟨p, 0, none⟩)) (.pointer (some ⟨p', 0, none⟩)) 72; have hl0 := hbx.c0; have hl1 := hbx.c1; clear hb1 hg hg' hbx) | (go_at_call 96; refine (HS.out p p' _ H2.out.2 GR.out GR2.out T2.out).mono ?_; rintro e w3 ⟨u, rfl, hu, hb3⟩; obtain ⟨a3, C3, rfl⟩ := hu.form; have HU := Lib.hid hu; have HB3 := Lib.hid hb3; clear hu hb3))
    go_ret2
    rw [HE.out]
    exact ⟨_, rfl, HU.out.wider H2.out.1.below.size (Nat.le_refl _), H2.out.1.below.trans (HB3.out.mono H2.out.1.below.size)⟩
end Go.Proofs.YtkomghohdhengaaDoor

/- Projection pairs and the greatest elements that go below, in numbers. -/
namespace Go.Proofs.YtkomghohdhengaaDoor
open Go.RowKit Go.Deep

theorem dom_ok {rows : Rows2} (h : domB rows = true) : Ok rows :=
  ok_of_valid (show validB rows = true by unfold domB at h; rw [Bool.and_eq_true] at h; exact h.1)
theorem up_anti {rows : Rows2} (h : Ok rows) {a b : Nat} (ha : a < rows.length) (hb : b < rows.length) (h1 : upB rows a b = true) (h2 : upB rows b a = true) : a = b := by
  rw [← upB_grid h ha] at h1
  rw [← upB_grid h hb] at h2
  by_cases e : a = b
  · exact e
  · rw [h.anti a b ha h1 (fun h => e h.symm)] at h2
    cases h2
theorem up_trans {rows : Rows2} (h : Ok rows) {a b c : Nat} (ha : a < rows.length) (hb : b < rows.length) (h1 : upB rows a b = true) (h2 : upB rows b c = true) : upB rows a c = true := by
  rw [← upB_grid h ha] at h1 ⊢
  rw [← upB_grid h hb] at h2
  exact h.trans a b ha h1 c h2
theorem up_refl {rows : Rows2} (h : Ok rows) {a : Nat} (ha : a < rows.length) : upB rows a a = true := by
  rw [← upB_grid h ha]
  exact h.own a ha

end Go.Proofs.YtkomghohdhengaaDoor

/- The model's search for monotone functions (l2Funs). -/
namespace Go.Proofs.YtkomghohdhengaaDoor
open Go.RowKit Go.Deep

/-- What is below what, of an order by its lists. -/
abbrev Bf (rows : Rows2) : Nat → Nat → Bool := fun a b => upB rows a (b : Int)
/-- Lists of numbers as rows. -/
def I2 (L : List (List Nat)) : Rows2 := L.map intsOf
theorem I2_len (L : List (List Nat)) : (I2 L).length = L.length := by unfold I2; simp
theorem I2_snoc (L : List (List Nat)) (l : List Nat) (j : Nat) (hj : j < L.length + 1) : (if j = L.length then intsOf l else rowsF (I2 L) j) = rowsF (I2 (L ++ [l])) j := by
  unfold rowsF I2
  rw [List.map_append, List.getD_eq_getElem?_getD, List.getD_eq_getElem?_getD]
  by_cases e : j = L.length
  · rw [if_pos e, List.getElem?_append_right (by simp [e])]
    simp [e]
  · rw [if_neg e, List.getElem?_append_left (by simp; omega)]
theorem intsOf_len (l : List Nat) : (intsOf l).length = l.length := by unfold intsOf; simp
theorem intsOf_snoc (l : List Nat) (j : Nat) : intsOf (l ++ [j]) = intsOf l ++ [(j : Int)] := by unfold intsOf; rw [List.map_append]; rfl
theorem intsOf_at {l : List Nat} {k : Nat} (h : k < (intsOf l).length) : (intsOf l)[k] = ((l.getD k 0 : Nat) : Int) := by
  have h' : k < l.length := by rw [intsOf_len] at h; exact h
  rw [List.getD_eq_getElem?_getD, List.getElem?_eq_getElem h']
  exact List.getElem_map (fun k : Nat => (k : Int))
theorem owns_formS {W : World} {base size n : Nat} {t : TypeId} {v : Value} {xs : List Value} (h : W.ownsRow base t size v n xs) : ∃ a C, v = .slice a n C := by
  rcases h.2 with ⟨rfl, rfl⟩ | ⟨g, cap, cur, rfl, _⟩
  · exact ⟨none, 0, rfl⟩
  · exact ⟨_, _, rfl⟩
theorem owns_list {W : World} {base : Nat} {a : Option Addr} {C : Nat} {l : List Nat} (h : W.ownsRow base 3 1 (.slice a l.length C) l.length (cellsI (intsOf l))) (hx : ∀ k ∈ l, k ≤ 1048576) : OwnI 3 W (.slice a l.length C) (intsOf l) base W.heap.size :=
  OwnI.of_owns (by rw [intsOf_len]; exact h) (intsOf_wf hx) (fun b hb => (h.lt b hb).2)
theorem grown_then {a b c : World} {row : Option Nat} (h : a.grownBy b row) (k : b.grownBy c row) : a.grownBy c row :=
  ⟨k.os.trans h.os, k.tape.trans h.tape, k.output.trans h.output, Nat.le_trans h.size k.size, fun i hi hr => (k.block i (Nat.lt_of_lt_of_le hi h.size) hr).trans (h.block i hi hr)⟩
theorem grown_below {a b : World} (h : Below a.heap.size a b) (row : Option Nat) : a.grownBy b row := ⟨h.os, h.tape, h.output, h.size, fun k hk _ => h.block k hk⟩
/-- Grown in one row, and then in this one or one that is new. -/
theorem grown_next {a b c : World} {row row' : Option Nat} (h : a.grownBy b row) (k : b.grownBy c row') (hr : row' = row ∨ ∀ g, row' = some g → a.heap.size ≤ g) : a.grownBy c row :=
  ⟨k.os.trans h.os, k.tape.trans h.tape, k.output.trans h.output, Nat.le_trans h.size k.size, fun i hi hne => (k.block i (Nat.lt_of_lt_of_le hi h.size) (fun e => by
    rcases hr with hr | hr
    · exact hne (hr ▸ e)
    · have := hr i e.symm; omega)).trans (h.block i hi hne)⟩
theorem OwnR.rowType {t u : TypeId} {W : World} {v : Value} {n : Nat} {R : Nat → List Int} {lo hi : Nat} (h : OwnR t u W v n R lo hi) : ∀ b, v.ownBlock = some b → lo ≤ b ∧ b < hi ∧ ∃ c, W.heap[b]? = some (.cells c u (0, 0)) := by
  intro b hb
  obtain ⟨rfl, _⟩ | ⟨g, C, f, rfl, _, _, h3, h4, ⟨c, h5, _⟩, _⟩ := h
  · simp [Value.ownBlock] at hb
  · simp [Value.ownBlock] at hb; subst hb; exact ⟨h3, h4, c, h5⟩

/-- A list of numbers in memory of its own that is not nil. -/
structure ListAt (W : World) (vl : Value) (l : List Nat) (lo : Nat) : Prop where
  form : ∃ lb C, vl = .slice (some ⟨lb, 0, none⟩) l.length C
  own : OwnI 3 W vl (intsOf l) lo W.heap.size
theorem ListAt.step {W W' : World} {vl : Value} {l : List Nat} {lo : Nat} (h : ListAt W vl l lo) (hb : Below W.heap.size W W') : ListAt W' vl l lo :=
  ⟨h.form, (h.own.kept fun b e => hb.block b (h.own.block b e).2.1).wider (Nat.le_refl _) hb.size⟩
theorem ListAt.grown {W W' : World} {vl vo : Value} {l : List Nat} {lo lo' n : Nat} {R : Nat → List Int} (h : ListAt W vl l lo) (ho : OwnR 3 26 W vo n R lo' W.heap.size) (hg : W.grownBy W' vo.ownBlock) : ListAt W' vl l lo :=
  ⟨h.form, (h.own.kept fun b e => hg.block b (h.own.block b e).2.1 (fun e2 => by
    obtain ⟨_, _, c, hc⟩ := h.own.block b e
    obtain ⟨_, _, c', hc'⟩ := ho.rowType b e2.symm
    rw [hc] at hc'
    injection hc' with hc'
    injection hc' with _ h5
    exact int_ne h5)).wider (Nat.le_refl _) hg.size⟩
/-- The cells of the list. -/
theorem ListAt.cell {W : World} {lb C : Nat} {l : List Nat} {lo : Nat} (h : ListAt W (.slice (some ⟨lb, 0, none⟩) l.length C) l lo) {k : Nat} (hk : k < l.length) : W.cell? ⟨lb, k, none⟩ = some (.int .i64 ((l.getD k 0 : Nat) : Int)) := by
  obtain ⟨_, _, e, _, _, _, hy⟩ := h.own.at
  injection e with e1
  subst e1
  obtain ⟨b, o, ea, hc⟩ := hy k (by rw [intsOf_len]; exact hk)
  cases ea
  rw [intsOf_at, Nat.zero_add] at hc
  exact hc
theorem cellsI_at {xs : List Int} {j : Nat} {u : Value} (h : (cellsI xs)[j]? = some u) : ∃ hj : j < xs.length, u = .int .i64 xs[j] := by
  rw [List.getElem?_eq_some_iff] at h
  obtain ⟨hj, e⟩ := h
  have hj' : j < xs.length := by simpa [cellsI] using hj
  exact ⟨hj', by rw [← e]; simp [cellsI]⟩
theorem ListAt.news {W : World} {lb C : Nat} {l : List Nat} {lo : Nat} (h : ListAt W (.slice (some ⟨lb, 0, none⟩) l.length C) l lo) : ∀ j u, (cellsI (intsOf l))[j]? = some u → W.cell? ((⟨lb, 0, none⟩ : Addr).add j) = some u := fun j u hj => by
  obtain ⟨h1, rfl⟩ := cellsI_at hj
  rw [intsOf_at]
  have := h.cell (k := j) (by rw [intsOf_len] at h1; exact h1)
  rw [Addr.add_lit, Nat.zero_add]
  exact this

/-- What the search answers. -/
def FunsP (RES : List (List Nat)) (vo : Value) (lo : Nat) (w : World) (e : Ending) (w' : World) : Prop :=
  ∃ vo', e = .returned vo' ∧ OwnR 3 26 w' vo' RES.length (rowsF (I2 RES)) lo w'.heap.size ∧ w.grownBy w' vo.ownBlock ∧ (vo'.ownBlock = vo.ownBlock ∨ ∀ b, vo'.ownBlock = some b → w.heap.size ≤ b)

/-- While the search runs. -/
structure LF (w0 w : World) (v v' vl vo0 vo : Value) (l : List Nat) (OUT : List (List Nat)) (lo : Nat) (W : World) : Prop where
  c0 : W.cell? ⟨w.heap.size, 0, none⟩ = some v
  c1 : W.cell? ⟨w.heap.size + 1, 0, none⟩ = some v'
  list : ListAt W vl l w0.heap.size
  out : OwnR 3 26 W vo OUT.length (rowsF (I2 OUT)) lo W.heap.size
  below : Below w0.heap.size w0 W
  grown : w.grownBy W vo0.ownBlock
  fresh : vo.ownBlock = vo0.ownBlock ∨ ∀ b, vo.ownBlock = some b → w.heap.size + 2 ≤ b
  size : w.heap.size + 2 ≤ W.heap.size
theorem LF.step {w0 w : World} {v v' vl vo0 vo : Value} {l : List Nat} {OUT : List (List Nat)} {lo : Nat} {W W' : World} (h : LF w0 w v v' vl vo0 vo l OUT lo W) (hb : Below W.heap.size W W') : LF w0 w v v' vl vo0 vo l OUT lo W' :=
  ⟨(hb.cell (p := ⟨w.heap.size, 0, none⟩) (cell_lt h.c0)).trans h.c0, (hb.cell (p := ⟨w.heap.size + 1, 0, none⟩) (cell_lt h.c1)).trans h.c1, h.list.step hb, (h.out.below hb (Nat.le_refl _)).wider (Nat.le_refl _) hb.size,
    h.below.trans (hb.mono h.below.size), grown_then h.grown (grown_below hb _), h.fresh, Nat.le_trans h.size hb.size⟩
theorem LF.start {w0 w : World} {v v' vl vo : Value} {l : List Nat} {OUT : List (List Nat)} {lo : Nat} (hB : Below w0.heap.size w0 w) (hl : ListAt w vl l w0.heap.size) (ho : OwnR 3 26 w vo OUT.length (rowsF (I2 OUT)) lo w.heap.size) :
    LF w0 w v v' vl vo vo l OUT lo ((w.alloc (.cells #[v] 25)).alloc (.cells #[v'] 25)) := by
  have s1 : (w.alloc (.cells #[v] 25)).heap.size = w.heap.size + 1 := World.size_alloc _ _
  have s2 : ((w.alloc (.cells #[v] 25)).alloc (.cells #[v'] 25)).heap.size = w.heap.size + 2 := by rw [World.size_alloc, s1]
  have b2 : Below w.heap.size w ((w.alloc (.cells #[v] 25)).alloc (.cells #[v'] 25)) := ((Below.refl _ w).alloc (Nat.le_refl _) _).alloc (by rw [s1]; omega) _
  have c0 : (w.alloc (.cells #[v] 25)).cell? ⟨w.heap.size, 0, none⟩ = some v := (World.rowIs_alloc w #[v] 25 (fun _ => v) (fun i hi => by simp at hi; subst hi; rfl)).cell (by simp)
  have c1 := (World.rowIs_alloc (w.alloc (.cells #[v] 25)) #[v'] 25 (fun _ => v') (fun i hi => by simp at hi; subst hi; rfl)).cell (i := 0) (by simp)
  rw [s1] at c1
  exact ⟨cell_alloc_any c0 _, c1, hl.step b2, (ho.below b2 (Nat.le_refl _)).wider (Nat.le_refl _) b2.size, hB.trans (b2.mono hB.size), grown_below b2 _, .inl rfl, by rw [s2]; exact Nat.le_refl _⟩
/-- Behind a search for what goes on from the list. -/
theorem LF.called {w0 w : World} {v v' vl vo0 vo vo' : Value} {l : List Nat} {OUT RES : List (List Nat)} {lo : Nat} {W W' : World} (h : LF w0 w v v' vl vo0 vo l OUT lo W) (h0 : ∀ b, vo0.ownBlock = some b → b < w.heap.size) (hlo : w0.heap.size ≤ lo)
    (ho : OwnR 3 26 W' vo' RES.length (rowsF (I2 RES)) lo W'.heap.size) (hg : W.grownBy W' vo.ownBlock) (hf : vo'.ownBlock = vo.ownBlock ∨ ∀ b, vo'.ownBlock = some b → W.heap.size ≤ b) : LF w0 w v v' vl vo0 vo' l RES lo W' := by
  have hsz := h.size
  have hne : ∀ b, b < w.heap.size + 2 → w.heap.size ≤ b → some b ≠ vo.ownBlock := fun b hb hb2 e => by
    rcases h.fresh with k | k
    · have := h0 b (k ▸ e.symm); omega
    · have := k b e.symm; omega
  have k0 : W'.heap[w.heap.size]? = W.heap[w.heap.size]? := hg.block _ (by omega) (hne _ (by omega) (Nat.le_refl _))
  have k1 : W'.heap[w.heap.size + 1]? = W.heap[w.heap.size + 1]? := hg.block _ (by omega) (hne _ (by omega) (by omega))
  refine ⟨(World.cell?_of_block k0).trans h.c0, (World.cell?_of_block k1).trans h.c1, h.list.grown h.out hg, ho, h.below.grown hg h.below.size (fun b e => Nat.le_trans hlo (h.out.rowType b e).1), grown_next h.grown hg ?_, ?_, Nat.le_trans hsz hg.size⟩
  · rcases h.fresh with k | k
    · exact .inl k
    · exact .inr fun b e => by have := k b e; omega
  · rcases hf with k | k
    · rw [k]; exact h.fresh
    · exact .inr fun b e => by have := k b e; omega

/-- Does the number j fit behind the first k of the list's? -/
def fineTo (B B' : Nat → Nat → Bool) (l : List Nat) (j k : Nat) : Bool := (List.range k).all fun q => (!B q l.length || B' (l.getD q 0) j) && (!B l.length q || B' j (l.getD q 0))
theorem fineTo_succ (B B' : Nat → Nat → Bool) (l : List Nat) (j k : Nat) : fineTo B B' l j (k + 1) = (fineTo B B' l j k && ((!B k l.length || B' (l.getD k 0) j) && (!B l.length k || B' j (l.getD k 0)))) := by
  unfold fineTo
  rw [List.range_succ, List.all_append]
  simp
theorem fineTo_all (B B' : Nat → Nat → Bool) (l : List Nat) (j : Nat) : fineTo B B' l j l.length = fineN B B' l j := rfl
theorem fineTo_no {B B' : Nat → Nat → Bool} {l : List Nat} {j k : Nat} (h : fineTo B B' l j k = false) (hk : k ≤ l.length) : fineN B B' l j = false := by
  rw [← fineTo_all]
  unfold fineTo at h ⊢
  rw [List.all_eq_false] at h ⊢
  obtain ⟨q, hq, hn⟩ := h
  exact ⟨q, List.mem_range.2 (by rw [List.mem_range] at hq; omega), hn⟩
theorem step_append_own {P : Program} {ops : Array Oper} {o : Oper} {a : Act} {w : World} {K : Act → World → Prop} {Q : Exit → Act → World → Prop} {E : Prop} (hgd : o.guard = none) (s x : Operand) (t : TypeId)
    (ho : o.op = .call { callee := .builtin .append, args := #[s, x], argTypes := #[t, t] })
    (base : Nat) (e : TypeId) (i : TypeInfo) (z : Value) (size bytes : Nat) (ht : P.underlying t = some (.slice e)) (hi : P.info? e = some i) (hz : i.zero = some z)
    (hsize : i.size = size) (hby : i.bytes = bytes) (hzs : z.cells.size = size) (hsz : 0 < size)
    (v : Value) (n : Nat) (xs : List Value) (hs : a.eval s = v) (hown : w.ownsRow base e size v n xs)
    (ad : Addr) (m c : Nat) (news : List Value) (hx : a.eval x = .slice (some ad) m c) (hl : news.length = m * size) (hnews : ∀ j u, news[j]? = some u → w.cell? (ad.add j) = some u) (h1 : ∀ u ∈ news, u.oneCell' = true)
    (h63 : n + m ≤ maxLen) (hbytes : (n + m) * bytes ≤ 140737488355328) (hbase : base ≤ w.heap.size)
    (h : ∀ v' w', w'.ownsRow base e size v' (n + m) (xs ++ news) → w.grownBy w' v.ownBlock → (v' = .slice none 0 0 ↔ v = .slice none 0 0 ∧ m = 0) → K (a.put o.dst v') w') :
    if Region.wanted o (yielded ops a.tmps) = true then Oper.wp P o a w K Q else E := by
  have hw : Region.wanted o (yielded ops a.tmps) = true := by simp [Region.wanted, hgd]
  rw [if_pos hw]
  exact wp_append_own w s x t ho base e i z size bytes ht hi hz hsize hby hzs hsz v n xs hs hown ad m c news hx hl hnews h1 h63 hbytes hbase h

theorem cellsI_one {xs : List Int} : ∀ u ∈ cellsI xs, u.oneCell' = true := by
  intro u hu
  simp [cellsI] at hu
  obtain ⟨_, _, rfl⟩ := hu
  rfl
theorem news_one {W : World} {h : Nat} {u : Value} (hc : W.cell? ⟨h, 0, none⟩ = some u) : ∀ k u', [u][k]? = some u' → W.cell? ((⟨h, 0, none⟩ : Addr).add k) = some u' := fun k u' hk => by
  cases k with
  | zero =>
    obtain rfl : u = u' := by simpa using hk
    rw [Addr.add_lit, Nat.zero_add]
    exact hc
  | succ k => simp at hk
theorem list_snoc {W : World} {g C base lo : Nat} {l : List Nat} {j : Nat} (h : W.ownsRow base 3 1 (.slice (some ⟨g, 0, none⟩) (l.length + 1) C) (l.length + 1) (cellsI (intsOf l) ++ [.int .i64 (j : Int)])) (hx : ∀ k ∈ l ++ [j], k ≤ 1048576) (hlo : lo ≤ base) :
    ListAt W (.slice (some ⟨g, 0, none⟩) (l.length + 1) C) (l ++ [j]) lo := by
  have hl : (l ++ [j]).length = l.length + 1 := by rw [List.length_append, List.length_singleton]
  refine ⟨⟨g, C, by rw [hl]⟩, ?_⟩
  have h2 : W.ownsRow base 3 1 (.slice (some ⟨g, 0, none⟩) (l ++ [j]).length C) (l ++ [j]).length (cellsI (intsOf (l ++ [j]))) := by
    rw [intsOf_snoc, hl, show cellsI (intsOf l ++ [(j : Int)]) = cellsI (intsOf l) ++ [.int .i64 (j : Int)] by simp [cellsI]]
    exact h
  have h3 := owns_list h2 hx
  rw [hl] at h3
  exact h3.wider hlo (Nat.le_refl _)

set_option maxRecDepth 100000 in
set_option maxHeartbeats 16000000 in
theorem l2Funs_any (v v' : Value) (rows rows' : Rows2) (w0 : World) (hv : RowsAt w0 v rows) (hv' : RowsAt w0 v' rows') (hd : domB rows = true) (hd' : domB rows' = true) (most : Nat) (hmost : most ≤ 5000) :
    ∀ (f : Nat) (l : List Nat) (vl vo : Value) (OUT : List (List Nat)) (w : World) (lo : Nat), l.length + f = rows.length → (∀ x ∈ l, x < rows'.length) → MonN (Bf rows) (Bf rows') l → OUT.length ≤ most + 1 → Below w0.heap.size w0 w → w0.heap.size ≤ lo →
      ListAt w vl l w0.heap.size → OwnR 3 26 w vo OUT.length (rowsF (I2 OUT)) lo w.heap.size → lo ≤ w.heap.size →
      Calls Tryd.prog 139 #[.agg #[v], .agg #[v'], vl, .int .i64 (most : Int), vo] w (FunsP ((OUT ++ extL rows'.length (monN (Bf rows) (Bf rows')) f l).take (most + 1)) vo lo w) := by
  have hok := dom_ok hd
  have hok' := dom_ok hd'
  have hn := hok.bulk
  have hn' := hok'.bulk
  have hl := valid_lists (show validB rows = true by unfold domB at hd; rw [Bool.and_eq_true] at hd; exact hd.1)
  have hl' := valid_lists (show validB rows' = true by unfold domB at hd'; rw [Bool.and_eq_true] at hd'; exact hd'.1)
  have HLE := Lib.hid (fun W (hB : Below w0.heap.size w0 W) (a b : Nat) (ha : a < rows.length) => le_call (hv.below hB) hl hn (a : Int) (b : Int) (by omega) (by omega) rfl)
  have HLE' := Lib.hid (fun W (hB : Below w0.heap.size w0 W) (a b : Nat) (ha : a < rows'.length) => le_call (hv'.below hB) hl' hn' (a : Int) (b : Int) (by omega) (by omega) rfl)
  have hlen := hok.len
  have hlen' := hok'.len
  have HRF := Lib.hid (fun j (hj : j < rows'.length) => up_refl hok' hj)
  obtain ⟨A, C, rfl, _⟩ := hv
  obtain ⟨A', C', rfl, _⟩ := hv'
  obtain ⟨i0, hi0, hz0, hz1, hz2⟩ := info_parts infoInt
  obtain ⟨j0, hj0, hy0, hy1, hy2⟩ := info_parts infoInts
  clear hn hn' hl hl' hok hok' hd hd'
  intro f
  induction f with
  | zero =>
    intro l vl vo OUT w lo hlf hlx hmon hout hB hlo hL hO hloz
    have hLF := LF.start (v := .slice A rows.length C) (v' := .slice A' rows'.length C') hB hL hO
    have hc0 := hLF.c0
    have H0 := Lib.hid hLF
    obtain ⟨lb, CL, rfl⟩ := hL.form
    obtain ⟨ao, CO, rfl⟩ := hO.form
    clear hL hO hLF
    by_cases hfull : most < OUT.length
    · have HE := Lib.hid (show (OUT ++ extL rows'.length (monN (Bf rows) (Bf rows')) 0 l).take (most + 1) = OUT by
        have e := take_full (c := most + 1) (xs := OUT) (extL rows'.length (monN (Bf rows) (Bf rows')) 0 l) (by rw [List.take_of_length_le hout]; omega)
        rw [e, List.take_of_length_le hout])
      have hgt : (most : Int) < (OUT.length : Int) := by omega
      clear hout
      go_enter Tryd.func139, Tryd.ntmps139
      go_wp2
      go_ret
      exact ⟨_, rfl, by rw [HE.out]; exact H0.out.out, H0.out.grown, .inl rfl⟩
    · have hgt : ¬ (most : Int) < (OUT.length : Int) := by omega
      have hln : ((l.length : Int) == (rows.length : Int)) = true := by rw [beq_iff_eq]; omega
      have hln2 : (l.length == rows.length) = true := by rw [beq_iff_eq]; omega
      have HE := Lib.hid (show (OUT ++ extL rows'.length (monN (Bf rows) (Bf rows')) 0 l).take (most + 1) = OUT ++ [l] by
        rw [ext_end hmon, List.take_of_length_le (by rw [List.length_append]; simp; omega)])
      have hLn := H0.out.list.news
      have hs2 : ((w.alloc (.cells #[.slice A rows.length C] 25)).alloc (.cells #[.slice A' rows'.length C'] 25)).heap.size = w.heap.size + 2 := by rw [World.size_alloc, World.size_alloc]
      obtain ⟨W2, hW2⟩ : ∃ W2, W2 = (w.alloc (.cells #[.slice A rows.length C] 25)).alloc (.cells #[.slice A' rows'.length C'] 25) := ⟨_, rfl⟩
      rw [← hW2] at H0 hLn hs2 hc0
      have hbA := (Below.refl W2.heap.size W2).alloc (Nat.le_refl _) (.cells #[] 3)
      have HMADE := Lib.hid (World.ownsRow_made (e := 3) (size := 1) W2 #[] 0 (base := W2.heap.size) (Nat.le_refl _) (Nat.zero_le _) (by simp))
      have HNEWS := Lib.hid ((H0.out.list.step hbA).news)
      have HBA := Lib.hid hbA
      have HS2 := Lib.hid hs2
      clear hs2
      have hl200 : l.length ≤ 200 := by omega
      have HLX := Lib.hid hlx
      clear hbA hLn hfull
      go_enter Tryd.func139, Tryd.ntmps139
      go_upto_region 1 with fail
      rw [← hW2]
      have HW2 := Lib.hid hW2
      clear hW2
      obtain ⟨fv, hf0, hf1, hf2⟩ := H0.out.out.owns
      have HF0 := Lib.hid hf0
      have HF1 := Lib.hid hf1
      have HF2 := Lib.hid hf2
      clear hf0 hf1 hf2
      go_wp2_with (first | (at_builtin; refine wpList_append_own _ rfl _ _ 26 rfl W2.heap.size 3 i0 (.int .i64 0) 1 8 Tryd.underlying26 hi0 hz0 hz1 hz2 rfl (by decide) _ _ _ rfl HMADE.out ⟨lb, 0, none⟩ l.length CL (cellsI (intsOf l)) rfl (by simp [cellsI, intsOf]) HNEWS.out (by intro u hu; simp [cellsI] at hu; obtain ⟨_, _, rfl⟩ := hu; rfl) (by unfold maxLen; omega) (by omega) (by simp) ?_; intro v1 w3 hown1 hgrow1 _; rw [List.nil_append, Nat.zero_add] at hown1; obtain ⟨a1, C1, rfl⟩ := owns_formS hown1; have HOWN1 := Lib.hid hown1; have HB3 : Hid (Below W2.heap.size W2 w3) := Lib.hid (HBA.out.grown hgrow1 HBA.out.size (fun b e => (HMADE.out.lt b e).1)); clear hown1 hgrow1) | (at_builtin; refine wpList_append_lies _ rfl _ _ 23 rfl lo 26 j0 (.slice none 0 0) 1 24 Tryd.underlying23 hj0 hy0 hy1 hy2 rfl (by decide) (.slice ao OUT.length CO) OUT.length ((List.range OUT.length).map fv) (by rfl) ((owns_below HF0.out HB3.out).alloc _) ⟨w3.heap.size, 0, none⟩ 1 1 [.slice a1 l.length C1] (by rfl) rfl (World.news_of_block (heap_alloc_new w3 _)) (by simp [Value.oneCell']) (by omega) (by unfold maxLen; omega) (by omega) (by have := HB3.out.size; have := HS2.out; simp; omega) (w3.heap.size + 1) (by simp) ?_; intro g2 cap2 w4 hown2 hgrow2 hat2 hlt2))
      go_ret
      have hp := OwnR.pushed (W := w3) (mid := W2.heap.size) (lo := lo) int_ne (owns_below HF0.out HB3.out) (fun j hj => (HF1.out j hj).kept fun b hb => HB3.out.block b ((HF1.out j hj).block b hb).2.1) HF2.out (by have := HS2.out; omega) HB3.out.size (owns_list HOWN1.out (fun k hk => by have := HLX.out k hk; omega)) ((Below.refl _ w3).alloc (Nat.le_refl _) _) hown2 ⟨hgrow2.os, hgrow2.tape, hgrow2.output, hgrow2.size, hgrow2.block⟩
      refine ⟨_, rfl, ?_, ?_, ?_⟩
      · rw [HE.out, List.length_append]
        exact hp.congr fun j hj => I2_snoc OUT l j hj
      · refine grown_then H0.out.grown (grown_then (grown_below HB3.out _) (grown_then (grown_below ((Below.refl _ w3).alloc (Nat.le_refl _) _) _) hgrow2))
      · rcases hat2 with h | h
        · exact .inl h.symm
        · refine .inr fun b e => ?_
          have h1 := HB3.out.size
          have h2 := HS2.out
          have h3 : g2 = b := by simpa [Value.ownBlock] using e
          omega
  | succ f ih =>
    intro l vl vo OUT w lo hlf hlx hmon hout hB hlo hL hO hloz
    have hLF := LF.start (v := .slice A rows.length C) (v' := .slice A' rows'.length C') hB hL hO
    have hc0 := hLF.c0
    have H0 := Lib.hid hLF
    have HVB := Lib.hid (fun b (e : vo.ownBlock = some b) => (hO.rowType b e).2.1)
    have hW0 := hB.size
    obtain ⟨lb, CL, rfl⟩ := hL.form
    obtain ⟨ao, CO, rfl⟩ := hO.form
    have HRZ := Lib.hid hlx
    have HMJ := Lib.hid (fun (j : Nat) (hf : j < rows'.length ∧ fineN (Bf rows) (Bf rows') l j = true) => hmon.snoc hf.2 (HRF.out j hf.1))
    clear hL hO hLF
    by_cases hfull : most < OUT.length
    · have HE := Lib.hid (show (OUT ++ extL rows'.length (monN (Bf rows) (Bf rows')) (f + 1) l).take (most + 1) = OUT by
        have e := take_full (c := most + 1) (xs := OUT) (extL rows'.length (monN (Bf rows) (Bf rows')) (f + 1) l) (by rw [List.take_of_length_le hout]; omega)
        rw [e, List.take_of_length_le hout])
      have hgt : (most : Int) < (OUT.length : Int) := by omega
      clear hout
      go_enter Tryd.func139, Tryd.ntmps139
      go_wp2
      go_ret
      exact ⟨_, rfl, by rw [HE.out]; exact H0.out.out, H0.out.grown, .inl rfl⟩
    · have hgt : ¬ (most : Int) < (OUT.length : Int) := by omega
      have hln : ((l.length : Int) == (rows.length : Int)) = false := by rw [beq_eq_false_iff_ne]; omega
      have hln2 : (l.length == rows.length) = false := by rw [beq_eq_false_iff_ne]; omega
      have hln3 : l.length < rows.length := by omega
      have hl200 : l.length ≤ 200 := by omega
      have HIH := Lib.hid ih
      have HOUT := Lib.hid hout
      clear ih hfull
      go_enter Tryd.func139, Tryd.ntmps139
      go_wp2
      clear hc0
      go_loopw [4, 12, 13] (fun ov jv _ wr => ∃ (j : Nat) (R : List (List Nat)), j ≤ rows'.length ∧ jv = .int .i64 j ∧ R = (OUT ++ foundJ rows'.length (monN (Bf rows) (Bf rows')) f l j).take (most + 1) ∧ LF w0 w (.slice A rows.length C) (.slice A' rows'.length C') (.slice (some ⟨lb, 0, none⟩) l.length CL) (.slice ao OUT.length CO) ov l R lo wr) (fun _ jv _ _ => rows'.length - (intOf jv).toNat)
      case atStart => exact ⟨0, OUT, Nat.zero_le _, rfl, by rw [foundJ_zero, List.append_nil, List.take_of_length_le HOUT.out], H0.out⟩
      case round =>
        obtain ⟨j, R, hj, rfl, hR, hh⟩ := hrel
        obtain ⟨ar, CR, rfl⟩ := hh.out.form
        have HJ := Lib.hid hh
        have HRR := Lib.hid hR
        have hcell1 := hh.c1
        clear hh hR H0
        by_cases hjl : j < rows'.length
        · have HRL := Lib.hid (show R.length ≤ most + 1 by rw [HRR.out, List.length_take]; omega)
          go_wp2
          clear hcell1
          go_loopw [13, 14] (fun fv kv wr => ∃ k : Nat, k ≤ l.length ∧ kv = .int .i64 k ∧ fv = .bool (fineTo (Bf rows) (Bf rows') l j k) ∧ LF w0 w (.slice A rows.length C) (.slice A' rows'.length C') (.slice (some ⟨lb, 0, none⟩) l.length CL) (.slice ao OUT.length CO) (.slice ar R.length CR) l R lo wr) (fun _ kv _ => l.length - (intOf kv).toNat)
          case atStart => exact ⟨0, Nat.zero_le _, rfl, rfl, HJ.out⟩
          case round =>
          obtain ⟨k, hk, rfl, rfl, hh⟩ := hrel
          have HK := Lib.hid hh
          clear hh HJ
          by_cases hgo : k < l.length ∧ fineTo (Bf rows) (Bf rows') l j k = true
          · obtain ⟨hkl, hft⟩ := hgo
            rw [hft]
            have hlk := HK.out.list.cell hkl
            have hkl2 : (k : Int) < (l.length : Int) := by omega
            have hlkl : l.getD k 0 < rows'.length := HRZ.out _ (by rw [List.getD_eq_getElem?_getD, List.getElem?_eq_getElem hkl]; exact List.getElem_mem hkl)
            obtain ⟨lk, hlkd⟩ : ∃ lk, l.getD k 0 = lk := ⟨_, rfl⟩
            rw [hlkd] at hlk hlkl
            have hc1 := fun d os => Calls.regrown_of (d := d) (os := os) (HLE.out _ (HK.out.step (below_regrown wr d os)).below k l.length (by omega))
            have hc2 := fun d os => Calls.regrown_of (d := d) (os := os) (HLE'.out _ (HK.out.step (below_regrown wr d os)).below lk j hlkl)
            have hc3 := fun d os => Calls.regrown_of (d := d) (os := os) (HLE.out _ (HK.out.step (below_regrown wr d os)).below l.length k hln3)
            have hc4 := fun d os => Calls.regrown_of (d := d) (os := os) (HLE'.out _ (HK.out.step (below_regrown wr d os)).below j lk hjl)
            rw [Int.toNat_natCast] at hc1 hc2 hc3 hc4
            have hq0 := fun d os => cell_regrown HK.out.c0 d os
            have hq1 := fun d os => cell_regrown HK.out.c1 d os
            have hq2 := fun d os => cell_regrown hlk d os
            have hfs := fineTo_succ (Bf rows) (Bf rows') l j k
            rw [hft, Bool.true_and, hlkd] at hfs
            clear hlkd
            obtain ⟨b1, hb1⟩ : ∃ b1, upB rows k (l.length : Int) = b1 := ⟨_, rfl⟩
            simp only [hb1] at hc1
            rw [show Bf rows k l.length = b1 from hb1] at hfs
            clear hb1
            obtain ⟨b2, hb2⟩ : ∃ b2, upB rows' lk (j : Int) = b2 := ⟨_, rfl⟩
            simp only [hb2] at hc2
            rw [show Bf rows' lk j = b2 from hb2] at hfs
            clear hb2
            obtain ⟨b3, hb3⟩ : ∃ b3, upB rows l.length (k : Int) = b3 := ⟨_, rfl⟩
            simp only [hb3] at hc3
            rw [show Bf rows l.length k = b3 from hb3] at hfs
            clear hb3
            obtain ⟨b4, hb4⟩ : ∃ b4, upB rows' j (lk : Int) = b4 := ⟨_, rfl⟩
            simp only [hb4] at hc4
            rw [show Bf rows' j lk = b4 from hb4] at hfs
            clear hb4
            have HFS := Lib.hid hfs
            clear hfs hft
            cases b1 <;> cases b2 <;> cases b3 <;> cases b4
            all_goals
              go_wp2
              refine wp_region_quiet_below (by kernel_rfl) (by kernel_rfl) ?_
              repeat (first | rw [Bool.not_true] | rw [Bool.not_false] | go_big_quiet_step (first | (go_at_call_of 98 (#[Value.agg #[Value.slice A rows.length C], Value.int .i64 (k : Int), Value.int .i64 (l.length : Int)]); exact hc1 _ _) | (go_at_call_of 98 (#[Value.agg #[Value.slice A' rows'.length C'], Value.int .i64 (lk : Int), Value.int .i64 (j : Int)]); exact hc2 _ _) | (go_at_call_of 98 (#[Value.agg #[Value.slice A rows.length C], Value.int .i64 (l.length : Int), Value.int .i64 (k : Int)]); exact hc3 _ _) | (go_at_call_of 98 (#[Value.agg #[Value.slice A' rows'.length C'], Value.int .i64 (j : Int), Value.int .i64 (lk : Int)]); exact hc4 _ _)))
              refine wpQuiet_nil ?_
              intro _ hw'
              obtain ⟨⟨dq, osq⟩, hw''⟩ := hw'
              subst hw''
              clear hc1 hc2 hc3 hc4 hq0 hq1 hq2
              go_wp2
              go_roundw
              case rel => exact ⟨k + 1, by omega, by go_num, by rw [HFS.out]; rfl, HK.out.step (below_regrown wr dq osq)⟩
              case measure => simp [intOf]; omega
          · have hfin : (k = l.length ∧ fineTo (Bf rows) (Bf rows') l j k = fineN (Bf rows) (Bf rows') l j) ∨ (fineTo (Bf rows) (Bf rows') l j k = false ∧ fineN (Bf rows) (Bf rows') l j = false) := by
              by_cases e : k < l.length
              · have h : fineTo (Bf rows) (Bf rows') l j k = false := by
                  cases h : fineTo (Bf rows) (Bf rows') l j k with
                  | false => rfl
                  | true => exact absurd ⟨e, h⟩ hgo
                exact .inr ⟨h, fineTo_no h (by omega)⟩
              · obtain rfl : k = l.length := by omega
                exact .inl ⟨rfl, fineTo_all _ _ _ _⟩
            have hex : fineTo (Bf rows) (Bf rows') l j k = fineN (Bf rows) (Bf rows') l j := by
              rcases hfin with h | h
              · exact h.2
              · rw [h.1, h.2]
            have hst : decide ((k : Int) < (l.length : Int)) = true → fineN (Bf rows) (Bf rows') l j = false := fun e => by
              rcases hfin with h | h
              · have := of_decide_eq_true e; omega
              · exact h.2
            rw [hex]
            clear hfin hgo hex
            cases hfn : fineN (Bf rows) (Bf rows') l j with
            | false =>
              have HNEXT := Lib.hid (show R = (OUT ++ foundJ rows'.length (monN (Bf rows) (Bf rows')) f l (j + 1)).take (most + 1) by rw [HRR.out, foundJ_succ, ext_notfine hfn, List.append_nil])
              clear hfn hst
              rcases Nat.lt_or_ge k l.length with hkl | hkl
              · have hkl2 : (k : Int) < (l.length : Int) := by omega
                go_wp2
                go_roundw
                case rel => exact ⟨j + 1, R, by omega, by go_num, HNEXT.out, HK.out⟩
                case measure => simp [intOf]; omega
              · have hkl2 : ¬ (k : Int) < (l.length : Int) := by omega
                have hkl3 : ¬ k < l.length := by omega
                go_wp2
                go_roundw
                case rel => exact ⟨j + 1, R, by omega, by go_num, HNEXT.out, HK.out⟩
                case measure => simp [intOf]; omega
            | true =>
              have hkk : decide ((k : Int) < (l.length : Int)) = false := by
                cases h : decide ((k : Int) < (l.length : Int)) with
                | false => rfl
                | true => rw [hst h] at hfn; cases hfn
              have HFJ := Lib.hid (And.intro hjl hfn)
              have hmonj := fun h => HMJ.out j h
              have HJL2 := Lib.hid (show ∀ x ∈ l ++ [j], x < rows'.length from fun x hx => by
                rcases List.mem_append.1 hx with h | h
                · exact HRZ.out x h
                · rw [List.mem_singleton.1 h]; exact hjl)
              have HJL := Lib.hid (show ∀ x ∈ l ++ [j], x ≤ 1048576 from fun x hx => by have := HJL2.out x hx; omega)
              obtain ⟨RR, hRR⟩ : ∃ RR, (R ++ extL rows'.length (monN (Bf rows) (Bf rows')) f (l ++ [j])).take (most + 1) = RR := ⟨_, rfl⟩
              have HRRQ := Lib.hid hRR
              have HNEXT := Lib.hid (show RR = (OUT ++ foundJ rows'.length (monN (Bf rows) (Bf rows')) f l (j + 1)).take (most + 1) by
                rw [← hRR, foundJ_succ, ← List.append_assoc, HRR.out, take_more])
              clear hRR
              clear hfn hst
              have hkn : ¬ (k : Int) < (l.length : Int) := of_decide_eq_false hkk
              have hkn2 : ¬ k < l.length := by omega
              clear hkk
              go_wp2
              refine wp_region_held_drew (S := fun W' : World => W'.cell? ⟨w.heap.size, 0, none⟩ = some (.slice A rows.length C) ∧ W'.cell? ⟨w.heap.size + 1, 0, none⟩ = some (.slice A' rows'.length C')) (by kernel_rfl) ⟨HK.out.c0, HK.out.c1⟩ (fun hHeld => ?_)
              have E0 := Lib.hid (HK.out.step (below_drew wr _))
              generalize wr.drew = W0 at E0 hHeld ⊢
              have B0 := Lib.hid (Below.refl W0.heap.size W0)
              have W0Z := Lib.hid (E0.out.below.size)
              refine wpAnyH_take (i := 0) (v := .agg #[.slice A rows.length C]) rfl (by kernel_rfl) (by kernel_rfl) (by kernel_rfl) (fun _ _ _ h => h) (Or.inl ⟨by rfl, ?_⟩) (by assumption) ?_
              · (intro W hSw; obtain ⟨hS0, hS1⟩ := hSw; go_simp)
              try dsimp only [Act.put]
              refine wpAnyH_take (i := 1) (v := .agg #[.slice A' rows'.length C']) rfl (by kernel_rfl) (by kernel_rfl) (by kernel_rfl) (fun _ _ _ h => h) (Or.inl ⟨by rfl, ?_⟩) (by assumption) ?_
              · (intro W hSw; obtain ⟨hS0, hS1⟩ := hSw; go_simp)
              try dsimp only [Act.put]
              refine wpAnyH_take (i := 3) (v := .slice (some ⟨lb, 0, none⟩) l.length CL) rfl (by kernel_rfl) (by kernel_rfl) (by kernel_rfl) (fun _ _ _ h => h) (Or.inl ⟨by rfl, ?_⟩) (by assumption) ?_
              · (intro W hSw; obtain ⟨hS0, hS1⟩ := hSw; go_simp)
              try dsimp only [Act.put]
              refine wpAnyH_take (i := 5) (v := .int .i64 (j : Int)) rfl (by kernel_rfl) (by kernel_rfl) (by kernel_rfl) (fun _ _ _ h => h) (Or.inl ⟨by rfl, ?_⟩) (by assumption) ?_
              · (intro W hSw; obtain ⟨hS0, hS1⟩ := hSw; go_simp)
              try dsimp only [Act.put]
              refine wpAnyH_take (i := 8) (v := .int .i64 (most : Int)) rfl (by kernel_rfl) (by kernel_rfl) (by kernel_rfl) (fun _ _ _ h => h) (Or.inl ⟨by rfl, ?_⟩) (by assumption) ?_
              · (intro W hSw; obtain ⟨hS0, hS1⟩ := hSw; go_simp)
              try dsimp only [Act.put]
              refine wpAnyH_take (i := 9) (v := .slice ar R.length CR) rfl (by kernel_rfl) (by kernel_rfl) (by kernel_rfl) (fun _ _ _ h => h) (Or.inl ⟨by rfl, ?_⟩) (by assumption) ?_
              · (intro W hSw; obtain ⟨hS0, hS1⟩ := hSw; go_simp)
              try dsimp only [Act.put]
              refine wpAnyH_ready (rs := [2, 6]) (by kernel_rfl) (by simp) ?_
              refine AllReadyH.cons rfl (fun K hK => ?_) ?_
              · go_simp
                have hb := (Below.refl W0.heap.size W0).alloc (Nat.le_refl _) (.cells #[] 3)
                have B1 := Lib.hid (B0.out.trans (hb.mono B0.out.size))
                clear hb
                have HO1 := Lib.hid (World.ownsRow_made (e := 3) (size := 1) W0 #[] 0 (base := W0.heap.size) B0.out.size (Nat.zero_le _) (by simp))
                generalize (W0.alloc (.cells #[] 3)) = w1 at B1 HO1 ⊢
                refine hK.out _ _ (⟨(E0.out.step B1.out).c0, (E0.out.step B1.out).c1⟩) (fun hHeld => ?_)
                clear hK K
                try dsimp only [Act.put]
                refine wpAnyH_ready (rs := [4, 6]) (by kernel_rfl) (by simp) ?_
                refine AllReadyH.cons rfl (fun K hK => ?_) ?_
                · refine step_append_own (by rfl) _ _ 26 (by rfl) W0.heap.size 3 i0 (.int .i64 0) 1 8 Tryd.underlying26 hi0 hz0 hz1 hz2 rfl (by decide) (.slice (some ⟨W0.heap.size, 0, none⟩) 0 0) 0 [] (by rfl) HO1.out ⟨lb, 0, none⟩ l.length CL (cellsI (intsOf l)) (by rfl) (by simp [cellsI, intsOf]) (E0.out.step B1.out).list.news cellsI_one (by unfold maxLen; omega) (by omega) B1.out.size ?_
                  intro v1 w2 hown1 hgrow1 _
                  rw [List.nil_append, Nat.zero_add] at hown1
                  obtain ⟨a1, C1, rfl⟩ := owns_formS hown1
                  have HV2 := Lib.hid hown1
                  have B2 := Lib.hid (B1.out.grown hgrow1 B1.out.size (fun b e => (HO1.out.lt b e).1))
                  clear hown1 hgrow1
                  refine hK.out _ _ (⟨(E0.out.step B2.out).c0, (E0.out.step B2.out).c1⟩) (fun hHeld => ?_)
                  clear hK K
                  try dsimp only [Act.put]
                  refine wpAnyH_ready (rs := [6]) (by kernel_rfl) (by simp) ?_
                  refine AllReadyH.cons rfl (fun K hK => ?_) ?_
                  · go_simp
                    have hb := (Below.refl w2.heap.size w2).alloc (Nat.le_refl _) (.cells #[.int .i64 (j : Int)] 3)
                    have B3 := Lib.hid (B2.out.trans (hb.mono B2.out.size))
                    clear hb
                    have HC3 := Lib.hid (show (w2.alloc (.cells #[.int .i64 (j : Int)] 3)).cell? ⟨w2.heap.size, 0, none⟩ = some (.int .i64 (j : Int)) by rw [cell_of_row _ w2.heap.size 0 _ _ _ (heap_alloc_new _ _)]; rfl)
                    have HV3 := Lib.hid (HV2.out.alloc (.cells #[.int .i64 (j : Int)] 3))
                    generalize (w2.alloc (.cells #[.int .i64 (j : Int)] 3)) = w3 at B3 HC3 HV3 ⊢
                    refine hK.out _ _ (⟨(E0.out.step B3.out).c0, (E0.out.step B3.out).c1⟩) (fun hHeld => ?_)
                    clear hK K
                    try dsimp only [Act.put]
                    refine wpAnyH_ready (rs := [7]) (by kernel_rfl) (by simp) ?_
                    refine AllReadyH.cons rfl (fun K hK => ?_) ?_
                    · refine step_append_lies _ (by rfl) _ _ 26 (by rfl) W0.heap.size 3 i0 (.int .i64 0) 1 8 Tryd.underlying26 hi0 hz0 hz1 hz2 rfl (by decide) (.slice a1 l.length C1) l.length (cellsI (intsOf l)) (by rfl) HV3.out ⟨w2.heap.size, 0, none⟩ 1 1 [.int .i64 (j : Int)] (by rfl) rfl (news_one HC3.out) (by simp [Value.oneCell']) (by omega) (by unfold maxLen; omega) (by omega) B3.out.size w3.heap.size rfl ?_
                      intro g2 C2 w4 hown2 hgrow2 _ _
                      have B4 := Lib.hid (B3.out.grown hgrow2 B3.out.size (fun b e => (HV3.out.lt b e).1))
                      have HL2 := Lib.hid (list_snoc hown2 HJL.out W0Z.out)
                      clear hown2 hgrow2
                      refine hK.out _ _ (⟨(E0.out.step B4.out).c0, (E0.out.step B4.out).c1⟩) (fun hHeld => ?_)
                      clear hK K
                      try dsimp only [Act.put]
                      refine wpAnyH_ready (rs := [10]) (by kernel_rfl) (by simp) ?_
                      refine AllReadyH.cons rfl (fun K hK => ?_) ?_
                      · go_simp
                        have EC := Lib.hid (E0.out.step B4.out)
                        have hih := HIH.out (l ++ [j]) (.slice (some ⟨g2, 0, none⟩) (l.length + 1) C2) (.slice ar R.length CR) R w4 lo (by rw [List.length_append, List.length_singleton]; omega) HJL2.out (hmonj HFJ.out) HRL.out EC.out.below hlo HL2.out EC.out.out (Nat.le_trans hloz (Nat.le_trans (Nat.le_trans (Nat.le_add_right _ 2) E0.out.size) B4.out.size))
                        rw [HRRQ.out] at hih
                        refine hih.mono ?_
                        clear hih
                        rintro e w5 ⟨vo', rfl, ho, hg, hf⟩
                        have ED := Lib.hid (EC.out.called HVB.out hlo ho hg hf)
                        obtain ⟨ad, CD, rfl⟩ := ho.form
                        clear ho hg hf
                        go_wp2_with fail
                        refine hK.out _ _ (⟨ED.out.c0, ED.out.c1⟩) (fun hHeld => ?_)
                        clear hK K
                        try dsimp only [Act.put]
                        refine wpAnyH_ready (rs := [11]) (by kernel_rfl) (by simp) ?_
                        refine AllReadyH.cons rfl (fun K hK => ?_) ?_
                        · go_simp
                          refine hK.out _ _ (⟨ED.out.c0, ED.out.c1⟩) (fun hHeld => ?_)
                          clear hK K
                          try dsimp only [Act.put]
                          refine wpAnyH_done (by kernel_rfl) ?_ _
                          go_wp2_with fail
                          go_roundw
                          case rel => exact ⟨j + 1, _, by omega, by go_num, HNEXT.out, ED.out⟩
                          case measure => simp [intOf]; omega
                        exact AllReadyH.nil
                      exact AllReadyH.nil
                    exact AllReadyH.nil
                  exact AllReadyH.nil
                refine AllReadyH.cons rfl (fun K hK => ?_) ?_
                · go_simp
                  have hb := (Below.refl w1.heap.size w1).alloc (Nat.le_refl _) (.cells #[.int .i64 (j : Int)] 3)
                  have B2 := Lib.hid (B1.out.trans (hb.mono B1.out.size))
                  clear hb
                  have HC2 := Lib.hid (show (w1.alloc (.cells #[.int .i64 (j : Int)] 3)).cell? ⟨w1.heap.size, 0, none⟩ = some (.int .i64 (j : Int)) by rw [cell_of_row _ w1.heap.size 0 _ _ _ (heap_alloc_new _ _)]; rfl)
                  have HO2 := Lib.hid (HO1.out.alloc (.cells #[.int .i64 (j : Int)] 3))
                  have HNE := Lib.hid (show w1.heap.size ≠ W0.heap.size from fun e => by have := (HO1.out.lt W0.heap.size rfl).2; omega)
                  generalize (w1.alloc (.cells #[.int .i64 (j : Int)] 3)) = w2 at B2 HC2 HO2 ⊢
                  refine hK.out _ _ (⟨(E0.out.step B2.out).c0, (E0.out.step B2.out).c1⟩) (fun hHeld => ?_)
                  clear hK K
                  try dsimp only [Act.put]
                  refine wpAnyH_ready (rs := [4]) (by kernel_rfl) (by simp) ?_
                  refine AllReadyH.cons rfl (fun K hK => ?_) ?_
                  · refine step_append_own (by rfl) _ _ 26 (by rfl) W0.heap.size 3 i0 (.int .i64 0) 1 8 Tryd.underlying26 hi0 hz0 hz1 hz2 rfl (by decide) (.slice (some ⟨W0.heap.size, 0, none⟩) 0 0) 0 [] (by rfl) HO2.out ⟨lb, 0, none⟩ l.length CL (cellsI (intsOf l)) (by rfl) (by simp [cellsI, intsOf]) (E0.out.step B2.out).list.news cellsI_one (by unfold maxLen; omega) (by omega) B2.out.size ?_
                    intro v1 w3 hown1 hgrow1 _
                    rw [List.nil_append, Nat.zero_add] at hown1
                    obtain ⟨a1, C1, rfl⟩ := owns_formS hown1
                    have HV3 := Lib.hid hown1
                    have B3 := Lib.hid (B2.out.grown hgrow1 B2.out.size (fun b e => (HO2.out.lt b e).1))
                    have HC3 := Lib.hid ((World.cell?_of_block (hgrow1.block w1.heap.size (cell_lt HC2.out) (fun e => by injection e with e; exact HNE.out e))).trans HC2.out)
                    clear hown1 hgrow1
                    refine hK.out _ _ (⟨(E0.out.step B3.out).c0, (E0.out.step B3.out).c1⟩) (fun hHeld => ?_)
                    clear hK K
                    try dsimp only [Act.put]
                    refine wpAnyH_ready (rs := [7]) (by kernel_rfl) (by simp) ?_
                    refine AllReadyH.cons rfl (fun K hK => ?_) ?_
                    · refine step_append_lies _ (by rfl) _ _ 26 (by rfl) W0.heap.size 3 i0 (.int .i64 0) 1 8 Tryd.underlying26 hi0 hz0 hz1 hz2 rfl (by decide) (.slice a1 l.length C1) l.length (cellsI (intsOf l)) (by rfl) HV3.out ⟨w1.heap.size, 0, none⟩ 1 1 [.int .i64 (j : Int)] (by rfl) rfl (news_one HC3.out) (by simp [Value.oneCell']) (by omega) (by unfold maxLen; omega) (by omega) B3.out.size w3.heap.size rfl ?_
                      intro g2 C2 w4 hown2 hgrow2 _ _
                      have B4 := Lib.hid (B3.out.grown hgrow2 B3.out.size (fun b e => (HV3.out.lt b e).1))
                      have HL2 := Lib.hid (list_snoc hown2 HJL.out W0Z.out)
                      clear hown2 hgrow2
                      refine hK.out _ _ (⟨(E0.out.step B4.out).c0, (E0.out.step B4.out).c1⟩) (fun hHeld => ?_)
                      clear hK K
                      try dsimp only [Act.put]
                      refine wpAnyH_ready (rs := [10]) (by kernel_rfl) (by simp) ?_
                      refine AllReadyH.cons rfl (fun K hK => ?_) ?_
                      · go_simp
                        have EC := Lib.hid (E0.out.step B4.out)
                        have hih := HIH.out (l ++ [j]) (.slice (some ⟨g2, 0, none⟩) (l.length + 1) C2) (.slice ar R.length CR) R w4 lo (by rw [List.length_append, List.length_singleton]; omega) HJL2.out (hmonj HFJ.out) HRL.out EC.out.below hlo HL2.out EC.out.out (Nat.le_trans hloz (Nat.le_trans (Nat.le_trans (Nat.le_add_right _ 2) E0.out.size) B4.out.size))
                        rw [HRRQ.out] at hih
                        refine hih.mono ?_
                        clear hih
                        rintro e w5 ⟨vo', rfl, ho, hg, hf⟩
                        have ED := Lib.hid (EC.out.called HVB.out hlo ho hg hf)
                        obtain ⟨ad, CD, rfl⟩ := ho.form
                        clear ho hg hf
                        go_wp2_with fail
                        refine hK.out _ _ (⟨ED.out.c0, ED.out.c1⟩) (fun hHeld => ?_)
                        clear hK K
                        try dsimp only [Act.put]
                        refine wpAnyH_ready (rs := [11]) (by kernel_rfl) (by simp) ?_
                        refine AllReadyH.cons rfl (fun K hK => ?_) ?_
                        · go_simp
                          refine hK.out _ _ (⟨ED.out.c0, ED.out.c1⟩) (fun hHeld => ?_)
                          clear hK K
                          try dsimp only [Act.put]
                          refine wpAnyH_done (by kernel_rfl) ?_ _
                          go_wp2_with fail
                          go_roundw
                          case rel => exact ⟨j + 1, _, by omega, by go_num, HNEXT.out, ED.out⟩
                          case measure => simp [intOf]; omega
                        exact AllReadyH.nil
                      exact AllReadyH.nil
                    exact AllReadyH.nil
                  exact AllReadyH.nil
                exact AllReadyH.nil
              refine AllReadyH.cons rfl (fun K hK => ?_) ?_
              · go_simp
                have hb := (Below.refl W0.heap.size W0).alloc (Nat.le_refl _) (.cells #[.int .i64 (j : Int)] 3)
                have B1 := Lib.hid (B0.out.trans (hb.mono B0.out.size))
                clear hb
                have HC1 := Lib.hid (show (W0.alloc (.cells #[.int .i64 (j : Int)] 3)).cell? ⟨W0.heap.size, 0, none⟩ = some (.int .i64 (j : Int)) by rw [cell_of_row _ W0.heap.size 0 _ _ _ (heap_alloc_new _ _)]; rfl)
                generalize (W0.alloc (.cells #[.int .i64 (j : Int)] 3)) = w1 at B1 HC1 ⊢
                refine hK.out _ _ (⟨(E0.out.step B1.out).c0, (E0.out.step B1.out).c1⟩) (fun hHeld => ?_)
                clear hK K
                try dsimp only [Act.put]
                refine wpAnyH_ready (rs := [2]) (by kernel_rfl) (by simp) ?_
                refine AllReadyH.cons rfl (fun K hK => ?_) ?_
                · go_simp
                  have hb := (Below.refl w1.heap.size w1).alloc (Nat.le_refl _) (.cells #[] 3)
                  have B2 := Lib.hid (B1.out.trans (hb.mono B1.out.size))
                  clear hb
                  have HO2 := Lib.hid (World.ownsRow_made (e := 3) (size := 1) w1 #[] 0 (base := W0.heap.size) B1.out.size (Nat.zero_le _) (by simp))
                  have HC2 := Lib.hid (cell_alloc_any HC1.out (.cells #[] 3))
                  have HNE := Lib.hid (show W0.heap.size ≠ w1.heap.size from fun e => by have : W0.heap.size < w1.heap.size := cell_lt HC1.out; omega)
                  generalize (w1.alloc (.cells #[] 3)) = w2 at B2 HO2 HC2 ⊢
                  refine hK.out _ _ (⟨(E0.out.step B2.out).c0, (E0.out.step B2.out).c1⟩) (fun hHeld => ?_)
                  clear hK K
                  try dsimp only [Act.put]
                  refine wpAnyH_ready (rs := [4]) (by kernel_rfl) (by simp) ?_
                  refine AllReadyH.cons rfl (fun K hK => ?_) ?_
                  · refine step_append_own (by rfl) _ _ 26 (by rfl) W0.heap.size 3 i0 (.int .i64 0) 1 8 Tryd.underlying26 hi0 hz0 hz1 hz2 rfl (by decide) (.slice (some ⟨w1.heap.size, 0, none⟩) 0 0) 0 [] (by rfl) HO2.out ⟨lb, 0, none⟩ l.length CL (cellsI (intsOf l)) (by rfl) (by simp [cellsI, intsOf]) (E0.out.step B2.out).list.news cellsI_one (by unfold maxLen; omega) (by omega) B2.out.size ?_
                    intro v1 w3 hown1 hgrow1 _
                    rw [List.nil_append, Nat.zero_add] at hown1
                    obtain ⟨a1, C1, rfl⟩ := owns_formS hown1
                    have HV3 := Lib.hid hown1
                    have B3 := Lib.hid (B2.out.grown hgrow1 B2.out.size (fun b e => (HO2.out.lt b e).1))
                    have HC3 := Lib.hid ((World.cell?_of_block (hgrow1.block W0.heap.size (cell_lt HC2.out) (fun e => by injection e with e; exact HNE.out e))).trans HC2.out)
                    clear hown1 hgrow1
                    refine hK.out _ _ (⟨(E0.out.step B3.out).c0, (E0.out.step B3.out).c1⟩) (fun hHeld => ?_)
                    clear hK K
                    try dsimp only [Act.put]
                    refine wpAnyH_ready (rs := [7]) (by kernel_rfl) (by simp) ?_
                    refine AllReadyH.cons rfl (fun K hK => ?_) ?_
                    · refine step_append_lies _ (by rfl) _ _ 26 (by rfl) W0.heap.size 3 i0 (.int .i64 0) 1 8 Tryd.underlying26 hi0 hz0 hz1 hz2 rfl (by decide) (.slice a1 l.length C1) l.length (cellsI (intsOf l)) (by rfl) HV3.out ⟨W0.heap.size, 0, none⟩ 1 1 [.int .i64 (j : Int)] (by rfl) rfl (news_one HC3.out) (by simp [Value.oneCell']) (by omega) (by unfold maxLen; omega) (by omega) B3.out.size w3.heap.size rfl ?_
                      intro g2 C2 w4 hown2 hgrow2 _ _
                      have B4 := Lib.hid (B3.out.grown hgrow2 B3.out.size (fun b e => (HV3.out.lt b e).1))
                      have HL2 := Lib.hid (list_snoc hown2 HJL.out W0Z.out)
                      clear hown2 hgrow2
                      refine hK.out _ _ (⟨(E0.out.step B4.out).c0, (E0.out.step B4.out).c1⟩) (fun hHeld => ?_)
                      clear hK K
                      try dsimp only [Act.put]
                      refine wpAnyH_ready (rs := [10]) (by kernel_rfl) (by simp) ?_
                      refine AllReadyH.cons rfl (fun K hK => ?_) ?_
                      · go_simp
                        have EC := Lib.hid (E0.out.step B4.out)
                        have hih := HIH.out (l ++ [j]) (.slice (some ⟨g2, 0, none⟩) (l.length + 1) C2) (.slice ar R.length CR) R w4 lo (by rw [List.length_append, List.length_singleton]; omega) HJL2.out (hmonj HFJ.out) HRL.out EC.out.below hlo HL2.out EC.out.out (Nat.le_trans hloz (Nat.le_trans (Nat.le_trans (Nat.le_add_right _ 2) E0.out.size) B4.out.size))
                        rw [HRRQ.out] at hih
                        refine hih.mono ?_
                        clear hih
                        rintro e w5 ⟨vo', rfl, ho, hg, hf⟩
                        have ED := Lib.hid (EC.out.called HVB.out hlo ho hg hf)
                        obtain ⟨ad, CD, rfl⟩ := ho.form
                        clear ho hg hf
                        go_wp2_with fail
                        refine hK.out _ _ (⟨ED.out.c0, ED.out.c1⟩) (fun hHeld => ?_)
                        clear hK K
                        try dsimp only [Act.put]
                        refine wpAnyH_ready (rs := [11]) (by kernel_rfl) (by simp) ?_
                        refine AllReadyH.cons rfl (fun K hK => ?_) ?_
                        · go_simp
                          refine hK.out _ _ (⟨ED.out.c0, ED.out.c1⟩) (fun hHeld => ?_)
                          clear hK K
                          try dsimp only [Act.put]
                          refine wpAnyH_done (by kernel_rfl) ?_ _
                          go_wp2_with fail
                          go_roundw
                          case rel => exact ⟨j + 1, _, by omega, by go_num, HNEXT.out, ED.out⟩
                          case measure => simp [intOf]; omega
                        exact AllReadyH.nil
                      exact AllReadyH.nil
                    exact AllReadyH.nil
                  exact AllReadyH.nil
                exact AllReadyH.nil
              exact AllReadyH.nil
        · obtain rfl : j = rows'.length := by omega
          have HE := Lib.hid (show (OUT ++ extL rows'.length (monN (Bf rows) (Bf rows')) (f + 1) l).take (most + 1) = R by rw [HRR.out, foundJ_all])
          go_wp2
          go_ret
          refine ⟨_, rfl, by rw [HE.out]; exact HJ.out.out, HJ.out.grown, ?_⟩
          rcases HJ.out.fresh with h | h
          · exact .inl h
          · exact .inr fun b e => by have := h b e; omega
end Go.Proofs.YtkomghohdhengaaDoor

/- The program's FunBelow. -/
namespace Go.Proofs.YtkomghohdhengaaDoor
open Go.RowKit Go.Deep Go.Shelf

theorem ftB_two (rows rows' : Rows2) (f g : List Int) : ftB rows rows' [f, g] = (monoB rows rows' f && monoB rows rows' g) := by
  unfold ftB monoB
  cases domB rows <;> cases domB rows' <;> simp

theorem two_newB (W : World) (a b : Value) (t : TypeId) : (W.alloc (.cells #[a, b] t)).cell? ⟨W.heap.size, 0, none⟩ = some a ∧ (W.alloc (.cells #[a, b] t)).cell? ⟨W.heap.size, 1, none⟩ = some b :=
  ⟨by rw [cell_of_row _ W.heap.size 0 _ _ _ (heap_alloc_new _ _)]; rfl, by rw [cell_of_row _ W.heap.size 1 _ _ _ (heap_alloc_new _ _)]; rfl⟩

/-- While funDomain.below runs: its variable, the lists, the grid. -/
structure FB (w : World) (L p : Nat) (u v : Value) (g' : Nat → Nat) (f g : List Int) (W : World) : Prop where
  c0 : W.cell? ⟨w.heap.size, 0, none⟩ = some (.slice (some ⟨L, 0, none⟩) 2 2)
  c1 : W.cell? ⟨w.heap.size, 1, none⟩ = some (.iface 70 (.pointer (some ⟨p, 0, none⟩)))
  l0 : W.cell? ⟨L, 0, none⟩ = some u
  l1 : W.cell? ⟨L, 1, none⟩ = some v
  f : IntsAt W u f
  g : IntsAt W v g
  grid : GridAt W p g'
  below : Below w.heap.size w W
theorem FB.step {w : World} {L p : Nat} {u v : Value} {g' : Nat → Nat} {f g : List Int} {W W' : World} (h : FB w L p u v g' f g W) (hb : Below W.heap.size W W') : FB w L p u v g' f g W' :=
  ⟨by rw [hb.cell (p := ⟨w.heap.size, 0, none⟩) (cell_lt h.c0)]; exact h.c0, by rw [hb.cell (p := ⟨w.heap.size, 1, none⟩) (cell_lt h.c1)]; exact h.c1,
    by rw [hb.cell (p := ⟨L, 0, none⟩) (cell_lt h.l0)]; exact h.l0, by rw [hb.cell (p := ⟨L, 1, none⟩) (cell_lt h.l1)]; exact h.l1, h.f.below hb, h.g.below hb, h.grid.below hb h.grid.lt, h.below.trans (hb.mono h.below.size)⟩

set_option maxRecDepth 100000 in
set_option maxHeartbeats 8000000 in
theorem funDomBelow_any (L p : Nat) (u v : Value) (rows' : Rows2) (f g : List Int) (w : World) (hok : Ok rows') (h0 : w.cell? ⟨L, 0, none⟩ = some u) (h1 : w.cell? ⟨L, 1, none⟩ = some v) (hf : IntsAt w u f) (hg : IntsAt w v g)
    (hG : GridAt w p (gridF rows')) (hlen : f.length = g.length) (hrf : ∀ i (hi : i < f.length), 0 ≤ f[i] ∧ f[i] < rows'.length) (hrg : ∀ i (hi : i < g.length), 0 ≤ g[i] ∧ g[i] < rows'.length) :
    Calls Tryd.prog 81 #[.agg #[.slice (some ⟨L, 0, none⟩) 2 2, .iface 70 (.pointer (some ⟨p, 0, none⟩))], .int .i64 0, .int .i64 1] w (SaysN (underI rows' f g) w) := by
  have b1 := (Below.refl w.heap.size w).alloc (Nat.le_refl _) (.cells #[.slice (some ⟨L, 0, none⟩) 2 2, .iface 70 (.pointer (some ⟨p, 0, none⟩))] 83)
  have hB : FB w L p u v (gridF rows') f g (w.alloc (.cells #[.slice (some ⟨L, 0, none⟩) 2 2, .iface 70 (.pointer (some ⟨p, 0, none⟩))] 83)) :=
    ⟨by rw [cell_of_row _ w.heap.size 0 _ _ _ (heap_alloc_new _ _)]; rfl, by rw [cell_of_row _ w.heap.size 1 _ _ _ (heap_alloc_new _ _)]; rfl, by rw [b1.cell (p := ⟨L, 0, none⟩) (cell_lt h0)]; exact h0, by rw [b1.cell (p := ⟨L, 1, none⟩) (cell_lt h1)]; exact h1, hf.below b1, hg.below b1, hG.below b1 hG.lt, b1⟩
  have hmB := run_below
  have hle := hok.len.2
  have hbit : ∀ a b, a < rows'.length → (gridF rows' a).testBit b = upB rows' a b := fun a b ha => upB_grid hok ha
  obtain ⟨Af, Cf, rfl, hCf, hmf, _⟩ := hf
  obtain ⟨Ag, Cg, rfl, hCg, hmg, _⟩ := hg
  unfold maxLen at hmf hmg
  have HB := Lib.hid hB
  have HRF := Lib.hid hrf
  have HRG := Lib.hid hrg
  have HL := Lib.hid hlen
  have HBIT := Lib.hid hbit
  have hc0 := hB.c0
  have hl0 := hB.l0
  clear b1 hB hG h0 h1 hrf hrg hlen hok hbit
  go_enter Tryd.func81, Tryd.ntmps81
  go_wp2
  go_loopw [7, 8, 15] (fun _ _ kv wr => ∃ k : Nat, k ≤ f.length ∧ kv = .int .i64 k ∧ (∀ q, q < k → upB rows' (f.getD q 0).toNat (g.getD q 0) = true) ∧ FB w L p (.slice Af f.length Cf) (.slice Ag g.length Cg) (gridF rows') f g wr) (fun _ _ kv _ => f.length - (intOf kv).toNat)
  case atStart => exact ⟨0, Nat.zero_le _, rfl, fun _ h => absurd h (Nat.not_lt_zero _), HB.out⟩
  case round =>
    obtain ⟨k, hk, rfl, hp, hh⟩ := hrel
    have HP := Lib.hid hp
    have HK := Lib.hid hh
    clear hp hh hc0 hl0
    by_cases hlt : k < f.length
    · have hltg : k < g.length := by have := HL.out; omega
      obtain ⟨bf, o_f, rfl, hcf⟩ := HK.out.f.get hlt
      obtain ⟨bg, o_g, rfl, hcg⟩ := HK.out.g.get hltg
      have hrk := HRF.out k hlt
      have hrg := HRG.out k hltg
      obtain ⟨ka, hka⟩ : ∃ ka : Nat, f[k] = (ka : Int) := ⟨f[k].toNat, by omega⟩
      obtain ⟨kb, hkb⟩ : ∃ kb : Nat, g[k] = (kb : Int) := ⟨g[k].toNat, by omega⟩
      have e1 : f.getD k 0 = (ka : Int) := by rw [getD_lt 0 hlt, hka]
      have e2 : g.getD k 0 = (kb : Int) := by rw [getD_lt 0 hltg, hkb]
      have hup : upB rows' (f.getD k 0).toNat (g.getD k 0) = (gridF rows' ka).testBit kb := by rw [e1, e2, Int.toNat_natCast, HBIT.out ka kb (by omega)]
      have hka2 : ka < 200 := by omega
      have hkb2 : kb < 256 := by omega
      have hkg : (k : Int) < (g.length : Int) := by omega
      rw [hka] at hcf
      rw [hkb] at hcg
      clear hrk hrg hka hkb e1 e2
      go_wp2
      obtain ⟨W0, hW0⟩ : ∃ W0 : World, W0 = wr := ⟨_, rfl⟩
      have hq0 := fun d os => cell_regrown HK.out.c0 d os
      have hq1 := fun d os => cell_regrown HK.out.c1 d os
      have hq2 := fun d os => cell_regrown HK.out.l1 d os
      have hq3 := fun d os => cell_regrown hcg d os
      have hcall := fun d os => Calls.regrown_of (d := d) (os := os) (gbelow_any p (gridF rows') ka kb ka kb _ (HK.out.grid.below (below_regrown wr d os) HK.out.grid.lt) rfl hka2 rfl hkb2)
      clear hcf hcg
      cases hb : (gridF rows' ka).testBit kb with
      | true =>
        simp only [hb] at hcall
        rw [hb] at hup
        have HU := Lib.hid hup
        clear hup hb
        refine wp_region_quiet_below (by kernel_rfl) (by kernel_rfl) ?_
        repeat (go_big_quiet_step (first | (go_at_call 148; exact hcall _ _)))
        refine wpQuiet_nil ?_
        intro _ hw'
        obtain ⟨⟨dq, osq⟩, hw''⟩ := hw'
        subst hw''
        clear hcall hq0 hq1 hq2 hq3
        go_wp2
        go_roundw
        case rel =>
          refine ⟨k + 1, by omega, by go_num, fun q hq => ?_, HK.out.step (below_regrown wr dq osq)⟩
          by_cases e : q = k
          · subst e; exact HU.out
          · exact HP.out q (by omega)
        case measure => simp [intOf]; omega
      | false =>
        simp only [hb] at hcall
        rw [hb] at hup
        have HE := Lib.hid (underI_no hlt hup)
        clear hup hb
        refine wp_region_quiet_below (by kernel_rfl) (by kernel_rfl) ?_
        repeat (go_big_quiet_step (first | (go_at_call 148; exact hcall _ _)))
        refine wpQuiet_nil ?_
        intro _ hw'
        obtain ⟨⟨dq, osq⟩, hw''⟩ := hw'
        subst hw''
        clear hcall hq0 hq1 hq2 hq3
        go_wp2
        go_ret
        exact ⟨by rw [HE.out]; rfl, (HK.out.step (below_regrown wr dq osq)).below⟩
    · obtain rfl : k = f.length := by omega
      have HE := Lib.hid (underI_yes HP.out)
      go_wp2
      go_ret
      exact ⟨by rw [HE.out]; rfl, HK.out.below⟩

set_option maxRecDepth 100000 in
set_option maxHeartbeats 8000000 in
theorem implFunBelow_any (v v' vf vg : Value) (rows rows' : Rows2) (f g : List Int) (w : World) (hv : RowsAt w v rows) (hv' : RowsAt w v' rows') (hf : IntsAt w vf f) (hg : IntsAt w vg g) (hT : Tab w) (hn : bulk rows ≤ 1048576) (hn' : bulk rows' ≤ 1048576) :
    Calls Tryd.prog 22 #[.agg #[v], .agg #[v'], vf, vg] w (SaysN (fbelowB rows rows' f g) w) := by
  have h0 := TwoF.start w 25 25 hv hv' hf
  have hg0 := hg.below h0.1.below
  have hl := rows_two h0.2 hg0
  have b1 := (Below.refl ((w.alloc (.cells #[v] 25)).alloc (.cells #[v'] 25)).heap.size ((w.alloc (.cells #[v] 25)).alloc (.cells #[v'] 25))).alloc (Nat.le_refl _) (.cells #[vf, vg] 26)
  have h1 := h0.step b1
  have hg1 := hg0.below b1
  have hT1 := (hT.below h0.1.below).below b1
  have hcall := funTypeOf_any v v' _ rows rows' [f, g] _ h1.1.r0 h1.1.r1 hl hT1 hn hn'
  have hs : ((w.alloc (.cells #[v] 25)).alloc (.cells #[v'] 25)).heap.size = w.heap.size + 2 := by rw [World.size_alloc, World.size_alloc]
  rw [ftB_two, hs] at hcall
  have hc0 := h0.1.c0
  have hc1 := h0.1.c1
  obtain ⟨A, C, rfl, _⟩ := hv
  obtain ⟨A', C', rfl, _⟩ := hv'
  obtain ⟨Af, Cf, rfl, _⟩ := hf
  obtain ⟨Ag, Cg, rfl, _⟩ := hg
  have H1 := Lib.hid h1
  have G1 := Lib.hid hg1
  clear h0 hl b1 h1 hT1 hs hT hg0 hg1
  cases hm : monoB rows rows' f && monoB rows rows' g with
  | false =>
    rw [hm] at hcall
    have HE := Lib.hid (show fbelowB rows rows' f g = false by unfold fbelowB; rw [hm]; rfl)
    clear hm
    go_enter Tryd.func22, Tryd.ntmps22
    go_wp2_with (go_at_call 73; refine hcall.mono ?_; clear hcall; rintro e w1 ⟨⟨q, q', rfl, _⟩, hb1⟩; have H2 := Lib.hid ((H1.out.step hb1).step ((Below.refl _ w1).alloc (Nat.le_refl _) (.cells #[.pointer q, .pointer q'] 72))); clear hb1)
    go_ret
    exact ⟨by rw [HE.out]; rfl, H2.out.1.below⟩
  | true =>
    rw [hm] at hcall
    have hE : fbelowB rows rows' f g = underI rows' f g := by unfold fbelowB; rw [hm, Bool.true_and]
    rw [Bool.and_eq_true] at hm
    obtain ⟨hok, hok', hmo⟩ := monoB_ok hm.1
    obtain ⟨_, _, hmo2⟩ := monoB_ok hm.2
    have HFB := Lib.hid (fun L p u v W h0 h1 hf hg hG => funDomBelow_any L p u v rows' f g W hok' h0 h1 hf hg hG (by rw [hmo.1, hmo2.1]) (fun i hi => hmo.2.1 _ (List.getElem_mem hi)) (fun i hi => hmo2.2.1 _ (List.getElem_mem hi)))
    rw [hE]
    generalize underI rows' f g = t at HFB ⊢
    clear hm hmo hmo2 hok hok' hE
    have hcall2 := hcall.mono (fun e w' h => h.yes)
    clear hcall
    go_enter Tryd.func22, Tryd.ntmps22
    go_wp2_with (first | (go_at_call 73; refine hcall2.mono ?_; clear hcall2; rintro e w1 ⟨⟨p, p', rfl, _, _, hg, hg'⟩, hb1⟩; have B2 := Lib.hid (((Below.refl w1.heap.size w1).alloc (Nat.le_refl _) (.cells #[.pointer (some ⟨p, 0, none⟩), .pointer (some ⟨p', 0, none⟩)] 72)).alloc (by simp) (.cells #[.slice Af f.length Cf, .slice Ag g.length Cg] 26)); have H2 := Lib.hid ((H1.out.step hb1).step B2.out); have G2 := Lib.hid ((G1.out.below hb1).below B2.out); have GR2 := Lib.hid (hg'.below B2.out hg'.lt); obtain ⟨hl0, hl1⟩ := two_newB (w1.alloc (.cells #[.pointer (some ⟨p, 0, none⟩), .pointer (some ⟨p', 0, none⟩)] 72)) (.slice Af f.length Cf) (.slice Ag g.length Cg) 26; rw [World.size_alloc] at hl0 hl1; have HL0 := Lib.hid hl0; have HL1 := Lib.hid hl1; clear hl0 hl1 hb1 hg hg') | (go_at_call 81; refine (HFB.out _ p' _ _ _ HL0.out HL1.out H2.out.2 G2.out GR2.out).mono ?_; rintro e w3 ⟨rfl, hb3⟩; have H3 := Lib.hid (H2.out.step hb3); clear hb3))
    go_ret
    exact ⟨by simp, H3.out.1.below⟩
end Go.Proofs.YtkomghohdhengaaDoor
