/- The program's funTypeOf: two domains, and lists that are monotone functions between them. -/
import Derived.Test.YtkhhbpeheikmfaaDoorImplFun
namespace Go.Proofs.YtkhhbpeheikmfaaDoor
open Go.RowKit Go.Deep Go.Shelf

/-- Two domains, and monotone functions between them. -/
noncomputable def ftB (rows rows' : Rows2) (fs : List (List Int)) : Bool := domB rows && domB rows' && fs.all fun f => monoI rows rows' f
theorem ftB_one (rows rows' : Rows2) (f : List Int) : ftB rows rows' [f] = monoB rows rows' f := by unfold ftB monoB; simp
theorem ftB_no {rows rows' : Rows2} {fs : List (List Int)} {i : Nat} (hi : i < fs.length) (h : monoI rows rows' fs[i] = false) : ftB rows rows' fs = false := by
  unfold ftB
  rw [Bool.and_eq_false_iff]
  right
  rw [List.all_eq_false]
  exact ⟨_, List.getElem_mem hi, by rw [h]; simp⟩
theorem ftB_yes {rows rows' : Rows2} {fs : List (List Int)} (h1 : domB rows = true) (h2 : domB rows' = true) (h : ∀ i (hi : i < fs.length), monoI rows rows' fs[i] = true) : ftB rows rows' fs = true := by
  unfold ftB
  rw [h1, h2, Bool.true_and, Bool.true_and, List.all_eq_true]
  intro x hx
  obtain ⟨i, hi, rfl⟩ := List.getElem_of_mem hx
  exact h i hi

/-- What funTypeOf answers. -/
def FtP (t : Bool) (rows rows' : Rows2) (w : World) (e : Ending) (w' : World) : Prop :=
  (∃ q q' : Option Addr, e = .returned (.tuple #[.agg #[.pointer q, .pointer q'], .bool t]) ∧
    (t = true → ∃ p p' : Nat, q = some ⟨p, 0, none⟩ ∧ q' = some ⟨p', 0, none⟩ ∧ w.heap.size ≤ p ∧ w.heap.size ≤ p' ∧ GridAt w' p (gridF rows) ∧ GridAt w' p' (gridF rows'))) ∧ Below w.heap.size w w'
theorem FtP.no {t : Bool} {rows rows' : Rows2} {w w' : World} (ht : t = false) (hb : Below w.heap.size w w') : FtP t rows rows' w (.returned (.tuple #[.agg #[.pointer none, .pointer none], .bool false])) w' :=
  ⟨⟨none, none, by rw [ht], fun h => (by rw [ht] at h; cases h)⟩, hb⟩

/-- The variable of the result, as it begins. -/
def Zero2 (r : Nat) (W : World) : Prop := W.heap[r]? = some (.cells #[.pointer none, .pointer none] 75 (0, 0))
theorem Zero2.lt {r : Nat} {W : World} (h : Zero2 r W) : r < W.heap.size := by
  obtain ⟨hlt, _⟩ := Array.getElem?_eq_some_iff.1 h
  exact hlt
theorem Zero2.below {r : Nat} {W W' : World} (h : Zero2 r W) (hb : Below W.heap.size W W') : Zero2 r W' := by
  unfold Zero2
  rw [hb.block r h.lt]
  exact h
theorem Zero2.cells {r : Nat} {W : World} (h : Zero2 r W) : W.cell? ⟨r, 0, none⟩ = some (.pointer none) ∧ W.cell? ⟨r, 1, none⟩ = some (.pointer none) ∧ ∀ o, W.frozen? ⟨r, o, none⟩ = false :=
  ⟨by rw [cell_of_row W r _ _ _ _ h]; rfl, by rw [cell_of_row W r _ _ _ _ h]; rfl, fun o => frozen_of_row W r o _ _ h⟩

/-- While funTypeOf runs. -/
structure Ft (w : World) (v v' vl : Value) (rows rows' fs : Rows2) (W : World) : Prop where
  two : Two w v v' rows rows' W
  zero : Zero2 (w.heap.size + 2) W
  lists : RowsAt W vl fs
  tab : Tab W
theorem Ft.step {w : World} {v v' vl : Value} {rows rows' fs : Rows2} {W W' : World} (h : Ft w v v' vl rows rows' fs W) (hb : Below W.heap.size W W') : Ft w v v' vl rows rows' fs W' :=
  ⟨h.two.step hb, h.zero.below hb, h.lists.below hb, h.tab.below hb⟩
theorem Ft.start (w : World) {v v' vl : Value} {rows rows' fs : Rows2} (hv : RowsAt w v rows) (hv' : RowsAt w v' rows') (hl : RowsAt w vl fs) (hT : Tab w) :
    Ft w v v' vl rows rows' fs (((w.alloc (.cells #[v] 26)).alloc (.cells #[v'] 26)).alloc (.cells #[.pointer none, .pointer none] 75)) := by
  have h2 := Two.start w 26 26 hv hv'
  have s2 : ((w.alloc (.cells #[v] 26)).alloc (.cells #[v'] 26)).heap.size = w.heap.size + 2 := by rw [World.size_alloc, World.size_alloc]
  have b3 := (Below.refl ((w.alloc (.cells #[v] 26)).alloc (.cells #[v'] 26)).heap.size ((w.alloc (.cells #[v] 26)).alloc (.cells #[v'] 26))).alloc (Nat.le_refl _) (.cells #[.pointer none, .pointer none] 75)
  refine ⟨h2.step b3, ?_, (hl.below h2.below).below b3, (hT.below h2.below).below b3⟩
  have h := heap_alloc_new ((w.alloc (.cells #[v] 26)).alloc (.cells #[v'] 26)) (.cells #[.pointer none, .pointer none] 75)
  rw [s2] at h
  exact h

set_option maxRecDepth 100000 in
set_option maxHeartbeats 4000000 in
theorem funTypeOf_any (v v' vl : Value) (rows rows' fs : Rows2) (w : World) (hv : RowsAt w v rows) (hv' : RowsAt w v' rows') (hl : RowsAt w vl fs) (hT : Tab w) (hn : bulk rows ≤ 1048576) (hn' : bulk rows' ≤ 1048576) :
    Calls Tryd.prog 51 #[.agg #[v], .agg #[v'], vl] w (FtP (ftB rows rows' fs) rows rows' w) := by
  have hF := Ft.start w hv hv' hl hT
  obtain ⟨A, C, rfl, _⟩ := hv
  obtain ⟨A', C', rfl, _⟩ := hv'
  obtain ⟨Al, Cl, rfl, hCl, hml, _⟩ := hl
  unfold maxLen at hml
  have H0 := Lib.hid hF
  have hc0 := hF.two.c0
  clear hF hT
  cases h1 : domB rows with
  | false =>
    have hd := domainOf_no _ rows _ H0.out.two.r0 H0.out.tab hn h1
    have HE := Lib.hid (show ftB rows rows' fs = false by unfold ftB; rw [h1]; rfl)
    go_enter Tryd.func51, Tryd.ntmps51
    cases h2 : domB rows' with
    | false =>
      go_wp2_with (first | (go_at_call 45; refine hd.mono ?_; clear hd; rintro e w1 ⟨rfl, hb1⟩; have H1 := Lib.hid (H0.out.step hb1); have hc1 := H1.out.two.c1; have hd2 := domainOf_no _ rows' _ H1.out.two.r1 H1.out.tab hn' h2; clear hb1) | (go_at_call 45; refine hd2.mono ?_; clear hd2; rintro e w2 ⟨rfl, hb2⟩; have H2 := Lib.hid (H1.out.step hb2); obtain ⟨z0, z1, z2⟩ := H2.out.zero.cells; clear hb2))
      refine bodyPost_ret (v := .tuple #[.agg #[.pointer none, .pointer none], .bool false]) (by simp [results, Tryd.results51, go_sem, z0, z1]) rfl ?_
      exact FtP.no HE.out (H2.out.two.below.setCell (by show w.heap.size ≤ w.heap.size + 2; omega) _ |>.setCell (by show w.heap.size ≤ w.heap.size + 2; omega) _)
    | true =>
      go_wp2_with (first | (go_at_call 45; refine hd.mono ?_; clear hd; rintro e w1 ⟨rfl, hb1⟩; have H1 := Lib.hid (H0.out.step hb1); have hc1 := H1.out.two.c1; have hd2 := domainOf_yes _ rows' _ H1.out.two.r1 H1.out.tab hn' h2; clear hb1) | (go_at_call 45; refine hd2.mono ?_; clear hd2; rintro e w2 ⟨⟨p, rfl, _⟩, hb2⟩; have H2 := Lib.hid (H1.out.step hb2); obtain ⟨z0, z1, z2⟩ := H2.out.zero.cells; clear hb2))
      refine bodyPost_ret (v := .tuple #[.agg #[.pointer none, .pointer none], .bool false]) (by simp [results, Tryd.results51, go_sem, z0, z1]) rfl ?_
      exact FtP.no HE.out (H2.out.two.below.setCell (by show w.heap.size ≤ w.heap.size + 2; omega) _ |>.setCell (by show w.heap.size ≤ w.heap.size + 2; omega) _)
  | true =>
    have hd := domainOf_yes _ rows _ H0.out.two.r0 H0.out.tab hn h1
    cases h2 : domB rows' with
    | false =>
      have HE := Lib.hid (show ftB rows rows' fs = false by unfold ftB; rw [h1, h2]; rfl)
      go_enter Tryd.func51, Tryd.ntmps51
      go_wp2_with (first | (go_at_call 45; refine hd.mono ?_; clear hd; rintro e w1 ⟨⟨p, rfl, _⟩, hb1⟩; have H1 := Lib.hid (H0.out.step hb1); have hc1 := H1.out.two.c1; have hd2 := domainOf_no _ rows' _ H1.out.two.r1 H1.out.tab hn' h2; clear hb1) | (go_at_call 45; refine hd2.mono ?_; clear hd2; rintro e w2 ⟨rfl, hb2⟩; have H2 := Lib.hid (H1.out.step hb2); obtain ⟨z0, z1, z2⟩ := H2.out.zero.cells; clear hb2))
      refine bodyPost_ret (v := .tuple #[.agg #[.pointer none, .pointer none], .bool false]) (by simp [results, Tryd.results51, go_sem, z0, z1]) rfl ?_
      exact FtP.no HE.out (H2.out.two.below.setCell (by show w.heap.size ≤ w.heap.size + 2; omega) _ |>.setCell (by show w.heap.size ≤ w.heap.size + 2; omega) _)
    | true =>
      have hok := ok_of_valid (show validB rows = true by unfold domB at h1; rw [Bool.and_eq_true] at h1; exact h1.1)
      have hok' := ok_of_valid (show validB rows' = true by unfold domB at h2; rw [Bool.and_eq_true] at h2; exact h2.1)
      have HMONO := Lib.hid (fun p p' vf f W hg hg' hf => isMonotone_any p p' rows.length rows'.length (gridF rows) (gridF rows') vf f W hg hg' hok.gridN hok'.gridN hf (monoI rows rows' f) (mono_grid hok hok' f))
      have HY := Lib.hid (fun h => ftB_yes (fs := fs) h1 h2 h)
      have hsz : (((w.alloc (.cells #[.slice A rows.length C] 26)).alloc (.cells #[.slice A' rows'.length C'] 26)).alloc (.cells #[.pointer none, .pointer none] 75)).heap.size = w.heap.size + 3 := by rw [World.size_alloc, World.size_alloc, World.size_alloc]
      have HSZ := Lib.hid hsz
      clear hok hok' hsz
      go_enter Tryd.func51, Tryd.ntmps51
      go_wp2_with (first | (go_at_call 45; refine hd.mono ?_; clear hd; rintro e w1 ⟨⟨p, rfl, hp, hg⟩, hb1⟩; have H1 := Lib.hid (H0.out.step hb1); have hc1 := H1.out.two.c1; have hd2 := domainOf_yes _ rows' _ H1.out.two.r1 H1.out.tab hn' h2; have HP := Lib.hid (show w.heap.size + 3 ≤ p by rw [← HSZ.out]; exact hp); have HP1 := Lib.hid (Nat.le_trans (Nat.le_of_eq HSZ.out.symm) hb1.size); have HG := Lib.hid hg; clear hb1 hp hg) | (go_at_call 45; refine hd2.mono ?_; clear hd2; rintro e w2 ⟨⟨p', rfl, hp', hg'⟩, hb2⟩; have H2 := Lib.hid (H1.out.step hb2); have HP' := Lib.hid (Nat.le_trans HP1.out hp'); have HG2 := Lib.hid (HG.out.below hb2 HG.out.lt); have HG' := Lib.hid hg'; clear hb2 hp' hg'))
      go_loopw [13, 33] (fun _ kv wr => ∃ k : Nat, k ≤ fs.length ∧ kv = .int .i64 k ∧ (∀ i (hi : i < fs.length), i < k → monoI rows rows' fs[i] = true) ∧ GridAt wr p (gridF rows) ∧ GridAt wr p' (gridF rows') ∧ Ft w (.slice A rows.length C) (.slice A' rows'.length C') (.slice Al fs.length Cl) rows rows' fs wr) (fun _ kv _ => fs.length - (intOf kv).toNat)
      case atStart => exact ⟨0, Nat.zero_le _, rfl, fun _ _ h => absurd h (Nat.not_lt_zero _), HG2.out, HG'.out, H2.out⟩
      case round =>
        obtain ⟨k, hk, rfl, hall, hg, hg', hh⟩ := hrel
        have HA := Lib.hid hall
        have HGk := Lib.hid hg
        have HGk' := Lib.hid hg'
        have HK := Lib.hid hh
        clear hall hg hg'
        by_cases hlt : k < fs.length
        · obtain ⟨_, _, e0, _, _, hx⟩ := hh.lists
          cases e0
          obtain ⟨b0, o0, u, rfl, hcu, hu⟩ := hx k hlt
          clear hh hx
          have hcall := HMONO.out p p' u fs[k] wr HGk.out HGk'.out hu
          obtain ⟨Au, Cu, rfl, _⟩ := hu
          cases hm : monoI rows rows' fs[k] with
          | true =>
            rw [hm] at hcall
            have HM := Lib.hid hm
            clear hm
            go_wp2_with (go_at_call 47; refine hcall.mono ?_; clear hcall; rintro e w3 ⟨rfl, hb3⟩; have H3 := Lib.hid (HK.out.step hb3); have HG3 := Lib.hid (HGk.out.below hb3 HGk.out.lt); have HG3' := Lib.hid (HGk'.out.below hb3 HGk'.out.lt); clear hb3)
            go_roundw
            case rel =>
              refine ⟨k + 1, by omega, by go_num, fun i hi hlt' => ?_, HG3.out, HG3'.out, H3.out⟩
              by_cases e : i = k
              · subst e; exact HM.out
              · exact HA.out i hi (by omega)
            case measure => simp [intOf]; omega
          | false =>
            rw [hm] at hcall
            have HE := Lib.hid (ftB_no hlt hm)
            clear hm
            go_wp2_with (go_at_call 47; refine hcall.mono ?_; clear hcall; rintro e w3 ⟨rfl, hb3⟩; have H3 := Lib.hid (HK.out.step hb3); obtain ⟨z0, z1, z2⟩ := H3.out.zero.cells; clear hb3)
            refine bodyPost_ret (v := .tuple #[.agg #[.pointer none, .pointer none], .bool false]) (by simp [results, Tryd.results51, go_sem, z0, z1]) rfl ?_
            exact FtP.no HE.out (H3.out.two.below.setCell (by show w.heap.size ≤ w.heap.size + 2; omega) _ |>.setCell (by show w.heap.size ≤ w.heap.size + 2; omega) _)
        · obtain rfl : k = fs.length := by omega
          have HE := Lib.hid (HY.out fun i hi => HA.out i hi hi)
          obtain ⟨z0, z1, z2⟩ := HK.out.zero.cells
          clear hh
          go_wp2
          refine bodyPost_ret (v := .tuple #[.agg #[.pointer (some ⟨p, 0, none⟩), .pointer (some ⟨p', 0, none⟩)], .bool true]) (by simp [results, Tryd.results51, go_sem, z0, z1]) rfl ?_
          refine ⟨⟨_, _, by rw [HE.out], fun _ => ⟨p, p', rfl, rfl, by have := HP.out; omega, by have := HP'.out; omega, ?_, ?_⟩⟩, (HK.out.two.below.setCell (by show w.heap.size ≤ w.heap.size + 2; omega) _ |>.setCell (by show w.heap.size ≤ w.heap.size + 2; omega) _)⟩
          · exact (HGk.out.setOther (by have := HP.out; show p ≠ w.heap.size + 2; omega) _).setOther (by have := HP.out; show p ≠ w.heap.size + 2; omega) _
          · exact (HGk'.out.setOther (by have := HP'.out; show p' ≠ w.heap.size + 2; omega) _).setOther (by have := HP'.out; show p' ≠ w.heap.size + 2; omega) _
end Go.Proofs.YtkhhbpeheikmfaaDoor
