/- The program's look for the starts of a function (fun.starts). -/
import Derived.Test.YtjfbjfclcpcaiaaDoorPb21
import Derived.Test.YtjfbjfclcpcaiaaDoorPb23
import Derived.Test.YtjfbjfclcpcaiaaDoorPb1
import Derived.Deep.RegionHeld3
import Derived.Laws.Tables
import Derived.Lib.QuietBelow
import Derived.BigQuiet
import Derived.Test.YtjfbjfclcpcaiaaDoorPb16
import Derived.Test.YtjfbjfclcpcaiaaDoorPb20
import Derived.Test.YtjfbjfclcpcaiaaDoorPb24
import Derived.Laws.MakeOwn
import Derived.Test.YtjfbjfclcpcaiaaDoorPb13
namespace Go.Proofs.YtjfbjfclcpcaiaaDoor
open Go.RowKit Go.Deep Go.Shelf

/-- A variable of two cells, the first new block of a call. -/
structure Bx (w : World) (a b : Value) (W : World) : Prop where
  c0 : W.cell? ⟨w.heap.size, 0, none⟩ = some a
  c1 : W.cell? ⟨w.heap.size, 1, none⟩ = some b
  below : Below w.heap.size w W
theorem Bx.lt {w : World} {a b : Value} {W : World} (h : Bx w a b W) : w.heap.size + 1 ≤ W.heap.size := cell_lt h.c0
theorem Bx.far {w : World} {a b : Value} {W W' : World} (h : Bx w a b W) (hb : Below (w.heap.size + 1) W W') : Bx w a b W' :=
  ⟨(hb.cell (p := ⟨w.heap.size, 0, none⟩) (Nat.lt_succ_self _)).trans h.c0, (hb.cell (p := ⟨w.heap.size, 1, none⟩) (Nat.lt_succ_self _)).trans h.c1, h.below.trans (hb.mono (Nat.le_succ _))⟩
theorem Bx.step {w : World} {a b : Value} {W W' : World} (h : Bx w a b W) (hb : Below W.heap.size W W') : Bx w a b W' := h.far (hb.mono h.lt)
theorem Bx.start (w : World) (a b : Value) (t : TypeId) : Bx w a b (w.alloc (.cells #[a, b] t)) :=
  ⟨by rw [cell_of_row _ w.heap.size 0 _ _ _ (heap_alloc_new _ _)]; rfl, by rw [cell_of_row _ w.heap.size 1 _ _ _ (heap_alloc_new _ _)]; rfl, (Below.refl _ w).alloc (Nat.le_refl _) _⟩

/-- A store of a whole array into a variable, as one step of a region that draws. -/
theorem step_store_row {P : Program} {ops : Array Oper} {o : Oper} {a : Act} {w : World} {K : Act → World → Prop} {Q : Exit → Act → World → Prop} {E : Prop} (hgd : o.guard = none) (ty : TypeId) (x y : Operand) (ho : o.op = .store ty x y)
    (g : Nat) (cells : Array Value) (hx : a.eval x = .pointer (some ⟨g, 0, none⟩)) (hy : a.eval y = .agg cells)
    (t : TypeId) (old : Array Value) (hg : w.heap[g]? = some (.cells old t (0, 0))) (hi : (P.info? ty).map (·.size) = some cells.size)
    (hold : old.size = cells.size) (h1 : cells.all (·.oneCell') = true)
    (h : K (a.put o.dst undef) (w.setRow g cells)) : if Region.wanted o (yielded ops a.tmps) = true then Oper.wp P o a w K Q else E := by
  have hw : Region.wanted o (yielded ops a.tmps) = true := by simp [Region.wanted, hgd]
  rw [if_pos hw]
  exact wp_store_row ty x y ho g cells hx hy t old hg hi hold h1 h

theorem starts_eq {rows : Rows2} (h : Ok rows) {f : List Int} (hf : f.length = rows.length) {le : Int} {i : Nat} (hi : i < f.length) :
    startT rows f le i f.length = (!(f[i] == le) && !onB f (diff (gridF (backRows rows) i) (2 ^ i)) f[i]) := by
  unfold startT
  rw [getD_lt 0 hi]
  congr 1
  have hbit : ∀ k, (diff (gridF (backRows rows) i) (2 ^ i)).testBit k = ((gridF rows k).testBit i && !decide (i = k)) := fun k => by
    rw [testBit_diff, back_bit h, Nat.testBit_two_pow]
  have hlt : diff (gridF (backRows rows) i) (2 ^ i) < 2 ^ 256 := diff_lt _ (h.back.lt i)
  rw [Bool.eq_iff_iff, List.all_eq_true, Bool.not_eq_true', ← Bool.not_eq_true]
  unfold onB
  rw [List.any_eq_true]
  constructor
  · rintro hall ⟨k, hk, he⟩
    rw [mem_elems hlt, hbit, Bool.and_eq_true, Bool.not_eq_true', decide_eq_false_iff_not] at hk
    have hkl := (h.bit_lt hk.1).1
    have hp := hall k (List.mem_range.2 (by omega))
    unfold startP at hp
    rw [h.up hkl, hk.1, getD_lt 0 hi, he, show (k == i) = false by rw [beq_eq_false_iff_ne]; omega] at hp
    cases hp
  · intro hno k hk
    rw [List.mem_range] at hk
    unfold startP
    by_cases e : k = i
    · rw [show (k == i) = true by rw [beq_iff_eq]; exact e]; rfl
    · cases hu : upB rows k (i : Int) with
      | false => simp
      | true =>
        cases hq : (f.getD k 0 == f.getD i 0) with
        | false => simp
        | true =>
          exfalso
          rw [h.up (by omega)] at hu
          rw [getD_lt 0 hi] at hq
          exact hno ⟨k, (mem_elems hlt).2 (by rw [hbit, hu, decide_eq_false (fun e2 => e e2.symm)]; rfl), hq⟩

end Go.Proofs.YtjfbjfclcpcaiaaDoor

/- The program's look at a stable function (fun.keepsMeets). -/
namespace Go.Proofs.YtjfbjfclcpcaiaaDoor
open Go.RowKit Go.Deep Go.Shelf

theorem grid_apart {W : World} {b G : Nat} {g : Nat → Nat} (h : GridAt W b g) (hne : b ≠ G) (cs : Array Value) : GridAt (W.setRow G cs) b g := ⟨by rw [setRow_other W G b cs hne]; exact h.1, h.2⟩

/-- Do two bounded elements have a meet that the function does not keep? -/
def badSt (rows rows' : Rows2) (f : List Int) (a b : Nat) : Bool := boundedI rows a b && !(joinI (backRows rows') (f.getD a 0).toNat (f.getD b 0).toNat == f.getD (joinI (backRows rows) a b).toNat 0)
def stableI (rows rows' : Rows2) (f : List Int) : Bool := (List.range f.length).all fun a => (List.range a).all fun b => !badSt rows rows' f a b
theorem stableI_bad {rows rows' : Rows2} {f : List Int} {a b : Nat} (ha : a < f.length) (hb : b < a) (h : badSt rows rows' f a b = true) : stableI rows rows' f = false := by
  unfold stableI
  rw [List.all_eq_false]
  refine ⟨a, List.mem_range.2 ha, ?_⟩
  rw [Bool.not_eq_true, List.all_eq_false]
  exact ⟨b, List.mem_range.2 hb, by rw [h]; simp⟩
theorem stableI_yes {rows rows' : Rows2} {f : List Int} (hall : ∀ a, a < f.length → ∀ b, b < a → badSt rows rows' f a b = false) : stableI rows rows' f = true := by
  unfold stableI
  rw [List.all_eq_true]
  intro a ha
  rw [List.all_eq_true]
  intro b hb
  rw [hall a (List.mem_range.1 ha) b (List.mem_range.1 hb)]
  rfl
noncomputable def stableB (rows rows' : Rows2) (f : List Int) : Bool := monoB rows rows' f && stableI rows rows' f

set_option maxRecDepth 100000 in
set_option maxHeartbeats 16000000 in
theorem keepsMeets_any (vf : Value) (f : List Int) (p p' : Nat) (rows rows' : Rows2) (w : World) (hf : IntsAt w vf f) (hg : GridAt w p (gridF rows)) (hg' : GridAt w p' (gridF rows')) (hT : Tab w) (hd : domB rows = true) (hd' : domB rows' = true) (hmo : Mono rows rows' f) :
    Calls Tryd.prog 96 #[vf, .agg #[.pointer (some ⟨p, 0, none⟩), .pointer (some ⟨p', 0, none⟩)]] w (SaysN (stableI rows rows' f) w) := by
  have hok := (domB_iff.1 hd).1
  have hok' := (domB_iff.1 hd').1
  have hE := Bx.start w (.pointer (some ⟨p, 0, none⟩)) (.pointer (some ⟨p', 0, none⟩)) 106
  have HBK := Lib.hid (fun W (h : Bx w (.pointer (some ⟨p, 0, none⟩)) (.pointer (some ⟨p', 0, none⟩)) W) => (show Calls Tryd.prog 82 #[.pointer (some ⟨p, 0, none⟩)] W (SaysG (gridF (backRows rows)) W) by
    rw [← backN_rows hok]
    exact back_any p rows.length (gridF rows) W (hg.below h.below hg.lt) (hT.below h.below) hok.gridN (fun i _ k hk => hok.lt200 ((mem_elems (hok.lt i)).1 hk))))
  have HBK' := Lib.hid (fun W (h : Bx w (.pointer (some ⟨p, 0, none⟩)) (.pointer (some ⟨p', 0, none⟩)) W) => (show Calls Tryd.prog 82 #[.pointer (some ⟨p', 0, none⟩)] W (SaysG (gridF (backRows rows')) W) by
    rw [← backN_rows hok']
    exact back_any p' rows'.length (gridF rows') W (hg'.below h.below hg'.lt) (hT.below h.below) hok'.gridN (fun i _ k hk => hok'.lt200 ((mem_elems (hok'.lt i)).1 hk))))
  have hz := (zero_of_info zeroGrid).1
  have HLT := Lib.hid hok.back.lt
  have HLT' := Lib.hid hok'.back.lt
  have HFA := Lib.hid (fun W (h : Below w.heap.size w W) => hf.below h)
  have HTA := Lib.hid (fun W (h : Below w.heap.size w W) => hT.below h)
  have HGA := Lib.hid (fun W (h : Below w.heap.size w W) => hg.below h hg.lt)
  have HBD := Lib.hid (fun a b (ha : a < rows.length) (hb : b < rows.length) => (bounded_eq hok ha hb))
  have HMT := Lib.hid (fun a b (ha : a < rows.length) (hb : b < rows.length) => meet_there hd ha hb)
  have HJ := Lib.hid (fun G a b W (ha : a < rows.length) (hb : b < rows.length) (h : GridAt W G (gridF (backRows rows))) (hTW : Tab W) => (show Calls Tryd.prog 80 #[.pointer (some ⟨G, 0, none⟩), .int .i64 (a : Int), .int .i64 (b : Int)] W (SaysI (joinI (backRows rows) a b) W) by
    have hn := hok.len.2
    rw [join_eq hok.back (by rw [backRows_len]; exact ha) (by rw [backRows_len]; exact hb)]
    exact join_any G a b a b (gridF (backRows rows)) W h hTW rfl rfl (by omega) (by omega) (fun k hk => by have := (hok.back.bit_lt hk).2; rw [backRows_len] at this; omega)))
  have HJ' := Lib.hid (fun G a b W (ha : a < rows'.length) (hb : b < rows'.length) (h : GridAt W G (gridF (backRows rows'))) (hTW : Tab W) => (show Calls Tryd.prog 80 #[.pointer (some ⟨G, 0, none⟩), .int .i64 (a : Int), .int .i64 (b : Int)] W (SaysI (joinI (backRows rows') a b) W) by
    have hn := hok'.len.2
    rw [join_eq hok'.back (by rw [backRows_len]; exact ha) (by rw [backRows_len]; exact hb)]
    exact join_any G a b a b (gridF (backRows rows')) W h hTW rfl rfl (by omega) (by omega) (fun k hk => by have := (hok'.back.bit_lt hk).2; rw [backRows_len] at this; omega)))
  have HMO := Lib.hid hmo
  have HROW := Lib.hid hok.lt
  have hn200 : f.length ≤ 200 := by rw [hmo.1]; exact hok.len.2
  obtain ⟨Af, Cf, rfl, hCf, hmf, _⟩ := hf
  unfold maxLen at hmf
  obtain ⟨WB, hWB⟩ : ∃ WB, WB = w.alloc (.cells #[.pointer (some ⟨p, 0, none⟩), .pointer (some ⟨p', 0, none⟩)] 106) := ⟨_, rfl⟩
  rw [← hWB] at hE
  have HE := Lib.hid hE
  clear hE hg hg' hT hok hok' hmo hd hd'
  go_enter Tryd.func96, Tryd.ntmps96
  go_upto_region 1 with fail
  rw [← hWB]
  clear hWB
  go_cut [5, 6] (fun lv pv wx => ∃ Ga Gb, lv = .pointer (some ⟨Ga, 0, none⟩) ∧ pv = .pointer (some ⟨Gb, 0, none⟩) ∧ w.heap.size + 1 ≤ Ga ∧ w.heap.size + 1 ≤ Gb ∧ GridAt wx Ga (gridF (backRows rows)) ∧ GridAt wx Gb (gridF (backRows rows')) ∧ Bx w (.pointer (some ⟨p, 0, none⟩)) (.pointer (some ⟨p', 0, none⟩)) wx)
  case first =>
    refine wp_region_held_drew (S := fun W' : World => W'.cell? ⟨w.heap.size, 0, none⟩ = some (.pointer (some ⟨p, 0, none⟩)) ∧ W'.cell? ⟨w.heap.size, 1, none⟩ = some (.pointer (some ⟨p', 0, none⟩))) (by kernel_rfl) ⟨HE.out.c0, HE.out.c1⟩ (fun hHeld => ?_)
    have E0 := Lib.hid (HE.out.step (below_drew WB _))
    generalize WB.drew = W0 at E0 hHeld ⊢
    refine wpAnyH_take (i := 0) (v := .pointer (some ⟨w.heap.size, 0, none⟩)) rfl (by kernel_rfl) (by kernel_rfl) (by kernel_rfl) (fun _ _ _ h => h) (Or.inl ⟨by rfl, ?_⟩) (by assumption) ?_
    · (intro W hSw; obtain ⟨hS0, hS1⟩ := hSw; go_simp)
    try dsimp only [Act.put]
    refine wpAnyH_take (i := 1) (v := .pointer (some ⟨p, 0, none⟩)) rfl (by kernel_rfl) (by kernel_rfl) (by kernel_rfl) (fun _ _ _ h => h) (Or.inl ⟨by rfl, ?_⟩) (by assumption) ?_
    · (intro W hSw; obtain ⟨hS0, hS1⟩ := hSw; go_simp)
    try dsimp only [Act.put]
    refine wpAnyH_take (i := 3) (v := .pointer (some ⟨w.heap.size, 1, none⟩)) rfl (by kernel_rfl) (by kernel_rfl) (by kernel_rfl) (fun _ _ _ h => h) (Or.inl ⟨by rfl, ?_⟩) (by assumption) ?_
    · (intro W hSw; obtain ⟨hS0, hS1⟩ := hSw; go_simp)
    try dsimp only [Act.put]
    refine wpAnyH_take (i := 4) (v := .pointer (some ⟨p', 0, none⟩)) rfl (by kernel_rfl) (by kernel_rfl) (by kernel_rfl) (fun _ _ _ h => h) (Or.inl ⟨by rfl, ?_⟩) (by assumption) ?_
    · (intro W hSw; obtain ⟨hS0, hS1⟩ := hSw; go_simp)
    try dsimp only [Act.put]
    refine wpAnyH_ready (rs := [2, 6, 7]) (by kernel_rfl) (by simp) ?_
    refine AllReadyH.cons rfl (fun K hK => ?_) ?_
    · go_simp
      refine (HBK.out _ E0.out).mono ?_
      rintro e w1 ⟨rfl, hb⟩
      have E1 := Lib.hid (E0.out.step hb)
      clear hb
      obtain ⟨V, hV⟩ : ∃ V, V = Value.agg (gridCells (gridF (backRows rows))) := ⟨_, rfl⟩
      rw [← hV]
      have HV := Lib.hid hV
      clear hV
      go_wp2_with fail
      refine hK.out _ _ (⟨E1.out.c0, E1.out.c1⟩) (fun hHeld => ?_)
      clear hK K
      try dsimp only [Act.put]
      refine wpAnyH_ready (rs := [5, 6, 7]) (by kernel_rfl) (by simp) ?_
      refine AllReadyH.cons rfl (fun K hK => ?_) ?_
      · go_simp
        refine (HBK'.out _ E1.out).mono ?_
        rintro e w2 ⟨rfl, hb⟩
        have E2 := Lib.hid (E1.out.step hb)
        clear hb
        obtain ⟨V', hV⟩ : ∃ V', V' = Value.agg (gridCells (gridF (backRows rows'))) := ⟨_, rfl⟩
        rw [← hV]
        have HV' := Lib.hid hV
        clear hV
        go_wp2_with fail
        refine hK.out _ _ (⟨E2.out.c0, E2.out.c1⟩) (fun hHeld => ?_)
        clear hK K
        try dsimp only [Act.put]
        refine wpAnyH_ready (rs := [6, 7]) (by kernel_rfl) (by simp) ?_
        refine AllReadyH.cons rfl (fun K hK => ?_) ?_
        · go_simp
          have hb := (Below.refl w2.heap.size w2).alloc (Nat.le_refl _) (.cells (gridCells fun _ => 0) 83)
          have E3 := Lib.hid (E2.out.step hb)
          clear hb
          have Za3 := Lib.hid (store_new w2)
          have HGa := Lib.hid (show w.heap.size + 1 ≤ w2.heap.size from E2.out.lt)
          generalize hwq : w2.heap.size = Ga at Za3 HGa ⊢
          generalize (w2.alloc (.cells (gridCells fun _ => 0) 83)) = w3 at E3 Za3 ⊢
          clear hwq
          refine hK.out _ _ (⟨E3.out.c0, E3.out.c1⟩) (fun hHeld => ?_)
          clear hK K
          try dsimp only [Act.put]
          refine wpAnyH_ready (rs := [7]) (by kernel_rfl) (by simp) ?_
          refine AllReadyH.cons rfl (fun K hK => ?_) ?_
          · go_simp
            have hb := (Below.refl w3.heap.size w3).alloc (Nat.le_refl _) (.cells (gridCells fun _ => 0) 83)
            have E4 := Lib.hid (E3.out.step hb)
            have Za4 := Lib.hid (Za3.out.below hb Za3.out.lt)
            clear hb
            have Zb4 := Lib.hid (store_new w3)
            have HGb := Lib.hid (show w.heap.size + 1 ≤ w3.heap.size from E3.out.lt)
            have HNE := Lib.hid (show Ga < w3.heap.size from Za3.out.lt)
            generalize hwq : w3.heap.size = Gb at Zb4 HGb HNE ⊢
            generalize (w3.alloc (.cells (gridCells fun _ => 0) 83)) = w4 at E4 Zb4 Za4 ⊢
            clear hwq
            have HD := Lib.hid (show Ga ≠ Gb by have := HNE.out; omega)
            refine hK.out _ _ (⟨E4.out.c0, E4.out.c1⟩) (fun hHeld => ?_)
            clear hK K
            try dsimp only [Act.put]
            refine wpAnyH_ready (rs := [8]) (by kernel_rfl) (by simp) ?_
            refine AllReadyH.cons rfl (fun K hK => ?_) ?_
            · refine step_store_row rfl 83 (.tmp 5) (.tmp 12) rfl Ga (gridCells (gridF (backRows rows))) rfl HV.out 83 (gridCells fun _ => 0) Za4.out.1 (by rw [gridCells_size]; exact sizeGrid) (by rw [gridCells_size, gridCells_size]) (gridCells_one _) ?_
              have EF := Lib.hid (E4.out.far (below_setRow' (Below.refl (w.heap.size + 1) w4) HGa.out (gridCells (gridF (backRows rows)))))
              have ZFa := Lib.hid (GridAt.setRow Za4.out HLT.out)
              have ZSb := Lib.hid (grid_apart Zb4.out (Ne.symm HD.out) (gridCells (gridF (backRows rows))))
              generalize (w4.setRow Ga (gridCells (gridF (backRows rows)))) = wF at EF ZFa ZSb ⊢
              refine hK.out _ _ (⟨EF.out.c0, EF.out.c1⟩) (fun hHeld => ?_)
              clear hK K
              try dsimp only [Act.put]
              refine wpAnyH_ready (rs := [9]) (by kernel_rfl) (by simp) ?_
              refine AllReadyH.cons rfl (fun K hK => ?_) ?_
              · refine step_store_row rfl 83 (.tmp 6) (.tmp 15) rfl Gb (gridCells (gridF (backRows rows'))) rfl HV'.out 83 (gridCells fun _ => 0) ZSb.out.1 (by rw [gridCells_size]; exact sizeGrid) (by rw [gridCells_size, gridCells_size]) (gridCells_one _) ?_
                have EG := Lib.hid (EF.out.far (below_setRow' (Below.refl (w.heap.size + 1) wF) HGb.out (gridCells (gridF (backRows rows')))))
                have ZGb := Lib.hid (GridAt.setRow ZSb.out HLT'.out)
                have ZGa := Lib.hid (grid_apart ZFa.out HD.out (gridCells (gridF (backRows rows'))))
                refine hK.out _ _ (⟨EG.out.c0, EG.out.c1⟩) (fun hHeld => ?_)
                clear hK K
                try dsimp only [Act.put]
                refine wpAnyH_done (by kernel_rfl) ?_ _
                go_wp2_with fail
                go_meet
                exact ⟨Ga, Gb, rfl, rfl, HGa.out, HGb.out, ZGa.out, ZGb.out, EG.out⟩
              exact AllReadyH.nil
            exact AllReadyH.nil
          exact AllReadyH.nil
        refine AllReadyH.cons rfl (fun K hK => ?_) ?_
        · go_simp
          have hb := (Below.refl w2.heap.size w2).alloc (Nat.le_refl _) (.cells (gridCells fun _ => 0) 83)
          have E3 := Lib.hid (E2.out.step hb)
          clear hb
          have Zb3 := Lib.hid (store_new w2)
          have HGb := Lib.hid (show w.heap.size + 1 ≤ w2.heap.size from E2.out.lt)
          generalize hwq : w2.heap.size = Gb at Zb3 HGb ⊢
          generalize (w2.alloc (.cells (gridCells fun _ => 0) 83)) = w3 at E3 Zb3 ⊢
          clear hwq
          refine hK.out _ _ (⟨E3.out.c0, E3.out.c1⟩) (fun hHeld => ?_)
          clear hK K
          try dsimp only [Act.put]
          refine wpAnyH_ready (rs := [6]) (by kernel_rfl) (by simp) ?_
          refine AllReadyH.cons rfl (fun K hK => ?_) ?_
          · go_simp
            have hb := (Below.refl w3.heap.size w3).alloc (Nat.le_refl _) (.cells (gridCells fun _ => 0) 83)
            have E4 := Lib.hid (E3.out.step hb)
            have Zb4 := Lib.hid (Zb3.out.below hb Zb3.out.lt)
            clear hb
            have Za4 := Lib.hid (store_new w3)
            have HGa := Lib.hid (show w.heap.size + 1 ≤ w3.heap.size from E3.out.lt)
            have HNE := Lib.hid (show Gb < w3.heap.size from Zb3.out.lt)
            generalize hwq : w3.heap.size = Ga at Za4 HGa HNE ⊢
            generalize (w3.alloc (.cells (gridCells fun _ => 0) 83)) = w4 at E4 Za4 Zb4 ⊢
            clear hwq
            have HD := Lib.hid (show Ga ≠ Gb by have := HNE.out; omega)
            refine hK.out _ _ (⟨E4.out.c0, E4.out.c1⟩) (fun hHeld => ?_)
            clear hK K
            try dsimp only [Act.put]
            refine wpAnyH_ready (rs := [8]) (by kernel_rfl) (by simp) ?_
            refine AllReadyH.cons rfl (fun K hK => ?_) ?_
            · refine step_store_row rfl 83 (.tmp 5) (.tmp 12) rfl Ga (gridCells (gridF (backRows rows))) rfl HV.out 83 (gridCells fun _ => 0) Za4.out.1 (by rw [gridCells_size]; exact sizeGrid) (by rw [gridCells_size, gridCells_size]) (gridCells_one _) ?_
              have EF := Lib.hid (E4.out.far (below_setRow' (Below.refl (w.heap.size + 1) w4) HGa.out (gridCells (gridF (backRows rows)))))
              have ZFa := Lib.hid (GridAt.setRow Za4.out HLT.out)
              have ZSb := Lib.hid (grid_apart Zb4.out (Ne.symm HD.out) (gridCells (gridF (backRows rows))))
              generalize (w4.setRow Ga (gridCells (gridF (backRows rows)))) = wF at EF ZFa ZSb ⊢
              refine hK.out _ _ (⟨EF.out.c0, EF.out.c1⟩) (fun hHeld => ?_)
              clear hK K
              try dsimp only [Act.put]
              refine wpAnyH_ready (rs := [9]) (by kernel_rfl) (by simp) ?_
              refine AllReadyH.cons rfl (fun K hK => ?_) ?_
              · refine step_store_row rfl 83 (.tmp 6) (.tmp 15) rfl Gb (gridCells (gridF (backRows rows'))) rfl HV'.out 83 (gridCells fun _ => 0) ZSb.out.1 (by rw [gridCells_size]; exact sizeGrid) (by rw [gridCells_size, gridCells_size]) (gridCells_one _) ?_
                have EG := Lib.hid (EF.out.far (below_setRow' (Below.refl (w.heap.size + 1) wF) HGb.out (gridCells (gridF (backRows rows')))))
                have ZGb := Lib.hid (GridAt.setRow ZSb.out HLT'.out)
                have ZGa := Lib.hid (grid_apart ZFa.out HD.out (gridCells (gridF (backRows rows'))))
                refine hK.out _ _ (⟨EG.out.c0, EG.out.c1⟩) (fun hHeld => ?_)
                clear hK K
                try dsimp only [Act.put]
                refine wpAnyH_done (by kernel_rfl) ?_ _
                go_wp2_with fail
                go_meet
                exact ⟨Ga, Gb, rfl, rfl, HGa.out, HGb.out, ZGa.out, ZGb.out, EG.out⟩
              exact AllReadyH.nil
            exact AllReadyH.nil
          exact AllReadyH.nil
        exact AllReadyH.nil
      refine AllReadyH.cons rfl (fun K hK => ?_) ?_
      · go_simp
        have hb := (Below.refl w1.heap.size w1).alloc (Nat.le_refl _) (.cells (gridCells fun _ => 0) 83)
        have E2 := Lib.hid (E1.out.step hb)
        clear hb
        have Za2 := Lib.hid (store_new w1)
        have HGa := Lib.hid (show w.heap.size + 1 ≤ w1.heap.size from E1.out.lt)
        generalize hwq : w1.heap.size = Ga at Za2 HGa ⊢
        generalize (w1.alloc (.cells (gridCells fun _ => 0) 83)) = w2 at E2 Za2 ⊢
        clear hwq
        refine hK.out _ _ (⟨E2.out.c0, E2.out.c1⟩) (fun hHeld => ?_)
        clear hK K
        try dsimp only [Act.put]
        refine wpAnyH_ready (rs := [5, 7]) (by kernel_rfl) (by simp) ?_
        refine AllReadyH.cons rfl (fun K hK => ?_) ?_
        · go_simp
          refine (HBK'.out _ E2.out).mono ?_
          rintro e w3 ⟨rfl, hb⟩
          have E3 := Lib.hid (E2.out.step hb)
          have Za3 := Lib.hid (Za2.out.below hb Za2.out.lt)
          clear hb
          obtain ⟨V', hV⟩ : ∃ V', V' = Value.agg (gridCells (gridF (backRows rows'))) := ⟨_, rfl⟩
          rw [← hV]
          have HV' := Lib.hid hV
          clear hV
          go_wp2_with fail
          refine hK.out _ _ (⟨E3.out.c0, E3.out.c1⟩) (fun hHeld => ?_)
          clear hK K
          try dsimp only [Act.put]
          refine wpAnyH_ready (rs := [7]) (by kernel_rfl) (by simp) ?_
          refine AllReadyH.cons rfl (fun K hK => ?_) ?_
          · go_simp
            have hb := (Below.refl w3.heap.size w3).alloc (Nat.le_refl _) (.cells (gridCells fun _ => 0) 83)
            have E4 := Lib.hid (E3.out.step hb)
            have Za4 := Lib.hid (Za3.out.below hb Za3.out.lt)
            clear hb
            have Zb4 := Lib.hid (store_new w3)
            have HGb := Lib.hid (show w.heap.size + 1 ≤ w3.heap.size from E3.out.lt)
            have HNE := Lib.hid (show Ga < w3.heap.size from Za3.out.lt)
            generalize hwq : w3.heap.size = Gb at Zb4 HGb HNE ⊢
            generalize (w3.alloc (.cells (gridCells fun _ => 0) 83)) = w4 at E4 Zb4 Za4 ⊢
            clear hwq
            have HD := Lib.hid (show Ga ≠ Gb by have := HNE.out; omega)
            refine hK.out _ _ (⟨E4.out.c0, E4.out.c1⟩) (fun hHeld => ?_)
            clear hK K
            try dsimp only [Act.put]
            refine wpAnyH_ready (rs := [8]) (by kernel_rfl) (by simp) ?_
            refine AllReadyH.cons rfl (fun K hK => ?_) ?_
            · refine step_store_row rfl 83 (.tmp 5) (.tmp 12) rfl Ga (gridCells (gridF (backRows rows))) rfl HV.out 83 (gridCells fun _ => 0) Za4.out.1 (by rw [gridCells_size]; exact sizeGrid) (by rw [gridCells_size, gridCells_size]) (gridCells_one _) ?_
              have EF := Lib.hid (E4.out.far (below_setRow' (Below.refl (w.heap.size + 1) w4) HGa.out (gridCells (gridF (backRows rows)))))
              have ZFa := Lib.hid (GridAt.setRow Za4.out HLT.out)
              have ZSb := Lib.hid (grid_apart Zb4.out (Ne.symm HD.out) (gridCells (gridF (backRows rows))))
              generalize (w4.setRow Ga (gridCells (gridF (backRows rows)))) = wF at EF ZFa ZSb ⊢
              refine hK.out _ _ (⟨EF.out.c0, EF.out.c1⟩) (fun hHeld => ?_)
              clear hK K
              try dsimp only [Act.put]
              refine wpAnyH_ready (rs := [9]) (by kernel_rfl) (by simp) ?_
              refine AllReadyH.cons rfl (fun K hK => ?_) ?_
              · refine step_store_row rfl 83 (.tmp 6) (.tmp 15) rfl Gb (gridCells (gridF (backRows rows'))) rfl HV'.out 83 (gridCells fun _ => 0) ZSb.out.1 (by rw [gridCells_size]; exact sizeGrid) (by rw [gridCells_size, gridCells_size]) (gridCells_one _) ?_
                have EG := Lib.hid (EF.out.far (below_setRow' (Below.refl (w.heap.size + 1) wF) HGb.out (gridCells (gridF (backRows rows')))))
                have ZGb := Lib.hid (GridAt.setRow ZSb.out HLT'.out)
                have ZGa := Lib.hid (grid_apart ZFa.out HD.out (gridCells (gridF (backRows rows'))))
                refine hK.out _ _ (⟨EG.out.c0, EG.out.c1⟩) (fun hHeld => ?_)
                clear hK K
                try dsimp only [Act.put]
                refine wpAnyH_done (by kernel_rfl) ?_ _
                go_wp2_with fail
                go_meet
                exact ⟨Ga, Gb, rfl, rfl, HGa.out, HGb.out, ZGa.out, ZGb.out, EG.out⟩
              exact AllReadyH.nil
            exact AllReadyH.nil
          exact AllReadyH.nil
        refine AllReadyH.cons rfl (fun K hK => ?_) ?_
        · go_simp
          have hb := (Below.refl w2.heap.size w2).alloc (Nat.le_refl _) (.cells (gridCells fun _ => 0) 83)
          have E3 := Lib.hid (E2.out.step hb)
          have Za3 := Lib.hid (Za2.out.below hb Za2.out.lt)
          clear hb
          have Zb3 := Lib.hid (store_new w2)
          have HGb := Lib.hid (show w.heap.size + 1 ≤ w2.heap.size from E2.out.lt)
          have HNE := Lib.hid (show Ga < w2.heap.size from Za2.out.lt)
          generalize hwq : w2.heap.size = Gb at Zb3 HGb HNE ⊢
          generalize (w2.alloc (.cells (gridCells fun _ => 0) 83)) = w3 at E3 Zb3 Za3 ⊢
          clear hwq
          have HD := Lib.hid (show Ga ≠ Gb by have := HNE.out; omega)
          refine hK.out _ _ (⟨E3.out.c0, E3.out.c1⟩) (fun hHeld => ?_)
          clear hK K
          try dsimp only [Act.put]
          refine wpAnyH_ready (rs := [5]) (by kernel_rfl) (by simp) ?_
          refine AllReadyH.cons rfl (fun K hK => ?_) ?_
          · go_simp
            refine (HBK'.out _ E3.out).mono ?_
            rintro e w4 ⟨rfl, hb⟩
            have E4 := Lib.hid (E3.out.step hb)
            have Za4 := Lib.hid (Za3.out.below hb Za3.out.lt)
            have Zb4 := Lib.hid (Zb3.out.below hb Zb3.out.lt)
            clear hb
            obtain ⟨V', hV⟩ : ∃ V', V' = Value.agg (gridCells (gridF (backRows rows'))) := ⟨_, rfl⟩
            rw [← hV]
            have HV' := Lib.hid hV
            clear hV
            go_wp2_with fail
            refine hK.out _ _ (⟨E4.out.c0, E4.out.c1⟩) (fun hHeld => ?_)
            clear hK K
            try dsimp only [Act.put]
            refine wpAnyH_ready (rs := [8]) (by kernel_rfl) (by simp) ?_
            refine AllReadyH.cons rfl (fun K hK => ?_) ?_
            · refine step_store_row rfl 83 (.tmp 5) (.tmp 12) rfl Ga (gridCells (gridF (backRows rows))) rfl HV.out 83 (gridCells fun _ => 0) Za4.out.1 (by rw [gridCells_size]; exact sizeGrid) (by rw [gridCells_size, gridCells_size]) (gridCells_one _) ?_
              have EF := Lib.hid (E4.out.far (below_setRow' (Below.refl (w.heap.size + 1) w4) HGa.out (gridCells (gridF (backRows rows)))))
              have ZFa := Lib.hid (GridAt.setRow Za4.out HLT.out)
              have ZSb := Lib.hid (grid_apart Zb4.out (Ne.symm HD.out) (gridCells (gridF (backRows rows))))
              generalize (w4.setRow Ga (gridCells (gridF (backRows rows)))) = wF at EF ZFa ZSb ⊢
              refine hK.out _ _ (⟨EF.out.c0, EF.out.c1⟩) (fun hHeld => ?_)
              clear hK K
              try dsimp only [Act.put]
              refine wpAnyH_ready (rs := [9]) (by kernel_rfl) (by simp) ?_
              refine AllReadyH.cons rfl (fun K hK => ?_) ?_
              · refine step_store_row rfl 83 (.tmp 6) (.tmp 15) rfl Gb (gridCells (gridF (backRows rows'))) rfl HV'.out 83 (gridCells fun _ => 0) ZSb.out.1 (by rw [gridCells_size]; exact sizeGrid) (by rw [gridCells_size, gridCells_size]) (gridCells_one _) ?_
                have EG := Lib.hid (EF.out.far (below_setRow' (Below.refl (w.heap.size + 1) wF) HGb.out (gridCells (gridF (backRows rows')))))
                have ZGb := Lib.hid (GridAt.setRow ZSb.out HLT'.out)
                have ZGa := Lib.hid (grid_apart ZFa.out HD.out (gridCells (gridF (backRows rows'))))
                refine hK.out _ _ (⟨EG.out.c0, EG.out.c1⟩) (fun hHeld => ?_)
                clear hK K
                try dsimp only [Act.put]
                refine wpAnyH_done (by kernel_rfl) ?_ _
                go_wp2_with fail
                go_meet
                exact ⟨Ga, Gb, rfl, rfl, HGa.out, HGb.out, ZGa.out, ZGb.out, EG.out⟩
              exact AllReadyH.nil
            exact AllReadyH.nil
          exact AllReadyH.nil
        exact AllReadyH.nil
      refine AllReadyH.cons rfl (fun K hK => ?_) ?_
      · go_simp
        have hb := (Below.refl w1.heap.size w1).alloc (Nat.le_refl _) (.cells (gridCells fun _ => 0) 83)
        have E2 := Lib.hid (E1.out.step hb)
        clear hb
        have Zb2 := Lib.hid (store_new w1)
        have HGb := Lib.hid (show w.heap.size + 1 ≤ w1.heap.size from E1.out.lt)
        generalize hwq : w1.heap.size = Gb at Zb2 HGb ⊢
        generalize (w1.alloc (.cells (gridCells fun _ => 0) 83)) = w2 at E2 Zb2 ⊢
        clear hwq
        refine hK.out _ _ (⟨E2.out.c0, E2.out.c1⟩) (fun hHeld => ?_)
        clear hK K
        try dsimp only [Act.put]
        refine wpAnyH_ready (rs := [5, 6]) (by kernel_rfl) (by simp) ?_
        refine AllReadyH.cons rfl (fun K hK => ?_) ?_
        · go_simp
          refine (HBK'.out _ E2.out).mono ?_
          rintro e w3 ⟨rfl, hb⟩
          have E3 := Lib.hid (E2.out.step hb)
          have Zb3 := Lib.hid (Zb2.out.below hb Zb2.out.lt)
          clear hb
          obtain ⟨V', hV⟩ : ∃ V', V' = Value.agg (gridCells (gridF (backRows rows'))) := ⟨_, rfl⟩
          rw [← hV]
          have HV' := Lib.hid hV
          clear hV
          go_wp2_with fail
          refine hK.out _ _ (⟨E3.out.c0, E3.out.c1⟩) (fun hHeld => ?_)
          clear hK K
          try dsimp only [Act.put]
          refine wpAnyH_ready (rs := [6]) (by kernel_rfl) (by simp) ?_
          refine AllReadyH.cons rfl (fun K hK => ?_) ?_
          · go_simp
            have hb := (Below.refl w3.heap.size w3).alloc (Nat.le_refl _) (.cells (gridCells fun _ => 0) 83)
            have E4 := Lib.hid (E3.out.step hb)
            have Zb4 := Lib.hid (Zb3.out.below hb Zb3.out.lt)
            clear hb
            have Za4 := Lib.hid (store_new w3)
            have HGa := Lib.hid (show w.heap.size + 1 ≤ w3.heap.size from E3.out.lt)
            have HNE := Lib.hid (show Gb < w3.heap.size from Zb3.out.lt)
            generalize hwq : w3.heap.size = Ga at Za4 HGa HNE ⊢
            generalize (w3.alloc (.cells (gridCells fun _ => 0) 83)) = w4 at E4 Za4 Zb4 ⊢
            clear hwq
            have HD := Lib.hid (show Ga ≠ Gb by have := HNE.out; omega)
            refine hK.out _ _ (⟨E4.out.c0, E4.out.c1⟩) (fun hHeld => ?_)
            clear hK K
            try dsimp only [Act.put]
            refine wpAnyH_ready (rs := [8]) (by kernel_rfl) (by simp) ?_
            refine AllReadyH.cons rfl (fun K hK => ?_) ?_
            · refine step_store_row rfl 83 (.tmp 5) (.tmp 12) rfl Ga (gridCells (gridF (backRows rows))) rfl HV.out 83 (gridCells fun _ => 0) Za4.out.1 (by rw [gridCells_size]; exact sizeGrid) (by rw [gridCells_size, gridCells_size]) (gridCells_one _) ?_
              have EF := Lib.hid (E4.out.far (below_setRow' (Below.refl (w.heap.size + 1) w4) HGa.out (gridCells (gridF (backRows rows)))))
              have ZFa := Lib.hid (GridAt.setRow Za4.out HLT.out)
              have ZSb := Lib.hid (grid_apart Zb4.out (Ne.symm HD.out) (gridCells (gridF (backRows rows))))
              generalize (w4.setRow Ga (gridCells (gridF (backRows rows)))) = wF at EF ZFa ZSb ⊢
              refine hK.out _ _ (⟨EF.out.c0, EF.out.c1⟩) (fun hHeld => ?_)
              clear hK K
              try dsimp only [Act.put]
              refine wpAnyH_ready (rs := [9]) (by kernel_rfl) (by simp) ?_
              refine AllReadyH.cons rfl (fun K hK => ?_) ?_
              · refine step_store_row rfl 83 (.tmp 6) (.tmp 15) rfl Gb (gridCells (gridF (backRows rows'))) rfl HV'.out 83 (gridCells fun _ => 0) ZSb.out.1 (by rw [gridCells_size]; exact sizeGrid) (by rw [gridCells_size, gridCells_size]) (gridCells_one _) ?_
                have EG := Lib.hid (EF.out.far (below_setRow' (Below.refl (w.heap.size + 1) wF) HGb.out (gridCells (gridF (backRows rows')))))
                have ZGb := Lib.hid (GridAt.setRow ZSb.out HLT'.out)
                have ZGa := Lib.hid (grid_apart ZFa.out HD.out (gridCells (gridF (backRows rows'))))
                refine hK.out _ _ (⟨EG.out.c0, EG.out.c1⟩) (fun hHeld => ?_)
                clear hK K
                try dsimp only [Act.put]
                refine wpAnyH_done (by kernel_rfl) ?_ _
                go_wp2_with fail
                go_meet
                exact ⟨Ga, Gb, rfl, rfl, HGa.out, HGb.out, ZGa.out, ZGb.out, EG.out⟩
              exact AllReadyH.nil
            exact AllReadyH.nil
          exact AllReadyH.nil
        refine AllReadyH.cons rfl (fun K hK => ?_) ?_
        · go_simp
          have hb := (Below.refl w2.heap.size w2).alloc (Nat.le_refl _) (.cells (gridCells fun _ => 0) 83)
          have E3 := Lib.hid (E2.out.step hb)
          have Zb3 := Lib.hid (Zb2.out.below hb Zb2.out.lt)
          clear hb
          have Za3 := Lib.hid (store_new w2)
          have HGa := Lib.hid (show w.heap.size + 1 ≤ w2.heap.size from E2.out.lt)
          have HNE := Lib.hid (show Gb < w2.heap.size from Zb2.out.lt)
          generalize hwq : w2.heap.size = Ga at Za3 HGa HNE ⊢
          generalize (w2.alloc (.cells (gridCells fun _ => 0) 83)) = w3 at E3 Za3 Zb3 ⊢
          clear hwq
          have HD := Lib.hid (show Ga ≠ Gb by have := HNE.out; omega)
          refine hK.out _ _ (⟨E3.out.c0, E3.out.c1⟩) (fun hHeld => ?_)
          clear hK K
          try dsimp only [Act.put]
          refine wpAnyH_ready (rs := [5]) (by kernel_rfl) (by simp) ?_
          refine AllReadyH.cons rfl (fun K hK => ?_) ?_
          · go_simp
            refine (HBK'.out _ E3.out).mono ?_
            rintro e w4 ⟨rfl, hb⟩
            have E4 := Lib.hid (E3.out.step hb)
            have Zb4 := Lib.hid (Zb3.out.below hb Zb3.out.lt)
            have Za4 := Lib.hid (Za3.out.below hb Za3.out.lt)
            clear hb
            obtain ⟨V', hV⟩ : ∃ V', V' = Value.agg (gridCells (gridF (backRows rows'))) := ⟨_, rfl⟩
            rw [← hV]
            have HV' := Lib.hid hV
            clear hV
            go_wp2_with fail
            refine hK.out _ _ (⟨E4.out.c0, E4.out.c1⟩) (fun hHeld => ?_)
            clear hK K
            try dsimp only [Act.put]
            refine wpAnyH_ready (rs := [8]) (by kernel_rfl) (by simp) ?_
            refine AllReadyH.cons rfl (fun K hK => ?_) ?_
            · refine step_store_row rfl 83 (.tmp 5) (.tmp 12) rfl Ga (gridCells (gridF (backRows rows))) rfl HV.out 83 (gridCells fun _ => 0) Za4.out.1 (by rw [gridCells_size]; exact sizeGrid) (by rw [gridCells_size, gridCells_size]) (gridCells_one _) ?_
              have EF := Lib.hid (E4.out.far (below_setRow' (Below.refl (w.heap.size + 1) w4) HGa.out (gridCells (gridF (backRows rows)))))
              have ZFa := Lib.hid (GridAt.setRow Za4.out HLT.out)
              have ZSb := Lib.hid (grid_apart Zb4.out (Ne.symm HD.out) (gridCells (gridF (backRows rows))))
              generalize (w4.setRow Ga (gridCells (gridF (backRows rows)))) = wF at EF ZFa ZSb ⊢
              refine hK.out _ _ (⟨EF.out.c0, EF.out.c1⟩) (fun hHeld => ?_)
              clear hK K
              try dsimp only [Act.put]
              refine wpAnyH_ready (rs := [9]) (by kernel_rfl) (by simp) ?_
              refine AllReadyH.cons rfl (fun K hK => ?_) ?_
              · refine step_store_row rfl 83 (.tmp 6) (.tmp 15) rfl Gb (gridCells (gridF (backRows rows'))) rfl HV'.out 83 (gridCells fun _ => 0) ZSb.out.1 (by rw [gridCells_size]; exact sizeGrid) (by rw [gridCells_size, gridCells_size]) (gridCells_one _) ?_
                have EG := Lib.hid (EF.out.far (below_setRow' (Below.refl (w.heap.size + 1) wF) HGb.out (gridCells (gridF (backRows rows')))))
                have ZGb := Lib.hid (GridAt.setRow ZSb.out HLT'.out)
                have ZGa := Lib.hid (grid_apart ZFa.out HD.out (gridCells (gridF (backRows rows'))))
                refine hK.out _ _ (⟨EG.out.c0, EG.out.c1⟩) (fun hHeld => ?_)
                clear hK K
                try dsimp only [Act.put]
                refine wpAnyH_done (by kernel_rfl) ?_ _
                go_wp2_with fail
                go_meet
                exact ⟨Ga, Gb, rfl, rfl, HGa.out, HGb.out, ZGa.out, ZGb.out, EG.out⟩
              exact AllReadyH.nil
            exact AllReadyH.nil
          exact AllReadyH.nil
        exact AllReadyH.nil
      exact AllReadyH.nil
    refine AllReadyH.cons rfl (fun K hK => ?_) ?_
    · go_simp
      have hb := (Below.refl W0.heap.size W0).alloc (Nat.le_refl _) (.cells (gridCells fun _ => 0) 83)
      have E1 := Lib.hid (E0.out.step hb)
      clear hb
      have Za1 := Lib.hid (store_new W0)
      have HGa := Lib.hid (show w.heap.size + 1 ≤ W0.heap.size from E0.out.lt)
      generalize hwq : W0.heap.size = Ga at Za1 HGa ⊢
      generalize (W0.alloc (.cells (gridCells fun _ => 0) 83)) = w1 at E1 Za1 ⊢
      clear hwq
      refine hK.out _ _ (⟨E1.out.c0, E1.out.c1⟩) (fun hHeld => ?_)
      clear hK K
      try dsimp only [Act.put]
      refine wpAnyH_ready (rs := [2, 7]) (by kernel_rfl) (by simp) ?_
      refine AllReadyH.cons rfl (fun K hK => ?_) ?_
      · go_simp
        refine (HBK.out _ E1.out).mono ?_
        rintro e w2 ⟨rfl, hb⟩
        have E2 := Lib.hid (E1.out.step hb)
        have Za2 := Lib.hid (Za1.out.below hb Za1.out.lt)
        clear hb
        obtain ⟨V, hV⟩ : ∃ V, V = Value.agg (gridCells (gridF (backRows rows))) := ⟨_, rfl⟩
        rw [← hV]
        have HV := Lib.hid hV
        clear hV
        go_wp2_with fail
        refine hK.out _ _ (⟨E2.out.c0, E2.out.c1⟩) (fun hHeld => ?_)
        clear hK K
        try dsimp only [Act.put]
        refine wpAnyH_ready (rs := [5, 7]) (by kernel_rfl) (by simp) ?_
        refine AllReadyH.cons rfl (fun K hK => ?_) ?_
        · go_simp
          refine (HBK'.out _ E2.out).mono ?_
          rintro e w3 ⟨rfl, hb⟩
          have E3 := Lib.hid (E2.out.step hb)
          have Za3 := Lib.hid (Za2.out.below hb Za2.out.lt)
          clear hb
          obtain ⟨V', hV⟩ : ∃ V', V' = Value.agg (gridCells (gridF (backRows rows'))) := ⟨_, rfl⟩
          rw [← hV]
          have HV' := Lib.hid hV
          clear hV
          go_wp2_with fail
          refine hK.out _ _ (⟨E3.out.c0, E3.out.c1⟩) (fun hHeld => ?_)
          clear hK K
          try dsimp only [Act.put]
          refine wpAnyH_ready (rs := [7]) (by kernel_rfl) (by simp) ?_
          refine AllReadyH.cons rfl (fun K hK => ?_) ?_
          · go_simp
            have hb := (Below.refl w3.heap.size w3).alloc (Nat.le_refl _) (.cells (gridCells fun _ => 0) 83)
            have E4 := Lib.hid (E3.out.step hb)
            have Za4 := Lib.hid (Za3.out.below hb Za3.out.lt)
            clear hb
            have Zb4 := Lib.hid (store_new w3)
            have HGb := Lib.hid (show w.heap.size + 1 ≤ w3.heap.size from E3.out.lt)
            have HNE := Lib.hid (show Ga < w3.heap.size from Za3.out.lt)
            generalize hwq : w3.heap.size = Gb at Zb4 HGb HNE ⊢
            generalize (w3.alloc (.cells (gridCells fun _ => 0) 83)) = w4 at E4 Zb4 Za4 ⊢
            clear hwq
            have HD := Lib.hid (show Ga ≠ Gb by have := HNE.out; omega)
            refine hK.out _ _ (⟨E4.out.c0, E4.out.c1⟩) (fun hHeld => ?_)
            clear hK K
            try dsimp only [Act.put]
            refine wpAnyH_ready (rs := [8]) (by kernel_rfl) (by simp) ?_
            refine AllReadyH.cons rfl (fun K hK => ?_) ?_
            · refine step_store_row rfl 83 (.tmp 5) (.tmp 12) rfl Ga (gridCells (gridF (backRows rows))) rfl HV.out 83 (gridCells fun _ => 0) Za4.out.1 (by rw [gridCells_size]; exact sizeGrid) (by rw [gridCells_size, gridCells_size]) (gridCells_one _) ?_
              have EF := Lib.hid (E4.out.far (below_setRow' (Below.refl (w.heap.size + 1) w4) HGa.out (gridCells (gridF (backRows rows)))))
              have ZFa := Lib.hid (GridAt.setRow Za4.out HLT.out)
              have ZSb := Lib.hid (grid_apart Zb4.out (Ne.symm HD.out) (gridCells (gridF (backRows rows))))
              generalize (w4.setRow Ga (gridCells (gridF (backRows rows)))) = wF at EF ZFa ZSb ⊢
              refine hK.out _ _ (⟨EF.out.c0, EF.out.c1⟩) (fun hHeld => ?_)
              clear hK K
              try dsimp only [Act.put]
              refine wpAnyH_ready (rs := [9]) (by kernel_rfl) (by simp) ?_
              refine AllReadyH.cons rfl (fun K hK => ?_) ?_
              · refine step_store_row rfl 83 (.tmp 6) (.tmp 15) rfl Gb (gridCells (gridF (backRows rows'))) rfl HV'.out 83 (gridCells fun _ => 0) ZSb.out.1 (by rw [gridCells_size]; exact sizeGrid) (by rw [gridCells_size, gridCells_size]) (gridCells_one _) ?_
                have EG := Lib.hid (EF.out.far (below_setRow' (Below.refl (w.heap.size + 1) wF) HGb.out (gridCells (gridF (backRows rows')))))
                have ZGb := Lib.hid (GridAt.setRow ZSb.out HLT'.out)
                have ZGa := Lib.hid (grid_apart ZFa.out HD.out (gridCells (gridF (backRows rows'))))
                refine hK.out _ _ (⟨EG.out.c0, EG.out.c1⟩) (fun hHeld => ?_)
                clear hK K
                try dsimp only [Act.put]
                refine wpAnyH_done (by kernel_rfl) ?_ _
                go_wp2_with fail
                go_meet
                exact ⟨Ga, Gb, rfl, rfl, HGa.out, HGb.out, ZGa.out, ZGb.out, EG.out⟩
              exact AllReadyH.nil
            exact AllReadyH.nil
          exact AllReadyH.nil
        refine AllReadyH.cons rfl (fun K hK => ?_) ?_
        · go_simp
          have hb := (Below.refl w2.heap.size w2).alloc (Nat.le_refl _) (.cells (gridCells fun _ => 0) 83)
          have E3 := Lib.hid (E2.out.step hb)
          have Za3 := Lib.hid (Za2.out.below hb Za2.out.lt)
          clear hb
          have Zb3 := Lib.hid (store_new w2)
          have HGb := Lib.hid (show w.heap.size + 1 ≤ w2.heap.size from E2.out.lt)
          have HNE := Lib.hid (show Ga < w2.heap.size from Za2.out.lt)
          generalize hwq : w2.heap.size = Gb at Zb3 HGb HNE ⊢
          generalize (w2.alloc (.cells (gridCells fun _ => 0) 83)) = w3 at E3 Zb3 Za3 ⊢
          clear hwq
          have HD := Lib.hid (show Ga ≠ Gb by have := HNE.out; omega)
          refine hK.out _ _ (⟨E3.out.c0, E3.out.c1⟩) (fun hHeld => ?_)
          clear hK K
          try dsimp only [Act.put]
          refine wpAnyH_ready (rs := [5]) (by kernel_rfl) (by simp) ?_
          refine AllReadyH.cons rfl (fun K hK => ?_) ?_
          · go_simp
            refine (HBK'.out _ E3.out).mono ?_
            rintro e w4 ⟨rfl, hb⟩
            have E4 := Lib.hid (E3.out.step hb)
            have Za4 := Lib.hid (Za3.out.below hb Za3.out.lt)
            have Zb4 := Lib.hid (Zb3.out.below hb Zb3.out.lt)
            clear hb
            obtain ⟨V', hV⟩ : ∃ V', V' = Value.agg (gridCells (gridF (backRows rows'))) := ⟨_, rfl⟩
            rw [← hV]
            have HV' := Lib.hid hV
            clear hV
            go_wp2_with fail
            refine hK.out _ _ (⟨E4.out.c0, E4.out.c1⟩) (fun hHeld => ?_)
            clear hK K
            try dsimp only [Act.put]
            refine wpAnyH_ready (rs := [8]) (by kernel_rfl) (by simp) ?_
            refine AllReadyH.cons rfl (fun K hK => ?_) ?_
            · refine step_store_row rfl 83 (.tmp 5) (.tmp 12) rfl Ga (gridCells (gridF (backRows rows))) rfl HV.out 83 (gridCells fun _ => 0) Za4.out.1 (by rw [gridCells_size]; exact sizeGrid) (by rw [gridCells_size, gridCells_size]) (gridCells_one _) ?_
              have EF := Lib.hid (E4.out.far (below_setRow' (Below.refl (w.heap.size + 1) w4) HGa.out (gridCells (gridF (backRows rows)))))
              have ZFa := Lib.hid (GridAt.setRow Za4.out HLT.out)
              have ZSb := Lib.hid (grid_apart Zb4.out (Ne.symm HD.out) (gridCells (gridF (backRows rows))))
              generalize (w4.setRow Ga (gridCells (gridF (backRows rows)))) = wF at EF ZFa ZSb ⊢
              refine hK.out _ _ (⟨EF.out.c0, EF.out.c1⟩) (fun hHeld => ?_)
              clear hK K
              try dsimp only [Act.put]
              refine wpAnyH_ready (rs := [9]) (by kernel_rfl) (by simp) ?_
              refine AllReadyH.cons rfl (fun K hK => ?_) ?_
              · refine step_store_row rfl 83 (.tmp 6) (.tmp 15) rfl Gb (gridCells (gridF (backRows rows'))) rfl HV'.out 83 (gridCells fun _ => 0) ZSb.out.1 (by rw [gridCells_size]; exact sizeGrid) (by rw [gridCells_size, gridCells_size]) (gridCells_one _) ?_
                have EG := Lib.hid (EF.out.far (below_setRow' (Below.refl (w.heap.size + 1) wF) HGb.out (gridCells (gridF (backRows rows')))))
                have ZGb := Lib.hid (GridAt.setRow ZSb.out HLT'.out)
                have ZGa := Lib.hid (grid_apart ZFa.out HD.out (gridCells (gridF (backRows rows'))))
                refine hK.out _ _ (⟨EG.out.c0, EG.out.c1⟩) (fun hHeld => ?_)
                clear hK K
                try dsimp only [Act.put]
                refine wpAnyH_done (by kernel_rfl) ?_ _
                go_wp2_with fail
                go_meet
                exact ⟨Ga, Gb, rfl, rfl, HGa.out, HGb.out, ZGa.out, ZGb.out, EG.out⟩
              exact AllReadyH.nil
            exact AllReadyH.nil
          exact AllReadyH.nil
        exact AllReadyH.nil
      refine AllReadyH.cons rfl (fun K hK => ?_) ?_
      · go_simp
        have hb := (Below.refl w1.heap.size w1).alloc (Nat.le_refl _) (.cells (gridCells fun _ => 0) 83)
        have E2 := Lib.hid (E1.out.step hb)
        have Za2 := Lib.hid (Za1.out.below hb Za1.out.lt)
        clear hb
        have Zb2 := Lib.hid (store_new w1)
        have HGb := Lib.hid (show w.heap.size + 1 ≤ w1.heap.size from E1.out.lt)
        have HNE := Lib.hid (show Ga < w1.heap.size from Za1.out.lt)
        generalize hwq : w1.heap.size = Gb at Zb2 HGb HNE ⊢
        generalize (w1.alloc (.cells (gridCells fun _ => 0) 83)) = w2 at E2 Zb2 Za2 ⊢
        clear hwq
        have HD := Lib.hid (show Ga ≠ Gb by have := HNE.out; omega)
        refine hK.out _ _ (⟨E2.out.c0, E2.out.c1⟩) (fun hHeld => ?_)
        clear hK K
        try dsimp only [Act.put]
        refine wpAnyH_ready (rs := [2]) (by kernel_rfl) (by simp) ?_
        refine AllReadyH.cons rfl (fun K hK => ?_) ?_
        · go_simp
          refine (HBK.out _ E2.out).mono ?_
          rintro e w3 ⟨rfl, hb⟩
          have E3 := Lib.hid (E2.out.step hb)
          have Za3 := Lib.hid (Za2.out.below hb Za2.out.lt)
          have Zb3 := Lib.hid (Zb2.out.below hb Zb2.out.lt)
          clear hb
          obtain ⟨V, hV⟩ : ∃ V, V = Value.agg (gridCells (gridF (backRows rows))) := ⟨_, rfl⟩
          rw [← hV]
          have HV := Lib.hid hV
          clear hV
          go_wp2_with fail
          refine hK.out _ _ (⟨E3.out.c0, E3.out.c1⟩) (fun hHeld => ?_)
          clear hK K
          try dsimp only [Act.put]
          refine wpAnyH_ready (rs := [5]) (by kernel_rfl) (by simp) ?_
          refine AllReadyH.cons rfl (fun K hK => ?_) ?_
          · go_simp
            refine (HBK'.out _ E3.out).mono ?_
            rintro e w4 ⟨rfl, hb⟩
            have E4 := Lib.hid (E3.out.step hb)
            have Za4 := Lib.hid (Za3.out.below hb Za3.out.lt)
            have Zb4 := Lib.hid (Zb3.out.below hb Zb3.out.lt)
            clear hb
            obtain ⟨V', hV⟩ : ∃ V', V' = Value.agg (gridCells (gridF (backRows rows'))) := ⟨_, rfl⟩
            rw [← hV]
            have HV' := Lib.hid hV
            clear hV
            go_wp2_with fail
            refine hK.out _ _ (⟨E4.out.c0, E4.out.c1⟩) (fun hHeld => ?_)
            clear hK K
            try dsimp only [Act.put]
            refine wpAnyH_ready (rs := [8]) (by kernel_rfl) (by simp) ?_
            refine AllReadyH.cons rfl (fun K hK => ?_) ?_
            · refine step_store_row rfl 83 (.tmp 5) (.tmp 12) rfl Ga (gridCells (gridF (backRows rows))) rfl HV.out 83 (gridCells fun _ => 0) Za4.out.1 (by rw [gridCells_size]; exact sizeGrid) (by rw [gridCells_size, gridCells_size]) (gridCells_one _) ?_
              have EF := Lib.hid (E4.out.far (below_setRow' (Below.refl (w.heap.size + 1) w4) HGa.out (gridCells (gridF (backRows rows)))))
              have ZFa := Lib.hid (GridAt.setRow Za4.out HLT.out)
              have ZSb := Lib.hid (grid_apart Zb4.out (Ne.symm HD.out) (gridCells (gridF (backRows rows))))
              generalize (w4.setRow Ga (gridCells (gridF (backRows rows)))) = wF at EF ZFa ZSb ⊢
              refine hK.out _ _ (⟨EF.out.c0, EF.out.c1⟩) (fun hHeld => ?_)
              clear hK K
              try dsimp only [Act.put]
              refine wpAnyH_ready (rs := [9]) (by kernel_rfl) (by simp) ?_
              refine AllReadyH.cons rfl (fun K hK => ?_) ?_
              · refine step_store_row rfl 83 (.tmp 6) (.tmp 15) rfl Gb (gridCells (gridF (backRows rows'))) rfl HV'.out 83 (gridCells fun _ => 0) ZSb.out.1 (by rw [gridCells_size]; exact sizeGrid) (by rw [gridCells_size, gridCells_size]) (gridCells_one _) ?_
                have EG := Lib.hid (EF.out.far (below_setRow' (Below.refl (w.heap.size + 1) wF) HGb.out (gridCells (gridF (backRows rows')))))
                have ZGb := Lib.hid (GridAt.setRow ZSb.out HLT'.out)
                have ZGa := Lib.hid (grid_apart ZFa.out HD.out (gridCells (gridF (backRows rows'))))
                refine hK.out _ _ (⟨EG.out.c0, EG.out.c1⟩) (fun hHeld => ?_)
                clear hK K
                try dsimp only [Act.put]
                refine wpAnyH_done (by kernel_rfl) ?_ _
                go_wp2_with fail
                go_meet
                exact ⟨Ga, Gb, rfl, rfl, HGa.out, HGb.out, ZGa.out, ZGb.out, EG.out⟩
              exact AllReadyH.nil
            exact AllReadyH.nil
          exact AllReadyH.nil
        exact AllReadyH.nil
      exact AllReadyH.nil
    refine AllReadyH.cons rfl (fun K hK => ?_) ?_
    · go_simp
      have hb := (Below.refl W0.heap.size W0).alloc (Nat.le_refl _) (.cells (gridCells fun _ => 0) 83)
      have E1 := Lib.hid (E0.out.step hb)
      clear hb
      have Zb1 := Lib.hid (store_new W0)
      have HGb := Lib.hid (show w.heap.size + 1 ≤ W0.heap.size from E0.out.lt)
      generalize hwq : W0.heap.size = Gb at Zb1 HGb ⊢
      generalize (W0.alloc (.cells (gridCells fun _ => 0) 83)) = w1 at E1 Zb1 ⊢
      clear hwq
      refine hK.out _ _ (⟨E1.out.c0, E1.out.c1⟩) (fun hHeld => ?_)
      clear hK K
      try dsimp only [Act.put]
      refine wpAnyH_ready (rs := [2, 6]) (by kernel_rfl) (by simp) ?_
      refine AllReadyH.cons rfl (fun K hK => ?_) ?_
      · go_simp
        refine (HBK.out _ E1.out).mono ?_
        rintro e w2 ⟨rfl, hb⟩
        have E2 := Lib.hid (E1.out.step hb)
        have Zb2 := Lib.hid (Zb1.out.below hb Zb1.out.lt)
        clear hb
        obtain ⟨V, hV⟩ : ∃ V, V = Value.agg (gridCells (gridF (backRows rows))) := ⟨_, rfl⟩
        rw [← hV]
        have HV := Lib.hid hV
        clear hV
        go_wp2_with fail
        refine hK.out _ _ (⟨E2.out.c0, E2.out.c1⟩) (fun hHeld => ?_)
        clear hK K
        try dsimp only [Act.put]
        refine wpAnyH_ready (rs := [5, 6]) (by kernel_rfl) (by simp) ?_
        refine AllReadyH.cons rfl (fun K hK => ?_) ?_
        · go_simp
          refine (HBK'.out _ E2.out).mono ?_
          rintro e w3 ⟨rfl, hb⟩
          have E3 := Lib.hid (E2.out.step hb)
          have Zb3 := Lib.hid (Zb2.out.below hb Zb2.out.lt)
          clear hb
          obtain ⟨V', hV⟩ : ∃ V', V' = Value.agg (gridCells (gridF (backRows rows'))) := ⟨_, rfl⟩
          rw [← hV]
          have HV' := Lib.hid hV
          clear hV
          go_wp2_with fail
          refine hK.out _ _ (⟨E3.out.c0, E3.out.c1⟩) (fun hHeld => ?_)
          clear hK K
          try dsimp only [Act.put]
          refine wpAnyH_ready (rs := [6]) (by kernel_rfl) (by simp) ?_
          refine AllReadyH.cons rfl (fun K hK => ?_) ?_
          · go_simp
            have hb := (Below.refl w3.heap.size w3).alloc (Nat.le_refl _) (.cells (gridCells fun _ => 0) 83)
            have E4 := Lib.hid (E3.out.step hb)
            have Zb4 := Lib.hid (Zb3.out.below hb Zb3.out.lt)
            clear hb
            have Za4 := Lib.hid (store_new w3)
            have HGa := Lib.hid (show w.heap.size + 1 ≤ w3.heap.size from E3.out.lt)
            have HNE := Lib.hid (show Gb < w3.heap.size from Zb3.out.lt)
            generalize hwq : w3.heap.size = Ga at Za4 HGa HNE ⊢
            generalize (w3.alloc (.cells (gridCells fun _ => 0) 83)) = w4 at E4 Za4 Zb4 ⊢
            clear hwq
            have HD := Lib.hid (show Ga ≠ Gb by have := HNE.out; omega)
            refine hK.out _ _ (⟨E4.out.c0, E4.out.c1⟩) (fun hHeld => ?_)
            clear hK K
            try dsimp only [Act.put]
            refine wpAnyH_ready (rs := [8]) (by kernel_rfl) (by simp) ?_
            refine AllReadyH.cons rfl (fun K hK => ?_) ?_
            · refine step_store_row rfl 83 (.tmp 5) (.tmp 12) rfl Ga (gridCells (gridF (backRows rows))) rfl HV.out 83 (gridCells fun _ => 0) Za4.out.1 (by rw [gridCells_size]; exact sizeGrid) (by rw [gridCells_size, gridCells_size]) (gridCells_one _) ?_
              have EF := Lib.hid (E4.out.far (below_setRow' (Below.refl (w.heap.size + 1) w4) HGa.out (gridCells (gridF (backRows rows)))))
              have ZFa := Lib.hid (GridAt.setRow Za4.out HLT.out)
              have ZSb := Lib.hid (grid_apart Zb4.out (Ne.symm HD.out) (gridCells (gridF (backRows rows))))
              generalize (w4.setRow Ga (gridCells (gridF (backRows rows)))) = wF at EF ZFa ZSb ⊢
              refine hK.out _ _ (⟨EF.out.c0, EF.out.c1⟩) (fun hHeld => ?_)
              clear hK K
              try dsimp only [Act.put]
              refine wpAnyH_ready (rs := [9]) (by kernel_rfl) (by simp) ?_
              refine AllReadyH.cons rfl (fun K hK => ?_) ?_
              · refine step_store_row rfl 83 (.tmp 6) (.tmp 15) rfl Gb (gridCells (gridF (backRows rows'))) rfl HV'.out 83 (gridCells fun _ => 0) ZSb.out.1 (by rw [gridCells_size]; exact sizeGrid) (by rw [gridCells_size, gridCells_size]) (gridCells_one _) ?_
                have EG := Lib.hid (EF.out.far (below_setRow' (Below.refl (w.heap.size + 1) wF) HGb.out (gridCells (gridF (backRows rows')))))
                have ZGb := Lib.hid (GridAt.setRow ZSb.out HLT'.out)
                have ZGa := Lib.hid (grid_apart ZFa.out HD.out (gridCells (gridF (backRows rows'))))
                refine hK.out _ _ (⟨EG.out.c0, EG.out.c1⟩) (fun hHeld => ?_)
                clear hK K
                try dsimp only [Act.put]
                refine wpAnyH_done (by kernel_rfl) ?_ _
                go_wp2_with fail
                go_meet
                exact ⟨Ga, Gb, rfl, rfl, HGa.out, HGb.out, ZGa.out, ZGb.out, EG.out⟩
              exact AllReadyH.nil
            exact AllReadyH.nil
          exact AllReadyH.nil
        refine AllReadyH.cons rfl (fun K hK => ?_) ?_
        · go_simp
          have hb := (Below.refl w2.heap.size w2).alloc (Nat.le_refl _) (.cells (gridCells fun _ => 0) 83)
          have E3 := Lib.hid (E2.out.step hb)
          have Zb3 := Lib.hid (Zb2.out.below hb Zb2.out.lt)
          clear hb
          have Za3 := Lib.hid (store_new w2)
          have HGa := Lib.hid (show w.heap.size + 1 ≤ w2.heap.size from E2.out.lt)
          have HNE := Lib.hid (show Gb < w2.heap.size from Zb2.out.lt)
          generalize hwq : w2.heap.size = Ga at Za3 HGa HNE ⊢
          generalize (w2.alloc (.cells (gridCells fun _ => 0) 83)) = w3 at E3 Za3 Zb3 ⊢
          clear hwq
          have HD := Lib.hid (show Ga ≠ Gb by have := HNE.out; omega)
          refine hK.out _ _ (⟨E3.out.c0, E3.out.c1⟩) (fun hHeld => ?_)
          clear hK K
          try dsimp only [Act.put]
          refine wpAnyH_ready (rs := [5]) (by kernel_rfl) (by simp) ?_
          refine AllReadyH.cons rfl (fun K hK => ?_) ?_
          · go_simp
            refine (HBK'.out _ E3.out).mono ?_
            rintro e w4 ⟨rfl, hb⟩
            have E4 := Lib.hid (E3.out.step hb)
            have Zb4 := Lib.hid (Zb3.out.below hb Zb3.out.lt)
            have Za4 := Lib.hid (Za3.out.below hb Za3.out.lt)
            clear hb
            obtain ⟨V', hV⟩ : ∃ V', V' = Value.agg (gridCells (gridF (backRows rows'))) := ⟨_, rfl⟩
            rw [← hV]
            have HV' := Lib.hid hV
            clear hV
            go_wp2_with fail
            refine hK.out _ _ (⟨E4.out.c0, E4.out.c1⟩) (fun hHeld => ?_)
            clear hK K
            try dsimp only [Act.put]
            refine wpAnyH_ready (rs := [8]) (by kernel_rfl) (by simp) ?_
            refine AllReadyH.cons rfl (fun K hK => ?_) ?_
            · refine step_store_row rfl 83 (.tmp 5) (.tmp 12) rfl Ga (gridCells (gridF (backRows rows))) rfl HV.out 83 (gridCells fun _ => 0) Za4.out.1 (by rw [gridCells_size]; exact sizeGrid) (by rw [gridCells_size, gridCells_size]) (gridCells_one _) ?_
              have EF := Lib.hid (E4.out.far (below_setRow' (Below.refl (w.heap.size + 1) w4) HGa.out (gridCells (gridF (backRows rows)))))
              have ZFa := Lib.hid (GridAt.setRow Za4.out HLT.out)
              have ZSb := Lib.hid (grid_apart Zb4.out (Ne.symm HD.out) (gridCells (gridF (backRows rows))))
              generalize (w4.setRow Ga (gridCells (gridF (backRows rows)))) = wF at EF ZFa ZSb ⊢
              refine hK.out _ _ (⟨EF.out.c0, EF.out.c1⟩) (fun hHeld => ?_)
              clear hK K
              try dsimp only [Act.put]
              refine wpAnyH_ready (rs := [9]) (by kernel_rfl) (by simp) ?_
              refine AllReadyH.cons rfl (fun K hK => ?_) ?_
              · refine step_store_row rfl 83 (.tmp 6) (.tmp 15) rfl Gb (gridCells (gridF (backRows rows'))) rfl HV'.out 83 (gridCells fun _ => 0) ZSb.out.1 (by rw [gridCells_size]; exact sizeGrid) (by rw [gridCells_size, gridCells_size]) (gridCells_one _) ?_
                have EG := Lib.hid (EF.out.far (below_setRow' (Below.refl (w.heap.size + 1) wF) HGb.out (gridCells (gridF (backRows rows')))))
                have ZGb := Lib.hid (GridAt.setRow ZSb.out HLT'.out)
                have ZGa := Lib.hid (grid_apart ZFa.out HD.out (gridCells (gridF (backRows rows'))))
                refine hK.out _ _ (⟨EG.out.c0, EG.out.c1⟩) (fun hHeld => ?_)
                clear hK K
                try dsimp only [Act.put]
                refine wpAnyH_done (by kernel_rfl) ?_ _
                go_wp2_with fail
                go_meet
                exact ⟨Ga, Gb, rfl, rfl, HGa.out, HGb.out, ZGa.out, ZGb.out, EG.out⟩
              exact AllReadyH.nil
            exact AllReadyH.nil
          exact AllReadyH.nil
        exact AllReadyH.nil
      refine AllReadyH.cons rfl (fun K hK => ?_) ?_
      · go_simp
        have hb := (Below.refl w1.heap.size w1).alloc (Nat.le_refl _) (.cells (gridCells fun _ => 0) 83)
        have E2 := Lib.hid (E1.out.step hb)
        have Zb2 := Lib.hid (Zb1.out.below hb Zb1.out.lt)
        clear hb
        have Za2 := Lib.hid (store_new w1)
        have HGa := Lib.hid (show w.heap.size + 1 ≤ w1.heap.size from E1.out.lt)
        have HNE := Lib.hid (show Gb < w1.heap.size from Zb1.out.lt)
        generalize hwq : w1.heap.size = Ga at Za2 HGa HNE ⊢
        generalize (w1.alloc (.cells (gridCells fun _ => 0) 83)) = w2 at E2 Za2 Zb2 ⊢
        clear hwq
        have HD := Lib.hid (show Ga ≠ Gb by have := HNE.out; omega)
        refine hK.out _ _ (⟨E2.out.c0, E2.out.c1⟩) (fun hHeld => ?_)
        clear hK K
        try dsimp only [Act.put]
        refine wpAnyH_ready (rs := [2]) (by kernel_rfl) (by simp) ?_
        refine AllReadyH.cons rfl (fun K hK => ?_) ?_
        · go_simp
          refine (HBK.out _ E2.out).mono ?_
          rintro e w3 ⟨rfl, hb⟩
          have E3 := Lib.hid (E2.out.step hb)
          have Zb3 := Lib.hid (Zb2.out.below hb Zb2.out.lt)
          have Za3 := Lib.hid (Za2.out.below hb Za2.out.lt)
          clear hb
          obtain ⟨V, hV⟩ : ∃ V, V = Value.agg (gridCells (gridF (backRows rows))) := ⟨_, rfl⟩
          rw [← hV]
          have HV := Lib.hid hV
          clear hV
          go_wp2_with fail
          refine hK.out _ _ (⟨E3.out.c0, E3.out.c1⟩) (fun hHeld => ?_)
          clear hK K
          try dsimp only [Act.put]
          refine wpAnyH_ready (rs := [5]) (by kernel_rfl) (by simp) ?_
          refine AllReadyH.cons rfl (fun K hK => ?_) ?_
          · go_simp
            refine (HBK'.out _ E3.out).mono ?_
            rintro e w4 ⟨rfl, hb⟩
            have E4 := Lib.hid (E3.out.step hb)
            have Zb4 := Lib.hid (Zb3.out.below hb Zb3.out.lt)
            have Za4 := Lib.hid (Za3.out.below hb Za3.out.lt)
            clear hb
            obtain ⟨V', hV⟩ : ∃ V', V' = Value.agg (gridCells (gridF (backRows rows'))) := ⟨_, rfl⟩
            rw [← hV]
            have HV' := Lib.hid hV
            clear hV
            go_wp2_with fail
            refine hK.out _ _ (⟨E4.out.c0, E4.out.c1⟩) (fun hHeld => ?_)
            clear hK K
            try dsimp only [Act.put]
            refine wpAnyH_ready (rs := [8]) (by kernel_rfl) (by simp) ?_
            refine AllReadyH.cons rfl (fun K hK => ?_) ?_
            · refine step_store_row rfl 83 (.tmp 5) (.tmp 12) rfl Ga (gridCells (gridF (backRows rows))) rfl HV.out 83 (gridCells fun _ => 0) Za4.out.1 (by rw [gridCells_size]; exact sizeGrid) (by rw [gridCells_size, gridCells_size]) (gridCells_one _) ?_
              have EF := Lib.hid (E4.out.far (below_setRow' (Below.refl (w.heap.size + 1) w4) HGa.out (gridCells (gridF (backRows rows)))))
              have ZFa := Lib.hid (GridAt.setRow Za4.out HLT.out)
              have ZSb := Lib.hid (grid_apart Zb4.out (Ne.symm HD.out) (gridCells (gridF (backRows rows))))
              generalize (w4.setRow Ga (gridCells (gridF (backRows rows)))) = wF at EF ZFa ZSb ⊢
              refine hK.out _ _ (⟨EF.out.c0, EF.out.c1⟩) (fun hHeld => ?_)
              clear hK K
              try dsimp only [Act.put]
              refine wpAnyH_ready (rs := [9]) (by kernel_rfl) (by simp) ?_
              refine AllReadyH.cons rfl (fun K hK => ?_) ?_
              · refine step_store_row rfl 83 (.tmp 6) (.tmp 15) rfl Gb (gridCells (gridF (backRows rows'))) rfl HV'.out 83 (gridCells fun _ => 0) ZSb.out.1 (by rw [gridCells_size]; exact sizeGrid) (by rw [gridCells_size, gridCells_size]) (gridCells_one _) ?_
                have EG := Lib.hid (EF.out.far (below_setRow' (Below.refl (w.heap.size + 1) wF) HGb.out (gridCells (gridF (backRows rows')))))
                have ZGb := Lib.hid (GridAt.setRow ZSb.out HLT'.out)
                have ZGa := Lib.hid (grid_apart ZFa.out HD.out (gridCells (gridF (backRows rows'))))
                refine hK.out _ _ (⟨EG.out.c0, EG.out.c1⟩) (fun hHeld => ?_)
                clear hK K
                try dsimp only [Act.put]
                refine wpAnyH_done (by kernel_rfl) ?_ _
                go_wp2_with fail
                go_meet
                exact ⟨Ga, Gb, rfl, rfl, HGa.out, HGb.out, ZGa.out, ZGb.out, EG.out⟩
              exact AllReadyH.nil
            exact AllReadyH.nil
          exact AllReadyH.nil
        exact AllReadyH.nil
      exact AllReadyH.nil
    exact AllReadyH.nil
  obtain ⟨Ga, Gb, rfl, rfl, _, _, hga, hgb, hbx⟩ := hcut
  have HA := Lib.hid hga
  have HB := Lib.hid hgb
  have HX := Lib.hid hbx
  clear hga hgb hbx
  go_wp2
  go_loopw [7, 18] (fun _ kv wr => ∃ a : Nat, a ≤ f.length ∧ kv = .int .i64 a ∧ (∀ q, q < a → ∀ b, b < q → badSt rows rows' f q b = false) ∧ Below wc.heap.size wc wr) (fun _ kv _ => f.length - (intOf kv).toNat)
  case atStart => exact ⟨0, Nat.zero_le _, rfl, fun _ h => absurd h (Nat.not_lt_zero _), Below.refl _ _⟩
  case round =>
    obtain ⟨a, ha, rfl, hp, hB⟩ := hrel
    have HP := Lib.hid hp
    have HBA := Lib.hid hB
    clear hp hB
    by_cases hal : a < f.length
    · have halz : (a : Int) < (f.length : Int) := by omega
      go_wp2
      go_loopw [8, 9, 22] (fun _ _ kv wr => ∃ b : Nat, b ≤ a ∧ kv = .int .i64 b ∧ (∀ q, q < b → badSt rows rows' f a q = false) ∧ Below wc.heap.size wc wr) (fun _ _ kv _ => a - (intOf kv).toNat)
      case atStart => exact ⟨0, Nat.zero_le _, rfl, fun _ h => absurd h (Nat.not_lt_zero _), HBA.out⟩
      case round =>
        obtain ⟨b, hb, rfl, hp, hB⟩ := hrel
        have HQ := Lib.hid hp
        have HBB := Lib.hid hB
        clear hp hB
        by_cases hbl : b < a
        · have hblz : (b : Int) < (a : Int) := by omega
          have hblf : b < f.length := by omega
          have hbfz : (b : Int) < (f.length : Int) := by omega
          have HW := Lib.hid (HX.out.below.trans (HBB.out.mono HX.out.below.size))
          have HXR := Lib.hid (HX.out.step HBB.out)
          have hbox := HXR.out.c0
          have hin0 : (0 : Int) ≤ (a : Int) := by omega
          have hin1 : (a : Int) < 200 := by omega
          have hin2 : (0 : Int) ≤ (b : Int) := by omega
          have hin3 : (b : Int) < 200 := by omega
          have har : a < rows.length := by have := HMO.out.1; omega
          have hbr : b < rows.length := by have := HMO.out.1; omega
          obtain ⟨c0, c1, c2, c3⟩ := (HGA.out wr HW.out).row a (by omega)
          obtain ⟨d0, d1, d2, d3⟩ := (HGA.out wr HW.out).row b (by omega)
          have hq0 := fun d os => cell_regrown hbox d os
          have hk0 := fun d os => cell_regrown c0 d os
          have hk1 := fun d os => cell_regrown c1 d os
          have hk2 := fun d os => cell_regrown c2 d os
          have hk3 := fun d os => cell_regrown c3 d os
          have hl0 := fun d os => cell_regrown d0 d os
          have hl1 := fun d os => cell_regrown d1 d os
          have hl2 := fun d os => cell_regrown d2 d os
          have hl3 := fun d os => cell_regrown d3 d os
          have hxA := fun d os => Calls.regrown_of (w := wr) (d := d) (os := os) (and_any (gridF rows a) (gridF rows b) _)
          have hbd := HBD.out a b har hbr
          have hxE := fun d os => Calls.regrown_of (w := wr) (d := d) (os := os) (empty_any (gridF rows a &&& gridF rows b) _ (Nat.and_lt_two_pow _ (HROW.out b)))
          obtain ⟨t, ht⟩ : ∃ t, decide (gridF rows a &&& gridF rows b = 0) = t := ⟨_, rfl⟩
          rw [ht] at hbd
          simp only [ht] at hxE
          have HBT := Lib.hid hbd
          clear ht hbd c0 c1 c2 c3 d0 d1 d2 d3 hbox
          go_upto_region 8 with fail
          refine wp_region_quiet_below (by kernel_rfl) (by kernel_rfl) ?_
          repeat (go_big_quiet_step (first | (go_at_call 121; exact hxA _ _) | (go_at_call 122; exact hxE _ _)))
          refine wpQuiet_nil ?_
          intro _ hw'
          obtain ⟨⟨dq, osq⟩, hw''⟩ := hw'
          subst hw''
          clear hxA hxE hq0 hk0 hk1 hk2 hk3 hl0 hl1 hl2 hl3
          have HB8 := Lib.hid (HBB.out.trans ((below_regrown wr dq osq).mono HBB.out.size))
          generalize «Sort».grow (redrawn wr dq) osq = wq at HB8 ⊢
          have HW8 := Lib.hid (HX.out.below.trans (HB8.out.mono HX.out.below.size))
          cases t with
          | true =>
            rw [Bool.not_true]
            have HE8 := Lib.hid (show badSt rows rows' f a b = false by unfold badSt; rw [HBT.out]; rfl)
            go_upto_region 9 with fail
            refine wp_region_quiet_below (by kernel_rfl) (by kernel_rfl) ?_
            repeat (go_big_quiet_step (fail))
            refine wpQuiet_nil ?_
            intro _ hw'
            obtain ⟨⟨dq2, osq2⟩, hw''⟩ := hw'
            subst hw''
            clear HBT
            have HB9 := Lib.hid (HB8.out.trans ((below_regrown wq dq2 osq2).mono HB8.out.size))
            go_wp2
            go_roundw
            case rel =>
              refine ⟨b + 1, by omega, by go_num, fun q hq => ?_, HB9.out⟩
              by_cases e : q = b
              · subst e; exact HE8.out
              · exact HQ.out q (by omega)
            case measure => simp [intOf]; omega
          | false =>
            rw [Bool.not_false]
            obtain ⟨c, hcl, hcj⟩ := HMT.out a b har hbr
            have hclf : c < f.length := by have := HMO.out.1; omega
            have hclz : (c : Int) < (f.length : Int) := by omega
            have hcz0 : (0 : Int) ≤ (c : Int) := by omega
            have hfa := HMO.out.2.1 _ (List.getElem_mem hal)
            have hfb := HMO.out.2.1 _ (List.getElem_mem hblf)
            obtain ⟨ka, hka⟩ : ∃ ka : Nat, f[a] = (ka : Int) := ⟨f[a].toNat, by omega⟩
            obtain ⟨kb, hkb⟩ : ∃ kb : Nat, f[b] = (kb : Int) := ⟨f[b].toNat, by omega⟩
            have hxJ := fun d os => Calls.regrown_of (w := wq) (d := d) (os := os) (HJ.out Ga a b _ har hbr ((HA.out.below HB8.out HA.out.lt).below (below_regrown wq d os) (Nat.lt_of_lt_of_le HA.out.lt HB8.out.size)) (HTA.out _ (HW8.out.trans ((below_regrown wq d os).mono HW8.out.size))))
            have hxK := fun d os => Calls.regrown_of (w := wq) (d := d) (os := os) (HJ'.out Gb ka kb _ (by omega) (by omega) ((HB.out.below HB8.out HB.out.lt).below (below_regrown wq d os) (Nat.lt_of_lt_of_le HB.out.lt HB8.out.size)) (HTA.out _ (HW8.out.trans ((below_regrown wq d os).mono HW8.out.size))))
            simp only [hcj] at hxJ
            obtain ⟨bf, o_f, rfl, hca⟩ := (HFA.out wq HW8.out).get hal
            obtain ⟨_, _, e2, hcb⟩ := (HFA.out wq HW8.out).get hblf
            cases e2
            obtain ⟨_, _, e3, hcc⟩ := (HFA.out wq HW8.out).get hclf
            cases e3
            rw [hka] at hca
            rw [hkb] at hcb
            obtain ⟨j, hj⟩ : ∃ j, joinI (backRows rows') ka kb = j := ⟨_, rfl⟩
            simp only [hj] at hxK
            obtain ⟨s, hs⟩ : ∃ s : Bool, (f[c] != j) = s := ⟨_, rfl⟩
            have HE8 := Lib.hid (show badSt rows rows' f a b = s by
              unfold badSt
              rw [HBT.out, hcj, getD_lt 0 hal, getD_lt 0 hblf, hka, hkb, Int.toNat_natCast, Int.toNat_natCast, Int.toNat_natCast, getD_lt 0 hclf, hj, ← hs, show (j == f[c]) = (f[c] == j) from Bool.eq_iff_iff.2 ⟨fun h => by rw [beq_iff_eq] at h ⊢; exact h.symm, fun h => by rw [beq_iff_eq] at h ⊢; exact h.symm⟩]
              rfl)
            have hm0 := fun d os => cell_regrown hca d os
            have hm1 := fun d os => cell_regrown hcb d os
            have hm2 := fun d os => cell_regrown hcc d os
            clear hcj hfa hfb hka hkb hj hca hcb hcc
            cases s with
            | true =>
              have HNO := Lib.hid (stableI_bad hal hbl HE8.out)
              go_upto_region 9 with fail
              refine wp_region_quiet_below (by kernel_rfl) (by kernel_rfl) ?_
              repeat (go_big_quiet_step (first | (go_at_call_of 80 (Value.pointer (some ⟨Ga, 0, none⟩)); exact hxJ _ _) | (go_at_call_of 80 (Value.pointer (some ⟨Gb, 0, none⟩)); exact hxK _ _)))
              refine wpQuiet_nil ?_
              intro _ hw'
              obtain ⟨⟨dq2, osq2⟩, hw''⟩ := hw'
              subst hw''
              clear hxJ hxK hm0 hm1 hm2
              have HB9 := Lib.hid (HW8.out.trans ((below_regrown wq dq2 osq2).mono HW8.out.size))
              go_wp2
              go_ret
              exact ⟨by rw [HNO.out]; rfl, HB9.out⟩
            | false =>
              go_upto_region 9 with fail
              refine wp_region_quiet_below (by kernel_rfl) (by kernel_rfl) ?_
              repeat (go_big_quiet_step (first | (go_at_call_of 80 (Value.pointer (some ⟨Ga, 0, none⟩)); exact hxJ _ _) | (go_at_call_of 80 (Value.pointer (some ⟨Gb, 0, none⟩)); exact hxK _ _)))
              refine wpQuiet_nil ?_
              intro _ hw'
              obtain ⟨⟨dq2, osq2⟩, hw''⟩ := hw'
              subst hw''
              clear hxJ hxK hm0 hm1 hm2
              have HB9 := Lib.hid (HB8.out.trans ((below_regrown wq dq2 osq2).mono HB8.out.size))
              go_wp2
              go_roundw
              case rel =>
                refine ⟨b + 1, by omega, by go_num, fun q hq => ?_, HB9.out⟩
                by_cases e : q = b
                · subst e; exact HE8.out
                · exact HQ.out q (by omega)
              case measure => simp [intOf]; omega
        · obtain rfl : b = a := by omega
          have hblz : ¬ ((b : Int) < (b : Int)) := by omega
          go_wp2
          go_roundw
          case rel =>
            refine ⟨b + 1, by omega, by go_num, fun q hq c hc => ?_, HBB.out⟩
            by_cases e : q = b
            · subst e; exact HQ.out c hc
            · exact HP.out q (by omega) c hc
          case measure => simp [intOf]; omega
    · obtain rfl : a = f.length := by omega
      have halz : ¬ ((f.length : Int) < (f.length : Int)) := by omega
      have HYES := Lib.hid (stableI_yes HP.out)
      go_wp2
      go_ret
      exact ⟨by rw [HYES.out]; rfl, HX.out.below.trans (HBA.out.mono HX.out.below.size)⟩
end Go.Proofs.YtjfbjfclcpcaiaaDoor

/- The model's FunStable. -/
namespace Go.Proofs.YtjfbjfclcpcaiaaDoor
open Go.RowKit Go.Deep

/-- Four variables that hold orders: two of the caller's, two that the call has turned round. -/
structure Fo (w : World) (v v' u u' : Value) (rows rows' : Rows2) (z z' : Nat) (W : World) : Prop where
  two : Two w v v' rows rows' W
  c2 : W.cell? ⟨z, 0, none⟩ = some u
  c3 : W.cell? ⟨z', 0, none⟩ = some u'
  r2 : RowsAt W u (backRows rows)
  r3 : RowsAt W u' (backRows rows')
theorem Fo.step {w : World} {v v' u u' : Value} {rows rows' : Rows2} {z z' : Nat} {W W' : World} (h : Fo w v v' u u' rows rows' z z' W) (hb : Below W.heap.size W W') : Fo w v v' u u' rows rows' z z' W' :=
  ⟨h.two.step hb, (hb.cell (p := ⟨z, 0, none⟩) (cell_lt h.c2)).trans h.c2, (hb.cell (p := ⟨z', 0, none⟩) (cell_lt h.c3)).trans h.c3, h.r2.below hb, h.r3.below hb⟩

theorem backV {W : World} {v : Value} {rows : Rows2} {lo hi : Nat} (h : OwnR 3 42 W v rows.length (rowsF (backRows rows)) lo hi) : RowsAt W v (backRows rows) := by
  rw [← backRows_len rows] at h
  exact h.at

set_option maxRecDepth 100000 in
set_option maxHeartbeats 8000000 in
theorem specStable_any (v v' vf : Value) (rows rows' : Rows2) (f : List Int) (w : World) (hv : RowsAt w v rows) (hv' : RowsAt w v' rows') (hf : IntsAt w vf f) (hn : bulk rows ≤ 1048576) (hn' : bulk rows' ≤ 1048576) :
    Calls Tryd.prog 53 #[.agg #[v], .agg #[v'], vf] w (SaysN (stableB rows rows' f) w) := by
  have hT0 := TwoF.start w 25 25 hv hv' hf
  have hcM := specMono_any _ _ _ rows rows' f _ hT0.1.r0 hT0.1.r1 hT0.2 hn hn'
  have HFA := Lib.hid (fun W (h : Below w.heap.size w W) => hf.below h)
  obtain ⟨A, C, rfl, _⟩ := hv
  obtain ⟨A', C', rfl, _⟩ := hv'
  obtain ⟨Af, Cf, rfl, hCf, hmf, _⟩ := hf
  unfold maxLen at hmf
  have H0 := Lib.hid hT0
  have hc0 := hT0.1.c0
  have hc1 := hT0.1.c1
  clear hT0
  cases hm : monoB rows rows' f with
  | false =>
    rw [hm] at hcM
    have HE := Lib.hid (show stableB rows rows' f = false by unfold stableB; rw [hm]; rfl)
    clear hm
    go_enter Tryd.func53, Tryd.ntmps53
    go_wp2_with (go_at_call 38; refine hcM.mono ?_; clear hcM; rintro e w1 ⟨rfl, hb1⟩; have H1 := Lib.hid (H0.out.step hb1); clear hb1)
    go_ret
    exact ⟨by rw [HE.out]; rfl, H1.out.1.below⟩
  | true =>
    rw [hm] at hcM
    have HE := Lib.hid (show stableB rows rows' f = stableI rows rows' f by unfold stableB; rw [hm]; rfl)
    obtain ⟨hd, hd', hmo⟩ := monoB_parts hm
    have hok := (domB_iff.1 hd).1
    have hok' := (domB_iff.1 hd').1
    have HMO := Lib.hid hmo
    have HMT := Lib.hid (fun a b (ha : a < rows.length) (hb : b < rows.length) => meet_there hd ha hb)
    have HB0 := Lib.hid (fun W (h : RowsAt W (.slice A rows.length C) rows) => l1Back_any (.slice A rows.length C) rows W h hok)
    have HB1 := Lib.hid (fun W (h : RowsAt W (.slice A' rows'.length C') rows') => l1Back_any (.slice A' rows'.length C') rows' W h hok')
    have HBD := Lib.hid (fun a b W (ha : a < rows.length) (hb : b < rows.length) (h : RowsAt W (.slice A rows.length C) rows) => l1Bounded_any (.slice A rows.length C) rows (a : Int) (b : Int) a b W h hn (valid_lists (valid_of_ok hok)) rfl rfl ha hb)
    have HJ := Lib.hid (fun u a b W (ha : a < rows.length) (hb : b < rows.length) (h : RowsAt W u (backRows rows)) => l1Join_any u (backRows rows) (a : Int) (b : Int) a b W h hok.back.bulk (valid_lists (valid_of_ok hok.back)) rfl rfl (by rw [backRows_len]; exact ha) (by rw [backRows_len]; exact hb))
    have HJ' := Lib.hid (fun u a b W (ha : a < rows'.length) (hb : b < rows'.length) (h : RowsAt W u (backRows rows')) => l1Join_any u (backRows rows') (a : Int) (b : Int) a b W h hok'.back.bulk (valid_lists (valid_of_ok hok'.back)) rfl rfl (by rw [backRows_len]; exact ha) (by rw [backRows_len]; exact hb))
    have hn200 : f.length ≤ 200 := by rw [hmo.1]; exact hok.len.2
    clear hm hd hd' hmo hok hok'
    go_enter Tryd.func53, Tryd.ntmps53
    go_wp2_with (first | (go_at_call 38; refine hcM.mono ?_; clear hcM; rintro e w1 ⟨rfl, hb1⟩; have H1 := Lib.hid (H0.out.step hb1); have hd0 := H1.out.1.c0; clear hb1 hc0 hc1) | (go_at_call_of 97 (Value.slice A (List.length rows) C); refine (HB0.out _ H1.out.1.r0).mono ?_; rintro e w2 ⟨u, rfl, hu, hb2⟩; obtain ⟨a2, C2, rfl⟩ := hu.form; have HU := Lib.hid (backV hu); have hbx2 := (Below.refl w2.heap.size w2).alloc (Nat.le_refl _) (.cells #[.slice a2 rows.length C2] 25); have HU2 := Lib.hid (HU.out.below hbx2); have hcu := one_new w2 (.slice a2 rows.length C2) 25; have HCU := Lib.hid hcu; have H2 := Lib.hid ((H1.out.step hb2).step hbx2); have hd1 := H2.out.1.c1; clear hu hb2 hbx2 hd0) | (go_at_call 97; refine (HB1.out _ H2.out.1.r1).mono ?_; rintro e w3 ⟨u, rfl, hu, hb3⟩; obtain ⟨a3, C3, rfl⟩ := hu.form; have HV := Lib.hid (backV hu); have hbx3 := (Below.refl w3.heap.size w3).alloc (Nat.le_refl _) (.cells #[.slice a3 rows'.length C3] 25); have HF := Lib.hid (⟨(H2.out.step hb3).step hbx3 |>.1, ((hb3.trans (hbx3.mono hb3.size)).cell (p := ⟨w2.heap.size, 0, none⟩) (cell_lt HCU.out)).trans HCU.out, one_new w3 (.slice a3 rows'.length C3) 25, HU2.out.below (hb3.trans (hbx3.mono hb3.size)), HV.out.below hbx3⟩ : Fo w (.slice A rows.length C) (.slice A' rows'.length C') (.slice a2 rows.length C2) (.slice a3 rows'.length C3) rows rows' w2.heap.size w3.heap.size _); clear hu hb3 hbx3 hd1))
    generalize (w3.alloc (.cells #[.slice a3 rows'.length C3] 25)) = w4 at HF ⊢
    generalize w2.heap.size = z2 at HF ⊢
    generalize w3.heap.size = z3 at HF ⊢
    go_wp2
    go_loopw [9] (fun kv wr => ∃ a : Nat, a ≤ f.length ∧ kv = .int .i64 a ∧ (∀ q, q < a → ∀ b, b < q → badSt rows rows' f q b = false) ∧ Fo w (.slice A rows.length C) (.slice A' rows'.length C') (.slice a2 rows.length C2) (.slice a3 rows'.length C3) rows rows' z2 z3 wr) (fun kv _ => f.length - (intOf kv).toNat)
    case atStart => exact ⟨0, Nat.zero_le _, rfl, fun _ h => absurd h (Nat.not_lt_zero _), HF.out⟩
    case round =>
      obtain ⟨a, ha, rfl, hp, hh⟩ := hrel
      have HP := Lib.hid hp
      have HA := Lib.hid hh
      clear hp hh HF
      by_cases hal : a < f.length
      · have halz : (a : Int) < (f.length : Int) := by omega
        go_wp2
        go_loopw [10] (fun kv wr => ∃ b : Nat, b ≤ a ∧ kv = .int .i64 b ∧ (∀ q, q < b → badSt rows rows' f a q = false) ∧ Fo w (.slice A rows.length C) (.slice A' rows'.length C') (.slice a2 rows.length C2) (.slice a3 rows'.length C3) rows rows' z2 z3 wr) (fun kv _ => a - (intOf kv).toNat)
        case atStart => exact ⟨0, Nat.zero_le _, rfl, fun _ h => absurd h (Nat.not_lt_zero _), HA.out⟩
        case round =>
          obtain ⟨b, hb, rfl, hp, hh⟩ := hrel
          have HQ := Lib.hid hp
          have HX := Lib.hid hh
          clear hp hh HA
          by_cases hbl : b < a
          · have hblz : (b : Int) < (a : Int) := by omega
            have hblf : b < f.length := by omega
            have hbfz : (b : Int) < (f.length : Int) := by omega
            have har : a < rows.length := by have := HMO.out.1; omega
            have hbr : b < rows.length := by have := HMO.out.1; omega
            have hq0 := fun d os => cell_regrown HX.out.two.c0 d os
            have hxB := fun d os => Calls.regrown_of (w := wr) (d := d) (os := os) (HBD.out a b _ har hbr (HX.out.step (below_regrown wr d os)).two.r0)
            obtain ⟨t, ht⟩ : ∃ t, boundedI rows a b = t := ⟨_, rfl⟩
            simp only [ht] at hxB
            have HBT := Lib.hid ht
            clear ht
            cases t with
            | false =>
              have HE8 := Lib.hid (show badSt rows rows' f a b = false by unfold badSt; rw [HBT.out]; rfl)
              go_upto_region 11 with fail
              refine wp_region_quiet_below (by kernel_rfl) (by kernel_rfl) ?_
              repeat (go_big_quiet_step (first | (go_at_call 98; exact hxB _ _)))
              refine wpQuiet_nil ?_
              intro _ hw'
              obtain ⟨⟨dq, osq⟩, hw''⟩ := hw'
              subst hw''
              clear hxB hq0
              have HX9 := Lib.hid (HX.out.step (below_regrown wr dq osq))
              go_wp2
              go_roundw
              case rel =>
                refine ⟨b + 1, by omega, by go_num, fun q hq => ?_, HX9.out⟩
                by_cases e : q = b
                · subst e; exact HE8.out
                · exact HQ.out q (by omega)
              case measure => simp [intOf]; omega
            | true =>
              obtain ⟨c, hcl, hcj⟩ := HMT.out a b har hbr
              have hclf : c < f.length := by have := HMO.out.1; omega
              have hclz : (c : Int) < (f.length : Int) := by omega
              have hcz0 : (0 : Int) ≤ (c : Int) := by omega
              have hfa := HMO.out.2.1 _ (List.getElem_mem hal)
              have hfb := HMO.out.2.1 _ (List.getElem_mem hblf)
              obtain ⟨ka, hka⟩ : ∃ ka : Nat, f[a] = (ka : Int) := ⟨f[a].toNat, by omega⟩
              obtain ⟨kb, hkb⟩ : ∃ kb : Nat, f[b] = (kb : Int) := ⟨f[b].toNat, by omega⟩
              have hq2 := fun d os => cell_regrown HX.out.c2 d os
              have hq3 := fun d os => cell_regrown HX.out.c3 d os
              have hxJ := fun d os => Calls.regrown_of (w := wr) (d := d) (os := os) (HJ.out (.slice a2 rows.length C2) a b _ har hbr (HX.out.step (below_regrown wr d os)).r2)
              have hxK := fun d os => Calls.regrown_of (w := wr) (d := d) (os := os) (HJ'.out (.slice a3 rows'.length C3) ka kb _ (by omega) (by omega) (HX.out.step (below_regrown wr d os)).r3)
              simp only [hcj] at hxJ
              obtain ⟨bf, o_f, rfl, hca⟩ := (HFA.out wr HX.out.two.below).get hal
              obtain ⟨_, _, e2, hcb⟩ := (HFA.out wr HX.out.two.below).get hblf
              cases e2
              obtain ⟨_, _, e3, hcc⟩ := (HFA.out wr HX.out.two.below).get hclf
              cases e3
              rw [hka] at hca
              rw [hkb] at hcb
              obtain ⟨j, hj⟩ : ∃ j, joinI (backRows rows') ka kb = j := ⟨_, rfl⟩
              simp only [hj] at hxK
              obtain ⟨s, hs⟩ : ∃ s : Bool, (j != f[c]) = s := ⟨_, rfl⟩
              have HE8 := Lib.hid (show badSt rows rows' f a b = s by
                unfold badSt
                rw [HBT.out, hcj, getD_lt 0 hal, getD_lt 0 hblf, hka, hkb, Int.toNat_natCast, Int.toNat_natCast, Int.toNat_natCast, getD_lt 0 hclf, hj, ← hs]
                rfl)
              have hm0 := fun d os => cell_regrown hca d os
              have hm1 := fun d os => cell_regrown hcb d os
              have hm2 := fun d os => cell_regrown hcc d os
              clear hcj hfa hfb hka hkb hj hca hcb hcc
              cases s with
              | true =>
                have HNO := Lib.hid (stableI_bad hal hbl HE8.out)
                go_upto_region 11 with fail
                refine wp_region_quiet_below (by kernel_rfl) (by kernel_rfl) ?_
                repeat (go_big_quiet_step (first | (go_at_call 98; exact hxB _ _) | (go_at_call_of 99 (Value.slice a3 (List.length rows') C3); exact hxK _ _) | (go_at_call_of 99 (Value.slice a2 (List.length rows) C2); exact hxJ _ _)))
                refine wpQuiet_nil ?_
                intro _ hw'
                obtain ⟨⟨dq, osq⟩, hw''⟩ := hw'
                subst hw''
                clear hxB hxJ hxK hq0 hq2 hq3 hm0 hm1 hm2
                have HX9 := Lib.hid (HX.out.step (below_regrown wr dq osq))
                go_wp2
                go_ret
                exact ⟨by rw [HE.out, HNO.out]; rfl, HX9.out.two.below⟩
              | false =>
                go_upto_region 11 with fail
                refine wp_region_quiet_below (by kernel_rfl) (by kernel_rfl) ?_
                repeat (go_big_quiet_step (first | (go_at_call 98; exact hxB _ _) | (go_at_call_of 99 (Value.slice a3 (List.length rows') C3); exact hxK _ _) | (go_at_call_of 99 (Value.slice a2 (List.length rows) C2); exact hxJ _ _)))
                refine wpQuiet_nil ?_
                intro _ hw'
                obtain ⟨⟨dq, osq⟩, hw''⟩ := hw'
                subst hw''
                clear hxB hxJ hxK hq0 hq2 hq3 hm0 hm1 hm2
                have HX9 := Lib.hid (HX.out.step (below_regrown wr dq osq))
                go_wp2
                go_roundw
                case rel =>
                  refine ⟨b + 1, by omega, by go_num, fun q hq => ?_, HX9.out⟩
                  by_cases e : q = b
                  · subst e; exact HE8.out
                  · exact HQ.out q (by omega)
                case measure => simp [intOf]; omega
          · obtain rfl : b = a := by omega
            have hblz : ¬ ((b : Int) < (b : Int)) := by omega
            go_wp2
            go_roundw
            case rel =>
              refine ⟨b + 1, by omega, by go_num, fun q hq c hc => ?_, HX.out⟩
              by_cases e : q = b
              · subst e; exact HQ.out c hc
              · exact HP.out q (by omega) c hc
            case measure => simp [intOf]; omega
      · obtain rfl : a = f.length := by omega
        have halz : ¬ ((f.length : Int) < (f.length : Int)) := by omega
        have HYES := Lib.hid (stableI_yes HP.out)
        go_wp2
        go_ret
        exact ⟨by rw [HE.out, HYES.out]; rfl, HA.out.two.below⟩
end Go.Proofs.YtjfbjfclcpcaiaaDoor

/- The program's FunStable. -/
namespace Go.Proofs.YtjfbjfclcpcaiaaDoor
open Go.RowKit Go.Deep Go.Shelf

set_option maxRecDepth 100000 in
set_option maxHeartbeats 8000000 in
theorem implStable_any (v v' vf : Value) (rows rows' : Rows2) (f : List Int) (w : World) (hv : RowsAt w v rows) (hv' : RowsAt w v' rows') (hf : IntsAt w vf f) (hT : Tab w) (hn : bulk rows ≤ 1048576) (hn' : bulk rows' ≤ 1048576) :
    Calls Tryd.prog 52 #[.agg #[v], .agg #[v'], vf] w (SaysN (stableB rows rows' f) w) := by
  have h0 := TwoF.start w 25 25 hv hv' hf
  have hl := rows_one h0.2
  have b1 := (Below.refl ((w.alloc (.cells #[v] 25)).alloc (.cells #[v'] 25)).heap.size ((w.alloc (.cells #[v] 25)).alloc (.cells #[v'] 25))).alloc (Nat.le_refl _) (.cells #[vf] 42)
  have h1 := h0.step b1
  have hT1 := (hT.below h0.1.below).below b1
  have hcall := funTypeOf_any v v' _ rows rows' [f] _ h1.1.r0 h1.1.r1 hl hT1 hn hn'
  have hs : ((w.alloc (.cells #[v] 25)).alloc (.cells #[v'] 25)).heap.size = w.heap.size + 2 := by rw [World.size_alloc, World.size_alloc]
  rw [ftB_one, hs] at hcall
  have hc0 := h0.1.c0
  have hc1 := h0.1.c1
  obtain ⟨A, C, rfl, _⟩ := hv
  obtain ⟨A', C', rfl, _⟩ := hv'
  obtain ⟨Af, Cf, rfl, _⟩ := hf
  have H1 := Lib.hid h1
  have T1 := Lib.hid hT1
  clear h0 hl b1 h1 hT1 hs hT
  cases hm : monoB rows rows' f with
  | false =>
    rw [hm] at hcall
    have HE := Lib.hid (show stableB rows rows' f = false by unfold stableB; rw [hm]; rfl)
    clear hm
    go_enter Tryd.func52, Tryd.ntmps52
    go_wp2_with (go_at_call 90; refine hcall.mono ?_; clear hcall; rintro e w1 ⟨⟨q, q', rfl, _⟩, hb1⟩; have H2 := Lib.hid ((H1.out.step hb1).step ((Below.refl _ w1).alloc (Nat.le_refl _) (.cells #[.pointer q, .pointer q'] 106))); clear hb1)
    go_ret
    exact ⟨by rw [HE.out]; rfl, H2.out.1.below⟩
  | true =>
    rw [hm] at hcall
    have HE := Lib.hid (show stableB rows rows' f = stableI rows rows' f by unfold stableB; rw [hm]; rfl)
    obtain ⟨hd, hd', hmo⟩ := monoB_parts hm
    have HS := Lib.hid (fun p p' W h1 h2 h3 h4 => keepsMeets_any (.slice Af f.length Cf) f p p' rows rows' W h1 h2 h3 h4 hd hd' hmo)
    have hcall2 := hcall.mono (fun e w' h => h.yes)
    clear hm hd hd' hmo hcall
    go_enter Tryd.func52, Tryd.ntmps52
    go_wp2_with (first | (go_at_call 90; refine hcall2.mono ?_; clear hcall2; rintro e w1 ⟨⟨p, p', rfl, _, _, hg, hg'⟩, hb1⟩; have B2 := Lib.hid ((Below.refl w1.heap.size w1).alloc (Nat.le_refl _) (.cells #[.pointer (some ⟨p, 0, none⟩), .pointer (some ⟨p', 0, none⟩)] 106)); have H2 := Lib.hid ((H1.out.step hb1).step B2.out); have T2 := Lib.hid ((T1.out.below hb1).below B2.out); have GR := Lib.hid (hg.below B2.out hg.lt); have GR2 := Lib.hid (hg'.below B2.out hg'.lt); have hbx := Bx.start w1 (.pointer (some ⟨p, 0, none⟩)) (.pointer (some ⟨p', 0, none⟩)) 106; have hl0 := hbx.c0; have hl1 := hbx.c1; clear hb1 hg hg' hbx) | (go_at_call 96; refine (HS.out p p' _ H2.out.2 GR.out GR2.out T2.out).mono ?_; rintro e w3 ⟨rfl, hb3⟩; have H3 := Lib.hid (H2.out.step hb3); clear hb3))
    go_ret
    exact ⟨by rw [HE.out]; first | rfl | simp, H3.out.1.below⟩
end Go.Proofs.YtjfbjfclcpcaiaaDoor

/- The walk of isMonotone: from a grid to a product of two grids. -/
namespace Go.Proofs.YtjfbjfclcpcaiaaDoor
open Go.RowKit Go.Deep Go.Shelf

set_option maxRecDepth 100000 in
set_option maxHeartbeats 8000000 in
theorem prodMono_any (b p p' m m' : Nat) (g h h' : Nat → Nat) (n n' : Nat) (vf : Value) (f : List Int) (w : World) (hg : GridAt w b g) (hn : GridN g n) (kg : GridAt w p h) (kg' : GridAt w p' h') (kn : GridN h m) (kn' : GridN h' m') (hNN : n' = m * m') (hf : IntsAt w vf f) (t : Bool) (ht : t = true ↔ MonoQ (bitB g) (prodB h h' m') n n' f) :
    Calls Tryd.prog 103 #[.iface 69 (.pointer (some ⟨b, 0, none⟩)), .iface 91 (.agg #[gridV p, gridV p']), vf] w (SaysN t w) := by
  have hmS := run_size
  have hmB := run_below
  have hmN := fun b w => run_nilAhead 266 b w
  have hmS2 := run_prod_size
  have hmB2 := run_prod_below
  have hmN2 := fun v v' w => run_prod_nilAhead 266 v v' w
  have hM : MK w (fun W => GridAt W b g ∧ (GridAt W p h ∧ GridAt W p' h')) vf f w := ⟨⟨hg, kg, kg'⟩, hf, Below.refl _ _⟩
  have hK : Stays w (fun W => GridAt W b g ∧ (GridAt W p h ∧ GridAt W p' h')) := (Stays.grid hg.lt).and (Stays.grids kg.lt kg'.lt)
  have hnle : n ≤ 200 := hn.le
  have hnle' : n' ≤ 40000 := by rw [hNN]; exact Nat.le_trans (Nat.mul_le_mul kn.le kn'.le) (by decide)
  have hsz := fun W (hk : (fun W => GridAt W b g ∧ (GridAt W p h ∧ GridAt W p' h')) W) => size_any b n g W hk.1 hn.le hn.some hn.none
  have hsz' := fun W (hk : (fun W => GridAt W b g ∧ (GridAt W p h ∧ GridAt W p' h')) W) => (show Calls Tryd.prog 102 #[.agg #[gridV p, gridV p']] W (SaysI ((n' : Nat) : Int) W) by rw [hNN]; exact prodSize_any p p' m m' h h' W hk.2.1 hk.2.2 kn kn')
  have hbF := fun W (hk : (fun W => GridAt W b g ∧ (GridAt W p h ∧ GridAt W p' h')) W) (x y : Nat) (hx : x < n) (hy : y < n) => (show Calls Tryd.prog 132 #[.pointer (some ⟨b, 0, none⟩), .int .i64 (x : Int), .int .i64 (y : Int)] W (SaysN (bitB g x y) W) from gbelow_any b g x y x y W hk.1 rfl (by omega) rfl (by omega))
  have hbT := fun W (hk : (fun W => GridAt W b g ∧ (GridAt W p h ∧ GridAt W p' h')) W) (x y : Nat) (hx : x < n') (hy : y < n') => prodBelow_any p p' m m' h h' x y W hk.2.1 hk.2.2 kn kn' (by rw [← hNN]; exact hx) (by rw [← hNN]; exact hy)
  obtain ⟨Af, Cf, rfl, hCf, hmf, _, _⟩ := hf
  unfold maxLen at hmf
  have HM := Lib.hid hM
  have HSZ := Lib.hid hsz
  have HSZ' := Lib.hid hsz'
  have HT := Lib.hid ht
  have HBF := Lib.hid hbF
  have HBT := Lib.hid hbT
  have HKK := Lib.hid hK
  clear hg hn kg kg' kn kn' hM hsz hsz' hbF hbT ht hK hNN
  by_cases hfl : f.length = n
  · have hb : ((f.length : Int) == (n : Int)) = true := by rw [beq_iff_eq]; omega
    have hb2 : (f.length == n) = true := by rw [beq_iff_eq]; omega
    have hb3 : ((f.length : Int) != (n : Int)) = false := by unfold bne; rw [hb]; rfl
    have hb4 : (f.length != n) = false := by unfold bne; rw [hb2]; rfl
    have hfn : f.length ≤ 200 := by omega
    have HFL := Lib.hid hfl
    clear hfl
    by_cases hout : ∃ x ∈ f, outN n' x = true
    · obtain rfl : t = false := by
        cases t with
        | false => rfl
        | true =>
          obtain ⟨x, hx, ho⟩ := hout
          have := (HT.out.1 rfl).2.1 x hx
          rw [this] at ho
          cases ho
      have HAB := Lib.hid (fun W h => allBelow_any (.slice Af f.length Cf) f n' W false ⟨fun h => (by cases h), fun h => by obtain ⟨x, hx, ho⟩ := hout; rw [h x hx] at ho; cases ho⟩ h)
      clear hout
      go_enter Tryd.func103, Tryd.ntmps103
      go_wp2_with (first | (go_at_call 105; refine (HSZ.out _ HM.out.kept).mono ?_; clear HSZ; rintro e w1 ⟨rfl, hb1⟩; have M1 := Lib.hid (HM.out.step HKK.out hb1); clear hb1) | (go_at_call 102; refine (HSZ'.out _ M1.out.kept).mono ?_; clear HSZ'; rintro e w2 ⟨rfl, hb2⟩; have M2 := Lib.hid (M1.out.step HKK.out hb2); clear hb2) | (go_at_call 131; refine (HAB.out _ M2.out.f).mono ?_; rintro e w3 ⟨rfl, hb9⟩; have M3 := Lib.hid (M2.out.step HKK.out hb9); clear hb9))
      go_ret
      exact ⟨rfl, M3.out.below⟩
    · have HAB := Lib.hid (fun W h => allBelow_any (.slice Af f.length Cf) f n' W true ⟨fun _ x hx => by cases hq : outN n' x with | false => rfl | true => exact absurd ⟨x, hx, hq⟩ hout, fun _ => rfl⟩ h)
      have HO := Lib.hid hout
      clear hout
      go_enter Tryd.func103, Tryd.ntmps103
      go_wp2_with (first | (go_at_call 105; refine (HSZ.out _ HM.out.kept).mono ?_; clear HSZ; rintro e w1 ⟨rfl, hb1⟩; have M1 := Lib.hid (HM.out.step HKK.out hb1); clear hb1) | (go_at_call 102; refine (HSZ'.out _ M1.out.kept).mono ?_; clear HSZ'; rintro e w2 ⟨rfl, hb2⟩; have M2 := Lib.hid (M1.out.step HKK.out hb2); clear hb2) | (go_at_call 131; refine (HAB.out _ M2.out.f).mono ?_; rintro e w3 ⟨rfl, hb9⟩; have M3 := Lib.hid (M2.out.step HKK.out hb9); clear hb9))
      have HRNG := Lib.hid (show ∀ q (hq : q < f.length), 0 ≤ f[q] ∧ f[q] < n' from fun q hq => by
        have h : ¬ (outN n' f[q] = true) := fun h => HO.out ⟨_, List.getElem_mem hq, h⟩
        unfold outN at h
        rw [Bool.or_eq_true, decide_eq_true_iff, decide_eq_true_iff] at h
        omega)
      clear HO
      go_loopw [7, 23] (fun _ av wr => ∃ a : Nat, a ≤ f.length ∧ av = .int .i64 a ∧ (∀ q, q < a → ∀ c, c < f.length → (bitB g) q c = true → (prodB h h' m') (f.getD q 0).toNat (f.getD c 0).toNat = true) ∧ MK w (fun W => GridAt W b g ∧ (GridAt W p h ∧ GridAt W p' h')) (.slice Af f.length Cf) f wr) (fun _ av _ => f.length - (intOf av).toNat)
      case atStart => exact ⟨0, Nat.zero_le _, rfl, fun _ h => absurd h (Nat.not_lt_zero _), M3.out⟩
      case round =>
        obtain ⟨a, ha, rfl, hp, hm⟩ := hrel
        have HP := Lib.hid hp
        have MA := Lib.hid hm
        clear hp hm
        by_cases hal : a < f.length
        · go_wp2
          go_loopw [8, 28] (fun _ cv wr => ∃ c : Nat, c ≤ f.length ∧ cv = .int .i64 c ∧ (∀ q, q < c → (bitB g) a q = true → (prodB h h' m') (f.getD a 0).toNat (f.getD q 0).toNat = true) ∧ MK w (fun W => GridAt W b g ∧ (GridAt W p h ∧ GridAt W p' h')) (.slice Af f.length Cf) f wr) (fun _ cv _ => f.length - (intOf cv).toNat)
          case atStart => exact ⟨0, Nat.zero_le _, rfl, fun _ h => absurd h (Nat.not_lt_zero _), MA.out⟩
          case round =>
            obtain ⟨c, hc, rfl, hp, hm⟩ := hrel
            have HQ := Lib.hid hp
            have MC := Lib.hid hm
            clear hp hm
            by_cases hcl : c < f.length
            · have hfa := HRNG.out a hal
              have hfc := HRNG.out c hcl
              obtain ⟨ka, hka⟩ : ∃ ka : Nat, f[a] = (ka : Int) := ⟨f[a].toNat, by omega⟩
              obtain ⟨kc, hkc⟩ : ∃ kc : Nat, f[c] = (kc : Int) := ⟨f[c].toNat, by omega⟩
              have hDa : (f.getD a 0).toNat = ka := by rw [getD_lt 0 hal, hka]; rfl
              have hDc : (f.getD c 0).toNat = kc := by rw [getD_lt 0 hcl, hkc]; rfl
              have hka2 : ka < n' := by omega
              have hkc2 : kc < n' := by omega
              have hcA : ∀ W, IntsAt W (.slice Af f.length Cf) f → ∃ b o, Af = some ⟨b, o, none⟩ ∧ W.cell? ⟨b, o + a, none⟩ = some (.int .i64 (ka : Int)) ∧ W.cell? ⟨b, o + c, none⟩ = some (.int .i64 (kc : Int)) := fun W h => by
                obtain ⟨b1, o1, e1, h1⟩ := h.get hal
                obtain ⟨b2, o2, e2, h2⟩ := h.get hcl
                rw [e1] at e2
                cases e2
                rw [hka] at h1
                rw [hkc] at h2
                exact ⟨b1, o1, e1, h1, h2⟩
              have HCA := Lib.hid hcA
              obtain ⟨b1, o1, rfl, h1, h2⟩ := hcA _ MC.out.f
              clear hcA hfa hfc hka hkc
              have hcall := fun d os => HBF.out _ (MC.out.step HKK.out (below_regrown wr d os)).kept a c (by have := HFL.out; omega) (by have := HFL.out; omega)
              have hcall' := fun d os => HBT.out _ (MC.out.step HKK.out (below_regrown wr d os)).kept ka kc hka2 hkc2
              have hl1 := fun d os => cell_regrown h1 d os
              have hl2 := fun d os => cell_regrown h2 d os
              cases hbit : (bitB g) a c with
              | false =>
                simp only [hbit] at hcall
                have HB := Lib.hid hbit
                clear hbit
                go_wp2
                refine wp_region_quiet_below (by kernel_rfl) (by kernel_rfl) ?_
                repeat (go_big_quiet_step (first | (go_at_call 132; exact Calls.regrown_of (hcall _ _)) | (go_at_call 160; exact Calls.regrown_of (hcall' _ _))))
                refine wpQuiet_nil ?_
                intro _ hw'
                obtain ⟨⟨dq, osq⟩, hw''⟩ := hw'
                subst hw''
                clear hcall hcall' hl1 hl2
                go_wp2
                go_roundw
                case rel =>
                  refine ⟨c + 1, by omega, by go_num, fun q hq hb => ?_, (MC.out.step HKK.out (below_regrown wr dq osq))⟩
                  by_cases e : q = c
                  · subst e; rw [HB.out] at hb; cases hb
                  · exact HQ.out q (by omega) hb
                case measure => simp [intOf]; omega
              | true =>
                simp only [hbit] at hcall
                cases hbit' : (prodB h h' m') ka kc with
                | true =>
                  simp only [hbit'] at hcall'
                  have HB := Lib.hid (show (prodB h h' m') (f.getD a 0).toNat (f.getD c 0).toNat = true by rw [hDa, hDc]; exact hbit')
                  clear hbit hbit' hDa hDc
                  go_wp2
                  refine wp_region_quiet_below (by kernel_rfl) (by kernel_rfl) ?_
                  repeat (go_big_quiet_step (first | (go_at_call 132; exact Calls.regrown_of (hcall _ _)) | (go_at_call 160; exact Calls.regrown_of (hcall' _ _))))
                  refine wpQuiet_nil ?_
                  intro _ hw'
                  obtain ⟨⟨dq, osq⟩, hw''⟩ := hw'
                  subst hw''
                  clear hcall hcall' hl1 hl2
                  go_wp2
                  go_roundw
                  case rel =>
                    refine ⟨c + 1, by omega, by go_num, fun q hq hb => ?_, (MC.out.step HKK.out (below_regrown wr dq osq))⟩
                    by_cases e : q = c
                    · subst e; exact HB.out
                    · exact HQ.out q (by omega) hb
                  case measure => simp [intOf]; omega
                | false =>
                  simp only [hbit'] at hcall'
                  obtain rfl : t = false := by
                    cases t with
                    | false => rfl
                    | true =>
                      have := (HT.out.1 rfl).2.2 a c (by have := HFL.out; omega) (by have := HFL.out; omega) hbit
                      rw [hDa, hDc, hbit'] at this
                      cases this
                  clear hbit hbit' hDa hDc
                  go_wp2
                  refine wp_region_quiet_below (by kernel_rfl) (by kernel_rfl) ?_
                  repeat (go_big_quiet_step (first | (go_at_call 132; exact Calls.regrown_of (hcall _ _)) | (go_at_call 160; exact Calls.regrown_of (hcall' _ _))))
                  refine wpQuiet_nil ?_
                  intro _ hw'
                  obtain ⟨⟨dq, osq⟩, hw''⟩ := hw'
                  subst hw''
                  clear hcall hcall' hl1 hl2
                  go_wp2
                  go_ret
                  exact ⟨rfl, (MC.out.step HKK.out (below_regrown wr dq osq)).below⟩
            · obtain rfl : c = f.length := by omega
              go_wp2
              go_roundw
              case rel =>
                refine ⟨a + 1, by omega, by go_num, fun q hq c hc hb => ?_, MC.out⟩
                by_cases e : q = a
                · subst e; exact HQ.out c hc hb
                · exact HP.out q (by omega) c hc hb
              case measure => simp [intOf]; omega
        · obtain rfl : a = f.length := by omega
          obtain rfl : t = true := HT.out.2 ⟨HFL.out, fun x hx => by
            obtain ⟨i, hi, rfl⟩ := List.getElem_of_mem hx
            have := HRNG.out i hi
            unfold outN
            rw [Bool.or_eq_false_iff, decide_eq_false_iff_not, decide_eq_false_iff_not]
            omega, fun p q hp hq hb => HP.out p (by rw [HFL.out]; exact hp) q (by rw [HFL.out]; exact hq) hb⟩
          go_wp2
          go_ret
          exact ⟨rfl, MA.out.below⟩
  · have hb : ((f.length : Int) == (n : Int)) = false := by rw [beq_eq_false_iff_ne]; omega
    have hb2 : (f.length == n) = false := by rw [beq_eq_false_iff_ne]; omega
    have hb3 : ((f.length : Int) != (n : Int)) = true := by unfold bne; rw [hb]; rfl
    have hb4 : (f.length != n) = true := by unfold bne; rw [hb2]; rfl
    obtain rfl : t = false := by
      cases t with
      | false => rfl
      | true => exact absurd (HT.out.1 rfl).1 hfl
    clear hfl
    go_enter Tryd.func103, Tryd.ntmps103
    go_wp2_with (go_at_call 105; refine (HSZ.out _ HM.out.kept).mono ?_; clear HSZ; rintro e w1 ⟨rfl, hb1⟩; have M1 := Lib.hid (HM.out.step HKK.out hb1); clear hb1)
    go_ret
    exact ⟨rfl, M1.out.below⟩
end Go.Proofs.YtjfbjfclcpcaiaaDoor

/- The program's steps (funType.step). -/
namespace Go.Proofs.YtjfbjfclcpcaiaaDoor
open Go.RowKit Go.Deep Go.Shelf

theorem two_fresh (W : World) (a b : Value) (t : TypeId) : (W.alloc (.cells #[a, b] t)).cell? ⟨W.heap.size, 0, none⟩ = some a ∧ (W.alloc (.cells #[a, b] t)).cell? ⟨W.heap.size, 1, none⟩ = some b :=
  ⟨by rw [cell_of_row _ W.heap.size 0 _ _ _ (heap_alloc_new _ _)]; rfl, by rw [cell_of_row _ W.heap.size 1 _ _ _ (heap_alloc_new _ _)]; rfl⟩
theorem rowIs_set_int {W : World} {g n : Nat} {f : Nat → Value} (h : W.rowIs g 3 n f) (i : Nat) (v : Value) : (W.setCell ⟨g, i, none⟩ v).rowIs g 3 n (fun k => if k = i then v else f k) := h.set i v

set_option maxRecDepth 100000 in
set_option maxHeartbeats 4000000 in
theorem step_any (p p' : Nat) (rows rows' : Rows2) (a b : Int) (an m' : Nat) (w : World) (hg : GridAt w p (gridF rows)) (hg' : GridAt w p' (gridF rows')) (hT : Tab w) (hok : Ok rows) (hok' : Ok rows')
    (ha : a = an) (hal : an < rows.length) (hb0 : 0 ≤ b) (hb1 : b ≤ 1048576) (hme : leastI rows' = m') (hml : m' < rows'.length) :
    Calls Tryd.prog 106 #[.agg #[.pointer (some ⟨p, 0, none⟩), .pointer (some ⟨p', 0, none⟩)], .int .i64 a, .int .i64 b] w (OwnQ (stepN rows rows' an b rows.length) w) := by
  subst ha
  have b0 := (Below.refl w.heap.size w).alloc (Nat.le_refl _) (.cells #[.pointer (some ⟨p, 0, none⟩), .pointer (some ⟨p', 0, none⟩)] 106)
  obtain ⟨hq0, hq1⟩ := two_fresh w (.pointer (some ⟨p, 0, none⟩)) (.pointer (some ⟨p', 0, none⟩)) 106
  have HL := Lib.hid (fun b W hg hT => leastG hok' b W hg hT)
  simp only [hme] at HL
  have hl200 := hok.len.2
  have hl200' := hok'.len.2
  have HSZ := Lib.hid (fun W h => size_any p rows.length (gridF rows) W h hok.gridN.le hok.gridN.some hok.gridN.none)
  have HBIT := Lib.hid (fun k (h : an < rows.length) => upB_grid hok (b := k) h)
  have G0 := Lib.hid (hg.below b0 hg.lt)
  have G0' := Lib.hid (hg'.below b0 hg'.lt)
  have T0 := Lib.hid (hT.below b0)
  have B0 := Lib.hid b0
  have HME := Lib.hid hme
  have hpl : p < w.heap.size := hg.lt
  obtain ⟨i0, hi0, hz0, hz1, hz2⟩ := info_parts infoInt
  have hmk := run_make_row' (P := Tryd.prog) 112 3 (.int .i64 0) 8 Tryd.underlying112 infoInt rfl .i64 .i64 rows.length (by omega) (by omega)
  clear hg hg' hT b0 hok hok' hme
  go_enter Tryd.func106, Tryd.ntmps106
  go_wp2_with (first | (go_at_call 78; refine (HL.out p' _ G0'.out T0.out).mono ?_; rintro e w1 ⟨rfl, hb1⟩; have B1 := Lib.hid (B0.out.trans (hb1.mono B0.out.size)); have G1 := Lib.hid (G0.out.below hb1 G0.out.lt); have hq1' := (hb1.cell (p := ⟨w.heap.size, 0, none⟩) (cell_lt hq0)).trans hq0; clear hb1) | (go_at_call 105; refine (HSZ.out _ G1.out).mono ?_; rintro e w2 ⟨rfl, hb2⟩; have B2 := Lib.hid (B1.out.trans (hb2.mono B1.out.size)); have G2 := Lib.hid (G1.out.below hb2 G1.out.lt); have hq2 := (hb2.cell (p := ⟨w.heap.size, 0, none⟩) (cell_lt hq1')).trans hq1'; clear hb2))
  have HRW := Lib.hid (World.rowIs_made w2 (.int .i64 0) rows.length 3)
  have bA := (Below.refl w2.heap.size w2).alloc (Nat.le_refl _) (.cells (madeCells #[.int .i64 0] rows.length) 3)
  have hLw : w.heap.size < w2.heap.size := cell_lt hq2
  have HG3 := Lib.hid (G2.out.below bA G2.out.lt)
  have HB3 := Lib.hid (B2.out.trans (bA.mono B2.out.size))
  have HQ3 := Lib.hid ((bA.cell (p := ⟨w.heap.size, 0, none⟩) hLw).trans hq2)
  clear bA hq0 hq1 hq1' hq2 hmk
  go_loopw [9, 19] (fun _ kv wr => ∃ k : Nat, k ≤ rows.length ∧ kv = .int .i64 k ∧ wr.rowIs w2.heap.size 3 rows.length (fun i => if i < k then .int .i64 (stepAt rows rows' an b i) else .int .i64 0) ∧ GridAt wr p (gridF rows) ∧ wr.cell? ⟨w.heap.size, 0, none⟩ = some (.pointer (some ⟨p, 0, none⟩)) ∧ Below w.heap.size w wr) (fun _ kv _ => rows.length - (intOf kv).toNat)
  case atStart => exact ⟨0, Nat.zero_le _, rfl, HRW.out.congr (fun i _ => by rw [if_neg (Nat.not_lt_zero i)]), HG3.out, HQ3.out, HB3.out⟩
  case round =>
    obtain ⟨k, hk, rfl, hr, hG, hq, hB⟩ := hrel
    have HR := Lib.hid hr
    have HG := Lib.hid hG
    have HQ := Lib.hid hq
    have HB := Lib.hid hB
    clear hG hB HRW HG3 HQ3 HB3
    by_cases hlt : k < rows.length
    · have hc := hr.cell hlt
      have hf := hr.frozen k
      have hLz := hr.lt
      have hkz : (k : Int) < (rows.length : Int) := by omega
      have hne : w.heap.size ≠ w2.heap.size := by omega
      have HS1 := Lib.hid (hr.set k (.int .i64 (m' : Int)))
      have HG1 := Lib.hid (HG.out.setOther (a := ⟨w2.heap.size, k, none⟩) (by show p ≠ w2.heap.size; omega) (.int .i64 (m' : Int)))
      have hcall := gbelow_any p (gridF rows) an k an k _ HG1.out rfl (by omega) rfl (by omega)
      have HB1 := Lib.hid (HB.out.setCell (p := ⟨w2.heap.size, k, none⟩) (by show w.heap.size ≤ w2.heap.size; omega) (.int .i64 (m' : Int)))
      have HQ1 : Hid ((wr.setCell ⟨w2.heap.size, k, none⟩ (.int .i64 (m' : Int))).cell? ⟨w.heap.size, 0, none⟩ = some (.pointer (some ⟨p, 0, none⟩))) := Lib.hid ((World.cell?_of_block (Below.heap_setCell _ ⟨w2.heap.size, k, none⟩ _ w.heap.size hne)).trans HQ.out)
      rw [HBIT.out k hal] at hcall
      have hif : (if k < k then Value.int IntKind.i64 (stepAt rows rows' an b k) else Value.int IntKind.i64 0) = .int .i64 0 := if_neg (Nat.lt_irrefl k)
      rw [hif] at hc
      clear hr hif
      cases hup : upB rows an (k : Int) with
      | true =>
        rw [hup] at hcall
        have HA := Lib.hid (show stepAt rows rows' an b k = b by unfold stepAt; rw [if_pos hup])
        clear hup
        go_wp2_with (go_at_call 132; refine hcall.mono ?_; clear hcall; rintro e w5 ⟨rfl, hb5⟩; have HS5 := Lib.hid (rowIs_below HS1.out hb5 HS1.out.lt); have HG5 := Lib.hid (HG1.out.below hb5 HG1.out.lt); have HB5 := Lib.hid (HB1.out.trans (hb5.mono HB1.out.size)); have HQ5 := Lib.hid ((hb5.cell (p := ⟨w.heap.size, 0, none⟩) (cell_lt HQ1.out)).trans HQ1.out); have hc5 := HS5.out.cell hlt; have hf5 := HS5.out.frozen k; clear hb5)
        go_roundw
        case rel =>
          refine ⟨k + 1, by omega, by go_num, (HS5.out.set k (.int .i64 b)).congr (fun i hi => ?_), HG5.out.setOther (a := ⟨w2.heap.size, k, none⟩) (by show p ≠ w2.heap.size; omega) _, (World.cell?_of_block (Below.heap_setCell _ ⟨w2.heap.size, k, none⟩ _ w.heap.size hne)).trans HQ5.out, HB5.out.setCell (p := ⟨w2.heap.size, k, none⟩) (by show w.heap.size ≤ w2.heap.size; omega) _⟩
          by_cases e : i = k
          · subst e; simp [HA.out]
          · by_cases e2 : i < k
            · simp [e, e2, show i < k + 1 by omega]
            · simp [e, e2, show ¬ i < k + 1 by omega]
        case measure => simp [intOf]; omega
      | false =>
        rw [hup] at hcall
        have HA := Lib.hid (show stepAt rows rows' an b k = (m' : Int) by unfold stepAt; rw [if_neg (by rw [hup]; simp), HME.out])
        clear hup
        go_wp2_with (go_at_call 132; refine hcall.mono ?_; clear hcall; rintro e w5 ⟨rfl, hb5⟩; have HS5 := Lib.hid (rowIs_below HS1.out hb5 HS1.out.lt); have HG5 := Lib.hid (HG1.out.below hb5 HG1.out.lt); have HB5 := Lib.hid (HB1.out.trans (hb5.mono HB1.out.size)); have HQ5 := Lib.hid ((hb5.cell (p := ⟨w.heap.size, 0, none⟩) (cell_lt HQ1.out)).trans HQ1.out); clear hb5)
        go_roundw
        case rel =>
          refine ⟨k + 1, by omega, by go_num, HS5.out.congr (fun i hi => ?_), HG5.out, HQ5.out, HB5.out⟩
          by_cases e : i = k
          · subst e; simp [HA.out]
          · by_cases e2 : i < k
            · simp [e, e2, show i < k + 1 by omega]
            · simp [e, e2, show ¬ i < k + 1 by omega]
        case measure => simp [intOf]; omega
    · obtain rfl : k = rows.length := by omega
      clear hr hq
      go_wp2
      go_ret
      have hl := stepN_length rows rows' an b rows.length
      refine ⟨_, rfl, ⟨?_, .inr ⟨w2.heap.size, rows.length, _, by rw [hl]; rfl, by rw [hl]; exact Nat.le_refl _, by unfold maxLen; omega, by omega, HR.out.lt, HR.out, fun i hi => ?_⟩⟩, HB.out⟩
      · intro y hy
        unfold stepN at hy
        obtain ⟨i, _, rfl⟩ := List.mem_map.1 hy
        unfold stepAt
        split
        · exact wf_int hb0 hb1
        · rw [HME.out]
          exact wf_int (by omega) (by omega)
      · rw [hl] at hi
        simp [stepN, hi]
end Go.Proofs.YtjfbjfclcpcaiaaDoor

/- The program's FunStep. -/
namespace Go.Proofs.YtjfbjfclcpcaiaaDoor
open Go.RowKit Go.Deep Go.Shelf

theorem ftB_nil (rows rows' : Rows2) : ftB rows rows' [] = (domB rows && domB rows') := by unfold ftB; simp
theorem rows_nil (w : World) : RowsAt w (.slice none 0 0) [] := ⟨none, 0, rfl, Nat.le_refl _, Nat.zero_le _, fun _ hi => absurd hi (Nat.not_lt_zero _)⟩
/-- No list. -/
theorem stepB_nil {rows rows' : Rows2} {a b : Int} {w W : World} (h : stepOk rows rows' a b = false) (hb : Below w.heap.size w W) : OwnB (stepL rows rows' a b) (stepOk rows rows' a b) w (.returned (.tuple #[.slice none 0 0, .bool false])) W := by
  unfold stepL
  rw [h]
  exact ⟨_, rfl, OwnI.nil _ _ _ _, hb⟩

set_option maxRecDepth 100000 in
set_option maxHeartbeats 8000000 in
theorem implStep_any (v v' : Value) (rows rows' : Rows2) (a b : Int) (w : World) (hv : RowsAt w v rows) (hv' : RowsAt w v' rows') (hT : Tab w) (hn : bulk rows ≤ 1048576) (hn' : bulk rows' ≤ 1048576) :
    Calls Tryd.prog 59 #[.agg #[v], .agg #[v'], .int .i64 a, .int .i64 b] w (OwnB (stepL rows rows' a b) (stepOk rows rows' a b) w) := by
  have h0 := Two.start w 25 25 hv hv'
  have hT1 := hT.below h0.below
  have hcall := funTypeOf_any v v' _ rows rows' [] _ h0.r0 h0.r1 (rows_nil _) hT1 hn hn'
  rw [ftB_nil] at hcall
  have hc0 := h0.c0
  have hc1 := h0.c1
  obtain ⟨A, C, rfl, _⟩ := hv
  obtain ⟨A', C', rfl, _⟩ := hv'
  have H0 := Lib.hid h0
  have T0 := Lib.hid hT1
  clear h0 hT1 hT
  cases hm : domB rows && domB rows' with
  | false =>
    rw [hm] at hcall
    have HE := Lib.hid (show stepOk rows rows' a b = false by unfold stepOk; rw [hm]; rfl)
    clear hm
    go_enter Tryd.func59, Tryd.ntmps59
    go_wp2_with (go_at_call 90; refine hcall.mono ?_; clear hcall; rintro e w1 ⟨⟨q, q', rfl, _⟩, hb1⟩; have H2 := Lib.hid ((H0.out.step hb1).step ((Below.refl _ w1).alloc (Nat.le_refl _) (.cells #[.pointer q, .pointer q'] 106))); clear hb1)
    go_ret2
    exact stepB_nil HE.out H2.out.below
  | true =>
    rw [hm] at hcall
    rw [Bool.and_eq_true] at hm
    have hok := ok_of_valid (show validB rows = true by have h := hm.1; unfold domB at h; rw [Bool.and_eq_true] at h; exact h.1)
    have hok' := ok_of_valid (show validB rows' = true by have h := hm.2; unfold domB at h; rw [Bool.and_eq_true] at h; exact h.1)
    obtain ⟨m', hml, hme⟩ := dom_least hm.2
    have hcall2 := hcall.mono (fun e w' h => h.yes)
    clear hcall
    by_cases ha : 0 ≤ a ∧ a < rows.length
    · by_cases hb : 0 ≤ b ∧ b < rows'.length
      · have HE := Lib.hid (show stepOk rows rows' a b = true by unfold stepOk; rw [hm.1, hm.2, decide_eq_true ha, decide_eq_true hb]; rfl)
        have hl200 := hok'.len.2
        have HC := Lib.hid (fun p p' W hg hg' hT => step_any p p' rows rows' a b a.toNat m' W hg hg' hT hok hok' (by omega) (by omega) hb.1 (by omega) hme hml)
        have HA := Lib.hid (decide_eq_true ha)
        have HB := Lib.hid (decide_eq_true hb)
        clear ha hb hok hok' hm hme hl200
        go_enter Tryd.func59, Tryd.ntmps59
        go_wp2_with (first | (go_at_call 90; refine hcall2.mono ?_; clear hcall2; rintro e w1 ⟨⟨p, p', rfl, _, _, hg, hg'⟩, hb1⟩; have B2 := Lib.hid ((Below.refl w1.heap.size w1).alloc (Nat.le_refl _) (.cells #[.pointer (some ⟨p, 0, none⟩), .pointer (some ⟨p', 0, none⟩)] 106)); have H2 := Lib.hid ((H0.out.step hb1).step B2.out); have T2 := Lib.hid ((T0.out.below hb1).below B2.out); have G2 := Lib.hid (hg.below B2.out hg.lt); have G2' := Lib.hid (hg'.below B2.out hg'.lt); obtain ⟨hq0, hq1⟩ := two_fresh w1 (.pointer (some ⟨p, 0, none⟩)) (.pointer (some ⟨p', 0, none⟩)) 106; have Q0 := Lib.hid hq0; have Q1 := Lib.hid hq1; have hd0 := H2.out.c0; clear hb1 hg hg' hq0 hq1) | (go_at_call_of 74 (Value.int IntKind.i64 a); refine (isElement_any _ rows a _ H2.out.r0).mono ?_; rintro e w2 ⟨hre, hb2⟩; rw [HA.out] at hre; subst hre; have H3 := Lib.hid (H2.out.step hb2); have T3 := Lib.hid (T2.out.below hb2); have G3 := Lib.hid (G2.out.below hb2 G2.out.lt); have G3' := Lib.hid (G2'.out.below hb2 G2'.out.lt); have Q3 := Lib.hid ((hb2.cell (p := ⟨w1.heap.size, 0, none⟩) (cell_lt Q0.out)).trans Q0.out); have Q3' := Lib.hid ((hb2.cell (p := ⟨w1.heap.size, 1, none⟩) (cell_lt Q1.out)).trans Q1.out); have hd1 := H3.out.c1; clear hb2) | (go_at_call_of 74 (Value.int IntKind.i64 b); refine (isElement_any _ rows' b _ H3.out.r1).mono ?_; rintro e w3 ⟨hre, hb3⟩; rw [HB.out] at hre; subst hre; have H4 := Lib.hid (H3.out.step hb3); have T4 := Lib.hid (T3.out.below hb3); have G4 := Lib.hid (G3.out.below hb3 G3.out.lt); have G4' := Lib.hid (G3'.out.below hb3 G3'.out.lt); have hq4 := ((hb3.cell (p := ⟨w1.heap.size, 0, none⟩) (cell_lt Q3.out)).trans Q3.out); have hq4' := ((hb3.cell (p := ⟨w1.heap.size, 1, none⟩) (cell_lt Q3'.out)).trans Q3'.out); clear hb3) | (go_at_call 106; refine (HC.out p p' _ G4.out G4'.out T4.out).mono ?_; rintro e w4 ⟨u, rfl, hu, hb4⟩; have HU := Lib.hid hu; have B4 := Lib.hid hb4; clear hu hb4))
        go_ret2
        refine ⟨u, by rw [HE.out]; rfl, ?_, H4.out.below.trans (B4.out.mono H4.out.below.size)⟩
        unfold stepL
        rw [if_pos HE.out]
        exact HU.out.wider H4.out.below.size (Nat.le_refl _)
      · have HE := Lib.hid (stepOk_no4 (rows := rows) (a := a) hb)
        have HA := Lib.hid (decide_eq_true ha)
        have HB := Lib.hid (decide_eq_false hb)
        clear ha hb hok hok' hm hme
        go_enter Tryd.func59, Tryd.ntmps59
        go_wp2_with (first | (go_at_call 90; refine hcall2.mono ?_; clear hcall2; rintro e w1 ⟨⟨p, p', rfl, _, _, hg, hg'⟩, hb1⟩; have B2 := Lib.hid ((Below.refl w1.heap.size w1).alloc (Nat.le_refl _) (.cells #[.pointer (some ⟨p, 0, none⟩), .pointer (some ⟨p', 0, none⟩)] 106)); have H2 := Lib.hid ((H0.out.step hb1).step B2.out); have hd0 := H2.out.c0; clear hb1 hg hg') | (go_at_call_of 74 (Value.int IntKind.i64 a); refine (isElement_any _ rows a _ H2.out.r0).mono ?_; rintro e w2 ⟨hre, hb2⟩; rw [HA.out] at hre; subst hre; have H3 := Lib.hid (H2.out.step hb2); have hd1 := H3.out.c1; clear hb2) | (go_at_call_of 74 (Value.int IntKind.i64 b); refine (isElement_any _ rows' b _ H3.out.r1).mono ?_; rintro e w3 ⟨hre, hb3⟩; rw [HB.out] at hre; subst hre; have H4 := Lib.hid (H3.out.step hb3); clear hb3))
        go_ret2
        exact stepB_nil HE.out H4.out.below
    · have HE := Lib.hid (stepOk_no3 (rows' := rows') (b := b) ha)
      have HA := Lib.hid (decide_eq_false ha)
      clear ha hok hok' hm hme
      go_enter Tryd.func59, Tryd.ntmps59
      go_wp2_with (first | (go_at_call 90; refine hcall2.mono ?_; clear hcall2; rintro e w1 ⟨⟨p, p', rfl, _, _, hg, hg'⟩, hb1⟩; have B2 := Lib.hid ((Below.refl w1.heap.size w1).alloc (Nat.le_refl _) (.cells #[.pointer (some ⟨p, 0, none⟩), .pointer (some ⟨p', 0, none⟩)] 106)); have H2 := Lib.hid ((H0.out.step hb1).step B2.out); have hd0 := H2.out.c0; clear hb1 hg hg') | (go_at_call_of 74 (Value.int IntKind.i64 a); refine (isElement_any _ rows a _ H2.out.r0).mono ?_; rintro e w2 ⟨hre, hb2⟩; rw [HA.out] at hre; subst hre; have H3 := Lib.hid (H2.out.step hb2); clear hb2))
      go_ret2
      exact stepB_nil HE.out H3.out.below
end Go.Proofs.YtjfbjfclcpcaiaaDoor
