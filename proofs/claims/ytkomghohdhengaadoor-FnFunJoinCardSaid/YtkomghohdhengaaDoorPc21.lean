/- The program's DomainIs. -/
import Derived.Test.YtkomghohdhengaaDoorPc14
import Derived.Test.YtkomghohdhengaaDoorPc19
import Derived.Test.YtkomghohdhengaaDoorPc16
import Derived.Test.YtkomghohdhengaaDoorPc13
import Derived.Test.YtkomghohdhengaaDoorPc6
namespace Go.Proofs.YtkomghohdhengaaDoor
open Go.RowKit Go.Deep Go.Shelf

/-- Two elements that have a common upper bound, and no least one. -/
def badF (g : Nat → Nat) (a b : Nat) : Bool := !decide (g a &&& g b = 0) && decide (bottomF g (g a &&& g b) < 0)
def isDomF (g : Nat → Nat) (n : Nat) : Bool := decide (0 ≤ bottomF g (allF n)) && (List.range n).all fun a => (List.range a).all fun b => !badF g a b
theorem badF_eq {rows : List (List Int)} (h : Ok rows) {a b : Nat} (ha : a < rows.length) (hb : b < rows.length) : badF (gridF rows) a b = badB rows a b := by
  unfold badF badB
  rw [bounded_eq h ha hb, join_eq h ha hb]
theorem isDomF_eq {rows : List (List Int)} (h : Ok rows) : isDomF (gridF rows) rows.length = domI rows := by
  unfold isDomF domI
  rw [least_eq h]
  congr 1
  rw [Bool.eq_iff_iff, List.all_eq_true, List.all_eq_true]
  constructor
  · intro hall a ha
    have h2 := hall a ha
    rw [List.all_eq_true] at h2 ⊢
    intro b hb
    have h3 := h2 b hb
    rw [List.mem_range] at ha hb
    rwa [badF_eq h ha (by omega)] at h3
  · intro hall a ha
    have h2 := hall a ha
    rw [List.all_eq_true] at h2 ⊢
    intro b hb
    have h3 := h2 b hb
    rw [List.mem_range] at ha hb
    rwa [badF_eq h ha (by omega)]
theorem isDomF_least {g : Nat → Nat} {n : Nat} (h : bottomF g (allF n) < 0) : isDomF g n = false := by
  unfold isDomF
  rw [decide_eq_false (by omega)]
  rfl
theorem isDomF_bad {g : Nat → Nat} {n a b : Nat} (ha : a < n) (hb : b < a) (h : badF g a b = true) : isDomF g n = false := by
  unfold isDomF
  rw [Bool.and_eq_false_iff]
  right
  rw [List.all_eq_false]
  refine ⟨a, List.mem_range.2 ha, ?_⟩
  rw [Bool.not_eq_true, List.all_eq_false]
  exact ⟨b, List.mem_range.2 hb, by rw [h]; simp⟩
theorem isDomF_yes {g : Nat → Nat} {n : Nat} (h : 0 ≤ bottomF g (allF n)) (hall : ∀ a, a < n → ∀ b, b < a → badF g a b = false) : isDomF g n = true := by
  unfold isDomF
  rw [decide_eq_true h, Bool.true_and, List.all_eq_true]
  intro a ha
  rw [List.all_eq_true]
  intro b hb
  rw [hall a (List.mem_range.1 ha) b (List.mem_range.1 hb)]
  rfl

theorem common_lt {g : Nat → Nat} (hg : ∀ i, g i < 2 ^ 256) (a b : Nat) : g a &&& g b < 2 ^ 256 := by rw [Nat.and_comm]; exact Nat.and_lt_two_pow _ (hg a)

set_option maxRecDepth 100000 in
set_option maxHeartbeats 4000000 in
theorem isDomain_any (b n : Nat) (g : Nat → Nat) (w : World) (hg : GridAt w b g) (hT : Tab w) (hn : GridN g n) (hel : ∀ i, i < n → ∀ k ∈ elems (g i), k < 200) :
    Calls Tryd.prog 93 #[.pointer (some ⟨b, 0, none⟩)] w (SaysN (isDomF g n) w) := by
  have hcall := least_any b n g w hg hT hn
  have hn2 := hn.le
  have hL0 : Look b g w w := ⟨hg, hT, Below.refl _ _, hg.lt⟩
  have hgl := hg.2
  have hdr : ∀ W : World, W.drew.heap = W.heap := fun _ => rfl
  have HL0 := Lib.hid hL0
  have HN := Lib.hid hn
  have HEL := Lib.hid hel
  have HGL := Lib.hid hgl
  clear hg hT hn hel hL0 hgl
  by_cases hle : bottomF g (allF n) < 0
  · have HE := Lib.hid (isDomF_least hle)
    have hle2 : ¬ 0 ≤ bottomF g (allF n) := by omega
    go_enter Tryd.func93, Tryd.ntmps93
    go_wp2_with (go_at_call 92; refine hcall.mono ?_; clear hcall; rintro e w1 ⟨rfl, hb1⟩)
    go_ret
    exact ⟨by rw [HE.out]; rfl, hb1⟩
  · have hle2 : 0 ≤ bottomF g (allF n) := by omega
    have HLE := Lib.hid hle2
    go_enter Tryd.func93, Tryd.ntmps93
    go_wp2_with (first | (go_at_call 92; refine hcall.mono ?_; clear hcall; rintro e w1 ⟨rfl, hb1⟩; have HL1 := Lib.hid (HL0.out.step hb1); clear hb1) | (go_at_call 106; refine (size_any b n g w1 HL1.out.grid HN.out.le HN.out.some HN.out.none).mono ?_; rintro e w2 ⟨rfl, hb2⟩; have HL2 := Lib.hid (HL1.out.step hb2); clear hb2))
    go_loopw [13] (fun av wr => ∃ a : Nat, a ≤ n ∧ av = .int .i64 a ∧ (∀ q, q < a → ∀ c, c < q → badF g q c = false) ∧ Look b g w wr) (fun av _ => n - (intOf av).toNat)
    case atStart => exact ⟨0, Nat.zero_le _, rfl, fun _ h => absurd h (Nat.not_lt_zero _), HL2.out⟩
    case round =>
      obtain ⟨a, ha, rfl, hgd, hL⟩ := hrel
      have HG := Lib.hid hgd
      have HL := Lib.hid hL
      clear hgd hL HL2 HL1
      by_cases hal : a < n
      · go_wp2
        go_loopw [17] (fun cv wr => ∃ c : Nat, c ≤ a ∧ cv = .int .i64 c ∧ (∀ q, q < c → badF g a q = false) ∧ Look b g w wr) (fun cv _ => a - (intOf cv).toNat)
        case atStart => exact ⟨0, Nat.zero_le _, rfl, fun _ h => absurd h (Nat.not_lt_zero _), HL.out⟩
        case round =>
          obtain ⟨c, hc, rfl, hgd, hL⟩ := hrel
          have HG2 := Lib.hid hgd
          have HLc := Lib.hid hL
          clear hgd hL
          by_cases hcl : c < a
          · have ha0 : (0 : Int) ≤ (a : Int) := by omega
            have ha1 : (a : Int) < 200 := by omega
            have hc0 : (0 : Int) ≤ (c : Int) := by omega
            have hc1 : (c : Int) < 200 := by omega
            obtain ⟨c0, c1, c2, c3⟩ := HLc.out.grid.row a (by omega)
            obtain ⟨d0, d1, d2, d3⟩ := HLc.out.grid.row c (by omega)
            have e0 := cell_alloc_any c0
            have e1 := cell_alloc_any c1
            have e2 := cell_alloc_any c2
            have e3 := cell_alloc_any c3
            have f0 := cell_alloc_any d0
            have f1 := cell_alloc_any d1
            have f2 := cell_alloc_any d2
            have f3 := cell_alloc_any d3
            go_upto_region 10 with fail
            go_cut [6] (fun s6 wx => ∃ p : Nat, s6 = .pointer (some ⟨p, 0, none⟩) ∧ w.heap.size ≤ p ∧ RowIn wx p (g a &&& g c) ∧ Look b g w wx)
            case first =>
              first | (go_region_with (first | (go_at_call 131; refine (and_any _ _ _).mono ?_; rintro e w2 ⟨rfl, hb2⟩; have ⟨hc, hf⟩ := bcell hb2; have hz2 := bsize hb2; have B2 : Below wr.heap.size wr w2 := (by first | exact (Below.refl _ wr).drew.trans hb2 | exact (((Below.refl _ wr).alloc (Nat.le_refl _) _).drew).trans (hb2.mono (by simp [hdr])))))) | fail
              all_goals
                go_wp2_with fail
                go_meet
              all_goals
                first
                  | exact ⟨_, rfl, Nat.le_trans HLc.out.below.size B2.size, RowIn.alloc _ (common_lt HGL.out a c), HLc.out.step (B2.alloc B2.size _)⟩
                  | exact ⟨_, rfl, HLc.out.below.size, RowIn.set4 ((hb2.block _ (by simp [hdr])).trans (heap_alloc_new _ _)) (common_lt HGL.out a c), HLc.out.step ((((B2.setCell (Nat.le_refl _) _).setCell (Nat.le_refl _) _).setCell (Nat.le_refl _) _).setCell (Nat.le_refl _) _)⟩
            case rest =>
              obtain ⟨p, rfl, hp, hr, hL⟩ := hcut
              obtain ⟨r0, r1, r2, r3⟩ := hr.cells
              have HR := Lib.hid hr
              have HL3 := Lib.hid hL
              have hemp := empty_any (g a &&& g c) wc (common_lt HGL.out a c)
              clear hr hL c0 c1 c2 c3 d0 d1 d2 d3 e0 e1 e2 e3 f0 f1 f2 f3
              by_cases hz : g a &&& g c = 0
              · rw [decide_eq_true hz] at hemp
                have HE := Lib.hid (show badF g a c = false by unfold badF; rw [decide_eq_true hz]; rfl)
                clear hz
                go_wp2_with (go_at_call 142; refine hemp.mono ?_; clear hemp; rintro e w4 ⟨rfl, hb4⟩; have HL4 := Lib.hid (HL3.out.step hb4); clear hb4)
                go_roundw
                case rel =>
                  refine ⟨c + 1, by omega, by go_num, fun q hq => ?_, HL4.out⟩
                  by_cases e : q = c
                  · subst e; exact HE.out
                  · exact HG2.out q (by omega)
                case measure => simp [intOf]; omega
              · rw [decide_eq_false hz] at hemp
                have HZ := Lib.hid hz
                clear hz
                by_cases hj : bottomF g (g a &&& g c) < 0
                · have hj2 : ¬ 0 ≤ bottomF g (g a &&& g c) := by omega
                  have HE := Lib.hid (isDomF_bad hal hcl (show badF g a c = true by unfold badF; rw [decide_eq_false HZ.out, decide_eq_true hj]; rfl))
                  go_wp2_with (first | (go_at_call 142; refine hemp.mono ?_; clear hemp; rintro e w4 ⟨rfl, hb4⟩; have HL4 := Lib.hid (HL3.out.step hb4); obtain ⟨r0, r1, r2, r3⟩ := (HR.out.below hb4 HR.out.lt).cells; clear hb4) | (go_at_call 130; refine (bottom_any b (g a &&& g c) g w4 HL4.out.grid HL4.out.tab (common_lt HGL.out a c) (fun k hk => HEL.out a hal k (by rw [mem_elems (common_lt HGL.out a c), Nat.testBit_and, Bool.and_eq_true] at hk; exact (mem_elems (HGL.out a)).2 hk.1))).mono ?_; rintro e w5 ⟨rfl, hb5⟩; have HL5 := Lib.hid (HL4.out.step hb5); clear hb5))
                  go_ret
                  exact ⟨by rw [HE.out]; rfl, HL5.out.below⟩
                · have hj2 : 0 ≤ bottomF g (g a &&& g c) := by omega
                  have HE := Lib.hid (show badF g a c = false by unfold badF; rw [decide_eq_false hj]; simp)
                  go_wp2_with (first | (go_at_call 142; refine hemp.mono ?_; clear hemp; rintro e w4 ⟨rfl, hb4⟩; have HL4 := Lib.hid (HL3.out.step hb4); obtain ⟨r0, r1, r2, r3⟩ := (HR.out.below hb4 HR.out.lt).cells; clear hb4) | (go_at_call 130; refine (bottom_any b (g a &&& g c) g w4 HL4.out.grid HL4.out.tab (common_lt HGL.out a c) (fun k hk => HEL.out a hal k (by rw [mem_elems (common_lt HGL.out a c), Nat.testBit_and, Bool.and_eq_true] at hk; exact (mem_elems (HGL.out a)).2 hk.1))).mono ?_; rintro e w5 ⟨rfl, hb5⟩; have HL5 := Lib.hid (HL4.out.step hb5); clear hb5))
                  go_roundw
                  case rel =>
                    refine ⟨c + 1, by omega, by go_num, fun q hq => ?_, HL5.out⟩
                    by_cases e : q = c
                    · subst e; exact HE.out
                    · exact HG2.out q (by omega)
                  case measure => simp [intOf]; omega
          · obtain rfl : c = a := by omega
            go_wp2
            go_roundw
            case rel =>
              refine ⟨c + 1, by omega, by go_num, fun q hq => ?_, HLc.out⟩
              by_cases e : q = c
              · subst e; exact HG2.out
              · exact HG.out q (by omega)
            case measure => simp [intOf]; omega
      · obtain rfl : a = n := by omega
        have HE := Lib.hid (isDomF_yes HLE.out HG.out)
        go_wp2
        go_ret
        exact ⟨by rw [HE.out]; rfl, HL.out.below⟩

set_option maxHeartbeats 2000000 in
theorem implDom_any (v : Value) (rows : Rows2) (w : World) (hv : RowsAt w v rows) (hT : Tab w) (hn : bulk rows ≤ 1048576) :
    Calls Tryd.prog 39 #[.agg #[v]] w (SaysN (domB rows) w) := by
  have hH := Held.start w 25 hv
  have hT1 := hT.below ((Below.refl _ w).alloc (Nat.le_refl _) (.cells #[v] 25))
  have hcall := fun t h => gridOf_t v rows _ hH.2.1 hT1 hn (t := t) h
  have hz := (zero_of_info zeroGrid).1
  obtain ⟨A, C, rfl, _⟩ := hv
  have HH := Lib.hid hH
  have HT := Lib.hid hT1
  clear hH hT hT1
  unfold domB
  cases hval : validB rows with
  | false =>
    have hc := hcall false hval
    rw [Bool.false_and]
    clear hval hcall
    go_enter Tryd.func39, Tryd.ntmps39
    go_wp2_with (first | (go_at_call 82; refine hc.mono ?_; clear hc; rintro e w1 ⟨⟨g, hg, rfl⟩, hb1⟩; have HG := Lib.hid hg; have H1 := Lib.hid (HH.out.below hb1); clear hg hb1) | (refine wpList_store_row rfl 93 (.tmp 3) (.tmp 8) rfl w1.heap.size (gridCells g) rfl rfl 93 (gridCells fun _ => 0) (store_new w1).1 (by rw [gridCells_size]; exact sizeGrid) (by rw [gridCells_size, gridCells_size]) (gridCells_one _) ?_))
    go_ret
    exact ⟨rfl, (H1.out.below (newGrid_below g w1)).2.2.1⟩
  | true =>
    have hok := ok_of_valid hval
    have hc := hcall true hval
    have hde := isDomF_eq hok
    have HEL := Lib.hid (fun i (_ : i < rows.length) k (hk : k ∈ elems (gridF rows i)) => hok.lt200 ((mem_elems (hok.lt i)).1 hk))
    have HN := Lib.hid hok.gridN
    rw [Bool.true_and, ← hde]
    clear hval hcall hde hok
    go_enter Tryd.func39, Tryd.ntmps39
    go_wp2_with (first | (go_at_call 82; refine hc.mono ?_; clear hc; rintro e w1 ⟨⟨g, hg, rfl⟩, hb1⟩; obtain ⟨hg1, hg2⟩ := hg; obtain rfl := hg2 rfl; clear hg2; have HG := Lib.hid hg1; have H1 := Lib.hid (HH.out.below hb1); have T1 := Lib.hid (HT.out.below hb1); clear hg1 hb1; have H2 := Lib.hid (H1.out.below (newGrid_below (gridF rows) w1)); have T2 := Lib.hid (T1.out.below (newGrid_below (gridF rows) w1)); have G2 := Lib.hid (newGrid_at HG.out w1)) | (refine wpList_store_row rfl 93 (.tmp 3) (.tmp 8) rfl w1.heap.size (gridCells (gridF rows)) rfl rfl 93 (gridCells fun _ => 0) (store_new w1).1 (by rw [gridCells_size]; exact sizeGrid) (by rw [gridCells_size, gridCells_size]) (gridCells_one _) ?_) | (go_at_call 93; refine (isDomain_any w1.heap.size rows.length (gridF rows) _ G2.out T2.out HN.out HEL.out).mono ?_; rintro e w3 ⟨rfl, hb3⟩; have H3 := Lib.hid (H2.out.below hb3); clear hb3))
    go_ret
    exact ⟨rfl, H3.out.2.2.1⟩
end Go.Proofs.YtkomghohdhengaaDoor


