/- The program's OrderBelow. -/
import Derived.Test.YtoaceiiiiefidaaDoorBelow
namespace Go.Proofs.YtoaceiiiiefidaaDoor
open Go.RowKit Go.Deep

theorem isElement_any (v : Value) (rows : Rows2) (a : Int) (w : World) (hv : RowsAt w v rows) : 
    Calls Tryd.prog 53 #[.agg #[v], .int .i64 a] w (SaysN (decide (0 ≤ a ∧ a < rows.length)) w) := by
  have b1 : Below w.heap.size w (w.alloc (.cells #[v] 27)) := (Below.refl _ w).alloc (Nat.le_refl _) _
  obtain ⟨A, C, rfl, _⟩ := hv
  have HB := Lib.hid b1
  clear b1
  by_cases h1 : 0 ≤ a
  · by_cases h2 : a < rows.length
    · rw [decide_eq_true ⟨h1, h2⟩]
      go_enter Tryd.func53, Tryd.ntmps53
      go_wp2
      go_ret
      exact ⟨rfl, HB.out⟩
    · rw [decide_eq_false (fun h => h2 h.2)]
      go_enter Tryd.func53, Tryd.ntmps53
      go_wp2
      go_ret
      exact ⟨rfl, HB.out⟩
  · rw [decide_eq_false (fun h => h1 h.1)]
    go_enter Tryd.func53, Tryd.ntmps53
    go_wp2
    go_ret
    exact ⟨rfl, HB.out⟩

/-- A new variable that holds a grid, laid behind w1. -/
def newGrid (g : Nat → Nat) (w1 : World) : World := (w1.alloc (.cells (gridCells fun _ => 0) 52)).setRow w1.heap.size (gridCells g)
theorem newGrid_at {g : Nat → Nat} (hg : ∀ i, g i < 2 ^ 256) (w1 : World) : GridAt (newGrid g w1) w1.heap.size g :=
  GridAt.setRow (g := fun _ => 0) ⟨heap_alloc_new _ _, fun _ => Nat.two_pow_pos 256⟩ hg
theorem newGrid_below (g : Nat → Nat) (w1 : World) : Below w1.heap.size w1 (newGrid g w1) := below_setRow' ((Below.refl _ w1).alloc (Nat.le_refl _) _) (Nat.le_refl _) _

theorem store_new (w1 : World) : GridAt (w1.alloc (.cells (gridCells fun _ => 0) 52)) w1.heap.size (fun _ => 0) := ⟨heap_alloc_new _ _, fun _ => Nat.two_pow_pos 256⟩

set_option maxHeartbeats 4000000 in
theorem implBelow_any (v : Value) (rows : Rows2) (a b : Int) (w : World) (hv : RowsAt w v rows) (hT : Tab w) (hn : bulk rows ≤ 1048576) :
    Calls Tryd.prog 21 #[.agg #[v], .int .i64 a, .int .i64 b] w (SaysN (belowB rows a b) w) := by
  have hH := Held.start w 27 hv
  have hcall := gridOf_any v rows _ hH.2.1 (hT.below ((Below.refl _ w).alloc (Nat.le_refl _) _)) hn
  have hz := (zero_of_info zeroGrid).1
  obtain ⟨A, C, rfl, _⟩ := hv
  have HH := Lib.hid hH
  clear hH hT
  generalize hval : validB rows = t at hcall
  have hcall2 : Calls Tryd.prog 51 #[.agg #[.slice A rows.length C]] (w.alloc (.cells #[.slice A rows.length C] 27)) fun e w' => (∃ g : Nat → Nat, ((∀ i, g i < 2 ^ 256) ∧ (t = true → g = gridF rows)) ∧ e = .returned (.tuple #[.agg (gridCells g), .bool t])) ∧ Below (w.alloc (.cells #[.slice A rows.length C] 27)).heap.size (w.alloc (.cells #[.slice A rows.length C] 27)) w' :=
    hcall.mono fun e w' ⟨⟨g, h1, h2, h3⟩, h4⟩ => ⟨⟨g, ⟨h1, fun h => h2 (by rw [hval]; exact h)⟩, by rw [h3, hval]⟩, h4⟩
  have HCALL := Lib.hid hcall2
  have HVAL := Lib.hid hval
  clear hcall hcall2 hval
  cases t with
  | false =>
    have e : belowB rows a b = false := by unfold belowB hasB; rw [HVAL.out]; rfl
    rw [e]
    clear e
    go_enter Tryd.func21, Tryd.ntmps21
    go_wp2_with (first | (go_at_call 51; refine HCALL.out.mono ?_; clear HCALL; rintro e w1 ⟨⟨g, hg, rfl⟩, hb1⟩; have HG := Lib.hid hg; have H1 := Lib.hid (HH.out.below hb1); clear hg hb1) | (refine wpList_store_row rfl 52 (.tmp 7) (.tmp 12) rfl w1.heap.size (gridCells g) rfl rfl 52 (gridCells fun _ => 0) (store_new w1).1 (by rw [gridCells_size]; exact sizeGrid) (by rw [gridCells_size, gridCells_size]) (gridCells_one _) ?_))
    go_ret
    exact ⟨rfl, (H1.out.below (newGrid_below g w1)).2.2.1⟩
  | true =>
    by_cases ha : 0 ≤ a ∧ a < rows.length
    · obtain ⟨an, rfl⟩ : ∃ an : Nat, a = (an : Int) := ⟨a.toNat, by omega⟩
      have ha1 : an < rows.length := by omega
      have hn2 : rows.length ≤ 200 := (lists_len (valid_lists HVAL.out)).2
      have ha2 : an < 200 := by omega
      have hA0 : (0 : Int) ≤ (an : Int) := by omega
      have hA1 : (an : Int) < 200 := by omega
      have hasc : ascB rows.length rows[an] = true := (ascB_iff _ _).2 (lists_at (valid_lists HVAL.out) an ha1)
      have HAS := Lib.hid hasc
      have HA := Lib.hid ha
      clear hasc ha
      by_cases hb : 0 ≤ b ∧ b < rows.length
      · obtain ⟨bn, rfl⟩ : ∃ bn : Nat, b = (bn : Int) := ⟨b.toNat, by omega⟩
        have e : belowB rows an bn = (gridF rows an).testBit bn := by
          unfold belowB hasB
          rw [HVAL.out, decide_eq_true HA.out, decide_eq_true hb, Int.toNat_natCast, grid_bit ha1 HAS.out]
          unfold upB
          rw [getD_at [] ha1]
          rfl
        rw [e]
        have HB := Lib.hid hb
        have hb1 : bn < 256 := by omega
        clear e hb
        go_enter Tryd.func21, Tryd.ntmps21
        go_wp2_with (first | (go_at_call 51; refine HCALL.out.mono ?_; clear HCALL; rintro e w1 ⟨⟨g, hg, rfl⟩, hb1⟩; have HG := Lib.hid hg; have H1 := Lib.hid (HH.out.below hb1); have H2 := Lib.hid (H1.out.below (newGrid_below g w1)); have hc2 : (World.setRow (w1.alloc (.cells (gridCells fun _ => 0) 52)) w1.heap.size (gridCells g)).cell? ⟨w.heap.size, 0, none⟩ = some (.slice A rows.length C) := H2.out.1; clear hg hb1) | (refine wpList_store_row rfl 52 (.tmp 7) (.tmp 12) rfl w1.heap.size (gridCells g) rfl rfl 52 (gridCells fun _ => 0) (store_new w1).1 (by rw [gridCells_size]; exact sizeGrid) (by rw [gridCells_size, gridCells_size]) (gridCells_one _) ?_))
        refine (isElement_any _ rows an _ H2.out.2.1).mono ?_
        rw [decide_eq_true HA.out]
        rintro e w3 ⟨rfl, hb3⟩
        have H3 := Lib.hid (H2.out.below hb3)
        have HG3 := Lib.hid ((newGrid_at HG.out.1 w1).below hb3 (newGrid_at HG.out.1 w1).lt)
        have hc3 := H3.out.1
        clear hb3 hc2
        go_wp2_with fail
        refine (isElement_any _ rows bn _ H3.out.2.1).mono ?_
        rw [decide_eq_true HB.out]
        rintro e w4 ⟨rfl, hb4⟩
        have H4 := Lib.hid (H3.out.below hb4)
        have HG4 := Lib.hid (HG3.out.below hb4 HG3.out.lt)
        obtain ⟨g0, g1, g2, g3⟩ := HG4.out.row an ha2
        have hge : g an = gridF rows an := by rw [HG.out.2 (by trivial)]
        have HGE := Lib.hid hge
        clear hb4 hc3 hge
        go_wp2_with (go_at_call 54; refine (has_any (g an) bn bn _ rfl hb1).mono ?_; rintro e w5 ⟨rfl, hb5⟩)
        go_ret
        exact ⟨by rw [← HGE.out]; rfl, (H4.out.below hb5).2.2.1⟩
      · have e : belowB rows an b = false := by unfold belowB hasB; rw [decide_eq_false hb]; simp
        rw [e]
        have HB := Lib.hid hb
        clear e hb
        go_enter Tryd.func21, Tryd.ntmps21
        go_wp2_with (first | (go_at_call 51; refine HCALL.out.mono ?_; clear HCALL; rintro e w1 ⟨⟨g, hg, rfl⟩, hb1⟩; have HG := Lib.hid hg; have H1 := Lib.hid (HH.out.below hb1); have H2 := Lib.hid (H1.out.below (newGrid_below g w1)); have hc2 : (World.setRow (w1.alloc (.cells (gridCells fun _ => 0) 52)) w1.heap.size (gridCells g)).cell? ⟨w.heap.size, 0, none⟩ = some (.slice A rows.length C) := H2.out.1; clear hg hb1) | (refine wpList_store_row rfl 52 (.tmp 7) (.tmp 12) rfl w1.heap.size (gridCells g) rfl rfl 52 (gridCells fun _ => 0) (store_new w1).1 (by rw [gridCells_size]; exact sizeGrid) (by rw [gridCells_size, gridCells_size]) (gridCells_one _) ?_))
        refine (isElement_any _ rows an _ H2.out.2.1).mono ?_
        rw [decide_eq_true HA.out]
        rintro e w3 ⟨rfl, hb3⟩
        have H3 := Lib.hid (H2.out.below hb3)
        have hc3 := H3.out.1
        clear hb3 hc2
        go_wp2_with fail
        refine (isElement_any _ rows b _ H3.out.2.1).mono ?_
        rw [decide_eq_false HB.out]
        rintro e w4 ⟨rfl, hb4⟩
        have H4 := Lib.hid (H3.out.below hb4)
        clear hb4 hc3
        go_wp2
        go_ret
        exact ⟨rfl, H4.out.2.2.1⟩
    · have e : belowB rows a b = false := by unfold belowB hasB; rw [decide_eq_false ha]; simp
      rw [e]
      have HA := Lib.hid ha
      clear e ha
      go_enter Tryd.func21, Tryd.ntmps21
      go_wp2_with (first | (go_at_call 51; refine HCALL.out.mono ?_; clear HCALL; rintro e w1 ⟨⟨g, hg, rfl⟩, hb1⟩; have HG := Lib.hid hg; have H1 := Lib.hid (HH.out.below hb1); have H2 := Lib.hid (H1.out.below (newGrid_below g w1)); have hc2 : (World.setRow (w1.alloc (.cells (gridCells fun _ => 0) 52)) w1.heap.size (gridCells g)).cell? ⟨w.heap.size, 0, none⟩ = some (.slice A rows.length C) := H2.out.1; clear hg hb1) | (refine wpList_store_row rfl 52 (.tmp 7) (.tmp 12) rfl w1.heap.size (gridCells g) rfl rfl 52 (gridCells fun _ => 0) (store_new w1).1 (by rw [gridCells_size]; exact sizeGrid) (by rw [gridCells_size, gridCells_size]) (gridCells_one _) ?_))
      refine (isElement_any _ rows a _ H2.out.2.1).mono ?_
      rw [decide_eq_false HA.out]
      rintro e w3 ⟨rfl, hb3⟩
      have H3 := Lib.hid (H2.out.below hb3)
      clear hb3 hc2
      go_wp2
      go_ret
      exact ⟨rfl, H3.out.2.2.1⟩
end Go.Proofs.YtoaceiiiiefidaaDoor
