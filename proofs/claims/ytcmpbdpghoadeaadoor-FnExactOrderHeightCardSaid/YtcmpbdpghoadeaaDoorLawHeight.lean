/- The law of OrderHeight: model and program answer alike, and the argument is left alone. -/
import Derived.Test.YtcmpbdpghoadeaaDoorImplHeight
import Derived.Test.YtcmpbdpghoadeaaDoorSpecHeight
import Derived.Test.YtcmpbdpghoadeaaDoorSz
import Derived.Test.YtcmpbdpghoadeaaDoorTo
namespace Go.Proofs.YtcmpbdpghoadeaaDoor
open Go.RowKit Go.Deep


set_option maxRecDepth 100000 in
set_option maxHeartbeats 4000000 in
theorem law_height (v : Value) (rows : Rows2) (w : World) (hv : RowsAt w v rows) (hT : Tab w) :
    Calls Tryd.prog 9 #[.agg #[v]] w (SaysN true w) := by
  have hH := Held.start w 24 hv
  have hT0 := hT.below ((Below.refl _ w).alloc (Nat.le_refl _) (.cells #[v] 24))
  have hsz := szOrder_any v rows 1048576 _ hH.2.1 (by omega) (by omega)
  have hdr : ∀ W : World, W.drew.heap = W.heap := fun _ => rfl
  have hHs := Lib.hid hH
  have hTs := Lib.hid hT0
  have hcell := hH.1
  obtain ⟨A, C, rfl, _⟩ := hv
  clear hH hT hT0
  go_enter Tryd.func9, Tryd.ntmps9
  go_wp2_with (go_at_call 16; refine hsz.mono ?_; clear hsz; rintro e w1 ⟨⟨r, hr, rfl⟩, hb1⟩; have H1 := Lib.hid (hHs.out.below hb1); have T1 := Lib.hid (hTs.out.below hb1); have hc1 := H1.out.1; clear hb1)
  · go_ret
    exact ⟨rfl, H1.out.2.2.1⟩
  · have hr2 : bulk rows ≤ 1048576 := by rcases hr with h | h <;> omega
    have HR := Lib.hid hr2
    have hto := toOrder_any _ rows w1 H1.out.2.1 hr2
    clear hr hr2
    have hspec : ∀ W v', RowsAt W v' rows → Calls Tryd.prog 38 #[.agg #[v']] W (SaysI (heightB rows) W) := fun W v' h => specHeight_any v' rows W h HR.out
    have himpl : ∀ W v', RowsAt W v' rows → Tab W → Calls Tryd.prog 39 #[.agg #[v']] W (SaysI (heightB rows) W) := fun W v' h hT => implHeight_any v' rows W h hT HR.out
    have hmax : bulk rows ≤ maxLen := maxLen_ge HR.out
    generalize heightB rows = t at hspec himpl
    have HS := Lib.hid hspec
    have HI := Lib.hid himpl
    have HM := Lib.hid hmax
    clear hspec himpl hmax
    have hne : (t != t) = false := bne_self_eq_false t
    all_goals
      go_wp2_with fail
      refine hto.mono ?_
      clear hto
      rintro e w2 ⟨g, G, rfl, hg, ho, hb2⟩
      have H2 := Lib.hid (H1.out.below hb2)
      have T2 := Lib.hid (T1.out.below hb2)
      have R2 := Lib.hid (ho.at HM.out)
      clear hg ho hb2 hc1
      go_wp2_with fail
      refine (HS.out w2 _ R2.out).mono ?_
      rintro e w3 ⟨rfl, hb3⟩
      have H3 := Lib.hid (H2.out.below hb3)
      have T3 := Lib.hid (T2.out.below hb3)
      have hc3 := H3.out.1
      clear hb3 R2
      go_wp2_with fail
      refine (toOrder_any _ rows w3 H3.out.2.1 HR.out).mono ?_
      rintro e w4 ⟨g4, G4, rfl, hg4, ho4, hb4⟩
      have H4 := Lib.hid ((H3.out.below hb4).below ((Below.refl _ w4).alloc (Nat.le_refl _) (.cells #[whole g4 rows.length] 27)))
      have T4 := Lib.hid ((T3.out.below hb4).below ((Below.refl _ w4).alloc (Nat.le_refl _) (.cells #[whole g4 rows.length] 27)))
      have R4 := Lib.hid ((ho4.at HM.out).below ((Below.refl _ w4).alloc (Nat.le_refl _) (.cells #[whole g4 rows.length] 27)))
      clear hg4 ho4 hb4 hc3
      have c4 : (w4.alloc (.cells #[whole g4 rows.length] 27)).cell? ⟨w4.heap.size, 0, none⟩ = some (whole g4 rows.length) := (World.rowIs_alloc w4 #[whole g4 rows.length] 27 (fun _ => whole g4 rows.length) (fun i hi => by simp at hi; subst hi; rfl)).cell (by simp)
      have C4 := Lib.hid c4
      clear c4
      go_wp2_with fail
      refine (HI.out _ _ R4.out T4.out).mono ?_
      rintro e w5 ⟨rfl, hb5⟩
      have H5 := Lib.hid ((H4.out.below hb5).below (below_drew w5 _))
      have R5 := Lib.hid ((R4.out.below hb5).below (below_drew w5 _))
      have hc5 : w5.cell? ⟨w.heap.size, 0, none⟩ = some (.slice A rows.length C) := (H4.out.below hb5).1
      have hx5 : w5.cell? ⟨w4.heap.size, 0, none⟩ = some (whole g4 rows.length) := by rw [hb5.cell (p := ⟨w4.heap.size, 0, none⟩) (cell_lt C4.out)]; exact C4.out
      have hto := toOrder_any _ rows w5.drew H5.out.2.1 HR.out
      have HTO := Lib.hid hto
      clear hb5 R4 hto
      have hs1 : w.heap.size < w5.heap.size := cell_lt hc5
      have hs2 : w4.heap.size < w5.heap.size := cell_lt hx5
      go_wp2
      go_region_with (first | (go_at_call 18; refine HTO.out.mono ?_; clear HTO; rintro e w6 ⟨g6, G6, rfl, hg6, ho6, hb6⟩; have ⟨hc, hf⟩ := bcell hb6; have heq := eqOrder_any _ _ rows rows w6 (R5.out.below hb6) (ho6.at HM.out); rw [decide_eq_true (rfl : rows = rows)] at heq; have H6 := Lib.hid (H5.out.below hb6); have HEQ := Lib.hid heq; clear heq hg6 ho6 hb6) | (go_at_call 20; refine HEQ.out.mono ?_; clear HEQ; rintro e w7 ⟨rfl, hb7⟩; have H7 := Lib.hid (H6.out.below hb7); clear hb7))
      all_goals
        go_wp2
        go_ret
        exact ⟨rfl, H7.out.2.2.1⟩
end Go.Proofs.YtcmpbdpghoadeaaDoor
