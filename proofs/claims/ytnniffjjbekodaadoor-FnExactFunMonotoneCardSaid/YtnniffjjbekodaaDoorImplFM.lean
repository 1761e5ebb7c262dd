/- The program's FunMonotone. -/
import Derived.Test.YtnniffjjbekodaaDoorFunType
namespace Go.Proofs.YtnniffjjbekodaaDoor
open Go.RowKit Go.Deep Go.Shelf

theorem rows_one {w : World} {vf : Value} {f : List Int} (hf : IntsAt w vf f) : RowsAt (w.alloc (.cells #[vf] 25)) (.slice (some ⟨w.heap.size, 0, none⟩) 1 1) [f] := by
  refine ⟨some ⟨w.heap.size, 0, none⟩, 1, rfl, Nat.le_refl _, by unfold maxLen; omega, fun i hi => ?_⟩
  obtain rfl : i = 0 := by simpa using hi
  exact ⟨w.heap.size, 0, vf, rfl, (World.rowIs_alloc w #[vf] 25 (fun _ => vf) (fun i hi => by simp at hi; subst hi; rfl)).cell (i := 0) (by simp), hf.below ((Below.refl _ w).alloc (Nat.le_refl _) _)⟩
theorem rows_two {w : World} {vf vg : Value} {f g : List Int} (hf : IntsAt w vf f) (hg : IntsAt w vg g) : RowsAt (w.alloc (.cells #[vf, vg] 25)) (.slice (some ⟨w.heap.size, 0, none⟩) 2 2) [f, g] := by
  have hr := World.rowIs_alloc w #[vf, vg] 25 (fun i => if i = 0 then vf else vg) (fun i hi => by
    have hi' : i < 2 := by simpa using hi
    obtain rfl | rfl : i = 0 ∨ i = 1 := by omega
    · rfl
    · rfl)
  refine ⟨some ⟨w.heap.size, 0, none⟩, 2, rfl, Nat.le_refl _, by unfold maxLen; omega, fun i hi => ?_⟩
  have hi' : i < 2 := by simpa using hi
  have hc := hr.cell (i := i) (by simpa using hi')
  obtain rfl | rfl : i = 0 ∨ i = 1 := by omega
  · exact ⟨w.heap.size, 0, vf, rfl, by simp, hf.below ((Below.refl _ w).alloc (Nat.le_refl _) _)⟩
  · exact ⟨w.heap.size, 0, vg, rfl, by simp, hg.below ((Below.refl _ w).alloc (Nat.le_refl _) _)⟩

set_option maxRecDepth 100000 in
set_option maxHeartbeats 4000000 in
theorem implMono_any (v v' vf : Value) (rows rows' : Rows2) (f : List Int) (w : World) (hv : RowsAt w v rows) (hv' : RowsAt w v' rows') (hf : IntsAt w vf f) (hT : Tab w) (hn : bulk rows ≤ 1048576) (hn' : bulk rows' ≤ 1048576) :
    Calls Tryd.prog 20 #[.agg #[v], .agg #[v'], vf] w (SaysN (monoB rows rows' f) w) := by
  have h0 := TwoF.start w 28 28 hv hv' hf
  have hl := rows_one h0.2
  have b1 := (Below.refl ((w.alloc (.cells #[v] 28)).alloc (.cells #[v'] 28)).heap.size ((w.alloc (.cells #[v] 28)).alloc (.cells #[v'] 28))).alloc (Nat.le_refl _) (.cells #[vf] 25)
  have h1 := h0.step b1
  have hT1 := (hT.below h0.1.below).below b1
  have hcall := funTypeOf_any v v' _ rows rows' [f] _ h1.1.r0 h1.1.r1 hl hT1 hn hn'
  have hs : ((w.alloc (.cells #[v] 28)).alloc (.cells #[v'] 28)).heap.size = w.heap.size + 2 := by rw [World.size_alloc, World.size_alloc]
  rw [ftB_one, hs] at hcall
  generalize monoB rows rows' f = t at hcall ⊢
  have hB := h1.1.below
  have hc0 := h0.1.c0
  have hc1 := h0.1.c1
  obtain ⟨A, C, rfl, _⟩ := hv
  obtain ⟨A', C', rfl, _⟩ := hv'
  obtain ⟨Af, Cf, rfl, _⟩ := hf
  have HB := Lib.hid hB
  clear h0 hl b1 h1 hT1 hs hB hT
  go_enter Tryd.func20, Tryd.ntmps20
  go_wp2_with (go_at_call 55; refine hcall.mono ?_; clear hcall; rintro e w1 ⟨⟨q, q', rfl, _⟩, hb1⟩; have H1 := Lib.hid (HB.out.trans (hb1.mono HB.out.size)); clear hb1)
  go_ret
  exact ⟨rfl, H1.out.alloc H1.out.size _⟩
end Go.Proofs.YtnniffjjbekodaaDoor
