/- The law of PowerUnion: model and program answer alike, and the arguments are left alone. -/
import Derived.Test.YtfgpnmdmbhfdmaaDoorMidWc
import Derived.Test.YtfgpnmdmbhfdmaaDoorMidWa
import Derived.Test.YtfgpnmdmbhfdmaaDoorTo
import Derived.Deep.RegionHeld3
namespace Go.Proofs.YtfgpnmdmbhfdmaaDoor
open Go.RowKit Go.Deep

set_option maxRecDepth 100000 in
set_option maxHeartbeats 16000000 in
theorem law_puni (v0 : Value) (r0 : Rows2) (z1 : ByteArray) (z2 : Int) (z3 : Int) (w : World) (h0 : RowsAt w v0 r0) (hT : Tab w) (kz2 : (Lit.int .i64 z2).wf = true) (kz3 : (Lit.int .i64 z3).wf = true) :
    Calls Tryd.prog 7 #[.agg #[v0], .string z1, .int .i64 z2, .int .i64 z3] w (SaysN true w) := by
  have e0 := St.start1 w 24 v0
  have H0 := Lib.hid h0
  have HTT := Lib.hid hT
  obtain ⟨A0, C0, rfl, _⟩ := h0
  have E0 := Lib.hid e0
  clear e0 hT
  have hdr : ∀ W : World, W.drew.heap = W.heap := fun _ => rfl
  by_cases hf1 : (1048576 : Int) < (z1.size : Int)
  · go_enter Tryd.func7, Tryd.ntmps7
    go_wp2
    go_ret
    exact ⟨rfl, E0.out.below⟩
  go_enter Tryd.func7, Tryd.ntmps7
  have hc1 := E0.out.cell 0 rfl
  have hsz := szOrder_any _ r0 1048576 _ (H0.out.below E0.out.below) (by omega) (by omega)
  go_wp2_with fail
  refine hsz.mono ?_
  clear hsz
  rintro e w1 ⟨⟨q0, hr, rfl⟩, hb⟩
  have E1 := Lib.hid (E0.out.step hb)
  clear hb hc1 E0
  by_cases hneg0 : q0 < 0
  · go_wp2
    go_ret
    exact ⟨rfl, E1.out.below⟩
  have hq0 : 0 ≤ q0 ∧ q0 ≤ 1048576 ∧ bulk r0 ≤ 1048576 := by rcases hr with h | h <;> omega
  have HB0 := Lib.hid hq0.2.2
  have HM0 := Lib.hid (maxLen_ge HB0.out)
  have HL0 := Lib.hid (show lens r0 r0.length ≤ 1048576 by have := lens_all r0; have := HB0.out; omega)
  clear hr
  clear hq0
  have hspec : ∀ W u0, RowsAt W u0 r0 → Calls Tryd.prog 27 #[.agg #[u0], .string z1, .int .i64 z2, .int .i64 z3] W (SaysNB (uniI r0 z1 z2 z3) (uniOk r0 z1 z2 z3) W) := fun W u0 k0 => specUnion_any u0 r0 z1 z2 z3 W k0 HB0.out
  have himpl : ∀ W u0, RowsAt W u0 r0 → Tab W → Calls Tryd.prog 28 #[.agg #[u0], .string z1, .int .i64 z2, .int .i64 z3] W (SaysNB (uniI r0 z1 z2 z3) (uniOk r0 z1 z2 z3) W) := fun W u0 k0 kT => implUnion_any u0 r0 z1 z2 z3 W k0 kT HB0.out kz2 kz3
  generalize uniI r0 z1 z2 z3 = t at hspec himpl
  generalize uniOk r0 z1 z2 z3 = t2 at hspec himpl
  have hne2 : (t2 != t2) = false := bne_self_eq_false t2
  have HS := Lib.hid hspec
  have HI := Lib.hid himpl
  have hne : (t != t) = false := bne_self_eq_false t
  clear hspec himpl
  have hc2 := E1.out.cell 0 rfl
  go_wp2_with fail
  refine (toOrder_any _ r0 _ (H0.out.below E1.out.below) HB0.out).mono ?_
  rintro e w2 ⟨gw2, Gw2, rfl, hg, ho, hb⟩
  have hE := E1.out.copyR HM0.out hg ho hb; simp only [List.cons_append, List.nil_append] at hE; have E2 := Lib.hid hE; clear hE
  clear hg ho hb
  clear hc2
  go_wp2_with fail
  refine (HS.out _ _ (E2.out.rows 1 rfl)).mono ?_
  rintro e w3 ⟨rfl, hb⟩
  have hE := (E2.out.take 1).step hb; simp only [List.take_succ_cons, List.take_zero] at hE; have E3 := Lib.hid hE; clear hE; clear hb
  have hc3 := E3.out.cell 0 rfl
  go_wp2_with fail
  refine (toOrder_any _ r0 _ (H0.out.below E3.out.below) HB0.out).mono ?_
  rintro e w4 ⟨gw4, Gw4, rfl, hg, ho, hb⟩
  have hE := (E3.out.copyR HM0.out hg ho hb).box 29 (whole gw4 r0.length)
  simp only [List.cons_append, List.nil_append] at hE
  have E4 := Lib.hid hE
  clear hE hg ho hb hc3 E3
  have hc4 := E4.out.cell 2 rfl
  go_wp2_with fail
  refine (HI.out _ _ (E4.out.rows 1 rfl) (HTT.out.below E4.out.below)).mono ?_
  rintro e w5 ⟨rfl, hb⟩
  have E5 := Lib.hid (E4.out.step hb)
  clear hb E4 hc4
  have hc5 := E5.out.cell 2 rfl
  have hc6 := E5.out.cell 0 rfl
  go_wp2_with fail
  go_region_held3 (fun W' : World => W'.cell? ⟨w4.heap.size, 0, none⟩ = some (whole gw4 r0.length) ∧ W'.cell? ⟨w.heap.size, 0, none⟩ = some (.slice A0 r0.length C0)) (first | exact ⟨E7.out.cell 2 rfl, E7.out.cell 0 rfl⟩ | exact ⟨E6.out.cell 2 rfl, E6.out.cell 0 rfl⟩ | exact ⟨E5.out.drew.cell 2 rfl, E5.out.drew.cell 0 rfl⟩) (first | (go_at_call 13; refine (toOrder_any _ r0 _ (H0.out.below E5.out.drew.below) HB0.out).mono ?_; rintro e w6 ⟨gw6, Gw6, rfl, hg, ho, hb⟩; have hE := E5.out.drew.copyR HM0.out hg ho hb; simp only [List.cons_append, List.nil_append] at hE; have E6 := Lib.hid hE; clear hE; have heq := eqOrder_any _ _ r0 r0 w6 (E6.out.rows 1 rfl) (E6.out.rows 3 rfl); rw [decide_eq_true (rfl : r0 = r0)] at heq; have HEQ := Lib.hid heq; clear heq hg ho hb) | (go_at_call 16; refine HEQ.out.mono ?_; clear HEQ; rintro e w7 ⟨rfl, hb⟩; have hE := (E6.out.take 3).step hb; simp only [List.take_succ_cons, List.take_zero] at hE; have E7 := Lib.hid hE; clear hE; clear hb))
  clear hc5 hc6
  go_wp2
  go_ret
  exact ⟨rfl, E7.out.below⟩
end Go.Proofs.YtfgpnmdmbhfdmaaDoor
