/- The program's projection pairs: isPair, projectionOf, PairIs. -/
import Derived.Test.YtpjkmiinpjhdnaaDoorPairIsS
import Derived.Test.YtpjkmiinpjhdnaaDoorFunType
namespace Go.Proofs.YtpjkmiinpjhdnaaDoor
open Go.RowKit Go.Deep Go.Shelf

/-- The four fields of a struct in a variable of its own. -/
def Four (r : Nat) (a b c d : Value) (t : TypeId) (W : World) : Prop := W.heap[r]? = some (.cells #[a, b, c, d] t (0, 0))
theorem Four.lt {r : Nat} {a b c d : Value} {t : TypeId} {W : World} (h : Four r a b c d t W) : r < W.heap.size := by
  obtain ⟨hlt, _⟩ := Array.getElem?_eq_some_iff.1 h
  exact hlt
theorem Four.below {r : Nat} {a b c d : Value} {t : TypeId} {W W' : World} (h : Four r a b c d t W) (hb : Below W.heap.size W W') : Four r a b c d t W' := by
  unfold Four
  rw [hb.block r h.lt]
  exact h
theorem Four.cells {r : Nat} {a b c d : Value} {t : TypeId} {W : World} (h : Four r a b c d t W) :
    W.cell? ⟨r, 0, none⟩ = some a ∧ W.cell? ⟨r, 1, none⟩ = some b ∧ W.cell? ⟨r, 2, none⟩ = some c ∧ W.cell? ⟨r, 3, none⟩ = some d ∧ ∀ o, W.frozen? ⟨r, o, none⟩ = false :=
  ⟨by rw [cell_of_row W r _ _ _ _ h]; rfl, by rw [cell_of_row W r _ _ _ _ h]; rfl, by rw [cell_of_row W r _ _ _ _ h]; rfl, by rw [cell_of_row W r _ _ _ _ h]; rfl, fun o => frozen_of_row W r o _ _ h⟩
theorem Four.new (W : World) (a b c d : Value) (t : TypeId) : Four W.heap.size a b c d t (W.alloc (.cells #[a, b, c, d] t)) := heap_alloc_new _ _

/-- While isPair runs. -/
structure IP (w : World) (p p' : Nat) (rows' : Rows2) (vf vg : Value) (f g : List Int) (W : World) : Prop where
  box : Four w.heap.size (.pointer (some ⟨p, 0, none⟩)) (.pointer (some ⟨p', 0, none⟩)) vf vg 65 W
  f : IntsAt W vf f
  g : IntsAt W vg g
  grid : GridAt W p' (gridF rows')
  below : Below w.heap.size w W
theorem IP.step {w : World} {p p' : Nat} {rows' : Rows2} {vf vg : Value} {f g : List Int} {W W' : World} (h : IP w p p' rows' vf vg f g W) (hb : Below W.heap.size W W') : IP w p p' rows' vf vg f g W' :=
  ⟨h.box.below hb, h.f.below hb, h.g.below hb, h.grid.below hb h.grid.lt, h.below.trans (hb.mono h.below.size)⟩

set_option maxRecDepth 100000 in
set_option maxHeartbeats 8000000 in
theorem isPair_any (p p' : Nat) (vf vg : Value) (rows' : Rows2) (f g : List Int) (w : World) (hok : Ok rows') (hG : GridAt w p' (gridF rows')) (hf : IntsAt w vf f) (hg : IntsAt w vg g)
    (hfl : f.length ≤ 200) (hgl : g.length = rows'.length) (hrf : ∀ i, i < f.length → f.getD i 0 = (atN f i : Int) ∧ atN f i < rows'.length) (hrg : ∀ i, i < g.length → g.getD i 0 = (atN g i : Int) ∧ atN g i < f.length) :
    Calls Tryd.prog 44 #[.agg #[.pointer (some ⟨p, 0, none⟩), .pointer (some ⟨p', 0, none⟩), vf, vg]] w (SaysN (pairI rows' f g) w) := by
  have b1 := (Below.refl w.heap.size w).alloc (Nat.le_refl _) (.cells #[.pointer (some ⟨p, 0, none⟩), .pointer (some ⟨p', 0, none⟩), vf, vg] 65)
  have hB : IP w p p' rows' vf vg f g (w.alloc (.cells #[.pointer (some ⟨p, 0, none⟩), .pointer (some ⟨p', 0, none⟩), vf, vg] 65)) :=
    ⟨Four.new _ _ _ _ _ _, hf.below b1, hg.below b1, hG.below b1 hG.lt, b1⟩
  have hle := hok.len.2
  have hbit : ∀ a b, a < rows'.length → (gridF rows' a).testBit b = upB rows' a b := fun a b ha => upB_grid hok ha
  obtain ⟨Af, Cf, rfl, hCf, hmf, _⟩ := hf
  obtain ⟨Ag, Cg, rfl, hCg, hmg, _⟩ := hg
  have HB := Lib.hid hB
  have HRF := Lib.hid hrf
  have HRG := Lib.hid hrg
  have HL := Lib.hid hgl
  have HBIT := Lib.hid hbit
  have hg200 : g.length ≤ 200 := by omega
  obtain ⟨e0, e1, e2, e3, _⟩ := hB.box.cells
  clear b1 hB hG hrf hrg hgl hok hbit hmf hmg
  go_enter Tryd.func44, Tryd.ntmps44
  go_wp2
  clear e0 e1 e2 e3
  go_loopw [3, 4, 10] (fun _ _ kv wr => ∃ k : Nat, k ≤ f.length ∧ kv = .int .i64 k ∧ (∀ q, q < k → atN g (atN f q) = q) ∧ IP w p p' rows' (.slice Af f.length Cf) (.slice Ag g.length Cg) f g wr) (fun _ _ kv _ => f.length - (intOf kv).toNat)
  case atStart => exact ⟨0, Nat.zero_le _, rfl, fun _ h => absurd h (Nat.not_lt_zero _), HB.out⟩
  case round =>
    obtain ⟨i, hi, rfl, hp, hh⟩ := hrel
    have HP := Lib.hid hp
    have HK := Lib.hid hh
    obtain ⟨e0, e1, e2, e3, _⟩ := hh.box.cells
    clear hp HB
    by_cases hlt : i < f.length
    · obtain ⟨bf, o_f, rfl, hcf⟩ := hh.f.get hlt
      have hfa := HRF.out i hlt
      obtain ⟨a, ha⟩ : ∃ a : Nat, atN f i = a := ⟨_, rfl⟩
      rw [ha, getD_lt 0 hlt] at hfa
      rw [hfa.1] at hcf
      have hal : a < g.length := by have := HL.out; omega
      have hal2 : (a : Int) < (g.length : Int) := by omega
      obtain ⟨bg, o_g, rfl, hcg⟩ := hh.g.get hal
      have hgb := HRG.out a hal
      obtain ⟨b, hb⟩ : ∃ b : Nat, atN g a = b := ⟨_, rfl⟩
      rw [hb, getD_lt 0 hal] at hgb
      rw [hgb.1] at hcg
      have hge : atN g (atN f i) = b := by rw [ha, hb]
      clear hh hfa hgb ha hb
      by_cases hbi : b = i
      · have hb1 : ((b : Int) == (i : Int)) = true := by rw [beq_iff_eq]; omega
        have hb2 : (b == i) = true := by rw [beq_iff_eq]; exact hbi
        have hb3 : ((b : Int) != (i : Int)) = false := by unfold bne; rw [hb1]; rfl
        have hb4 : (b != i) = false := by unfold bne; rw [hb2]; rfl
        have HQ := Lib.hid (hge.trans hbi)
        clear hge hbi
        go_wp2
        go_roundw
        case rel =>
          refine ⟨i + 1, by omega, by go_num, fun q hq => ?_, HK.out⟩
          by_cases e : q = i
          · subst e; exact HQ.out
          · exact HP.out q (by omega)
        case measure => simp [intOf]; omega
      · have hb1 : ((b : Int) == (i : Int)) = false := by rw [beq_eq_false_iff_ne]; omega
        have hb2 : (b == i) = false := by rw [beq_eq_false_iff_ne]; exact hbi
        have hb3 : ((b : Int) != (i : Int)) = true := by unfold bne; rw [hb1]; rfl
        have hb4 : (b != i) = true := by unfold bne; rw [hb2]; rfl
        have HQ := Lib.hid (pairI_bad1 (rows' := rows') (g := g) hlt (by rw [hge]; exact hbi))
        clear hge hbi
        go_wp2
        go_ret
        exact ⟨by rw [HQ.out]; rfl, HK.out.below⟩
    · obtain rfl : i = f.length := by omega
      clear hh
      go_wp2
      clear e0 e1 e2 e3
      go_loopw [5, 6, 26] (fun _ _ kv wr => ∃ k : Nat, k ≤ g.length ∧ kv = .int .i64 k ∧ (∀ q, q < k → upB rows' (atN f (atN g q)) q = true) ∧ IP w p p' rows' (.slice Af f.length Cf) (.slice Ag g.length Cg) f g wr) (fun _ _ kv _ => g.length - (intOf kv).toNat)
      case atStart => exact ⟨0, Nat.zero_le _, rfl, fun _ h => absurd h (Nat.not_lt_zero _), HK.out⟩
      case round =>
        obtain ⟨k, hk, rfl, hp, hh⟩ := hrel
        have HP2 := Lib.hid hp
        have HK2 := Lib.hid hh
        obtain ⟨e0, e1, e2, e3, _⟩ := hh.box.cells
        clear hp HK
        by_cases hkl : k < g.length
        · obtain ⟨bg, o_g, rfl, hcg⟩ := hh.g.get hkl
          have hga := HRG.out k hkl
          obtain ⟨a, ha⟩ : ∃ a : Nat, atN g k = a := ⟨_, rfl⟩
          rw [ha, getD_lt 0 hkl] at hga
          rw [hga.1] at hcg
          have hal : a < f.length := hga.2
          have hal2 : (a : Int) < (f.length : Int) := by omega
          obtain ⟨bf, o_f, rfl, hcf⟩ := hh.f.get hal
          have hfb := HRF.out a hal
          obtain ⟨b, hb⟩ : ∃ b : Nat, atN f a = b := ⟨_, rfl⟩
          rw [hb, getD_lt 0 hal] at hfb
          rw [hfb.1] at hcf
          have hge : atN f (atN g k) = b := by rw [ha, hb]
          have hbl := hfb.2
          have hcall := fun d os => gbelow_any p' (gridF rows') b k b k _ (HK2.out.grid.below (below_regrown wr d os) HK2.out.grid.lt) rfl (by omega) rfl (by omega)
          have hq1 := fun d os => cell_regrown e1 d os
          have hq2 := fun d os => cell_regrown e2 d os
          have hq3 := fun d os => cell_regrown hcf d os
          have hbk : (gridF rows' b).testBit k = upB rows' b k := HBIT.out b k hbl
          rw [hbk] at hcall
          clear hh hga hfb ha hb hbk
          cases hup : upB rows' b k with
          | true =>
            simp only [hup] at hcall
            have HU := Lib.hid (show upB rows' (atN f (atN g k)) k = true by rw [hge]; exact hup)
            clear hup hge
            go_wp2
            refine wp_region_quiet_below (by kernel_rfl) (by kernel_rfl) ?_
            repeat (go_big_quiet_step (first | (go_at_call 56; exact Calls.regrown_of (hcall _ _))))
            refine wpQuiet_nil ?_
            intro _ hw'
            obtain ⟨⟨dq, osq⟩, hw''⟩ := hw'
            subst hw''
            clear hcall hq1 hq2 hq3
            go_wp2
            go_roundw
            case rel =>
              refine ⟨k + 1, by omega, by go_num, fun q hq => ?_, HK2.out.step (below_regrown wr dq osq)⟩
              by_cases e : q = k
              · subst e; exact HU.out
              · exact HP2.out q (by omega)
            case measure => simp [intOf]; omega
          | false =>
            simp only [hup] at hcall
            have HU := Lib.hid (pairI_bad2 (f := f) hkl (show upB rows' (atN f (atN g k)) k = false by rw [hge]; exact hup))
            clear hup hge
            go_wp2
            refine wp_region_quiet_below (by kernel_rfl) (by kernel_rfl) ?_
            repeat (go_big_quiet_step (first | (go_at_call 56; exact Calls.regrown_of (hcall _ _))))
            refine wpQuiet_nil ?_
            intro _ hw'
            obtain ⟨⟨dq, osq⟩, hw''⟩ := hw'
            subst hw''
            clear hcall hq1 hq2 hq3
            go_wp2
            go_ret
            exact ⟨by rw [HU.out]; rfl, (HK2.out.step (below_regrown wr dq osq)).below⟩
        · obtain rfl : k = g.length := by omega
          have HQ := Lib.hid (pairI_yes (rows' := rows') (f := f) (g := g) ⟨HP.out, HP2.out⟩)
          clear hh
          go_wp2
          go_ret
          exact ⟨by rw [HQ.out]; rfl, HK2.out.below⟩

end Go.Proofs.YtpjkmiinpjhdnaaDoor
