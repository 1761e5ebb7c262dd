/- The law of FunFix: model and program answer alike, and the arguments are left alone. -/
import Derived.Test.YtnniffjjbekodaaDoorLawFM
import Derived.Test.YtnniffjjbekodaaDoorFixF
namespace Go.Proofs.YtnniffjjbekodaaDoor
open Go.RowKit Go.Deep

/-- What FunFix answers: two numbers and a Boolean; nothing that was there has turned. -/
def Says3 (a n : Int) (t : Bool) (w : World) (e : Ending) (w' : World) : Prop := e = .returned (.tuple #[.int .i64 a, .int .i64 n, .bool t]) ∧ Below w.heap.size w w'
theorem fix_both (rows : Rows2) (f : List Int) (hn : bulk rows ≤ 1048576) : ∃ (a n : Int) (t : Bool),
    (∀ W u uf, RowsAt W u rows → IntsAt W uf f → Calls Tryd.prog 28 #[.agg #[u], uf] W (Says3 a n t W)) ∧
    (∀ W u uf, RowsAt W u rows → IntsAt W uf f → Tab W → Calls Tryd.prog 29 #[.agg #[u], uf] W (Says3 a n t W)) := by
  cases hm : monoB rows rows f with
  | false =>
    refine ⟨_, _, false, fun W u uf h hf => ?_, fun W u uf h hf hT => implFix_no u uf rows f W h hf hT hn hm⟩
    have := specFix_any u uf rows f W h hf hn
    rw [hm] at this
    exact this
  | true =>
    refine ⟨_, _, true, fun W u uf h hf => ?_, fun W u uf h hf hT => implFix_yes u uf rows f W h hf hT hn hm⟩
    have := specFix_any u uf rows f W h hf hn
    rw [hm] at this
    exact this

/-- What holds while a law over an order and a list runs. -/
structure LX (w : World) (v vf : Value) (rows : Rows2) (f : List Int) (W : World) : Prop where
  hf : HeldF w v vf rows f W
  tab : Tab W
theorem LX.step {w : World} {v vf : Value} {rows : Rows2} {f : List Int} {W W' : World} (h : LX w v vf rows f W) (hb : Below W.heap.size W W') : LX w v vf rows f W' := ⟨h.hf.step hb, h.tab.below hb⟩
theorem LX.drew {w : World} {v vf : Value} {rows : Rows2} {f : List Int} {W : World} (h : LX w v vf rows f W) : LX w v vf rows f W.drew := h.step ⟨rfl, rfl, rfl, Nat.le_refl _, fun _ _ => rfl⟩
theorem LX.laid {w : World} {v vf : Value} {rows : Rows2} {f : List Int} {W : World} (h : LX w v vf rows f W) (o : Obj) : LX w v vf rows f (W.alloc o) := h.step ((Below.refl _ W).alloc (Nat.le_refl _) _)
theorem LX.below {w : World} {v vf : Value} {rows : Rows2} {f : List Int} {W : World} (h : LX w v vf rows f W) : Below w.heap.size w W := h.hf.1.2.2.1
theorem LX.r0 {w : World} {v vf : Value} {rows : Rows2} {f : List Int} {W : World} (h : LX w v vf rows f W) : RowsAt W v rows := h.hf.1.2.1
theorem LX.c0 {w : World} {v vf : Value} {rows : Rows2} {f : List Int} {W : World} (h : LX w v vf rows f W) : W.cell? ⟨w.heap.size, 0, none⟩ = some v := h.hf.1.1
theorem LX.start (w : World) {v vf : Value} {rows : Rows2} {f : List Int} (t : TypeId) (hv : RowsAt w v rows) (hf : IntsAt w vf f) (hT : Tab w) : LX w v vf rows f (w.alloc (.cells #[v] t)) :=
  ⟨HeldF.start w t hv hf, hT.below ((Below.refl _ w).alloc (Nat.le_refl _) _)⟩

set_option maxRecDepth 100000 in
set_option maxHeartbeats 8000000 in
theorem law_fix (v vf : Value) (rows : Rows2) (f : List Int) (w : World) (hv : RowsAt w v rows) (hf : IntsAt w vf f) (hT : Tab w) :
    Calls Tryd.prog 5 #[.agg #[v], vf] w (SaysN true w) := by
  have h0 := LX.start w 24 hv hf hT
  obtain ⟨A, C, rfl, _⟩ := hv
  obtain ⟨Af, Cf, rfl, _⟩ := hf
  have L0 := Lib.hid h0
  have hc0 := h0.c0
  clear h0 hT
  by_cases hfl : f.length ≤ 1048576
  · have hfl2 : ¬ (1048576 : Int) < (f.length : Int) := by omega
    have hsz := szOrder_any _ rows 1048576 _ L0.out.r0 (by omega) (by omega)
    have hdr : ∀ W : World, W.drew.heap = W.heap := fun _ => rfl
    go_enter Tryd.func5, Tryd.ntmps5
    go_wp2_with (go_at_call 16; refine hsz.mono ?_; clear hsz; rintro e w1 ⟨⟨r, hr, rfl⟩, hb1⟩; have L1 := Lib.hid (L0.out.step hb1); have hc1 := L1.out.c0; clear hb1)
    · go_ret
      exact ⟨rfl, L1.out.below⟩
    · have hr2 : bulk rows ≤ 1048576 := by rcases hr with h | h <;> omega
      have HR := Lib.hid hr2
      have HM := Lib.hid (maxLen_ge hr2)
      have HMF := Lib.hid (maxLen_ge hfl)
      obtain ⟨a, n, t, hspec, himpl⟩ := fix_both rows f hr2
      have HS := Lib.hid hspec
      have HI := Lib.hid himpl
      have ha : (a != a) = false := bne_self_eq_false a
      have hn : (n != n) = false := bne_self_eq_false n
      have ht : (t != t) = false := bne_self_eq_false t
      clear hr hr2 hspec himpl L0 hc0
      go_wp2_with fail
      refine (toOrder_any _ rows _ L1.out.r0 HR.out).mono ?_
      rintro e w2 ⟨g2, G2, rfl, hg, ho, hb⟩
      have L2 := Lib.hid (L1.out.step hb)
      have R2 := Lib.hid (ho.at HM.out)
      clear hg ho hb hc1
      go_wp2_with fail
      refine (toIntS_any _ f _ L2.out.hf.2 hfl).mono ?_
      rintro e w3 ⟨rfl, ho, hzz, hb⟩
      clear hzz
      have L3 := Lib.hid (L2.out.step hb)
      have R3 := Lib.hid (R2.out.below hb)
      have F3 := Lib.hid (ho.at HMF.out)
      clear ho hb
      go_wp2_with fail
      refine (HS.out _ _ _ R3.out F3.out).mono ?_
      rintro e w4 ⟨rfl, hb⟩
      have L4 := Lib.hid (L3.out.step hb)
      have hc4 := L4.out.c0
      clear hb
      go_wp2_with fail
      refine (toOrder_any _ rows _ L4.out.r0 HR.out).mono ?_
      rintro e w9 ⟨g9, G9, rfl, hg, ho, hb⟩
      have L9 := Lib.hid ((L4.out.step hb).laid (.cells #[whole g9 rows.length] 28))
      have V9 := Lib.hid (Var.new 28 (ho.at HM.out))
      clear hg ho hb hc4
      go_wp2_with fail
      refine (toIntS_any _ f _ L9.out.hf.2 hfl).mono ?_
      rintro e w11 ⟨rfl, ho, hzz, hb⟩
      clear hzz
      have L11 := Lib.hid (L9.out.step hb)
      have V11 := Lib.hid (V9.out.step hb)
      have f11 := ho.at HMF.out
      rw [World.size_alloc] at f11
      have F11 := Lib.hid f11
      have hx0 := V11.out.1
      clear f11 ho hb
      go_wp2_with fail
      refine (HI.out _ _ _ V11.out.2 F11.out L11.out.tab).mono ?_
      rintro e w12 ⟨rfl, hb⟩
      have L12 := Lib.hid (L11.out.step hb)
      have V12 := Lib.hid (V11.out.step hb)
      have F12 := Lib.hid (F11.out.below hb)
      have hy0 := V12.out.1
      have hz0 := L12.out.c0
      have hs2 : w.heap.size < w12.heap.size := cell_lt hz0
      have hs3 : w9.heap.size < w12.heap.size := cell_lt hy0
      clear hb hx0
      go_wp2
      go_region_with (first | (go_at_call_of 18 (Value.slice A (List.length rows) C); refine (toOrder_any _ rows _ L12.out.drew.r0 HR.out).mono ?_; rintro e w14 ⟨g0, G, rfl, hg, ho, hb⟩; have L14 := Lib.hid (L12.out.drew.step hb); have V14 := Lib.hid ((V12.out.step (below_drew w12 _)).step hb); have F14 := Lib.hid ((F12.out.below (below_drew w12 _)).below hb); have heq := eqOrder_any _ _ rows rows _ V14.out.2 (ho.at HM.out); rw [decide_eq_true (rfl : rows = rows)] at heq; have HEQ := Lib.hid heq; have hy1 := V14.out.1; clear heq hg ho hb) | (go_at_call 21; refine HEQ.out.mono ?_; clear HEQ; rintro e w15 ⟨rfl, hb⟩; have L15 := Lib.hid (L14.out.step hb); have F15 := Lib.hid (F14.out.below hb); clear hb))
      all_goals
        go_wp2_with (first | (go_at_call 19; refine (toIntS_any _ f _ L15.out.hf.2 hfl).mono ?_; rintro e w18 ⟨rfl, ho, hzz, hb⟩; clear hzz; have L18 := Lib.hid (L15.out.step hb); have heq := eqIntS_any _ _ f f _ (F15.out.below hb) (ho.at HMF.out); rw [decide_eq_true (rfl : f = f)] at heq; clear ho hb) | (go_at_call 22; refine heq.mono ?_; clear heq; rintro e w19 ⟨rfl, q, rfl⟩; have L19 := Lib.hid (L18.out.step (below_drewN' _ q _))))
        go_ret
        exact ⟨rfl, L19.out.below⟩
  · have hfl2 : (1048576 : Int) < (f.length : Int) := by omega
    go_enter Tryd.func5, Tryd.ntmps5
    go_wp2
    go_ret
    exact ⟨rfl, L0.out.below⟩
end Go.Proofs.YtnniffjjbekodaaDoor
