/- The model's FunFix. -/
import Derived.Test.YtnniffjjbekodaaDoorFix
namespace Go.Proofs.YtnniffjjbekodaaDoor
open Go.RowKit Go.Deep

/-- The least fixed point, and how many changes lead to it. -/
def fixRun (rows : Rows2) (f : List Int) : List Nat := runF f rows.length (leastI rows).toNat
def fixX (rows : Rows2) (f : List Int) : Int := ((fixRun rows f).getLastD (leastI rows).toNat : Nat)
def FixP (t : Bool) (rows : Rows2) (f : List Int) (w : World) (e : Ending) (w' : World) : Prop :=
  e = .returned (.tuple #[.int .i64 (if t = true then fixX rows f else 0), .int .i64 (if t = true then ((fixRun rows f).length : Int) else 0), .bool t]) ∧ Below w.heap.size w w'

/-- An order in its variable, and a list. -/
def HeldF (w : World) (v vf : Value) (rows : Rows2) (f : List Int) (W : World) : Prop := Held w v rows W ∧ IntsAt W vf f
theorem HeldF.step {w : World} {v vf : Value} {rows : Rows2} {f : List Int} {W W' : World} (h : HeldF w v vf rows f W) (hb : Below W.heap.size W W') : HeldF w v vf rows f W' := ⟨h.1.below hb, h.2.below hb⟩
theorem HeldF.start (w : World) {v vf : Value} {rows : Rows2} {f : List Int} (t : TypeId) (hv : RowsAt w v rows) (hf : IntsAt w vf f) : HeldF w v vf rows f (w.alloc (.cells #[v] t)) :=
  ⟨Held.start w t hv, hf.below ((Below.refl _ w).alloc (Nat.le_refl _) _)⟩

theorem monoB_self {rows : Rows2} {f : List Int} (h : monoB rows rows f = true) : Ok rows ∧ Mono rows rows f ∧ ∃ m : Nat, m < rows.length ∧ leastI rows = m := by
  obtain ⟨h1, h2, h3⟩ := monoB_parts h
  refine ⟨?_, h3, dom_least h1⟩
  unfold domB at h1
  rw [Bool.and_eq_true] at h1
  exact ok_of_valid h1.1

set_option maxRecDepth 100000 in
set_option maxHeartbeats 8000000 in
theorem specFix_any (v vf : Value) (rows : Rows2) (f : List Int) (w : World) (hv : RowsAt w v rows) (hf : IntsAt w vf f) (hn : bulk rows ≤ 1048576) :
    Calls Tryd.prog 28 #[.agg #[v], vf] w (FixP (monoB rows rows f) rows f w) := by
  have hT := HeldF.start w 28 hv hf
  obtain ⟨A, C, rfl, _⟩ := hv
  obtain ⟨Af, Cf, rfl, _⟩ := hf
  have H0 := Lib.hid hT
  have hc0 := hT.1.1
  have hcall := specMono_any _ _ _ rows rows f _ hT.1.2.1 hT.1.2.1 hT.2 hn hn
  clear hT
  cases hm : monoB rows rows f with
  | false =>
    rw [hm] at hcall
    clear hm
    go_enter Tryd.func28, Tryd.ntmps28
    go_wp2_with (go_at_call 17; refine hcall.mono ?_; clear hcall; rintro e w1 ⟨rfl, hb1⟩; have H1 := Lib.hid (H0.out.step hb1); clear hb1)
    refine bodyPost_ret (v := .tuple #[.int .i64 0, .int .i64 0, .bool false]) (by simp [results, Tryd.results28, go_sem]) rfl ?_
    exact ⟨rfl, H1.out.1.2.2.1⟩
  | true =>
    rw [hm] at hcall
    obtain ⟨hok, hmo, m, hml, hme⟩ := monoB_self hm
    have hstart := OnWay.start hok hmo hml hme
    have hX : ∀ pre x, OnWay rows f m pre x → nextF f x = x → fixX rows f = (x : Int) ∧ (fixRun rows f).length = pre.length := fun pre x h he => by
      unfold fixX fixRun
      rw [hme, Int.toNat_natCast, h.done he, ← h.last]
      exact ⟨rfl, rfl⟩
    have HX := Lib.hid hX
    have HS := Lib.hid hstart
    have HOK := Lib.hid hok
    have HMO := Lib.hid hmo
    have hl : ∀ W, RowsAt W (.slice A rows.length C) rows → Calls Tryd.prog 59 #[.agg #[.slice A rows.length C]] W (SaysI (m : Int) W) := fun W h => by
      have := l1Least_any _ rows W h hn
      rw [hme] at this
      exact this
    have HL := Lib.hid hl
    have HLEN := Lib.hid (show f.length = rows.length from hmo.1)
    have hl200 := hok.len.2
    clear hm hok hmo hstart hX hl hme
    go_enter Tryd.func28, Tryd.ntmps28
    go_wp2_with (first | (go_at_call 17; refine hcall.mono ?_; clear hcall; rintro e w1 ⟨rfl, hb1⟩; have H1 := Lib.hid (H0.out.step hb1); have hc1 := H1.out.1.1; clear hb1) | (go_at_call 59; refine (HL.out _ H1.out.1.2.1).mono ?_; rintro e w2 ⟨rfl, hb2⟩; have H2 := Lib.hid (H1.out.step hb2); clear hb2))
    go_loopw [7, 8] (fun xv nv wr => ∃ (pre : List Nat) (x : Nat), xv = .int .i64 x ∧ nv = .int .i64 pre.length ∧ OnWay rows f m pre x ∧ HeldF w (.slice A rows.length C) (.slice Af f.length Cf) rows f wr) (fun _ nv _ => rows.length - (intOf nv).toNat)
    case atStart => exact ⟨[], m, rfl, rfl, HS.out, H2.out⟩
    case round =>
      obtain ⟨pre, x, rfl, rfl, hw, hh⟩ := hrel
      have HW := Lib.hid hw
      have HK := Lib.hid hh
      have hxl : x < f.length := by rw [HLEN.out]; exact hw.lt
      have hxl2 : (x : Int) < (f.length : Int) := by omega
      have hroom := hw.room' HOK.out
      obtain ⟨b, o, rfl, hcf⟩ := hh.2.get hxl
      have e1 : f[x] = (nextF f x : Int) := by rw [← (next_lt HMO.out hw.lt).2, getD_lt 0 hxl]
      rw [e1] at hcf
      have hpl : pre.length < 200 := by omega
      clear hw hh e1
      by_cases he : nextF f x = x
      · have hb1 : ((nextF f x : Int) == (x : Int)) = true := by rw [beq_iff_eq]; omega
        have hb2 : (nextF f x == x) = true := by rw [beq_iff_eq]; exact he
        have hb3 : ((nextF f x : Int) != (x : Int)) = false := by unfold bne; rw [hb1]; rfl
        have hb4 : (nextF f x != x) = false := by unfold bne; rw [hb2]; rfl
        have HE := Lib.hid (HX.out pre x HW.out he)
        clear he
        go_wp2
        refine bodyPost_ret (v := .tuple #[.int .i64 (x : Int), .int .i64 (pre.length : Int), .bool true]) (by simp [results, Tryd.results28, go_sem]) rfl ?_
        exact ⟨by rw [if_pos rfl, if_pos rfl, HE.out.1, HE.out.2], HK.out.1.2.2.1⟩
      · have hb1 : ((nextF f x : Int) == (x : Int)) = false := by rw [beq_eq_false_iff_ne]; omega
        have hb2 : (nextF f x == x) = false := by rw [beq_eq_false_iff_ne]; exact he
        have hb3 : ((nextF f x : Int) != (x : Int)) = true := by unfold bne; rw [hb1]; rfl
        have hb4 : (nextF f x != x) = true := by unfold bne; rw [hb2]; rfl
        have HE := Lib.hid (HW.out.step HOK.out HMO.out he)
        clear he
        go_wp2
        go_roundw
        case rel => exact ⟨pre ++ [nextF f x], nextF f x, rfl, by rw [List.length_append]; go_num, HE.out, HK.out⟩
        case measure => simp [intOf]; omega
end Go.Proofs.YtnniffjjbekodaaDoor
