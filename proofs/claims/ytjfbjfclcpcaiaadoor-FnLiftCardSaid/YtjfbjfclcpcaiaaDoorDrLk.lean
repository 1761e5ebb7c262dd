/- One domain drawn (DrawDomainLift). -/
import Derived.Test.YtjfbjfclcpcaiaaDoorDrXk
namespace Go.Proofs.YtjfbjfclcpcaiaaDoor
open Go.RowKit Go.Deep Go.Shelf

/-- What a draw answers: O an order, L a list, I a number. -/
def GotO (w : World) (e : Ending) (w' : World) : Prop :=
  ∃ (r0 : Rows2) (u0 : Value), e = .returned (.agg #[u0]) ∧ OwnR 3 42 w' u0 r0.length (rowsF r0) w.heap.size w'.heap.size ∧ bulk r0 ≤ 100000 ∧ Below w.heap.size w w'

set_option maxRecDepth 100000 in
set_option maxHeartbeats 8000000 in
theorem drawDLift_any (v : Value) (w : World) (hv : CodeAt w.heap.size w v) : Calls Tryd.prog 16 #[v] w (GotO w) := by
  obtain ⟨wB, hwB⟩ : ∃ wB : World, wB = w.alloc (.cells #[.slice none 0 0] 25) := ⟨_, rfl⟩
  have hres := St.start1 w 25 (.slice none 0 0)
  rw [← hwB] at hres
  have HRES := Lib.hid hres
  have HSZ := Lib.hid (show w.heap.size + 1 ≤ wB.heap.size by have := hres.lt 0 rfl; omega)
  have hopen := l6Open_any v wB ((hv.below hres.below).wider hres.below.size)
  have hdom := fun W v' (h : RdAt wB.heap.size v' 0 W) => (show Calls Tryd.prog 66 #[.pointer (some ⟨wB.heap.size, 0, none⟩), .int .i64 6] W (OrdE 2048 wB.heap.size v' 0 W) from l91Domain_any wB.heap.size v' 0 6 W h (by omega) (by omega) (by omega))
  clear hv hres
  go_enter Tryd.func16, Tryd.ntmps16
  go_upto_region 1 with fail
  rw [← hwB]
  clear hwB
  go_wp2_with (first | (go_at_call 67; refine hopen.mono ?_; clear hopen; rintro e W0 ⟨v', rfl, hr, hb, hz⟩; have HC := Lib.hid (hr.code.back hb); have S0 := Lib.hid (St.reader hr hb hz); clear hr hb hz) | (go_at_call 66; refine (hdom W0 v' (S0.out.rdAt HC.out 0 rfl)).mono ?_; clear hdom; rintro e W1 ⟨r0, u0, q1, rfl, hq1, hd, ho, hk0⟩; have S1 := Lib.hid (S0.out.drawnR 0 rfl hd ho); obtain ⟨a0, C0, rfl⟩ := ho.form; have hr0 := (HRES.out.step S1.out.below).cell 0 rfl; have hf0 := ((HRES.out.step S1.out.below).boxed 0 rfl).frozen; clear hd ho))
  refine bodyPost_ret (v := .agg #[.slice a0 r0.length C0]) ?_ rfl ?_
  · simp [results, Tryd.results16, go_sem, hr0]
  · have HL := fun y0 : Value => (Low.refl w.heap.size wB.heap.size W1).set (b := w.heap.size) (o := 0) (x := y0) (by have := HSZ.out; omega) (by have := HSZ.out; omega)
    exact ⟨r0, _, rfl, ((HL _).holds S1.out).ownRW 1 rfl (by have := HSZ.out; omega), hk0, below_trans2 HRES.out.below S1.out.below (HL _).below⟩
end Go.Proofs.YtjfbjfclcpcaiaaDoor
