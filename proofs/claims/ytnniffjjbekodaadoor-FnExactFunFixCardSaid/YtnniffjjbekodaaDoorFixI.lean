/- The program's iterator over the changes of a function (fun.changes). -/
import Derived.Test.YtnniffjjbekodaaDoorFixS
import Derived.Test.YtnniffjjbekodaaDoorElems
namespace Go.Proofs.YtnniffjjbekodaaDoor
open Go.RowKit Go.Deep Go.Shelf
attribute [local go_sem] Oper.semAt_some

/-- A number that is given. -/
def encN (x : Nat) : Array Value := #[.int .i64 ((x : Nat) : Int)]
/-- What a round leaves alone: all that lay there at the beginning, and the function's variable. -/
def KeepF (n₀ Bf : Nat) (A B : World) : Prop := Below n₀ A B ∧ B.heap[Bf]? = A.heap[Bf]?

theorem changes_any (A : Option Addr) (n C : Nat) (x : Int) (w : World) : Calls Tryd.prog 61 #[.slice A n C, .int .i64 x] w fun e w' =>
    e = .returned (.func (.func 91) #[] #[.pointer (some ⟨w.heap.size + 1, 0, none⟩), .pointer (some ⟨w.heap.size, 0, none⟩)]) ∧
    w' = (w.alloc (.cells #[.slice A n C] 64)).alloc (.cells #[.int .i64 x] 3) := by
  go_enter Tryd.func61, Tryd.ntmps61
  go_wp2
  go_ret
  exact ⟨rfl, rfl⟩

set_option maxRecDepth 100000 in
set_option maxHeartbeats 4000000 in
theorem changes1_stops (n n₀ Bk Bf m : Nat) (Af : Option Addr) (Cf : Nat) (rows : Rows2) (f : List Int) (w : World) (hn : 2 ≤ n) (hk : w.cell? ⟨Bk, 0, none⟩ = some (.int .i64 (m : Int))) (hc : w.cell? ⟨Bf, 0, none⟩ = some (.slice Af f.length Cf))
    (hf : ∀ W, Below n₀ w W → IntsAt W (.slice Af f.length Cf) f) (hn₀ : n₀ ≤ w.heap.size) (hok : Ok rows) (hmo : Mono rows rows f) (hst : OnWay rows f m [] m) :
    SeqStopsK Fence.wide n Tryd.prog 91 #[.pointer (some ⟨Bk, 0, none⟩), .pointer (some ⟨Bf, 0, none⟩)] encN (KeepF n₀ Bf) (fun xs => xs = runF f rows.length m) (fun pre => pre <+: runF f rows.length m) (runF f rows.length m).length w := fun l J Jx W hW _ _ hY h0 => by
  have hkW : W.cell? ⟨Bk, 0, none⟩ = some (.int .i64 (m : Int)) := (hW.cell (p := ⟨Bk, 0, none⟩) (cell_lt hk)).trans hk
  have hcW : W.cell? ⟨Bf, 0, none⟩ = some (.slice Af f.length Cf) := (hW.cell (p := ⟨Bf, 0, none⟩) (cell_lt hc)).trans hc
  have HFA := Lib.hid (fun W' (h : KeepF n₀ Bf W W') => (⟨hf W' ((hW.mono hn₀).trans h.1), (World.cell?_of_block h.2).trans hcW⟩ : IntsAt W' (.slice Af f.length Cf) f ∧ W'.cell? ⟨Bf, 0, none⟩ = some (.slice Af f.length Cf)))
  have HY := Lib.hid hY
  have HJ0 := Lib.hid h0
  have HST := Lib.hid hst
  have HOK := Lib.hid hok
  have HMO := Lib.hid hmo
  have HLEN := Lib.hid (show f.length = rows.length from hmo.1)
  clear hY h0 hst hW hf hk hc hcW hok hmo
  refine callsIn_of_wp Tryd.func91 rfl trivial ?_ rfl
  simp only [Tryd.ntmps91, List.size_toArray, List.length_cons, List.length_nil, Nat.reduceAdd, Nat.reduceSub, Array.replicate_succ, Array.replicate_zero, List.push_toArray, List.append_toArray, List.nil_append, List.cons_append]
  gi_wp2
  gi_loopw [4] (fun xv wr => ∃ (pre : List Nat) (x : Nat), xv = .int .i64 x ∧ OnWay rows f m pre x ∧ J pre wr ∧ KeepF n₀ Bf W wr) (fun xv _ => aboveN rows (intOf xv).toNat)
  case atStart => exact ⟨[], m, rfl, HST.out, HJ0.out, Below.refl _ _, rfl⟩
  case round =>
    obtain ⟨pre, x, rfl, hw, hJ, hK⟩ := hrel
    have HW := Lib.hid hw
    have HK := Lib.hid hK
    obtain ⟨hfa, hcb⟩ := HFA.out _ hK
    have hxl : x < f.length := by rw [HLEN.out]; exact hw.lt
    have hxl2 : (x : Int) < (f.length : Int) := by omega
    obtain ⟨b, o, e0, hcf⟩ := hfa.get hxl
    subst e0
    have e1 : f[x] = (nextF f x : Int) := by rw [← (next_lt HMO.out hw.lt).2, getD_lt 0 hxl]
    rw [e1] at hcf
    clear hw hK hfa e1
    by_cases he : nextF f x = x
    · have hb1 : ((nextF f x : Int) == (x : Int)) = true := by rw [beq_iff_eq]; omega
      have hb2 : (nextF f x == x) = true := by rw [beq_iff_eq]; exact he
      have hb3 : ((nextF f x : Int) != (x : Int)) = false := by unfold bne; rw [hb1]; rfl
      have hb4 : (nextF f x != x) = false := by unfold bne; rw [hb2]; rfl
      have HE := Lib.hid (HW.out.done he)
      have HJ := Lib.hid hJ
      clear he hJ
      gi_wp2
      go_end0
      exact ⟨⟨_, rfl⟩, .inl ⟨pre, HE.out.symm, HJ.out⟩⟩
    · have hb1 : ((nextF f x : Int) == (x : Int)) = false := by rw [beq_eq_false_iff_ne]; omega
      have hb2 : (nextF f x == x) = false := by rw [beq_eq_false_iff_ne]; exact he
      have hb3 : ((nextF f x : Int) != (x : Int)) = true := by unfold bne; rw [hb1]; rfl
      have hb4 : (nextF f x != x) = true := by unfold bne; rw [hb2]; rfl
      have hmore := HW.out.more HOK.out he
      have HE := Lib.hid (HW.out.step HOK.out HMO.out he)
      have HD := Lib.hid (HW.out.drop HOK.out he)
      obtain ⟨fn, tmps, assign, body, hy, hR⟩ := HY.out pre (nextF f x) wr hJ hmore.1
      unfold encN at hy
      have HP := Lib.hid hmore.2
      have HRD := Lib.hid hR
      clear hR he hmore hJ
      gi_wp2
      refine ⟨fun _ => by omega, HRD.out.mono ?_⟩
      rintro e W3 (⟨rfl, hJ3, hk3⟩ | ⟨rfl, hJx3⟩)
      · have HJ3 := Lib.hid hJ3
        have HK3 : Hid (KeepF n₀ Bf W W3) := Lib.hid ⟨HK.out.1.trans hk3.1, hk3.2.trans HK.out.2⟩
        obtain ⟨hfa, hcb3⟩ := HFA.out _ HK3.out
        obtain ⟨b', o', e0, hcf3⟩ := hfa.get hxl
        cases e0
        have e1 : f[x] = (nextF f x : Int) := by rw [← (next_lt HMO.out HW.out.lt).2, getD_lt 0 hxl]
        rw [e1] at hcf3
        clear hJ3 hk3 hfa e1 hcf hcb
        gi_wp2
        go_roundw
        case rel => exact ⟨pre ++ [nextF f x], nextF f x, rfl, HE.out, HJ3.out, HK3.out⟩
        case measure => simp [intOf]; exact HD.out
      · have HJ3 := Lib.hid hJx3
        clear hJx3
        gi_wp2
        refine bodyPost_ret (results_none rfl _ _ _) rfl ?_
        exact ⟨⟨_, rfl⟩, .inr ⟨pre ++ [nextF f x], HP.out, HJ3.out⟩⟩
end Go.Proofs.YtnniffjjbekodaaDoor
