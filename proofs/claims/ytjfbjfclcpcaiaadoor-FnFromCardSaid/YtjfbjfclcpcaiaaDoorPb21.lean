/- The least fixed point of a monotone function, in numbers: what is met on the way from the least element on. -/
import Derived.Test.YtjfbjfclcpcaiaaDoorPb20
import Derived.Test.YtjfbjfclcpcaiaaDoorPb8
import Derived.Test.YtjfbjfclcpcaiaaDoorPb12
import Derived.Deep.RegionLaw
import Derived.Deep.AppendLies
import Derived.RangeFuncBox
import Derived.Test.YtjfbjfclcpcaiaaDoorPb16
import Derived.Test.YtjfbjfclcpcaiaaDoorPb13
import Derived.Test.YtjfbjfclcpcaiaaDoorPb19
import Derived.Test.YtjfbjfclcpcaiaaDoorPb15
import Derived.Test.YtjfbjfclcpcaiaaDoorPb1
namespace Go.Proofs.YtjfbjfclcpcaiaaDoor
open Go.RowKit Go.Deep

/-- What the function has for x. -/
def nextF (f : List Int) (x : Nat) : Nat := (f.getD x 0).toNat
/-- What is met from x on, at most k elements. -/
def runF (f : List Int) : Nat → Nat → List Nat
  | 0, _ => []
  | k + 1, x => if nextF f x = x then [] else nextF f x :: runF f k (nextF f x)
theorem runF_fixed {f : List Int} {x : Nat} (h : nextF f x = x) : ∀ k, runF f k x = []
  | 0 => rfl
  | k + 1 => by unfold runF; rw [if_pos h]
theorem runF_step {f : List Int} {x k : Nat} (h : nextF f x ≠ x) (hk : 0 < k) : runF f k x = nextF f x :: runF f (k - 1) (nextF f x) := by
  obtain ⟨j, rfl⟩ : ∃ j, k = j + 1 := ⟨k - 1, by omega⟩
  rw [Nat.add_sub_cancel]
  show (if nextF f x = x then [] else _) = _
  rw [if_neg h]

theorem countP_lt {l : List Nat} {p q : Nat → Bool} (h : ∀ x ∈ l, p x = true → q x = true) {a : Nat} (ha : a ∈ l) (hq : q a = true) (hp : p a = false) : l.countP p < l.countP q := by
  induction l with
  | nil => cases ha
  | cons y l ih =>
    have hle : l.countP p ≤ l.countP q := List.countP_mono_left fun x hx => h x (List.mem_cons_of_mem _ hx)
    rw [List.countP_cons, List.countP_cons]
    by_cases e : y = a
    · subst e
      rw [hq, hp]
      simp
      omega
    · have ha' : a ∈ l := by
        rcases List.mem_cons.1 ha with h1 | h1
        · exact absurd h1.symm e
        · exact h1
      have := ih (fun x hx => h x (List.mem_cons_of_mem _ hx)) ha'
      cases hy : p y with
      | false => simp; omega
      | true => rw [h y (by simp) hy]; simp; omega

/-- How many elements are above x. -/
def aboveN (rows : Rows2) (x : Nat) : Nat := (List.range rows.length).countP fun k => (gridF rows x).testBit k

/-- An element on the way: what it goes to is above it; the way behind it is no longer than what is left. -/
structure OnWay (rows : Rows2) (f : List Int) (x0 : Nat) (pre : List Nat) (x : Nat) : Prop where
  lt : x < rows.length
  up : (gridF rows x).testBit (nextF f x) = true
  room : aboveN rows x + pre.length ≤ rows.length
  run : runF f rows.length x0 = pre ++ runF f (rows.length - pre.length) x
  last : x = pre.getLastD x0

theorem mono_up {rows : Rows2} {f : List Int} (hok : Ok rows) (hm : Mono rows rows f) {a b : Nat} (h : (gridF rows a).testBit b = true) : (gridF rows (nextF f a)).testBit (nextF f b) = true := by
  obtain ⟨ha, hb⟩ := hok.bit_lt h
  have h1 := hm.2.2 a b ha hb (by rw [hok.up ha]; exact h)
  have hfa := hm.2.1 (f.getD a 0) (by rw [getD_lt 0 (by rw [hm.1]; exact ha)]; exact List.getElem_mem _)
  have hfb := hm.2.1 (f.getD b 0) (by rw [getD_lt 0 (by rw [hm.1]; exact hb)]; exact List.getElem_mem _)
  unfold nextF
  rw [← hok.up (by omega), Int.toNat_of_nonneg hfb.1]
  exact h1
theorem next_lt {rows : Rows2} {f : List Int} (hm : Mono rows rows f) {x : Nat} (hx : x < rows.length) : nextF f x < rows.length ∧ f.getD x 0 = (nextF f x : Int) := by
  have hfa := hm.2.1 (f.getD x 0) (by rw [getD_lt 0 (by rw [hm.1]; exact hx)]; exact List.getElem_mem _)
  unfold nextF
  omega

theorem OnWay.start {rows : Rows2} {f : List Int} (hok : Ok rows) (hm : Mono rows rows f) {m : Nat} (hml : m < rows.length) (hme : leastI rows = m) : OnWay rows f m [] m := by
  refine ⟨hml, ?_, ?_, by simp, rfl⟩
  · have h1 := next_lt hm hml
    have h4 : rows[m].length = rows.length := by
      unfold leastI at hme
      cases hq : (List.range rows.length).find? (fun i => (rows.getD i []).length == rows.length) with
      | none => rw [hq] at hme; simp at hme
      | some i =>
        rw [hq] at hme
        have hi : i = m := by have : (i : Int) = (m : Int) := hme; omega
        have h3 := List.find?_some hq
        rw [hi, getD_at [] hml] at h3
        simpa using h3
    rw [(full_iff hok hml).1 h4, testBit_allF, decide_eq_true_iff]
    exact h1.1
  · unfold aboveN
    have := List.countP_le_length (p := fun k => (gridF rows m).testBit k) (l := List.range rows.length)
    simp at this ⊢
    exact this
theorem OnWay.room' {rows : Rows2} {f : List Int} {x0 x : Nat} {pre : List Nat} (hok : Ok rows) (h : OnWay rows f x0 pre x) : 0 < rows.length - pre.length := by
  have h1 := h.room
  have h2 : 0 < aboveN rows x := by
    unfold aboveN
    rw [List.countP_pos_iff]
    exact ⟨x, List.mem_range.2 h.lt, hok.own x h.lt⟩
  omega
theorem OnWay.drop {rows : Rows2} {f : List Int} {x0 x : Nat} {pre : List Nat} (hok : Ok rows) (h : OnWay rows f x0 pre x) (hne : nextF f x ≠ x) : aboveN rows (nextF f x) < aboveN rows x := by
  unfold aboveN
  exact countP_lt (fun k _ hk => hok.trans x (nextF f x) h.lt h.up k hk) (List.mem_range.2 h.lt) (hok.own x h.lt) (hok.anti x (nextF f x) h.lt h.up hne)
theorem OnWay.more {rows : Rows2} {f : List Int} {x0 x : Nat} {pre : List Nat} (hok : Ok rows) (h : OnWay rows f x0 pre x) (hne : nextF f x ≠ x) : pre.length < (runF f rows.length x0).length ∧ pre ++ [nextF f x] <+: runF f rows.length x0 := by
  have e := h.run
  rw [runF_step hne (h.room' hok)] at e
  rw [e]
  exact ⟨by simp, ⟨runF f (rows.length - pre.length - 1) (nextF f x), by simp⟩⟩
theorem OnWay.step {rows : Rows2} {f : List Int} {x0 x : Nat} {pre : List Nat} (hok : Ok rows) (hm : Mono rows rows f) (h : OnWay rows f x0 pre x) (hne : nextF f x ≠ x) : OnWay rows f x0 (pre ++ [nextF f x]) (nextF f x) := by
  have hnl := next_lt hm h.lt
  have hroom := h.room' hok
  refine ⟨hnl.1, mono_up hok hm h.up, ?_, ?_, by simp⟩
  · have hlt : aboveN rows (nextF f x) < aboveN rows x := by
      unfold aboveN
      exact countP_lt (fun k _ hk => hok.trans x (nextF f x) h.lt h.up k hk) (List.mem_range.2 h.lt) (hok.own x h.lt) (hok.anti x (nextF f x) h.lt h.up hne)
    have := h.room
    simp
    omega
  · rw [h.run, runF_step hne hroom]
    simp
    rw [Nat.sub_sub]
theorem OnWay.done {rows : Rows2} {f : List Int} {x0 x : Nat} {pre : List Nat} (h : OnWay rows f x0 pre x) (he : nextF f x = x) : runF f rows.length x0 = pre := by
  rw [h.run, runF_fixed he, List.append_nil]
end Go.Proofs.YtjfbjfclcpcaiaaDoor

/- The model's FunFix. -/
namespace Go.Proofs.YtjfbjfclcpcaiaaDoor
open Go.RowKit Go.Deep

/-- The least fixed point, and how many changes lead to it. -/
def fixRun (rows : Rows2) (f : List Int) : List Nat := runF f rows.length (leastI rows).toNat
def fixX (rows : Rows2) (f : List Int) : Int := ((fixRun rows f).getLastD (leastI rows).toNat : Nat)
def FixP (t : Bool) (rows : Rows2) (f : List Int) (w : World) (e : Ending) (w' : World) : Prop :=
  e = .returned (.tuple #[.int .i64 (if t = true then fixX rows f else 0), .int .i64 (if t = true then ((fixRun rows f).length : Int) else 0), .bool t]) ∧ Below w.heap.size w w'

/-- An order in its variable, and a list. -/
def HeldF (w : World) (v vf : Value) (rows : Rows2) (f : List Int) (W : World) : Prop := Held w v rows W ∧ IntsAt W vf f
theorem HeldF.step {w : World} {v vf : Value} {rows : Rows2} {f : List Int} {W W' : World} (h : HeldF w v vf rows f W) (hb : Below W.heap.size W W') : HeldF w v vf rows f W' := ⟨h.1.below hb, h.2.below hb⟩
theorem HeldF.start (w : World) {v vf : Value} {rows : Rows2} {f : List Int} (t : TypeId) (hv : RowsAt w v rows) (hf : IntsAt w vf f) : HeldF w v vf rows f (w.alloc (.cells #[v] t)) :=
  ⟨Held.start w t hv, hf.below ((Below.refl _ w).alloc (Nat.le_refl _) _)⟩

theorem monoB_self {rows : Rows2} {f : List Int} (h : monoB rows rows f = true) : Ok rows ∧ Mono rows rows f ∧ ∃ m : Nat, m < rows.length ∧ leastI rows = m := by
  obtain ⟨h1, h2, h3⟩ := monoB_parts h
  refine ⟨?_, h3, dom_least h1⟩
  unfold domB at h1
  rw [Bool.and_eq_true] at h1
  exact ok_of_valid h1.1

set_option maxRecDepth 100000 in
set_option maxHeartbeats 8000000 in
theorem specFix_any (v vf : Value) (rows : Rows2) (f : List Int) (w : World) (hv : RowsAt w v rows) (hf : IntsAt w vf f) (hn : bulk rows ≤ 1048576) :
    Calls Tryd.prog 47 #[.agg #[v], vf] w (FixP (monoB rows rows f) rows f w) := by
  have hT := HeldF.start w 25 hv hf
  obtain ⟨A, C, rfl, _⟩ := hv
  obtain ⟨Af, Cf, rfl, _⟩ := hf
  have H0 := Lib.hid hT
  have hc0 := hT.1.1
  have hcall := specMono_any _ _ _ rows rows f _ hT.1.2.1 hT.1.2.1 hT.2 hn hn
  clear hT
  cases hm : monoB rows rows f with
  | false =>
    rw [hm] at hcall
    clear hm
    go_enter Tryd.func47, Tryd.ntmps47
    go_wp2_with (go_at_call 38; refine hcall.mono ?_; clear hcall; rintro e w1 ⟨rfl, hb1⟩; have H1 := Lib.hid (H0.out.step hb1); clear hb1)
    refine bodyPost_ret (v := .tuple #[.int .i64 0, .int .i64 0, .bool false]) (by simp [results, Tryd.results47, go_sem]) rfl ?_
    exact ⟨rfl, H1.out.1.2.2.1⟩
  | true =>
    rw [hm] at hcall
    obtain ⟨hok, hmo, m, hml, hme⟩ := monoB_self hm
    have hstart := OnWay.start hok hmo hml hme
    have hX : ∀ pre x, OnWay rows f m pre x → nextF f x = x → fixX rows f = (x : Int) ∧ (fixRun rows f).length = pre.length := fun pre x h he => by
      unfold fixX fixRun
      rw [hme, Int.toNat_natCast, h.done he, ← h.last]
      exact ⟨rfl, rfl⟩
    have HX := Lib.hid hX
    have HS := Lib.hid hstart
    have HOK := Lib.hid hok
    have HMO := Lib.hid hmo
    have hl : ∀ W, RowsAt W (.slice A rows.length C) rows → Calls Tryd.prog 95 #[.agg #[.slice A rows.length C]] W (SaysI (m : Int) W) := fun W h => by
      have := l1Least_any _ rows W h hn
      rw [hme] at this
      exact this
    have HL := Lib.hid hl
    have HLEN := Lib.hid (show f.length = rows.length from hmo.1)
    have hl200 := hok.len.2
    clear hm hok hmo hstart hX hl hme
    go_enter Tryd.func47, Tryd.ntmps47
    go_wp2_with (first | (go_at_call 38; refine hcall.mono ?_; clear hcall; rintro e w1 ⟨rfl, hb1⟩; have H1 := Lib.hid (H0.out.step hb1); have hc1 := H1.out.1.1; clear hb1) | (go_at_call 95; refine (HL.out _ H1.out.1.2.1).mono ?_; rintro e w2 ⟨rfl, hb2⟩; have H2 := Lib.hid (H1.out.step hb2); clear hb2))
    go_loopw [7, 8] (fun xv nv wr => ∃ (pre : List Nat) (x : Nat), xv = .int .i64 x ∧ nv = .int .i64 pre.length ∧ OnWay rows f m pre x ∧ HeldF w (.slice A rows.length C) (.slice Af f.length Cf) rows f wr) (fun _ nv _ => rows.length - (intOf nv).toNat)
    case atStart => exact ⟨[], m, rfl, rfl, HS.out, H2.out⟩
    case round =>
      obtain ⟨pre, x, rfl, rfl, hw, hh⟩ := hrel
      have HW := Lib.hid hw
      have HK := Lib.hid hh
      have hxl : x < f.length := by rw [HLEN.out]; exact hw.lt
      have hxl2 : (x : Int) < (f.length : Int) := by omega
      have hroom := hw.room' HOK.out
      obtain ⟨b, o, rfl, hcf⟩ := hh.2.get hxl
      have e1 : f[x] = (nextF f x : Int) := by rw [← (next_lt HMO.out hw.lt).2, getD_lt 0 hxl]
      rw [e1] at hcf
      have hpl : pre.length < 200 := by omega
      clear hw hh e1
      by_cases he : nextF f x = x
      · have hb1 : ((nextF f x : Int) == (x : Int)) = true := by rw [beq_iff_eq]; omega
        have hb2 : (nextF f x == x) = true := by rw [beq_iff_eq]; exact he
        have hb3 : ((nextF f x : Int) != (x : Int)) = false := by unfold bne; rw [hb1]; rfl
        have hb4 : (nextF f x != x) = false := by unfold bne; rw [hb2]; rfl
        have HE := Lib.hid (HX.out pre x HW.out he)
        clear he
        go_wp2
        refine bodyPost_ret (v := .tuple #[.int .i64 (x : Int), .int .i64 (pre.length : Int), .bool true]) (by simp [results, Tryd.results47, go_sem]) rfl ?_
        exact ⟨by rw [if_pos rfl, if_pos rfl, HE.out.1, HE.out.2], HK.out.1.2.2.1⟩
      · have hb1 : ((nextF f x : Int) == (x : Int)) = false := by rw [beq_eq_false_iff_ne]; omega
        have hb2 : (nextF f x == x) = false := by rw [beq_eq_false_iff_ne]; exact he
        have hb3 : ((nextF f x : Int) != (x : Int)) = true := by unfold bne; rw [hb1]; rfl
        have hb4 : (nextF f x != x) = true := by unfold bne; rw [hb2]; rfl
        have HE := Lib.hid (HW.out.step HOK.out HMO.out he)
        clear he
        go_wp2
        go_roundw
        case rel => exact ⟨pre ++ [nextF f x], nextF f x, rfl, by rw [List.length_append]; go_num, HE.out, HK.out⟩
        case measure => simp [intOf]; omega
end Go.Proofs.YtjfbjfclcpcaiaaDoor

/- The program's iterator over the changes of a function (fun.changes). -/
namespace Go.Proofs.YtjfbjfclcpcaiaaDoor
open Go.RowKit Go.Deep Go.Shelf
attribute [local go_sem] Oper.semAt_some

/-- A number that is given. -/
def encN (x : Nat) : Array Value := #[.int .i64 ((x : Nat) : Int)]
/-- What a round leaves alone: all that lay there at the beginning, and the function's variable. -/
def KeepF (n₀ Bf : Nat) (A B : World) : Prop := Below n₀ A B ∧ B.heap[Bf]? = A.heap[Bf]?

theorem changes_any (A : Option Addr) (n C : Nat) (x : Int) (w : World) : Calls Tryd.prog 94 #[.slice A n C, .int .i64 x] w fun e w' =>
    e = .returned (.func (.func 130) #[] #[.pointer (some ⟨w.heap.size + 1, 0, none⟩), .pointer (some ⟨w.heap.size, 0, none⟩)]) ∧
    w' = (w.alloc (.cells #[.slice A n C] 112)).alloc (.cells #[.int .i64 x] 3) := by
  go_enter Tryd.func94, Tryd.ntmps94
  go_wp2
  go_ret
  exact ⟨rfl, rfl⟩

set_option maxRecDepth 100000 in
set_option maxHeartbeats 4000000 in
theorem changes1_stops (n n₀ Bk Bf m : Nat) (Af : Option Addr) (Cf : Nat) (rows : Rows2) (f : List Int) (w : World) (hn : 2 ≤ n) (hk : w.cell? ⟨Bk, 0, none⟩ = some (.int .i64 (m : Int))) (hc : w.cell? ⟨Bf, 0, none⟩ = some (.slice Af f.length Cf))
    (hf : ∀ W, Below n₀ w W → IntsAt W (.slice Af f.length Cf) f) (hn₀ : n₀ ≤ w.heap.size) (hok : Ok rows) (hmo : Mono rows rows f) (hst : OnWay rows f m [] m) :
    SeqStopsK Fence.wide n Tryd.prog 130 #[.pointer (some ⟨Bk, 0, none⟩), .pointer (some ⟨Bf, 0, none⟩)] encN (KeepF n₀ Bf) (fun xs => xs = runF f rows.length m) (fun pre => pre <+: runF f rows.length m) (runF f rows.length m).length w := fun l J Jx W hW _ _ hY h0 => by
  have hkW : W.cell? ⟨Bk, 0, none⟩ = some (.int .i64 (m : Int)) := (hW.cell (p := ⟨Bk, 0, none⟩) (cell_lt hk)).trans hk
  have hcW : W.cell? ⟨Bf, 0, none⟩ = some (.slice Af f.length Cf) := (hW.cell (p := ⟨Bf, 0, none⟩) (cell_lt hc)).trans hc
  have HFA := Lib.hid (fun W' (h : KeepF n₀ Bf W W') => (⟨hf W' ((hW.mono hn₀).trans h.1), (World.cell?_of_block h.2).trans hcW⟩ : IntsAt W' (.slice Af f.length Cf) f ∧ W'.cell? ⟨Bf, 0, none⟩ = some (.slice Af f.length Cf)))
  have HY := Lib.hid hY
  have HJ0 := Lib.hid h0
  have HST := Lib.hid hst
  have HOK := Lib.hid hok
  have HMO := Lib.hid hmo
  have HLEN := Lib.hid (show f.length = rows.length from hmo.1)
  clear hY h0 hst hW hf hk hc hcW hok hmo
  refine callsIn_of_wp Tryd.func130 rfl trivial ?_ rfl
  simp only [Tryd.ntmps130, List.size_toArray, List.length_cons, List.length_nil, Nat.reduceAdd, Nat.reduceSub, Array.replicate_succ, Array.replicate_zero, List.push_toArray, List.append_toArray, List.nil_append, List.cons_append]
  gi_wp2
  gi_loopw [4] (fun xv wr => ∃ (pre : List Nat) (x : Nat), xv = .int .i64 x ∧ OnWay rows f m pre x ∧ J pre wr ∧ KeepF n₀ Bf W wr) (fun xv _ => aboveN rows (intOf xv).toNat)
  case atStart => exact ⟨[], m, rfl, HST.out, HJ0.out, Below.refl _ _, rfl⟩
  case round =>
    obtain ⟨pre, x, rfl, hw, hJ, hK⟩ := hrel
    have HW := Lib.hid hw
    have HK := Lib.hid hK
    obtain ⟨hfa, hcb⟩ := HFA.out _ hK
    have hxl : x < f.length := by rw [HLEN.out]; exact hw.lt
    have hxl2 : (x : Int) < (f.length : Int) := by omega
    obtain ⟨b, o, e0, hcf⟩ := hfa.get hxl
    subst e0
    have e1 : f[x] = (nextF f x : Int) := by rw [← (next_lt HMO.out hw.lt).2, getD_lt 0 hxl]
    rw [e1] at hcf
    clear hw hK hfa e1
    by_cases he : nextF f x = x
    · have hb1 : ((nextF f x : Int) == (x : Int)) = true := by rw [beq_iff_eq]; omega
      have hb2 : (nextF f x == x) = true := by rw [beq_iff_eq]; exact he
      have hb3 : ((nextF f x : Int) != (x : Int)) = false := by unfold bne; rw [hb1]; rfl
      have hb4 : (nextF f x != x) = false := by unfold bne; rw [hb2]; rfl
      have HE := Lib.hid (HW.out.done he)
      have HJ := Lib.hid hJ
      clear he hJ
      gi_wp2
      go_end0
      exact ⟨⟨_, rfl⟩, .inl ⟨pre, HE.out.symm, HJ.out⟩⟩
    · have hb1 : ((nextF f x : Int) == (x : Int)) = false := by rw [beq_eq_false_iff_ne]; omega
      have hb2 : (nextF f x == x) = false := by rw [beq_eq_false_iff_ne]; exact he
      have hb3 : ((nextF f x : Int) != (x : Int)) = true := by unfold bne; rw [hb1]; rfl
      have hb4 : (nextF f x != x) = true := by unfold bne; rw [hb2]; rfl
      have hmore := HW.out.more HOK.out he
      have HE := Lib.hid (HW.out.step HOK.out HMO.out he)
      have HD := Lib.hid (HW.out.drop HOK.out he)
      obtain ⟨fn, tmps, assign, body, hy, hR⟩ := HY.out pre (nextF f x) wr hJ hmore.1
      unfold encN at hy
      have HP := Lib.hid hmore.2
      have HRD := Lib.hid hR
      clear hR he hmore hJ
      gi_wp2
      refine ⟨fun _ => by omega, HRD.out.mono ?_⟩
      rintro e W3 (⟨rfl, hJ3, hk3⟩ | ⟨rfl, hJx3⟩)
      · have HJ3 := Lib.hid hJ3
        have HK3 : Hid (KeepF n₀ Bf W W3) := Lib.hid ⟨HK.out.1.trans hk3.1, hk3.2.trans HK.out.2⟩
        obtain ⟨hfa, hcb3⟩ := HFA.out _ HK3.out
        obtain ⟨b', o', e0, hcf3⟩ := hfa.get hxl
        cases e0
        have e1 : f[x] = (nextF f x : Int) := by rw [← (next_lt HMO.out HW.out.lt).2, getD_lt 0 hxl]
        rw [e1] at hcf3
        clear hJ3 hk3 hfa e1 hcf hcb
        gi_wp2
        go_roundw
        case rel => exact ⟨pre ++ [nextF f x], nextF f x, rfl, HE.out, HJ3.out, HK3.out⟩
        case measure => simp [intOf]; exact HD.out
      · have HJ3 := Lib.hid hJx3
        clear hJx3
        gi_wp2
        refine bodyPost_ret (results_none rfl _ _ _) rfl ?_
        exact ⟨⟨_, rfl⟩, .inr ⟨pre ++ [nextF f x], HP.out, HJ3.out⟩⟩
end Go.Proofs.YtjfbjfclcpcaiaaDoor

/- The model's FunSteps. -/
namespace Go.Proofs.YtjfbjfclcpcaiaaDoor
open Go.RowKit Go.Deep

/-- Does element k leave i a start? -/
def startP (rows : Rows2) (f : List Int) (i k : Nat) : Bool := (k == i) || !upB rows k (i : Int) || !(f.getD k 0 == f.getD i 0)
/-- Does the function start at i to have what it has? The first m elements have been looked at. -/
def startT (rows : Rows2) (f : List Int) (least : Int) (i m : Nat) : Bool := !(f.getD i 0 == least) && (List.range m).all (startP rows f i)
theorem startT_succ (rows : Rows2) (f : List Int) (least : Int) (i m : Nat) : startT rows f least i (m + 1) = (startT rows f least i m && startP rows f i m) := by
  unfold startT
  rw [List.range_succ, List.all_append, Bool.and_assoc]
  simp
theorem startT_false {rows : Rows2} {f : List Int} {least : Int} {i m n : Nat} (h : startT rows f least i m = false) (hm : m ≤ n) : startT rows f least i n = false := by
  induction n with
  | zero => obtain rfl : m = 0 := by omega
            exact h
  | succ n ih =>
    rcases Nat.lt_or_ge n m with h1 | h1
    · obtain rfl : m = n + 1 := by omega
      exact h
    · rw [startT_succ, ih h1]
      rfl
def startsN (rows rows' : Rows2) (f : List Int) (k : Nat) : List Int := ((List.range k).filter fun i => startT rows f (leastI rows') i f.length).map fun i : Nat => (i : Int)
theorem startsN_succ (rows rows' : Rows2) (f : List Int) (k : Nat) : startsN rows rows' f (k + 1) = if startT rows f (leastI rows') k f.length = true then startsN rows rows' f k ++ [(k : Int)] else startsN rows rows' f k := by
  unfold startsN
  rw [List.range_succ, List.filter_append, List.map_append, List.filter_cons]
  cases startT rows f (leastI rows') k f.length with
  | true => rfl
  | false => simp
theorem startsN_le (rows rows' : Rows2) (f : List Int) (k : Nat) : (startsN rows rows' f k).length ≤ k := by
  unfold startsN
  rw [List.length_map]
  have := List.length_filter_le (fun i => startT rows f (leastI rows') i f.length) (List.range k)
  simpa using this
noncomputable def startsL (rows rows' : Rows2) (f : List Int) : List Int := if monoB rows rows' f = true then startsN rows rows' f f.length else []

/-- Behind what turns no memory of the variables. -/
theorem TwoF.far {w : World} {v v' vf : Value} {rows rows' : Rows2} {f : List Int} {W W' : World} (h : TwoF w v v' vf rows rows' f W) (hv : RowsAt w v rows) (hv' : RowsAt w v' rows') (hf : IntsAt w vf f) (hb : Below (w.heap.size + 2) W W') : TwoF w v v' vf rows rows' f W' := by
  have hw : Below w.heap.size w W' := h.1.below.trans (hb.mono (by omega))
  exact ⟨⟨(hb.cell (p := ⟨w.heap.size, 0, none⟩) (by show w.heap.size < w.heap.size + 2; omega)).trans h.1.c0, (hb.cell (p := ⟨w.heap.size + 1, 0, none⟩) (by show w.heap.size + 1 < w.heap.size + 2; omega)).trans h.1.c1, hv.below hw, hv'.below hw, hw⟩, hf.below hw⟩

end Go.Proofs.YtjfbjfclcpcaiaaDoor

/- The program's look for what a function has on a set (fun.hasOn). -/
namespace Go.Proofs.YtjfbjfclcpcaiaaDoor
open Go.RowKit Go.Deep Go.Shelf
attribute [local go_sem] Oper.semAt_some

/-- Has the function the element k for some element of the set s? -/
def onB (f : List Int) (s : Nat) (k : Int) : Bool := (elems s).any fun i => f.getD i 0 == k
def NoneOn (f : List Int) (s : Nat) (k : Int) (pre : List (Bt s)) : Prop := ∀ y ∈ pre, f.getD y.1 0 ≠ k
theorem on_none {f : List Int} {s : Nat} {k : Int} (hp : NoneOn f s k (eList s)) : onB f s k = false := by
  unfold onB
  rw [List.any_eq_false, ← natsOf_all]
  intro i hi
  obtain ⟨z, hz, rfl⟩ := List.mem_map.1 hi
  simpa using hp z hz
theorem on_found {f : List Int} {s : Nat} {k : Int} {pre rest : List (Bt s)} {y : Bt s} (hall : eList s = (pre ++ [y]) ++ rest) (hy : f.getD y.1 0 = k) : onB f s k = true := by
  unfold onB
  rw [List.any_eq_true, ← natsOf_all]
  exact ⟨y.1, List.mem_map.2 ⟨y, by rw [hall]; simp, rfl⟩, by simpa using hy⟩

end Go.Proofs.YtjfbjfclcpcaiaaDoor

/- The model's FunPair. -/
namespace Go.Proofs.YtjfbjfclcpcaiaaDoor
open Go.RowKit Go.Deep

/-- Both parts put together, for the first k elements. -/
def pairN (f g : List Int) (n k : Nat) : List Int := (List.range k).map fun i => f.getD i 0 * (n : Int) + g.getD i 0
theorem pairN_length (f g : List Int) (n k : Nat) : (pairN f g n k).length = k := by unfold pairN; simp
theorem pairN_succ (f g : List Int) (n k : Nat) : pairN f g n (k + 1) = pairN f g n k ++ [f.getD k 0 * (n : Int) + g.getD k 0] := by
  unfold pairN
  rw [List.range_succ, List.map_append]
  rfl
noncomputable def pairOk (rows rows' rows2 : Rows2) (f g : List Int) : Bool := monoB rows rows' f && monoB rows rows2 g && decide (rows'.length * rows2.length ≤ 200)
noncomputable def pairL (rows rows' rows2 : Rows2) (f g : List Int) : List Int := if pairOk rows rows' rows2 f g = true then pairN f g rows2.length f.length else []
/-- A product of two numbers that are not great. -/
theorem mul_small {a b : Int} (ha : 0 ≤ a) (ha' : a ≤ 200) (hb : 0 ≤ b) (hb' : b ≤ 200) : 0 ≤ a * b ∧ a * b ≤ 40000 := by
  refine ⟨Int.mul_nonneg ha hb, ?_⟩
  have h1 := Int.mul_le_mul_of_nonneg_right ha' hb
  have h2 := Int.mul_le_mul_of_nonneg_left hb' (show (0 : Int) ≤ 200 by decide)
  omega
set_option maxRecDepth 100000 in
set_option maxHeartbeats 4000000 in
theorem specPair_any (v v' v2 vf vg : Value) (rows rows' rows2 : Rows2) (f g : List Int) (w : World) (hv : RowsAt w v rows) (hv' : RowsAt w v' rows') (hv2 : RowsAt w v2 rows2) (hf : IntsAt w vf f) (hg : IntsAt w vg g)
    (hn : bulk rows ≤ 1048576) (hn' : bulk rows' ≤ 1048576) (hn2 : bulk rows2 ≤ 1048576) :
    Calls Tryd.prog 56 #[.agg #[v], .agg #[v'], .agg #[v2], vf, vg] w (OwnB (pairL rows rows' rows2 f g) (pairOk rows rows' rows2 f g) w) := by
  have h0 := ThrL.start w 25 hv hv' hv2 hf hg
  have hd1 := specMono_any _ _ _ rows rows' f _ h0.thr.two.r0 h0.thr.two.r1 h0.f hn hn'
  have HFA := Lib.hid (fun W (h : Below w.heap.size w W) => hf.below h)
  have HGA := Lib.hid (fun W (h : Below w.heap.size w W) => hg.below h)
  obtain ⟨A, C, rfl, _⟩ := hv
  obtain ⟨A', C', rfl, _⟩ := hv'
  obtain ⟨A2, C2, rfl, _⟩ := hv2
  obtain ⟨Af, Cf, rfl, _⟩ := hf
  obtain ⟨Ag, Cg, rfl, _⟩ := hg
  have H0 := Lib.hid h0
  have hc0 := h0.thr.two.c0
  have hc1 := h0.thr.two.c1
  clear h0
  cases h1 : monoB rows rows' f with
  | false =>
    rw [h1] at hd1
    have HE := Lib.hid (show pairOk rows rows' rows2 f g = false by unfold pairOk; rw [h1]; rfl)
    go_enter Tryd.func56, Tryd.ntmps56
    go_wp2_with (go_at_call 38; refine hd1.mono ?_; clear hd1; rintro e w1 ⟨rfl, hb1⟩; have H1 := Lib.hid (H0.out.step hb1); clear hb1)
    go_ret2
    refine ⟨_, by rw [HE.out]; rfl, ?_, H1.out.below.alloc H1.out.below.size _⟩
    unfold pairL
    rw [HE.out]
    exact empty_own w1 H1.out.below.size
  | true =>
    rw [h1] at hd1
    cases h2 : monoB rows rows2 g with
    | false =>
      have HE := Lib.hid (show pairOk rows rows' rows2 f g = false by unfold pairOk; rw [h1, h2]; rfl)
      go_enter Tryd.func56, Tryd.ntmps56
      go_wp2_with (first | (go_at_call 38; refine hd1.mono ?_; clear hd1; rintro e w1 ⟨rfl, hb1⟩; have H1 := Lib.hid (H0.out.step hb1); have hd2 := specMono_any _ _ _ rows rows2 g _ H1.out.thr.two.r0 H1.out.thr.r2 H1.out.g hn hn2; rw [h2] at hd2; have he1 := H1.out.thr.two.c0; have he2 := H1.out.thr.c2; clear hb1) | (go_at_call 38; refine hd2.mono ?_; clear hd2; rintro e w2 ⟨rfl, hb2⟩; have H2 := Lib.hid (H1.out.step hb2); clear hb2))
      go_ret2
      refine ⟨_, by rw [HE.out]; rfl, ?_, H2.out.below.alloc H2.out.below.size _⟩
      unfold pairL
      rw [HE.out]
      exact empty_own w2 H2.out.below.size
    | true =>
      obtain ⟨hD, hD', hm1⟩ := monoB_parts h1
      obtain ⟨_, hD2, hm2⟩ := monoB_parts h2
      have hl' := dom_len hD'
      have hl2 := dom_len hD2
      have hp := mul_small (a := (rows'.length : Int)) (b := (rows2.length : Int)) (by omega) (by omega) (by omega) (by omega)
      by_cases hle : rows'.length * rows2.length ≤ 200
      · have HE := Lib.hid (show pairOk rows rows' rows2 f g = true by unfold pairOk; rw [h1, h2, decide_eq_true hle]; rfl)
        have hpi : (rows'.length : Int) * (rows2.length : Int) ≤ 200 := by
          have := Int.ofNat_le.2 hle
          rw [Int.natCast_mul] at this
          exact this
        have HM1 := Lib.hid hm1
        have HM2 := Lib.hid hm2
        have hfl : f.length ≤ 1048576 := by have := hm1.1; unfold bulk at hn; omega
        obtain ⟨i0, hi0, hz0, hz1, hz2⟩ := info_parts infoInt
        clear hm1 hm2 hD hD' hD2 hle
        go_enter Tryd.func56, Tryd.ntmps56
        go_wp2_with (first | (go_at_call 38; refine hd1.mono ?_; clear hd1; rintro e w1 ⟨rfl, hb1⟩; have H1 := Lib.hid (H0.out.step hb1); have hd2 := specMono_any _ _ _ rows rows2 g _ H1.out.thr.two.r0 H1.out.thr.r2 H1.out.g hn hn2; rw [h2] at hd2; have he1 := H1.out.thr.two.c0; have he2 := H1.out.thr.c2; clear hb1) | (go_at_call 38; refine hd2.mono ?_; clear hd2; rintro e w2 ⟨rfl, hb2⟩; have H2 := Lib.hid (H1.out.step hb2); have he3 := H2.out.thr.two.c1; have he4 := H2.out.thr.c2; clear hb2 he1 he2))
        have hw2 : w.heap.size + 2 < w2.heap.size := cell_lt he4
        have HO := Lib.hid (World.ownsRow_made (e := 3) (size := 1) w2 #[] 0 (base := w.heap.size + 3) (by omega) (Nat.zero_le _) (by simp))
        have HB2 := Lib.hid ((Below.refl (w.heap.size + 3) w2).alloc (by omega) (.cells #[] 3))
        clear he3 he4
        go_loopw [12, 13] (fun ov kv wr => ∃ k : Nat, k ≤ f.length ∧ kv = .int .i64 k ∧ wr.ownsRow (w.heap.size + 3) 3 1 ov (pairN f g rows2.length k).length (cellsI (pairN f g rows2.length k)) ∧ Below (w.heap.size + 3) w2 wr) (fun _ kv _ => f.length - (intOf kv).toNat)
        case atStart => exact ⟨0, Nat.zero_le _, rfl, HO.out, HB2.out⟩
        case round =>
          obtain ⟨k, hk, rfl, hown, hB⟩ := hrel
          have HOWN := Lib.hid hown
          have HB := Lib.hid hB
          have hcl := Nat.le_of_eq (pairN_length f g rows2.length k)
          clear hown hB HO HB2
          by_cases hlt : k < f.length
          · have HW := Lib.hid (H2.out.below.trans (HB.out.mono (by omega)))
            obtain ⟨b1, o1, rfl, hcf⟩ := (HFA.out wr HW.out).get hlt
            have hltg : k < g.length := by have := HM1.out.1; have := HM2.out.1; omega
            obtain ⟨b2, o2, rfl, hcg⟩ := (HGA.out wr HW.out).get hltg
            have hltz : (k : Int) < (g.length : Int) := by omega
            have hc2 : wr.cell? ⟨w.heap.size + 2, 0, none⟩ = some (.slice A2 rows2.length C2) := (HB.out.cell (p := ⟨w.heap.size + 2, 0, none⟩) (by show w.heap.size + 2 < w.heap.size + 3; omega)).trans H2.out.thr.c2
            have hr1 := HM1.out.2.1 _ (List.getElem_mem hlt)
            have hr2 := HM2.out.2.1 _ (List.getElem_mem hltg)
            have hpk := mul_small (a := f[k]) (b := (rows2.length : Int)) (by omega) (by omega) (by omega) (by omega)
            have HA := Lib.hid (show f.getD k 0 * (rows2.length : Int) + g.getD k 0 = f[k] * (rows2.length : Int) + g[k] by rw [getD_lt 0 hlt, getD_lt 0 hltg])
            have hbz : w.heap.size + 3 ≤ wr.heap.size := by have := HB.out.size; omega
            have HOA := Lib.hid fun X => HOWN.out.alloc X
            go_upto_region 7 with fail
            have HWY := Lib.hid (show IntKind.i64.wrap (IntKind.i64.wrap (f[k] * (rows2.length : Int)) + g[k]) = f[k] * (rows2.length : Int) + g[k] by rw [IntWalk.i64_in (f[k] * (rows2.length : Int)) (by omega), IntWalk.i64_in _ (by omega)])
            first | (go_region_law ((refine step_append_lies _ (by rfl) _ _ 42 (by rfl) (w.heap.size + 3) 3 i0 (.int .i64 0) 1 8 Tryd.underlying42 hi0 hz0 hz1 hz2 rfl (by decide) u12 (pairN f g rows2.length k).length (cellsI (pairN f g rows2.length k)) (by rfl) (HOA.out _) ⟨wr.heap.size, 0, none⟩ 1 1 [.int .i64 (IntKind.i64.wrap (IntKind.i64.wrap (f[k] * (rows2.length : Int)) + g[k]))] (by rfl) rfl (World.news_of_block (heap_alloc_new wr _)) (by simp [Value.oneCell']) (by omega) (by unfold maxLen; omega) (by omega) (by simp; omega) (wr.heap.size + 1) (by simp) ?_; intro g' cap' w1 hown hgrow hat hlt'))) | fail
            all_goals
              go_wp2
              go_roundw
              case rel =>
                refine ⟨k + 1, by omega, by go_num, ?_, ((HB.out.alloc hbz _).grown ⟨hgrow.os, hgrow.tape, hgrow.output, hgrow.size, hgrow.block⟩ (by rw [World.size_alloc]; omega) (fun b e => (HOWN.out.lt b e).1))⟩
                rw [pairN_succ, HA.out, List.length_append, show cellsI (pairN f g rows2.length k ++ [f[k] * (rows2.length : Int) + g[k]]) = cellsI (pairN f g rows2.length k) ++ [.int .i64 (f[k] * (rows2.length : Int) + g[k])] by simp]
                rw [HWY.out] at hown
                exact hown
              case measure => simp [intOf]; omega
          · obtain rfl : k = f.length := by omega
            go_wp2
            go_ret2
            refine ⟨_, by rw [HE.out]; rfl, ?_, H2.out.below.trans (HB.out.mono (by omega))⟩
            unfold pairL
            rw [if_pos HE.out]
            refine OwnI.of_owns (owns_weaker HOWN.out (Nat.le_add_right _ _)) ?_ (fun b hb => (HOWN.out.lt b hb).2)
            intro y hy
            unfold pairN at hy
            obtain ⟨i, hi, rfl⟩ := List.mem_map.1 hy
            rw [List.mem_range] at hi
            have hig : i < g.length := by have := HM1.out.1; have := HM2.out.1; omega
            rw [getD_lt 0 hi, getD_lt 0 hig]
            have hr1 := HM1.out.2.1 _ (List.getElem_mem hi)
            have hr2 := HM2.out.2.1 _ (List.getElem_mem hig)
            have hpk := mul_small (a := f[i]) (b := (rows2.length : Int)) (by omega) (by omega) (by omega) (by omega)
            exact wf_int (by omega) (by omega)
      · have HE := Lib.hid (show pairOk rows rows' rows2 f g = false by unfold pairOk; rw [decide_eq_false hle, Bool.and_false])
        have hpi : (200 : Int) < (rows'.length : Int) * (rows2.length : Int) := by
          have := Int.ofNat_lt.2 (show 200 < rows'.length * rows2.length by omega)
          rw [Int.natCast_mul] at this
          exact this
        clear hm1 hm2 hD hD' hD2 hle
        go_enter Tryd.func56, Tryd.ntmps56
        go_wp2_with (first | (go_at_call 38; refine hd1.mono ?_; clear hd1; rintro e w1 ⟨rfl, hb1⟩; have H1 := Lib.hid (H0.out.step hb1); have hd2 := specMono_any _ _ _ rows rows2 g _ H1.out.thr.two.r0 H1.out.thr.r2 H1.out.g hn hn2; rw [h2] at hd2; have he1 := H1.out.thr.two.c0; have he2 := H1.out.thr.c2; clear hb1) | (go_at_call 38; refine hd2.mono ?_; clear hd2; rintro e w2 ⟨rfl, hb2⟩; have H2 := Lib.hid (H1.out.step hb2); have he3 := H2.out.thr.two.c1; have he4 := H2.out.thr.c2; clear hb2 he1 he2))
        go_ret2
        refine ⟨_, by rw [HE.out]; rfl, ?_, H2.out.below.alloc H2.out.below.size _⟩
        unfold pairL
        rw [HE.out]
        exact empty_own w2 H2.out.below.size
end Go.Proofs.YtjfbjfclcpcaiaaDoor

/- Two lists of one answer, each in memory of its own. -/
namespace Go.Proofs.YtjfbjfclcpcaiaaDoor
open Go.RowKit Go.Deep

/-- Two lists, each in memory of its own, and the Boolean t. -/
def OwnBB (xs ys : List Int) (t : Bool) (w : World) (e : Ending) (w' : World) : Prop :=
  ∃ v u, e = .returned (.tuple #[v, u, .bool t]) ∧ OwnI 3 w' v xs w.heap.size w'.heap.size ∧ OwnI 3 w' u ys w.heap.size w'.heap.size ∧ (v.ownBlock = none ∨ v.ownBlock ≠ u.ownBlock) ∧ Below w.heap.size w w'

/-- What grows elsewhere leaves a list alone. -/
theorem owns_far {W W' : World} {base size n : Nat} {t : TypeId} {v : Value} {xs : List Value} {blk : Option Nat} (h : W.ownsRow base t size v n xs) (hg : W.grownBy W' blk) (hne : v.ownBlock = none ∨ v.ownBlock ≠ blk) : W'.ownsRow base t size v n xs := by
  refine ⟨h.1, ?_⟩
  rcases h.2 with hl | ⟨g, cap, cur, hv, hb, hh, hr⟩
  · exact .inl hl
  · refine .inr ⟨g, cap, cur, hv, hb, ?_, hr⟩
    have hlt : g < W.heap.size := by
      rcases Nat.lt_or_ge g W.heap.size with hlt | hge
      · exact hlt
      · rw [Array.getElem?_eq_none hge] at hh; cases hh
    rw [hg.block g hlt (fun e => by
      subst hv
      rcases hne with h1 | h1
      · simp [Value.ownBlock] at h1
      · exact h1 (by simpa [Value.ownBlock] using e))]
    exact hh
theorem empty_two {w W : World} (hb : Below w.heap.size w W) (t : Bool) (ht : t = false) {xs ys : List Int} (hx : xs = []) (hy : ys = []) : OwnBB xs ys t w (.returned (.tuple #[.slice (some ⟨W.heap.size, 0, none⟩) 0 0, .slice (some ⟨W.heap.size + 1, 0, none⟩) 0 0, .bool false])) ((W.alloc (.cells #[] 3)).alloc (.cells #[] 3)) := by
  subst ht hx hy
  have e1 := empty_own W hb.size
  have hb1 := hb.alloc hb.size (.cells #[] 3)
  have e2 := empty_own (W.alloc (.cells #[] 3)) hb1.size
  have hs : (W.alloc (.cells #[] 3)).heap.size = W.heap.size + 1 := World.size_alloc _ _
  rw [hs] at e2
  have hk := (Below.refl (W.alloc (.cells #[] 3)).heap.size (W.alloc (.cells #[] 3))).alloc (Nat.le_refl _) (.cells #[] 3)
  refine ⟨_, _, rfl, (e1.kept fun b hb => ?_).wider (Nat.le_refl _) hk.size, e2, .inr ?_, hb1.alloc hb1.size _⟩
  · have hbb : b = W.heap.size := by simpa [Value.ownBlock, eq_comm] using hb
    exact hk.block b (by rw [hbb, hs]; exact Nat.lt_succ_self _)
  · simp [Value.ownBlock]
end Go.Proofs.YtjfbjfclcpcaiaaDoor

/- The program's OrderLeast. -/
namespace Go.Proofs.YtjfbjfclcpcaiaaDoor
open Go.RowKit Go.Deep Go.Shelf

set_option maxHeartbeats 2000000 in
theorem implLeast_any (v : Value) (rows : Rows2) (w : World) (hv : RowsAt w v rows) (hT : Tab w) (hn : bulk rows ≤ 1048576) :
    Calls Tryd.prog 23 #[.agg #[v]] w (SaysI (leastB rows) w) := by
  have hH := Held.start w 25 hv
  have hT1 := hT.below ((Below.refl _ w).alloc (Nat.le_refl _) (.cells #[v] 25))
  have hcall := fun t h => gridOf_t v rows _ hH.2.1 hT1 hn (t := t) h
  have hz := (zero_of_info zeroGrid).1
  obtain ⟨A, C, rfl, _⟩ := hv
  have HH := Lib.hid hH
  have HT := Lib.hid hT1
  clear hH hT hT1
  unfold leastB
  cases hval : validB rows with
  | false =>
    have hc := hcall false hval
    rw [if_neg (by simp)]
    clear hval hcall
    go_enter Tryd.func23, Tryd.ntmps23
    go_wp2_with (first | (go_at_call 73; refine hc.mono ?_; clear hc; rintro e w1 ⟨⟨g, hg, rfl⟩, hb1⟩; have HG := Lib.hid hg; have H1 := Lib.hid (HH.out.below hb1); clear hg hb1) | (refine wpList_store_row rfl 83 (.tmp 3) (.tmp 8) rfl w1.heap.size (gridCells g) rfl rfl 83 (gridCells fun _ => 0) (store_new w1).1 (by rw [gridCells_size]; exact sizeGrid) (by rw [gridCells_size, gridCells_size]) (gridCells_one _) ?_))
    go_ret
    exact ⟨rfl, (H1.out.below (newGrid_below g w1)).2.2.1⟩
  | true =>
    have hok := ok_of_valid hval
    have hc := hcall true hval
    have hle := least_eq hok
    have hgn := hok.gridN
    rw [if_pos rfl, hle]
    have HN := Lib.hid hgn
    clear hval hcall hle hgn hok
    go_enter Tryd.func23, Tryd.ntmps23
    go_wp2_with (first | (go_at_call 73; refine hc.mono ?_; clear hc; rintro e w1 ⟨⟨g, hg, rfl⟩, hb1⟩; obtain ⟨hg1, hg2⟩ := hg; obtain rfl := hg2 rfl; clear hg2; have HG := Lib.hid hg1; have H1 := Lib.hid (HH.out.below hb1); have T1 := Lib.hid (HT.out.below hb1); clear hg1 hb1; have H2 := Lib.hid (H1.out.below (newGrid_below (gridF rows) w1)); have T2 := Lib.hid (T1.out.below (newGrid_below (gridF rows) w1)); have G2 := Lib.hid (newGrid_at HG.out w1)) | (refine wpList_store_row rfl 83 (.tmp 3) (.tmp 8) rfl w1.heap.size (gridCells (gridF rows)) rfl rfl 83 (gridCells fun _ => 0) (store_new w1).1 (by rw [gridCells_size]; exact sizeGrid) (by rw [gridCells_size, gridCells_size]) (gridCells_one _) ?_) | (go_at_call 78; refine (least_any w1.heap.size rows.length (gridF rows) _ G2.out T2.out HN.out).mono ?_; rintro e w3 ⟨rfl, hb3⟩; have H3 := Lib.hid (H2.out.below hb3); clear hb3))
    go_ret
    exact ⟨rfl, H3.out.2.2.1⟩
end Go.Proofs.YtjfbjfclcpcaiaaDoor

/- The program's OrderHeight. -/
namespace Go.Proofs.YtjfbjfclcpcaiaaDoor
open Go.RowKit Go.Deep Go.Shelf

set_option maxHeartbeats 2000000 in
theorem implHeight_any (v : Value) (rows : Rows2) (w : World) (hv : RowsAt w v rows) (hT : Tab w) (hn : bulk rows ≤ 1048576) :
    Calls Tryd.prog 22 #[.agg #[v]] w (SaysI (heightB rows) w) := by
  have hH := Held.start w 25 hv
  have hT1 := hT.below ((Below.refl _ w).alloc (Nat.le_refl _) (.cells #[v] 25))
  have hcall := fun t h => gridOf_t v rows _ hH.2.1 hT1 hn (t := t) h
  have hz := (zero_of_info zeroGrid).1
  obtain ⟨A, C, rfl, _⟩ := hv
  have HH := Lib.hid hH
  have HT := Lib.hid hT1
  clear hH hT hT1
  unfold heightB
  cases hval : validB rows with
  | false =>
    have hc := hcall false hval
    rw [if_neg (by simp)]
    clear hval hcall
    go_enter Tryd.func22, Tryd.ntmps22
    go_wp2_with (first | (go_at_call 73; refine hc.mono ?_; clear hc; rintro e w1 ⟨⟨g, hg, rfl⟩, hb1⟩; have HG := Lib.hid hg; have H1 := Lib.hid (HH.out.below hb1); clear hg hb1) | (refine wpList_store_row rfl 83 (.tmp 3) (.tmp 8) rfl w1.heap.size (gridCells g) rfl rfl 83 (gridCells fun _ => 0) (store_new w1).1 (by rw [gridCells_size]; exact sizeGrid) (by rw [gridCells_size, gridCells_size]) (gridCells_one _) ?_))
    go_ret
    exact ⟨rfl, (H1.out.below (newGrid_below g w1)).2.2.1⟩
  | true =>
    have hok := ok_of_valid hval
    have hc := hcall true hval
    have HN := Lib.hid hok.gridN
    have HLF := Lib.hid (left_lt hok)
    have HSUB := Lib.hid (fun t k (hk : k ∈ elems (leftF (gridF rows) rows.length t)) => by
      rw [mem_elems (left_lt hok t), left_bit hok, decide_eq_true_iff] at hk
      exact hk.1)
    have HNO := Lib.hid (show ∀ t, t < heightF rows → leftF (gridF rows) rows.length t ≠ 0 from fun t ht e => absurd ((left_zero hok t).1 e) (Nat.not_le_of_lt ht))
    have HZ := Lib.hid ((left_zero hok (heightF rows)).2 (Nat.le_refl _))
    rw [if_pos rfl]
    clear hval hcall hok
    go_enter Tryd.func22, Tryd.ntmps22
    go_wp2_with (first | (go_at_call 73; refine hc.mono ?_; clear hc; rintro e w1 ⟨⟨g, hg, rfl⟩, hb1⟩; obtain ⟨hg1, hg2⟩ := hg; obtain rfl := hg2 rfl; clear hg2; have HG := Lib.hid hg1; have H1 := Lib.hid (HH.out.below hb1); have T1 := Lib.hid (HT.out.below hb1); clear hg1 hb1; have H2 := Lib.hid (H1.out.below (newGrid_below (gridF rows) w1)); have T2 := Lib.hid (T1.out.below (newGrid_below (gridF rows) w1)); have G2 := Lib.hid (newGrid_at HG.out w1)) | (refine wpList_store_row rfl 83 (.tmp 3) (.tmp 8) rfl w1.heap.size (gridCells (gridF rows)) rfl rfl 83 (gridCells fun _ => 0) (store_new w1).1 (by rw [gridCells_size]; exact sizeGrid) (by rw [gridCells_size, gridCells_size]) (gridCells_one _) ?_) | (go_at_call 77; refine (height_any w1.heap.size rows.length (heightF rows) (gridF rows) _ G2.out T2.out HN.out HSUB.out HLF.out (height_le rows) HNO.out HZ.out).mono ?_; rintro e w3 ⟨rfl, hb3⟩; have H3 := Lib.hid (H2.out.below hb3); clear hb3))
    go_ret
    exact ⟨rfl, H3.out.2.2.1⟩
end Go.Proofs.YtjfbjfclcpcaiaaDoor

/- The program's OrderJoin. -/
namespace Go.Proofs.YtjfbjfclcpcaiaaDoor
open Go.RowKit Go.Deep Go.Shelf

set_option maxHeartbeats 4000000 in
theorem implJoin_any (v : Value) (rows : Rows2) (a b : Int) (w : World) (hv : RowsAt w v rows) (hT : Tab w) (hn : bulk rows ≤ 1048576) :
    Calls Tryd.prog 27 #[.agg #[v], .int .i64 a, .int .i64 b] w (SaysI (joinB rows a b) w) := by
  have hH := Held.start w 25 hv
  have hT1 := hT.below ((Below.refl _ w).alloc (Nat.le_refl _) (.cells #[v] 25))
  have hcall := fun t h => gridOf_t v rows _ hH.2.1 hT1 hn (t := t) h
  have hz := (zero_of_info zeroGrid).1
  obtain ⟨A, C, rfl, _⟩ := hv
  have HH := Lib.hid hH
  have HT := Lib.hid hT1
  clear hH hT hT1
  cases hval : validB rows with
  | false =>
    have hc := hcall false hval
    have e : joinB rows a b = -1 := by unfold joinB hasB; rw [hval]; rfl
    rw [e]
    clear hval hcall e
    go_enter Tryd.func27, Tryd.ntmps27
    go_wp2_with (first | (go_at_call 73; refine hc.mono ?_; clear hc; rintro e w1 ⟨⟨g, hg, rfl⟩, hb1⟩; have HG := Lib.hid hg; have H1 := Lib.hid (HH.out.below hb1); clear hg hb1) | (refine wpList_store_row rfl 83 (.tmp 7) (.tmp 12) rfl w1.heap.size (gridCells g) rfl rfl 83 (gridCells fun _ => 0) (store_new w1).1 (by rw [gridCells_size]; exact sizeGrid) (by rw [gridCells_size, gridCells_size]) (gridCells_one _) ?_))
    go_ret
    exact ⟨rfl, (H1.out.below (newGrid_below g w1)).2.2.1⟩
  | true =>
    have hok := ok_of_valid hval
    have hc := hcall true hval
    by_cases ha : 0 ≤ a ∧ a < rows.length
    · by_cases hb : 0 ≤ b ∧ b < rows.length
      · obtain ⟨an, rfl⟩ : ∃ an : Nat, a = (an : Int) := ⟨a.toNat, by omega⟩
        obtain ⟨bn, rfl⟩ : ∃ bn : Nat, b = (bn : Int) := ⟨b.toNat, by omega⟩
        have ha1 : an < rows.length := by omega
        have hb1 : bn < rows.length := by omega
        have hn2 := hok.len.2
        have e : joinB rows an bn = bottomF (gridF rows) (gridF rows an &&& gridF rows bn) := by
          unfold joinB hasB
          rw [hval, decide_eq_true ha, decide_eq_true hb, Int.toNat_natCast, Int.toNat_natCast]
          exact (if_pos rfl).trans (join_eq hok ha1 hb1)
        rw [e]
        have HA := Lib.hid ha
        have HB := Lib.hid hb
        have HB2 := Lib.hid (fun k (hk : (gridF rows an).testBit k = true) => hok.lt200 hk)
        clear hval hcall hok e ha hb
        go_enter Tryd.func27, Tryd.ntmps27
        go_wp2_with (first | (go_at_call 73; refine hc.mono ?_; clear hc; rintro e w1 ⟨⟨g, hg, rfl⟩, hb1⟩; obtain ⟨hg1, hg2⟩ := hg; obtain rfl := hg2 rfl; clear hg2; have HG := Lib.hid hg1; have H1 := Lib.hid (HH.out.below hb1); have T1 := Lib.hid (HT.out.below hb1); clear hg1 hb1; have H2 := Lib.hid (H1.out.below (newGrid_below (gridF rows) w1)); have T2 := Lib.hid (T1.out.below (newGrid_below (gridF rows) w1)); have G2 := Lib.hid (newGrid_at HG.out w1); have hc2 : (World.setRow (w1.alloc (.cells (gridCells fun _ => 0) 83)) w1.heap.size (gridCells (gridF rows))).cell? ⟨w.heap.size, 0, none⟩ = some (.slice A rows.length C) := H2.out.1) | (refine wpList_store_row rfl 83 (.tmp 7) (.tmp 12) rfl w1.heap.size (gridCells (gridF rows)) rfl rfl 83 (gridCells fun _ => 0) (store_new w1).1 (by rw [gridCells_size]; exact sizeGrid) (by rw [gridCells_size, gridCells_size]) (gridCells_one _) ?_))
        refine (isElement_any _ rows an _ H2.out.2.1).mono ?_
        rw [decide_eq_true HA.out]
        rintro e w3 ⟨rfl, hb3⟩
        have H3 := Lib.hid (H2.out.below hb3)
        have T3 := Lib.hid (T2.out.below hb3)
        have G3 := Lib.hid (G2.out.below hb3 G2.out.lt)
        have hc3 := H3.out.1
        clear hb3 hc2
        go_wp2_with fail
        refine (isElement_any _ rows bn _ H3.out.2.1).mono ?_
        rw [decide_eq_true HB.out]
        rintro e w4 ⟨rfl, hb4⟩
        have H4 := Lib.hid (H3.out.below hb4)
        have T4 := Lib.hid (T3.out.below hb4)
        have G4 := Lib.hid (G3.out.below hb4 G3.out.lt)
        clear hb4 hc3
        go_wp2_with (go_at_call 80; refine (join_any w1.heap.size an bn an bn (gridF rows) _ G4.out T4.out rfl rfl (by omega) (by omega) HB2.out).mono ?_; rintro e w5 ⟨rfl, hb5⟩; have H5 := Lib.hid (H4.out.below hb5); clear hb5)
        go_ret
        exact ⟨rfl, H5.out.2.2.1⟩
      · have e : joinB rows a b = -1 := by unfold joinB hasB; rw [decide_eq_false hb]; simp
        rw [e]
        have HA := Lib.hid ha
        have HB := Lib.hid hb
        clear hval hcall hok e ha hb
        go_enter Tryd.func27, Tryd.ntmps27
        go_wp2_with (first | (go_at_call 73; refine hc.mono ?_; clear hc; rintro e w1 ⟨⟨g, hg, rfl⟩, hb1⟩; have HG := Lib.hid hg; have H1 := Lib.hid (HH.out.below hb1); clear hg hb1; have H2 := Lib.hid (H1.out.below (newGrid_below g w1)); have hc2 : (World.setRow (w1.alloc (.cells (gridCells fun _ => 0) 83)) w1.heap.size (gridCells g)).cell? ⟨w.heap.size, 0, none⟩ = some (.slice A rows.length C) := H2.out.1) | (refine wpList_store_row rfl 83 (.tmp 7) (.tmp 12) rfl w1.heap.size (gridCells g) rfl rfl 83 (gridCells fun _ => 0) (store_new w1).1 (by rw [gridCells_size]; exact sizeGrid) (by rw [gridCells_size, gridCells_size]) (gridCells_one _) ?_))
        refine (isElement_any _ rows a _ H2.out.2.1).mono ?_
        rw [decide_eq_true HA.out]
        rintro e w3 ⟨rfl, hb3⟩
        have H3 := Lib.hid (H2.out.below hb3)
        have hc3 := H3.out.1
        clear hb3 hc2
        go_wp2_with fail
        refine (isElement_any _ rows b _ H3.out.2.1).mono ?_
        rw [decide_eq_false HB.out]
        rintro e w4 ⟨rfl, hb4⟩
        have H4 := Lib.hid (H3.out.below hb4)
        clear hb4 hc3
        go_wp2
        go_ret
        exact ⟨rfl, H4.out.2.2.1⟩
    · have e : joinB rows a b = -1 := by unfold joinB hasB; rw [decide_eq_false ha]; simp
      rw [e]
      have HA := Lib.hid ha
      clear hval hcall hok e ha
      go_enter Tryd.func27, Tryd.ntmps27
      go_wp2_with (first | (go_at_call 73; refine hc.mono ?_; clear hc; rintro e w1 ⟨⟨g, hg, rfl⟩, hb1⟩; have HG := Lib.hid hg; have H1 := Lib.hid (HH.out.below hb1); clear hg hb1; have H2 := Lib.hid (H1.out.below (newGrid_below g w1)); have hc2 : (World.setRow (w1.alloc (.cells (gridCells fun _ => 0) 83)) w1.heap.size (gridCells g)).cell? ⟨w.heap.size, 0, none⟩ = some (.slice A rows.length C) := H2.out.1) | (refine wpList_store_row rfl 83 (.tmp 7) (.tmp 12) rfl w1.heap.size (gridCells g) rfl rfl 83 (gridCells fun _ => 0) (store_new w1).1 (by rw [gridCells_size]; exact sizeGrid) (by rw [gridCells_size, gridCells_size]) (gridCells_one _) ?_))
      refine (isElement_any _ rows a _ H2.out.2.1).mono ?_
      rw [decide_eq_false HA.out]
      rintro e w3 ⟨rfl, hb3⟩
      have H3 := Lib.hid (H2.out.below hb3)
      clear hb3 hc2
      go_wp2
      go_ret
      exact ⟨rfl, H3.out.2.2.1⟩
end Go.Proofs.YtjfbjfclcpcaiaaDoor

/- The program's OrderMeet. -/
namespace Go.Proofs.YtjfbjfclcpcaiaaDoor
open Go.RowKit Go.Deep Go.Shelf

set_option maxHeartbeats 4000000 in
theorem implMeet_any (v : Value) (rows : Rows2) (a b : Int) (w : World) (hv : RowsAt w v rows) (hT : Tab w) (hn : bulk rows ≤ 1048576) :
    Calls Tryd.prog 31 #[.agg #[v], .int .i64 a, .int .i64 b] w (SaysI (meetB rows a b) w) := by
  have hH := Held.start w 25 hv
  have hT1 := hT.below ((Below.refl _ w).alloc (Nat.le_refl _) (.cells #[v] 25))
  have hcall := fun t h => gridOf_t v rows _ hH.2.1 hT1 hn (t := t) h
  have hz := (zero_of_info zeroGrid).1
  obtain ⟨A, C, rfl, _⟩ := hv
  have HH := Lib.hid hH
  have HT := Lib.hid hT1
  clear hH hT hT1
  cases hval : validB rows with
  | false =>
    have hc := hcall false hval
    have e : meetB rows a b = -1 := by unfold meetB hasB; rw [hval]; rfl
    rw [e]
    clear hval hcall e
    go_enter Tryd.func31, Tryd.ntmps31
    go_wp2_with (first | (go_at_call 73; refine hc.mono ?_; clear hc; rintro e w1 ⟨⟨g, hg, rfl⟩, hb1⟩; have HG := Lib.hid hg; have H1 := Lib.hid (HH.out.below hb1); clear hg hb1) | (refine wpList_store_row rfl 83 (.tmp 7) (.tmp 13) rfl w1.heap.size (gridCells g) rfl rfl 83 (gridCells fun _ => 0) (store_new w1).1 (by rw [gridCells_size]; exact sizeGrid) (by rw [gridCells_size, gridCells_size]) (gridCells_one _) ?_))
    go_ret
    exact ⟨rfl, (H1.out.below (newGrid_below g w1)).2.2.1⟩
  | true =>
    have hok := ok_of_valid hval
    have hc := hcall true hval
    by_cases ha : 0 ≤ a ∧ a < rows.length
    · by_cases hb : 0 ≤ b ∧ b < rows.length
      · obtain ⟨an, rfl⟩ : ∃ an : Nat, a = (an : Int) := ⟨a.toNat, by omega⟩
        obtain ⟨bn, rfl⟩ : ∃ bn : Nat, b = (bn : Int) := ⟨b.toNat, by omega⟩
        have ha1 : an < rows.length := by omega
        have hb1 : bn < rows.length := by omega
        have hn2 := hok.len.2
        have e : meetB rows an bn = bottomF (gridF (backRows rows)) (gridF (backRows rows) an &&& gridF (backRows rows) bn) := by
          unfold meetB hasB
          rw [hval, decide_eq_true ha, decide_eq_true hb, Int.toNat_natCast, Int.toNat_natCast]
          exact (if_pos rfl).trans (join_eq hok.back (by rw [backRows_len]; exact ha1) (by rw [backRows_len]; exact hb1))
        rw [e]
        have HA := Lib.hid ha
        have HB := Lib.hid hb
        have HB2 := Lib.hid (fun k (hk : (gridF (backRows rows) an).testBit k = true) => hok.back.lt200 hk)
        have HN := Lib.hid hok.gridN
        have HBN := Lib.hid (backN_rows hok)
        have HEL := Lib.hid (fun i (_ : i < rows.length) k (hk : k ∈ elems (gridF rows i)) => hok.lt200 ((mem_elems (hok.lt i)).1 hk))
        have HLT := Lib.hid hok.back.lt
        clear hval hcall hok e ha hb
        go_enter Tryd.func31, Tryd.ntmps31
        go_wp2_with (first | (go_at_call 73; refine hc.mono ?_; clear hc; rintro e w1 ⟨⟨g, hg, rfl⟩, hb1⟩; obtain ⟨hg1, hg2⟩ := hg; obtain rfl := hg2 rfl; clear hg2; have HG := Lib.hid hg1; have H1 := Lib.hid (HH.out.below hb1); have T1 := Lib.hid (HT.out.below hb1); clear hg1 hb1; have H2 := Lib.hid (H1.out.below (newGrid_below (gridF rows) w1)); have T2 := Lib.hid (T1.out.below (newGrid_below (gridF rows) w1)); have G2 := Lib.hid (newGrid_at HG.out w1); have hc2 : (World.setRow (w1.alloc (.cells (gridCells fun _ => 0) 83)) w1.heap.size (gridCells (gridF rows))).cell? ⟨w.heap.size, 0, none⟩ = some (.slice A rows.length C) := H2.out.1) | (refine wpList_store_row rfl 83 (.tmp 7) (.tmp 13) rfl w1.heap.size (gridCells (gridF rows)) rfl rfl 83 (gridCells fun _ => 0) (store_new w1).1 (by rw [gridCells_size]; exact sizeGrid) (by rw [gridCells_size, gridCells_size]) (gridCells_one _) ?_))
        refine (isElement_any _ rows an _ H2.out.2.1).mono ?_
        rw [decide_eq_true HA.out]
        rintro e w3 ⟨rfl, hb3⟩
        have H3 := Lib.hid (H2.out.below hb3)
        have T3 := Lib.hid (T2.out.below hb3)
        have G3 := Lib.hid (G2.out.below hb3 G2.out.lt)
        have hc3 := H3.out.1
        clear hb3 hc2
        go_wp2_with fail
        refine (isElement_any _ rows bn _ H3.out.2.1).mono ?_
        rw [decide_eq_true HB.out]
        rintro e w4 ⟨rfl, hb4⟩
        have H4 := Lib.hid (H3.out.below hb4)
        have T4 := Lib.hid (T3.out.below hb4)
        have G4 := Lib.hid (G3.out.below hb4 G3.out.lt)
        clear hb4 hc3
        go_wp2_with fail
        refine (back_any w1.heap.size rows.length (gridF rows) w4 G4.out T4.out HN.out HEL.out).mono ?_
        rintro e w5 ⟨rfl, hb5⟩
        rw [HBN.out]
        have H5 := Lib.hid (H4.out.below hb5)
        have T5 := Lib.hid (T4.out.below hb5)
        have H6 := Lib.hid (H5.out.below (newGrid_below (gridF (backRows rows)) w5))
        have T6 := Lib.hid (T5.out.below (newGrid_below (gridF (backRows rows)) w5))
        have G6 := Lib.hid (newGrid_at HLT.out w5)
        clear hb5
        go_wp2_with (first | (refine wpList_store_row rfl 83 (.tmp 9) (.tmp 29) rfl w5.heap.size (gridCells (gridF (backRows rows))) rfl rfl 83 (gridCells fun _ => 0) (store_new w5).1 (by rw [gridCells_size]; exact sizeGrid) (by rw [gridCells_size, gridCells_size]) (gridCells_one _) ?_) | (go_at_call 80; refine (join_any w5.heap.size an bn an bn (gridF (backRows rows)) _ G6.out T6.out rfl rfl (by omega) (by omega) HB2.out).mono ?_; rintro e w7 ⟨rfl, hb7⟩; have H7 := Lib.hid (H6.out.below hb7); clear hb7))
        go_ret
        exact ⟨rfl, H7.out.2.2.1⟩
      · have e : meetB rows a b = -1 := by unfold meetB hasB; rw [decide_eq_false hb]; simp
        rw [e]
        have HA := Lib.hid ha
        have HB := Lib.hid hb
        clear hval hcall hok e ha hb
        go_enter Tryd.func31, Tryd.ntmps31
        go_wp2_with (first | (go_at_call 73; refine hc.mono ?_; clear hc; rintro e w1 ⟨⟨g, hg, rfl⟩, hb1⟩; have HG := Lib.hid hg; have H1 := Lib.hid (HH.out.below hb1); clear hg hb1; have H2 := Lib.hid (H1.out.below (newGrid_below g w1)); have hc2 : (World.setRow (w1.alloc (.cells (gridCells fun _ => 0) 83)) w1.heap.size (gridCells g)).cell? ⟨w.heap.size, 0, none⟩ = some (.slice A rows.length C) := H2.out.1) | (refine wpList_store_row rfl 83 (.tmp 7) (.tmp 13) rfl w1.heap.size (gridCells g) rfl rfl 83 (gridCells fun _ => 0) (store_new w1).1 (by rw [gridCells_size]; exact sizeGrid) (by rw [gridCells_size, gridCells_size]) (gridCells_one _) ?_))
        refine (isElement_any _ rows a _ H2.out.2.1).mono ?_
        rw [decide_eq_true HA.out]
        rintro e w3 ⟨rfl, hb3⟩
        have H3 := Lib.hid (H2.out.below hb3)
        have hc3 := H3.out.1
        clear hb3 hc2
        go_wp2_with fail
        refine (isElement_any _ rows b _ H3.out.2.1).mono ?_
        rw [decide_eq_false HB.out]
        rintro e w4 ⟨rfl, hb4⟩
        have H4 := Lib.hid (H3.out.below hb4)
        clear hb4 hc3
        go_wp2
        go_ret
        exact ⟨rfl, H4.out.2.2.1⟩
    · have e : meetB rows a b = -1 := by unfold meetB hasB; rw [decide_eq_false ha]; simp
      rw [e]
      have HA := Lib.hid ha
      clear hval hcall hok e ha
      go_enter Tryd.func31, Tryd.ntmps31
      go_wp2_with (first | (go_at_call 73; refine hc.mono ?_; clear hc; rintro e w1 ⟨⟨g, hg, rfl⟩, hb1⟩; have HG := Lib.hid hg; have H1 := Lib.hid (HH.out.below hb1); clear hg hb1; have H2 := Lib.hid (H1.out.below (newGrid_below g w1)); have hc2 : (World.setRow (w1.alloc (.cells (gridCells fun _ => 0) 83)) w1.heap.size (gridCells g)).cell? ⟨w.heap.size, 0, none⟩ = some (.slice A rows.length C) := H2.out.1) | (refine wpList_store_row rfl 83 (.tmp 7) (.tmp 13) rfl w1.heap.size (gridCells g) rfl rfl 83 (gridCells fun _ => 0) (store_new w1).1 (by rw [gridCells_size]; exact sizeGrid) (by rw [gridCells_size, gridCells_size]) (gridCells_one _) ?_))
      refine (isElement_any _ rows a _ H2.out.2.1).mono ?_
      rw [decide_eq_false HA.out]
      rintro e w3 ⟨rfl, hb3⟩
      have H3 := Lib.hid (H2.out.below hb3)
      clear hb3 hc2
      go_wp2
      go_ret
      exact ⟨rfl, H3.out.2.2.1⟩
end Go.Proofs.YtjfbjfclcpcaiaaDoor

/- OrderBack, of the model and of the program. -/
namespace Go.Proofs.YtjfbjfclcpcaiaaDoor
open Go.RowKit Go.Deep Go.Shelf

/-- What OrderBack answers. -/
noncomputable def backB (rows : Rows2) : Rows2 := if validB rows = true then backRows rows else []

theorem RowsPost.form {n : Nat} {R : Nat → List Int} {w w' : World} {e : Ending} (h : RowsPost n R w e w') : ∃ a C, e = .returned (.agg #[.slice a n C]) ∧ OwnR 3 42 w' (.slice a n C) n R w.heap.size w'.heap.size ∧ Below w.heap.size w w' := by
  obtain ⟨v, rfl, h1, h2⟩ := h
  obtain ⟨a, C, rfl⟩ := h1.form
  exact ⟨a, C, rfl, h1, h2⟩

set_option maxRecDepth 100000 in
set_option maxHeartbeats 4000000 in
theorem implBack_any (v : Value) (rows : Rows2) (w : World) (hv : RowsAt w v rows) (hT : Tab w) (hn : bulk rows ≤ 1048576) :
    Calls Tryd.prog 35 #[.agg #[v]] w (OrderP (backB rows) (validB rows) w) := by
  have hb2 : Below w.heap.size w ((w.alloc (.cells #[v] 25)).alloc (.cells #[.slice none 0 0] 25)) := ((Below.refl _ w).alloc (Nat.le_refl _) _).alloc (by simp) _
  have hH := (Held.start w 25 hv).below ((Below.refl _ _).alloc (Nat.le_refl _) (.cells #[.slice none 0 0] 25))
  have hbx := Boxed.new (w.alloc (.cells #[v] 25)) 25 (.slice none 0 0)
  rw [World.size_alloc] at hbx
  have hT1 := hT.below hb2
  have hcall := fun t h => gridOf_t v rows _ hH.2.1 hT1 hn (t := t) h
  have hz := (zero_of_info zeroGrid).1
  obtain ⟨A, C, rfl, _⟩ := hv
  have HH := Lib.hid hH
  have HT := Lib.hid hT1
  have HBX := Lib.hid hbx
  clear hH hT hT1 hbx hb2
  unfold backB
  cases hval : validB rows with
  | false =>
    have hc := hcall false hval
    rw [if_neg (by simp)]
    clear hval hcall
    go_enter Tryd.func35, Tryd.ntmps35
    go_wp2_with (first | (go_at_call 73; refine hc.mono ?_; clear hc; rintro e w1 ⟨⟨g, hg, rfl⟩, hb1⟩; have HG := Lib.hid hg; have H1 := Lib.hid (HH.out.below hb1); have H2 := Lib.hid (H1.out.below (newGrid_below g w1)); have BX1 : Hid (Boxed (newGrid g w1) (w.heap.size + 1) 25 (.slice none 0 0)) := Lib.hid ((((hb1.trans ((newGrid_below g w1).mono hb1.size)).block _ HBX.out.lt).trans HBX.out)); have hc2 : (World.setRow (w1.alloc (.cells (gridCells fun _ => 0) 83)) w1.heap.size (gridCells g)).cell? ⟨w.heap.size + 1, 0, none⟩ = some (.slice none 0 0) := BX1.out.cell; have hf2 : (World.setRow (w1.alloc (.cells (gridCells fun _ => 0) 83)) w1.heap.size (gridCells g)).frozen? ⟨w.heap.size + 1, 0, none⟩ = false := BX1.out.frozen; clear hg hb1) | (refine wpList_store_row rfl 83 (.tmp 4) (.tmp 10) rfl w1.heap.size (gridCells g) rfl rfl 83 (gridCells fun _ => 0) (store_new w1).1 (by rw [gridCells_size]; exact sizeGrid) (by rw [gridCells_size, gridCells_size]) (gridCells_one _) ?_))
    have hc9 := World.cell?_setCell_same' (World.setRow (w1.alloc (.cells (gridCells fun _ => 0) 83)) w1.heap.size (gridCells g)) ⟨w.heap.size + 1, 0, none⟩ (.slice none 0 0) (by rw [hc2]; rfl)
    refine bodyPost_ret (v := .tuple #[.agg #[.slice none 0 0], .bool false]) (by simp [results, Tryd.results35, go_sem, hc9]) rfl ?_
    exact ⟨_, rfl, OwnR.nil _ _ _ _ _ _, H2.out.2.2.1.setCell (p := ⟨w.heap.size + 1, 0, none⟩) (Nat.le_succ _) _⟩
  | true =>
    have hok := ok_of_valid hval
    have hc := hcall true hval
    have HOK := Lib.hid hok
    have HN := Lib.hid hok.gridN
    have HBN := Lib.hid (backN_rows hok)
    have HEL := Lib.hid (fun i (_ : i < rows.length) k (hk : k ∈ elems (gridF rows i)) => hok.lt200 ((mem_elems (hok.lt i)).1 hk))
    have HLT := Lib.hid hok.back.lt
    have hlen := backRows_len rows
    have hgb := hok.back.gridN
    rw [hlen] at hgb
    have HGB := Lib.hid hgb
    rw [if_pos rfl]
    clear hval hcall hok hgb
    go_enter Tryd.func35, Tryd.ntmps35
    go_wp2_with (first | (go_at_call 73; refine hc.mono ?_; clear hc; rintro e w1 ⟨⟨g, hg, rfl⟩, hb1⟩; obtain ⟨hg1, hg2⟩ := hg; obtain rfl := hg2 rfl; clear hg2; have HG := Lib.hid hg1; have H1 := Lib.hid (HH.out.below hb1); have T1 := Lib.hid (HT.out.below hb1); have H2 := Lib.hid (H1.out.below (newGrid_below (gridF rows) w1)); have T2 := Lib.hid (T1.out.below (newGrid_below (gridF rows) w1)); have G2 := Lib.hid (newGrid_at HG.out w1); have BX1 : Hid (Boxed (newGrid (gridF rows) w1) (w.heap.size + 1) 25 (.slice none 0 0)) := Lib.hid ((((hb1.trans ((newGrid_below (gridF rows) w1).mono hb1.size)).block _ HBX.out.lt).trans HBX.out)); clear hg1 hb1) | (refine wpList_store_row rfl 83 (.tmp 4) (.tmp 10) rfl w1.heap.size (gridCells (gridF rows)) rfl rfl 83 (gridCells fun _ => 0) (store_new w1).1 (by rw [gridCells_size]; exact sizeGrid) (by rw [gridCells_size, gridCells_size]) (gridCells_one _) ?_))
    refine (back_any w1.heap.size rows.length (gridF rows) _ G2.out T2.out HN.out HEL.out).mono ?_
    rintro e w5 ⟨rfl, hb5⟩
    rw [HBN.out]
    have H5 := Lib.hid (H2.out.below hb5)
    have T5 := Lib.hid (T2.out.below hb5)
    have H6 := Lib.hid (H5.out.below (newGrid_below (gridF (backRows rows)) w5))
    have T6 := Lib.hid (T5.out.below (newGrid_below (gridF (backRows rows)) w5))
    have G6 := Lib.hid (newGrid_at HLT.out w5)
    have BX6 : Hid (Boxed (newGrid (gridF (backRows rows)) w5) (w.heap.size + 1) 25 (.slice none 0 0)) := Lib.hid (((hb5.trans ((newGrid_below (gridF (backRows rows)) w5).mono hb5.size)).block _ BX1.out.lt).trans BX1.out)
    clear hb5
    go_wp2_with (refine wpList_store_row rfl 83 (.tmp 6) (.tmp 15) rfl w5.heap.size (gridCells (gridF (backRows rows))) rfl rfl 83 (gridCells fun _ => 0) (store_new w5).1 (by rw [gridCells_size]; exact sizeGrid) (by rw [gridCells_size, gridCells_size]) (gridCells_one _) ?_)
    refine (order_any w5.heap.size rows.length (gridF (backRows rows)) _ G6.out T6.out HGB.out).mono ?_
    rintro e w7 hp
    obtain ⟨a7, C7, rfl, ho, hb7⟩ := hp.form
    have hlt6 := BX6.out.lt
    have hz6 : w.heap.size + 1 < (newGrid (gridF (backRows rows)) w5).heap.size := hlt6
    have BX7 : Hid (Boxed w7 (w.heap.size + 1) 25 (.slice none 0 0)) := Lib.hid ((hb7.block _ hlt6).trans BX6.out)
    have HO := Lib.hid ho
    have HB := Lib.hid (H6.out.2.2.1.trans (hb7.mono (Nat.le_of_lt (Nat.lt_of_le_of_lt (Nat.le_succ _) hz6))))
    have hc2 := BX7.out.cell
    have hf2 := BX7.out.frozen
    clear ho hb7 hp
    go_wp2
    have hc9 := World.cell?_setCell_same' w7 ⟨w.heap.size + 1, 0, none⟩ (.slice a7 rows.length C7) (by rw [hc2]; rfl)
    refine bodyPost_ret (v := .tuple #[.agg #[.slice a7 rows.length C7], .bool true]) (by simp [results, Tryd.results35, go_sem, hc9]) rfl ?_
    refine ⟨_, rfl, ?_, HB.out.setCell (p := ⟨w.heap.size + 1, 0, none⟩) (Nat.le_succ _) _⟩
    rw [hlen, size_setCell]
    refine ((HO.out.kept fun b hb' _ => Below.heap_setCell _ _ _ b (show b ≠ w.heap.size + 1 from fun e => by rw [e] at hb'; exact absurd hz6 (Nat.not_lt.2 hb'))).wider (Nat.le_of_lt (Nat.lt_of_le_of_lt (Nat.le_succ _) hz6)) (Nat.le_refl _)).congr fun j hj => ?_
    have hj' : j < (backRows rows).length := by rw [hlen]; exact hj
    rw [rowsF_lt hj', HOK.out.back.elems hj']
    rfl
end Go.Proofs.YtjfbjfclcpcaiaaDoor

/- The program's closed: rows that are made larger until nothing is added. -/
namespace Go.Proofs.YtjfbjfclcpcaiaaDoor
open Go.RowKit Go.Deep Go.Shelf
attribute [local go_sem] Oper.semAt_some

/-- What closed answers. -/
def ClosedP (E : Nat → Nat → Prop) (n : Nat) (w : World) (e : Ending) (w' : World) : Prop :=
  (∃ g, ClI E n g ∧ stepG g = g ∧ e = .returned (.agg (gridCells g))) ∧ Below w.heap.size w w'
open Classical in
/-- The grid in a block. -/
noncomputable def gridIn (W : World) (b : Nat) : Nat → Nat := if h : ∃ g, GridAt W b g then Classical.choose h else fun _ => 0
theorem cells_rows {g h : Nat → Nat} (hg : ∀ i, g i < 2 ^ 256) (hh : ∀ i, h i < 2 ^ 256) (e : gridCells g = gridCells h) {i : Nat} (hi : i < 200) : g i = h i := by
  refine of_words (hg i) (hh i) fun j hj => ?_
  have h1 := gridCells_at g i j hi hj
  have h2 := gridCells_at h i j hi hj
  rw [e, h2] at h1
  simp only [Option.some.injEq, Value.int.injEq, true_and] at h1
  omega
theorem popG_congr {g h : Nat → Nat} : ∀ n, n ≤ 200 → (∀ i, i < 200 → g i = h i) → popG g n = popG h n
  | 0, _, _ => rfl
  | n + 1, hn, e => by
    unfold popG
    rw [popG_congr n (by omega) e, e n (by omega)]
theorem gridIn_pop {W : World} {b n : Nat} {g : Nat → Nat} (h : GridAt W b g) (hn : n ≤ 200) : popG (gridIn W b) n = popG g n := by
  have hex : ∃ g, GridAt W b g := ⟨g, h⟩
  unfold gridIn
  rw [dif_pos hex]
  have h2 := Classical.choose_spec hex
  refine popG_congr n hn fun i hi => cells_rows h2.2 h.2 ?_ hi
  have e := h2.1.symm.trans h.1
  simp only [Option.some.injEq, Obj.cells.injEq] at e
  exact e.1

set_option maxRecDepth 100000 in
set_option maxHeartbeats 8000000 in
theorem closed_any {E : Nat → Nat → Prop} {n : Nat} {g : Nat → Nat} (w : World) (hc : ClI E n g) (hn : n ≤ 200) (hT : Tab w) :
    Calls Tryd.prog 111 #[.agg (gridCells g)] w (ClosedP E n w) := by
  have htab : 0 < w.heap.size := cell_lt (hT 0 (by omega))
  have hz := (zero_of_info zeroGrid).1
  have hug := Tryd.underlying83
  have HC := Lib.hid hc
  have HT := Lib.hid hT
  clear hc hT
  refine (callsIn_wide (n := 8)).1 ?_
  refine callsIn_of_wp_marks Tryd.func111 rfl trivial (wpIn_mono (Q := NoPanic (bodyPostM Fence.wide 8 Tryd.prog Tryd.f111 (ClosedP E n w))) ?_ NoPanic.le) rfl
  simp only [Tryd.ntmps111, List.size_toArray, List.length_cons, List.length_nil, Nat.reduceAdd, Nat.reduceSub, Array.replicate_succ, Array.replicate_zero, List.push_toArray, List.append_toArray, List.nil_append, List.cons_append]
  have s1 : (w.alloc (.cells (gridCells g) 83)).heap.size = w.heap.size + 1 := World.size_alloc _ _
  have b2 : Below w.heap.size w ((w.alloc (.cells (gridCells g) 83)).alloc (.cells (gridCells fun _ => 0) 83)) := ((Below.refl _ w).alloc (Nat.le_refl _) _).alloc (by rw [s1]; omega) _
  have g0 : GridAt (w.alloc (.cells (gridCells g) 83)) w.heap.size g := ⟨heap_alloc_new _ _, HC.out.lt⟩
  have G0 := Lib.hid (g0.below ((Below.refl _ (w.alloc (.cells (gridCells g) 83))).alloc (Nat.le_refl _) (.cells (gridCells fun _ => 0) 83)) g0.lt)
  have g1 : GridAt ((w.alloc (.cells (gridCells g) 83)).alloc (.cells (gridCells fun _ => 0) 83)) (w.heap.size + 1) (fun _ => 0) := by rw [← s1]; exact ⟨heap_alloc_new _ _, fun _ => Nat.two_pow_pos 256⟩
  have G1 := Lib.hid g1
  have B2 := Lib.hid b2
  clear s1 b2 g0 g1
  gi_wp2
  refine wpIn_loop (fun a' wr => ∃ (gt : Nat → Nat) (Ds : List Nat) (u0 u3 u4 u5 u6 u7 u8 u9 u10 u11 u12 u13 u14 u15 u16 u17 u18 u19 u20 u21 u22 u23 u24 u25 u26 u27 u28 u29 u30 : Value), (ClI E n gt ∧ GridAt wr w.heap.size gt ∧ GridAt wr (w.heap.size + 1) (fun _ => 0) ∧ MarksAt w.heap.size Ds wr ∧ Below w.heap.size w wr) ∧
    a' = { tmps := #[u0, .pointer (some ⟨w.heap.size, 0, none⟩), .pointer (some ⟨w.heap.size + 1, 0, none⟩), u3, u4, u5, u6, u7, u8, u9, u10, u11, u12, u13, u14, u15, u16, u17, u18, u19, u20, u21, u22, u23, u24, u25, u26, u27, u28, u29, u30], defers := marksOf Ds })
    (fun _ wr => n * 256 - popG (gridIn wr w.heap.size) n) ?atStart ?round
  case atStart =>
    refine ⟨g, [], ?_⟩
    (repeat apply Exists.intro)
    refine ⟨?rel, ?frame⟩
    case frame => rfl
    case rel => exact ⟨HC.out, G0.out, G1.out, MarksAt.nil _ _, B2.out⟩
  case round =>
    rintro _ wr ⟨gt, Ds, u0, u3, u4, u5, u6, u7, u8, u9, u10, u11, u12, u13, u14, u15, u16, u17, u18, u19, u20, u21, u22, u23, u24, u25, u26, u27, u28, u29, u30, ⟨hc, hg, hr, hm, hb⟩, rfl⟩
    have HC2 := Lib.hid hc
    have HG := Lib.hid hg
    have HR := Lib.hid hr
    have HM := Lib.hid hm
    have HB := Lib.hid hb
    have hNG : GridAt (newGrid gt wr) wr.heap.size gt := newGrid_at hc.lt wr
    have hNB := newGrid_below gt wr
    have hcall := size_any w.heap.size n gt (newGrid gt wr) (hg.below hNB hg.lt) hn (hc.gridN hn).some (hc.gridN hn).none
    have HN := Lib.hid hNG
    have HNB := Lib.hid hNB
    clear hc hr hm hb hNG hNB G0 G1 B2
    gi_wp2_with (first | (refine wpListIn_load_row rfl rfl 83 (.tmp 1) rfl w.heap.size rfl 83 (gridCells gt) (0, 0) _ hg.1 hug rfl (by rw [gridCells_size]; exact sizeGrid) ?_) | (refine wpListIn_store_row rfl rfl 83 (.tmp 3) (.tmp 6) rfl wr.heap.size (gridCells gt) rfl rfl 83 (gridCells fun _ => 0) (store_new wr).1 (by rw [gridCells_size]; exact sizeGrid) (by rw [gridCells_size, gridCells_size]) (gridCells_one _) ?_))
    -- INNER
    refine ⟨trivial, (callsIn_wide.2 hcall).mono ?_⟩
    clear hcall
    rintro e w2 ⟨rfl, hb2⟩
    have BR := Lib.hid (HNB.out.trans (hb2.mono HNB.out.size))
    have N2 : Hid (GridAt w2 wr.heap.size gt) := Lib.hid (HN.out.below hb2 HN.out.lt)
    have G2 := Lib.hid (hg.below BR.out hg.lt)
    have R2 := Lib.hid (HR.out.below BR.out HR.out.lt)
    have M2 := Lib.hid (HM.out.below BR.out)
    have W2 := Lib.hid (HB.out.trans (BR.out.mono HB.out.size))
    have hlr : w.heap.size + 1 < wr.heap.size := HR.out.lt
    have HGP := Lib.hid (gridIn_pop hg hn)
    clear hb2 hg HN HNB HG HR HM HB
    gi_wp2
    obtain ⟨V6, hV6⟩ : ∃ V : Value, V = .agg (gridCells gt) := ⟨_, rfl⟩
    rw [← hV6]
    clear hV6
    refine wpIn_loop (fun a' wq => ∃ (k : Nat) (Ds : List Nat) (x4 x5 x9 x10 x11 x12 x13 x14 x15 x16 x17 x18 x19 x20 x21 x22 x23 x24 x25 x26 x27 x28 x29 x30 : Value), (k ≤ n ∧ GridAt wq wr.heap.size (nextG gt k []) ∧ GridAt wq w.heap.size gt ∧ GridAt wq (w.heap.size + 1) (fun _ => 0) ∧ MarksAt w.heap.size Ds wq ∧ Below w.heap.size w wq) ∧
      a' = { tmps := #[u0, .pointer (some ⟨w.heap.size, 0, none⟩), .pointer (some ⟨w.heap.size + 1, 0, none⟩), .pointer (some ⟨wr.heap.size, 0, none⟩), x4, x5, V6, .int .i64 (n : Int), .int .i64 (k : Int), x9, x10, x11, x12, x13, x14, x15, x16, x17, x18, x19, x20, x21, x22, x23, x24, x25, x26, x27, x28, x29, x30], defers := marksOf Ds })
      (fun a' _ => n - (intOf (a'.tmps.getD 8 undef)).toNat) ?atStart2 ?round2
    case atStart2 =>
      refine ⟨0, Ds, ?_⟩
      (repeat apply Exists.intro)
      refine ⟨?rel, ?frame⟩
      case frame => rfl
      case rel => exact ⟨Nat.zero_le _, by rw [nextG_start]; exact N2.out, G2.out, R2.out, M2.out, W2.out⟩
    case round2 =>
      rintro _ wq ⟨k, Ds, x4, x5, x9, x10, x11, x12, x13, x14, x15, x16, x17, x18, x19, x20, x21, x22, x23, x24, x25, x26, x27, x28, x29, x30, ⟨hk, hx, hg, hr, hm, hb⟩, rfl⟩
      have HX := Lib.hid hx
      have HG := Lib.hid hg
      have HR := Lib.hid hr
      have HM := Lib.hid hm
      have HB := Lib.hid hb
      clear hr hm hb N2 G2 R2 M2 W2 BR
      by_cases hlt : k < n
      · have hk0 : (0 : Int) ≤ (k : Int) := by omega
        have hk1 : (k : Int) < 200 := by omega
        have hknz : (k : Int) < (n : Int) := by omega
        obtain ⟨c0, c1, c2, c3⟩ := hg.row k (by omega)
        replace c0 := cell_alloc_any c0
        replace c1 := cell_alloc_any c1
        replace c2 := cell_alloc_any c2
        replace c3 := cell_alloc_any c3
        have hmx : Tryd.prog.follows .mixedOrders = true := by kernel_rfl
        clear hx hg
        gi_wp2
        refine ⟨trivial, (callsIn_wide.2 (elements_any (gt k) _)).mono ?_⟩
        rintro e w3 ⟨rfl, rfl⟩
        gi_wp2
        have hB4 : Below wq.heap.size wq ((wq.alloc (.cells #[.int .i64 (k : Int)] 3)).alloc (.cells #[.int .u64 ((word (gt k) 0 : Nat) : Int), .int .u64 ((word (gt k) 1 : Nat) : Int), .int .u64 ((word (gt k) 2 : Nat) : Int), .int .u64 ((word (gt k) 3 : Nat) : Int)] 81)) := ((Below.refl _ wq).alloc (Nat.le_refl _) _).alloc (by simp) _
        have p4 : Boxed ((wq.alloc (.cells #[.int .i64 (k : Int)] 3)).alloc (.cells #[.int .u64 ((word (gt k) 0 : Nat) : Int), .int .u64 ((word (gt k) 1 : Nat) : Int), .int .u64 ((word (gt k) 2 : Nat) : Int), .int .u64 ((word (gt k) 3 : Nat) : Int)] 81)) wq.heap.size 3 (.int .i64 (k : Int)) := (Boxed.new wq 3 _).alloc _
        have r4 : RowIn ((wq.alloc (.cells #[.int .i64 (k : Int)] 3)).alloc (.cells #[.int .u64 ((word (gt k) 0 : Nat) : Int), .int .u64 ((word (gt k) 1 : Nat) : Int), .int .u64 ((word (gt k) 2 : Nat) : Int), .int .u64 ((word (gt k) 3 : Nat) : Int)] 81)) (wq.heap.size + 1) (gt k) := by
          have h := RowIn.alloc (wq.alloc (.cells #[.int .i64 (k : Int)] 3)) (HC2.out.lt k)
          rw [World.size_alloc] at h
          exact h
        have hz4 : ((wq.alloc (.cells #[.int .i64 (k : Int)] 3)).alloc (.cells #[.int .u64 ((word (gt k) 0 : Nat) : Int), .int .u64 ((word (gt k) 1 : Nat) : Int), .int .u64 ((word (gt k) 2 : Nat) : Int), .int .u64 ((word (gt k) 3 : Nat) : Int)] 81)).heap.size = wq.heap.size + 2 := by simp
        revert hB4 p4 r4 hz4
        generalize ((wq.alloc (.cells #[.int .i64 (k : Int)] 3)).alloc (.cells #[.int .u64 ((word (gt k) 0 : Nat) : Int), .int .u64 ((word (gt k) 1 : Nat) : Int), .int .u64 ((word (gt k) 2 : Nat) : Int), .int .u64 ((word (gt k) 3 : Nat) : Int)] 81)) = w4
        intro hB4 p4 r4 hz4
        have hw0 := HB.out.size
        have hlq : wr.heap.size < wq.heap.size := HX.out.lt
        have M4 := HM.out.below hB4
        have mlt : ∀ D ∈ Ds, D < w4.heap.size := fun D hD => M4.lt hD
        have T4 : Tab w4 := (HT.out.below HB.out).below hB4
        have hBw : Below w.heap.size w w4 := HB.out.trans (hB4.mono hw0)
        have hlwx : w.heap.size + 1 < wq.heap.size := HR.out.lt
        refine wpIn_rangeFunc_ownG rfl (by omega) (gf := 136) (lb := #[.pointer (some ⟨wq.heap.size + 1, 0, none⟩)]) rfl trivial (enters_of Tryd.func136 (by kernel_rfl) rfl)
          (elements1_stops _ w.heap.size (wq.heap.size + 1) (gt k) w4 (by omega) (HC2.out.lt k) r4 (by omega) htab T4) belowK_t (belowK_b (by omega)) (Below.refl _ _) (fun _ => rfl)
          (fun pre W => (GridAt W wr.heap.size (nextG gt k (natsOf pre)) ∧ GridAt W w.heap.size gt ∧ GridAt W (w.heap.size + 1) (fun _ => 0) ∧ Boxed W wq.heap.size 3 (.int .i64 (k : Int))) ∧ MarksAt w.heap.size Ds W ∧ Below w.heap.size w W)
          (fun _ _ _ => False)
          (OwnFrom.and (Own.from (fun _ A B row hs hg hr => ⟨hs.1.kept hg hr, hs.2.1.kept hg hr, hs.2.2.1.kept hg hr, blk_kept hs.2.2.2 hg hr⟩) _) (OwnFrom.and (MarksAt.own mlt) (ownFrom_below (Nat.le_refl _) (by omega))))
          (fun _ _ _ _ _ hs _ _ => hs)
          ⟨⟨HX.out.below hB4 HX.out.lt, HG.out.below hB4 HG.out.lt, HR.out.below hB4 HR.out.lt, p4⟩, M4, hBw⟩
          (fun x => { tmps := #[u0, .pointer (some ⟨w.heap.size, 0, none⟩), .pointer (some ⟨w.heap.size + 1, 0, none⟩), .pointer (some ⟨wr.heap.size, 0, none⟩), .pointer (some ⟨wq.heap.size, 0, none⟩), .int .i64 ((x.1 : Nat) : Int), V6, .int .i64 (n : Int), .int .i64 (k : Int), .bool true, .int .i64 (k : Int), .int .i64 (k : Int), .pointer (some ⟨w.heap.size, k * 4, none⟩), rowV (gt k), .func (.func 136) #[] #[.pointer (some ⟨wq.heap.size + 1, 0, none⟩)], .int .i64 ((x.1 : Nat) : Int), x16, x17, x18, x19, x20, x21, x22, x23, x24, x25, x26, x27, x28, x29, x30], defers := [] }) ?assign ?body ?done ?stop
        case assign =>
          intro l x W K hK
          unfold encBt
          gi_wp2
          exact hK
        case body =>
          rintro l pre x W ⟨⟨h1, hg1, h0, hp⟩, hM, hB⟩ _
          obtain ⟨kk, hkm⟩ := x
          have hkk := HC2.out.elem hkm
          have hkk0 : (0 : Int) ≤ (kk : Int) := by omega
          have hkk1 : (kk : Int) < 200 := by omega
          gi_wp2
          have hcp := hp.cell
          obtain ⟨U, hU⟩ : ∃ U : Nat, U = gt kk := ⟨_, rfl⟩
          have hUl : U < 2 ^ 256 := by rw [hU]; exact HC2.out.lt kk
          obtain ⟨u0_, u1_, u2_, u3_⟩ := hg1.row kk (by omega)
          rw [← hU] at u0_ u1_ u2_ u3_
          obtain ⟨X, hX⟩ : ∃ X : Nat, X = nextG gt k (natsOf pre) k := ⟨_, rfl⟩
          have hXl : X < 2 ^ 256 := by rw [hX]; exact nextG_lt HC2.out.lt _ _ _
          have HXX := Lib.hid (show nextG gt k (natsOf pre ++ [kk]) = fun j => if j = k then X ||| U else nextG gt k (natsOf pre) j by rw [nextG_snoc, hX, hU])
          have hbl : w.heap.size ≤ W.heap.size := hB.size
          have SK := Lib.hid (fun W' (hb' : Below W.heap.size W W') => show W'.cell? ⟨wq.heap.size, 0, none⟩ = some (.int .i64 (k : Int)) ∧ W'.cell? ⟨w.heap.size, kk * 4, none⟩ = some (.int .u64 ((word U 0 : Nat) : Int)) ∧ W'.cell? ⟨w.heap.size, kk * 4 + 1, none⟩ = some (.int .u64 ((word U 1 : Nat) : Int)) ∧ W'.cell? ⟨w.heap.size, kk * 4 + 2, none⟩ = some (.int .u64 ((word U 2 : Nat) : Int)) ∧ W'.cell? ⟨w.heap.size, kk * 4 + 3, none⟩ = some (.int .u64 ((word U 3 : Nat) : Int)) from
            ⟨(hb'.cell (p := ⟨wq.heap.size, 0, none⟩) (cell_lt hcp)).trans hcp, (hb'.cell (p := ⟨w.heap.size, kk * 4, none⟩) (cell_lt u0_)).trans u0_, (hb'.cell (p := ⟨w.heap.size, kk * 4 + 1, none⟩) (cell_lt u1_)).trans u1_, (hb'.cell (p := ⟨w.heap.size, kk * 4 + 2, none⟩) (cell_lt u2_)).trans u2_, (hb'.cell (p := ⟨w.heap.size, kk * 4 + 3, none⟩) (cell_lt u3_)).trans u3_⟩)
          have H1 := Lib.hid h1
          have HG1 := Lib.hid hg1
          have H0 := Lib.hid h0
          have HPP := Lib.hid hp
          have HMM := Lib.hid hM
          have HBB := Lib.hid hB
          have hWX : wr.heap.size < W.heap.size := h1.lt
          have hWP : wq.heap.size < W.heap.size := hp.lt
          have t_ := (h1.below (below_drew W _) h1.lt).row k (by omega)
          rw [← hX] at t_
          obtain ⟨t0, t1, t2, t3⟩ := t_
          have HK0 := Lib.hid (And.intro hk0 hk1)
          clear h1 hg1 h0 hp hM hB hU hX hcp u0_ u1_ u2_ u3_
          refine held_round (S := fun W' : World => W'.cell? ⟨wq.heap.size, 0, none⟩ = some (.int .i64 (k : Int)) ∧ W'.cell? ⟨w.heap.size, kk * 4, none⟩ = some (.int .u64 ((word U 0 : Nat) : Int)) ∧ W'.cell? ⟨w.heap.size, kk * 4 + 1, none⟩ = some (.int .u64 ((word U 1 : Nat) : Int)) ∧ W'.cell? ⟨w.heap.size, kk * 4 + 2, none⟩ = some (.int .u64 ((word U 2 : Nat) : Int)) ∧ W'.cell? ⟨w.heap.size, kk * 4 + 3, none⟩ = some (.int .u64 ((word U 3 : Nat) : Int))) (by kernel_rfl) ?hlet (by kernel_rfl) (SK.out _ (below_drew W _)) (fun hHeld => ?_)
          case hlet => rintro ⟨a', w', h⟩; exact h
          refine' wpAnyH_take (i := 0) (oi := ?oor0) (v := ?vvr0) ?hir0 (by kernel_rfl) (by kernel_rfl) (by kernel_rfl) ?hqr0 (Or.inl ⟨?hwr0, ?hyr0⟩) hHeld ?restr0
          case hir0 => simp only [List.getElem?_toArray, List.getElem?_cons_zero]; rfl
          case hqr0 => exact fun _ _ _ h => h
          case hwr0 => rfl
          case hyr0 => intro w hSw; (try dsimp only at hSw); go_simp; try (with_reducible rfl)
          try simp only [Act.put, List.setIfInBounds_toArray, List.set_cons_zero, List.set_cons_succ]
          refine' wpAnyH_take (i := 1) (oi := ?oor1) (v := ?vvr1) ?hir1 (by kernel_rfl) (by kernel_rfl) (by kernel_rfl) ?hqr1 (Or.inl ⟨?hwr1, ?hyr1⟩) hHeld ?restr1
          case hir1 => simp only [List.getElem?_toArray, List.getElem?_cons_succ, List.getElem?_cons_zero]; rfl
          case hqr1 => exact fun _ _ _ h => h
          case hwr1 => rfl
          case hyr1 => intro w hSw; (try dsimp only at hSw); go_simp; try (with_reducible rfl)
          try simp only [Act.put, List.setIfInBounds_toArray, List.set_cons_zero, List.set_cons_succ]
          refine' wpAnyH_take (i := 2) (oi := ?oor2) (v := ?vvr2) ?hir2 (by kernel_rfl) (by kernel_rfl) (by kernel_rfl) ?hqr2 (Or.inl ⟨?hwr2, ?hyr2⟩) hHeld ?restr2
          case hir2 => simp only [List.getElem?_toArray, List.getElem?_cons_succ, List.getElem?_cons_zero]; rfl
          case hqr2 => exact fun _ _ _ h => h
          case hwr2 => rfl
          case hyr2 => intro w hSw; (try dsimp only at hSw); go_simp; try (with_reducible rfl)
          try simp only [Act.put, List.setIfInBounds_toArray, List.set_cons_zero, List.set_cons_succ]
          refine' wpAnyH_take (i := 4) (oi := ?oor4) (v := ?vvr4) ?hir4 (by kernel_rfl) (by kernel_rfl) (by kernel_rfl) ?hqr4 (Or.inl ⟨?hwr4, ?hyr4⟩) hHeld ?restr4
          case hir4 => simp only [List.getElem?_toArray, List.getElem?_cons_succ, List.getElem?_cons_zero]; rfl
          case hqr4 => exact fun _ _ _ h => h
          case hwr4 => rfl
          case hyr4 => intro w hSw; (try dsimp only at hSw); go_simp; try (with_reducible rfl)
          try simp only [Act.put, List.setIfInBounds_toArray, List.set_cons_zero, List.set_cons_succ]
          refine' wpAnyH_take (i := 5) (oi := ?oor5) (v := ?vvr5) ?hir5 (by kernel_rfl) (by kernel_rfl) (by kernel_rfl) ?hqr5 (Or.inl ⟨?hwr5, ?hyr5⟩) hHeld ?restr5
          case hir5 => simp only [List.getElem?_toArray, List.getElem?_cons_succ, List.getElem?_cons_zero]; rfl
          case hqr5 => exact fun _ _ _ h => h
          case hwr5 => rfl
          case hyr5 => intro w hSw; (try dsimp only at hSw); go_simp; try (with_reducible rfl)
          try simp only [Act.put, List.setIfInBounds_toArray, List.set_cons_zero, List.set_cons_succ]
          refine' wpAnyH_take (i := 6) (oi := ?oor6) (v := ?vvr6) ?hir6 (by kernel_rfl) (by kernel_rfl) (by kernel_rfl) ?hqr6 (Or.inl ⟨?hwr6, ?hyr6⟩) hHeld ?restr6
          case hir6 => simp only [List.getElem?_toArray, List.getElem?_cons_succ, List.getElem?_cons_zero]; rfl
          case hqr6 => exact fun _ _ _ h => h
          case hwr6 => rfl
          case hyr6 => intro w hSw; (try dsimp only at hSw); go_simp; try (with_reducible rfl)
          try simp only [Act.put, List.setIfInBounds_toArray, List.set_cons_zero, List.set_cons_succ]
          refine wpAnyH_ready (rs := [3]) (by kernel_rfl) (by simp) ?_
          refine' AllReadyH.cons (o := ?oor3) ?hir3 (fun K hK => ?restr3) AllReadyH.nil
          case hir3 => simp only [List.getElem?_toArray, List.getElem?_cons_succ, List.getElem?_cons_zero]; rfl
          go_simp
          clear t0 t1 t2 t3
          refine hK.out _ _ (by assumption) (fun hHeld => ?_)
          clear hK K
          try simp only [Act.put, List.setIfInBounds_toArray, List.set_cons_zero, List.set_cons_succ]
          refine wpAnyH_ready (rs := [7]) (by kernel_rfl) (by simp) ?_
          refine' AllReadyH.cons (o := ?oor7) ?hir7 (fun K hK => ?restr7) AllReadyH.nil
          case hir7 => simp only [List.getElem?_toArray, List.getElem?_cons_succ, List.getElem?_cons_zero]; rfl
          go_simp
          go_at_call 133
          refine (or_any X U _).mono ?_
          rintro e W5 ⟨rfl, hb5⟩
          have B5 := Lib.hid ((below_drew W _).trans hb5)
          have N5 := Lib.hid (H1.out.below B5.out H1.out.lt)
          have hfz := N5.out.frozen
          obtain ⟨t0, t1, t2, t3⟩ := N5.out.row k (by omega)
          clear hb5
          go_wp2_with fail
          refine hK.out _ _ (SK.out _ B5.out) (fun hHeld => ?_)
          clear hK K
          try simp only [Act.put, List.setIfInBounds_toArray, List.set_cons_zero, List.set_cons_succ]
          refine' wpAnyH_take (i := 8) (oi := ?oor8) (v := ?vvr8) ?hir8 (by kernel_rfl) (by kernel_rfl) (by kernel_rfl) ?hqr8 (Or.inl ⟨?hwr8, ?hyr8⟩) hHeld ?restr8
          case hir8 => simp only [List.getElem?_toArray, List.getElem?_cons_succ, List.getElem?_cons_zero]; rfl
          case hqr8 => exact fun _ _ _ h => h
          case hwr8 => rfl
          case hyr8 => intro w hSw; (try dsimp only at hSw); go_simp; try (with_reducible rfl)
          try simp only [Act.put, List.setIfInBounds_toArray, List.set_cons_zero, List.set_cons_succ]
          refine wpAnyH_ready (rs := [9]) (by kernel_rfl) (by simp) ?_
          refine' AllReadyH.cons (o := ?oor9) ?hir9 (fun K hK => ?restr9) AllReadyH.nil
          case hir9 => simp only [List.getElem?_toArray, List.getElem?_cons_succ, List.getElem?_cons_zero]; rfl
          go_simp
          have N6 := Lib.hid (N5.out.setRow4 (m := k) (X := X ||| U) (by omega) (Nat.or_lt_two_pow hXl hUl))
          have hb6 : Below wr.heap.size W5 ((((W5.setCell ⟨wr.heap.size, k * 4, none⟩ (.int .u64 ((word (X ||| U) 0 : Nat) : Int))).setCell ⟨wr.heap.size, k * 4 + 1, none⟩ (.int .u64 ((word (X ||| U) 1 : Nat) : Int))).setCell ⟨wr.heap.size, k * 4 + 2, none⟩ (.int .u64 ((word (X ||| U) 2 : Nat) : Int))).setCell ⟨wr.heap.size, k * 4 + 3, none⟩ (.int .u64 ((word (X ||| U) 3 : Nat) : Int))) := ((((Below.refl _ W5).setCell (p := ⟨wr.heap.size, k * 4, none⟩) (Nat.le_refl _) _).setCell (p := ⟨wr.heap.size, k * 4 + 1, none⟩) (Nat.le_refl _) _).setCell (p := ⟨wr.heap.size, k * 4 + 2, none⟩) (Nat.le_refl _) _).setCell (p := ⟨wr.heap.size, k * 4 + 3, none⟩) (Nat.le_refl _) _
          have B6 := Lib.hid ((B5.out.mono (Nat.le_of_lt hWX)).trans hb6)
          clear hb6
          refine hK.out _ _ (⟨cell_four (SK.out _ B5.out).1 (by omega), cell_four (SK.out _ B5.out).2.1 (by omega), cell_four (SK.out _ B5.out).2.2.1 (by omega), cell_four (SK.out _ B5.out).2.2.2.1 (by omega), cell_four (SK.out _ B5.out).2.2.2.2 (by omega)⟩) (fun hHeld => ?_)
          clear hK K
          try simp only [Act.put, List.setIfInBounds_toArray, List.set_cons_zero, List.set_cons_succ]
          refine wpAnyH_done (by kernel_rfl) ?_ _
          have hK6 : KeepsOthers W ((((W5.setCell ⟨wr.heap.size, k * 4, none⟩ (.int .u64 ((word (X ||| U) 0 : Nat) : Int))).setCell ⟨wr.heap.size, k * 4 + 1, none⟩ (.int .u64 ((word (X ||| U) 1 : Nat) : Int))).setCell ⟨wr.heap.size, k * 4 + 2, none⟩ (.int .u64 ((word (X ||| U) 2 : Nat) : Int))).setCell ⟨wr.heap.size, k * 4 + 3, none⟩ (.int .u64 ((word (X ||| U) 3 : Nat) : Int))) := (keeps_below B5.out).trans ((((KeepsOthers.setCell _ _ _).trans (KeepsOthers.setCell _ _ _)).trans (KeepsOthers.setCell _ _ _)).trans (KeepsOthers.setCell _ _ _))
          have hX6 : ∀ b, b ≠ wr.heap.size → ((((W5.setCell ⟨wr.heap.size, k * 4, none⟩ (.int .u64 ((word (X ||| U) 0 : Nat) : Int))).setCell ⟨wr.heap.size, k * 4 + 1, none⟩ (.int .u64 ((word (X ||| U) 1 : Nat) : Int))).setCell ⟨wr.heap.size, k * 4 + 2, none⟩ (.int .u64 ((word (X ||| U) 2 : Nat) : Int))).setCell ⟨wr.heap.size, k * 4 + 3, none⟩ (.int .u64 ((word (X ||| U) 3 : Nat) : Int))).heap[b]? = W5.heap[b]? := fun b hb => heap_four _ _ _ _ _ _ _ _ _ _ b hb
          have N6' := N6.out
          rw [← HXX.out] at N6'
          have HN6 := Lib.hid N6'
          have HK6 := Lib.hid hK6
          have HX6 := Lib.hid hX6
          clear hK6 hX6 N6' N6
          generalize ((((W5.setCell ⟨wr.heap.size, k * 4, none⟩ (.int .u64 ((word (X ||| U) 0 : Nat) : Int))).setCell ⟨wr.heap.size, k * 4 + 1, none⟩ (.int .u64 ((word (X ||| U) 1 : Nat) : Int))).setCell ⟨wr.heap.size, k * 4 + 2, none⟩ (.int .u64 ((word (X ||| U) 2 : Nat) : Int))).setCell ⟨wr.heap.size, k * 4 + 3, none⟩ (.int .u64 ((word (X ||| U) 3 : Nat) : Int))) = W6 at HN6 HK6 HX6 B6 ⊢
          gi_wp2
          refine ⟨HK6.out.from _, B6.out.mono (by omega), ⟨by rw [natsOf_snoc]; exact HN6.out, ⟨(HX6.out _ (by omega)).trans (HG1.out.below B5.out HG1.out.lt).1, HC2.out.lt⟩, ⟨(HX6.out _ (by omega)).trans (H0.out.below B5.out H0.out.lt).1, fun _ => Nat.two_pow_pos 256⟩, (HX6.out _ (by omega)).trans ((B5.out.block _ HPP.out.lt).trans HPP.out)⟩, HMM.out.keeps HK6.out, HBB.out.trans (B6.out.mono (by omega))⟩
        case done =>
          rintro D ys W hD rfl ⟨⟨h1, hg1, h0, hp⟩, hM, hB⟩ hK
          rw [natsOf_all, nextG_next] at h1
          have H1 := Lib.hid h1
          have HG1 := Lib.hid hg1
          have H0 := Lib.hid h0
          have HMM := Lib.hid (MarksAt.cons hM (fun E hE => Nat.lt_of_lt_of_le (mlt E hE) hD) (by omega) hK)
          have HBB := Lib.hid hB
          clear h1 hg1 h0 hp hM hB hK
          gi_wp2
          refine ⟨?_, ?measure⟩
          refine ⟨k + 1, D :: Ds, ?_⟩
          (repeat apply Exists.intro)
          refine ⟨?rel, ?frame⟩
          case frame => rw [show (((k + 1 : Nat)) : Int) = (k : Int) + 1 from by omega]; rfl
          case rel => exact ⟨by omega, H1.out, HG1.out, H0.out, HMM.out, HBB.out⟩
          case measure => simp [intOf]; omega
        case stop =>
          rintro D c pre W _ _ h _
          exact h.elim
      · obtain rfl : k = n := by omega
        have hknz : ¬ (k : Int) < (k : Int) := by omega
        rw [nextG_done HC2.out] at hx
        have hlq : wr.heap.size < wq.heap.size := HX.out.lt
        by_cases he : stepG gt = gt
        · rw [he] at hx
          have heq : ∀ W, (Op.equalIn 10000 83 (.agg (gridCells gt)) (.agg (gridCells gt))).run Tryd.prog W = .ok true W := fun W => by
            rw [run_eqGrid 9997 gt gt HC2.out.lt HC2.out.lt W, (grid_all HC2.out HC2.out hn).2 rfl]
          have hfin : GridAt (wq.setRow (w.heap.size + 1) (gridCells gt)) (w.heap.size + 1) gt := HR.out.setRow HC2.out.lt
          have HFIN := Lib.hid hfin
          have HBE := Lib.hid (below_setRow' HB.out (Nat.le_succ w.heap.size) (gridCells gt))
          have hR0 := HR.out
          have hme : MarksAt w.heap.size Ds (wq.setRow (w.heap.size + 1) (gridCells gt)) := ⟨HM.out.nodup, fun D hD => by
            obtain ⟨h1, h2⟩ := HM.out.at_ D hD
            refine ⟨h1, ?_⟩
            rw [setRow_other wq (w.heap.size + 1) D _ (fun e => by rw [e, hR0.1] at h2; cases h2)]
            exact h2⟩
          have HME := Lib.hid hme
          have HE := Lib.hid he
          clear hfin hme he
          gi_wp2_with (first | (refine wpListIn_load_row rfl rfl 83 (.tmp 3) rfl wr.heap.size rfl 83 (gridCells gt) (0, 0) _ hx.1 hug rfl (by rw [gridCells_size]; exact sizeGrid) ?_) | (refine wpListIn_load_row rfl rfl 83 (.tmp 1) rfl w.heap.size rfl 83 (gridCells gt) (0, 0) _ hg.1 hug rfl (by rw [gridCells_size]; exact sizeGrid) ?_) | (refine wpListIn_store_row rfl rfl 83 (.tmp 2) (.tmp 29) rfl (w.heap.size + 1) (gridCells gt) rfl rfl 83 (gridCells fun _ => 0) hR0.1 (by rw [gridCells_size]; exact sizeGrid) (by rw [gridCells_size, gridCells_size]) (gridCells_one _) ?_))
          refine leaves_marks (n₀ := w.heap.size) (K := fun W => Below w.heap.size w W ∧ GridAt W (w.heap.size + 1) gt) (fun W D h h1 h2 => ⟨h.1.trans (belowK_b (w := w) (Nat.le_refl _) W D _ _ h1 h2 rfl rfl), ⟨by rw [World.putObj_heap_other (fun e => by rw [← e, h.2.1] at h2; cases h2)]; exact h.2.1, h.2.2⟩⟩) (fun W h => ⟨.agg (gridCells gt), ?_, ⟨gt, HC2.out, HE.out, rfl⟩, h.1⟩) Ds _ HME.out ⟨HBE.out, HFIN.out⟩
          exact results_cell_row rfl _ W (w.heap.size + 1) 83 (gridCells gt) (0, 0) _ rfl h.2.1 hug rfl (by rw [gridCells_size]; exact sizeGrid)
        · have heq : ∀ W, (Op.equalIn 10000 83 (.agg (gridCells (stepG gt))) (.agg (gridCells gt))).run Tryd.prog W = .ok false W := fun W => by
            rw [run_eqGrid 9997 (stepG gt) gt HC2.out.step.lt HC2.out.lt W]
            cases hq : (List.range 200).all fun i => decide (stepG gt i = gt i) with
            | false => rfl
            | true => exact absurd ((grid_all HC2.out.step HC2.out hn).1 hq) he
          have hfin : GridAt (wq.setRow w.heap.size (gridCells (stepG gt))) w.heap.size (stepG gt) := HG.out.setRow HC2.out.step.lt
          have HFIN := Lib.hid hfin
          have HBE := Lib.hid (below_setRow' HB.out (Nat.le_refl w.heap.size) (gridCells (stepG gt)))
          have hG0 := HG.out
          have hme : MarksAt w.heap.size Ds (wq.setRow w.heap.size (gridCells (stepG gt))) := ⟨HM.out.nodup, fun D hD => by
            obtain ⟨h1, h2⟩ := HM.out.at_ D hD
            refine ⟨h1, ?_⟩
            rw [setRow_other wq w.heap.size D _ (fun e => by rw [e, hG0.1] at h2; cases h2)]
            exact h2⟩
          have HME := Lib.hid hme
          have HRE : Hid (GridAt (wq.setRow w.heap.size (gridCells (stepG gt))) (w.heap.size + 1) (fun _ => 0)) := Lib.hid ⟨by rw [setRow_other wq w.heap.size (w.heap.size + 1) _ (by omega)]; exact HR.out.1, HR.out.2⟩
          have HP := Lib.hid (pop_step HC2.out he)
          clear hfin hme he
          gi_wp2_with (first | (refine wpListIn_load_row rfl rfl 83 (.tmp 3) rfl wr.heap.size rfl 83 (gridCells (stepG gt)) (0, 0) _ hx.1 hug rfl (by rw [gridCells_size]; exact sizeGrid) ?_) | (refine wpListIn_load_row rfl rfl 83 (.tmp 1) rfl w.heap.size rfl 83 (gridCells gt) (0, 0) _ hg.1 hug rfl (by rw [gridCells_size]; exact sizeGrid) ?_) | (refine wpListIn_store_row rfl rfl 83 (.tmp 1) (.tmp 30) rfl w.heap.size (gridCells (stepG gt)) rfl rfl 83 (gridCells gt) hg.1 (by rw [gridCells_size]; exact sizeGrid) (by rw [gridCells_size, gridCells_size]) (gridCells_one _) ?_))
          refine ⟨?_, ?measure⟩
          refine ⟨stepG gt, Ds, ?_⟩
          (repeat apply Exists.intro)
          refine ⟨?rel, ?frame⟩
          case frame => rfl
          case rel => exact ⟨HC2.out.step, HFIN.out, HRE.out, HME.out, HBE.out⟩
          case measure =>
            have h1 := gridIn_pop HFIN.out hn
            have h2 := HGP.out
            have h3 := HP.out
            have h4 := popG_le (stepG gt) k
            rw [h1, h2]
            omega
end Go.Proofs.YtjfbjfclcpcaiaaDoor
