/- The program's lift of a domain, unbuilt: how many elements it has, and what is below what. -/
import Derived.Test.YtnniffjjbekodaaDoorIsMono
import Derived.Test.YtnniffjjbekodaaDoorImplFun
import Derived.Test.YtnniffjjbekodaaDoorOrderG
import Derived.Test.YtnniffjjbekodaaDoorOkG
import Derived.Deep.AppendLies
import Derived.Test.YtnniffjjbekodaaDoorBackS
import Derived.Test.YtnniffjjbekodaaDoorLw
import Derived.Test.YtnniffjjbekodaaDoorStepS
import Derived.Test.YtnniffjjbekodaaDoorOwnB
import Derived.RangeFuncBox
import Derived.Test.YtnniffjjbekodaaDoorEnv
import Derived.Test.YtnniffjjbekodaaDoorTo
import Derived.Deep.RegionHeld3
namespace Go.Proofs.YtnniffjjbekodaaDoor
open Go.RowKit Go.Deep Go.Shelf

theorem run_lift_size (m : Nat) (v : Value) (w : World) : (Go.method (m + 1) 97 (.agg #[v]) "loop.example/scottdomains/impl.size").run Tryd.prog w = .ok (134, .agg #[v]) w := by kernel_rfl
theorem run_lift_below (m : Nat) (v : Value) (w : World) : (Go.method (m + 1) 97 (.agg #[v]) "loop.example/scottdomains/impl.below").run Tryd.prog w = .ok (133, .agg #[v]) w := by kernel_rfl

theorem one_new (W : World) (a : Value) (t : TypeId) : (W.alloc (.cells #[a] t)).cell? ⟨W.heap.size, 0, none⟩ = some a := by
  rw [cell_of_row _ W.heap.size 0 _ _ _ (heap_alloc_new _ _)]; rfl

set_option maxRecDepth 100000 in
set_option maxHeartbeats 2000000 in
theorem liftSize_any (p n : Nat) (g : Nat → Nat) (w : World) (hg : GridAt w p g) (hn : GridN g n) :
    Calls Tryd.prog 134 #[.agg #[.iface 58 (.pointer (some ⟨p, 0, none⟩))]] w (SaysI ((n + 1 : Nat) : Int) w) := by
  have b0 := (Below.refl w.heap.size w).alloc (Nat.le_refl _) (.cells #[.iface 58 (.pointer (some ⟨p, 0, none⟩))] 97)
  have hc := one_new w (.iface 58 (.pointer (some ⟨p, 0, none⟩))) 97
  have hcall := size_any p n g _ (hg.below b0 hg.lt) hn.le hn.some hn.none
  have hmS := run_size
  have hle := hn.le
  have hwr : IntKind.i64.wrap (1 + (n : Int)) = 1 + (n : Int) := IntWalk.i64_in _ (by omega)
  have HB := Lib.hid b0
  clear b0
  go_enter Tryd.func134, Tryd.ntmps134
  go_wp2_with (go_at_call 83; refine hcall.mono ?_; clear hcall; rintro e w1 ⟨rfl, hb1⟩; have B1 := Lib.hid (HB.out.trans (hb1.mono HB.out.size)); clear hb1)
  go_ret
  exact ⟨by rw [show ((n + 1 : Nat) : Int) = 1 + (n : Int) by omega]; rfl, B1.out⟩

/-- Is a below b in the lift? -/
def liftB (g : Nat → Nat) (a b : Nat) : Bool := decide (a = 0) || (decide (0 < b) && (g (a - 1)).testBit (b - 1))

set_option maxRecDepth 100000 in
set_option maxHeartbeats 2000000 in
theorem liftBelow_any (p : Nat) (g : Nat → Nat) (x y : Int) (a b : Nat) (w : World) (hg : GridAt w p g) (hx : x = a) (hy : y = b) (ha : a ≤ 200) (hb : b ≤ 200) :
    Calls Tryd.prog 133 #[.agg #[.iface 58 (.pointer (some ⟨p, 0, none⟩))], .int .i64 x, .int .i64 y] w (SaysN (liftB g a b) w) := by
  subst hx hy
  have b0 := (Below.refl w.heap.size w).alloc (Nat.le_refl _) (.cells #[.iface 58 (.pointer (some ⟨p, 0, none⟩))] 97)
  have hc := one_new w (.iface 58 (.pointer (some ⟨p, 0, none⟩))) 97
  have HB := Lib.hid b0
  have hmB := run_below
  by_cases h0 : a = 0
  · subst h0
    have HE := Lib.hid (show liftB g 0 b = true by unfold liftB; rfl)
    clear b0
    go_enter Tryd.func133, Tryd.ntmps133
    go_wp2
    go_ret
    exact ⟨by rw [HE.out]; rfl, HB.out⟩
  · have q1 : ((a : Int) == 0) = false := by rw [beq_eq_false_iff_ne]; omega
    have q2 : (a == 0) = false := by rw [beq_eq_false_iff_ne]; exact h0
    by_cases hb0 : 0 < b
    · have hE : liftB g a b = (g (a - 1)).testBit (b - 1) := by unfold liftB; rw [decide_eq_false h0, decide_eq_true hb0]; rfl
      have q3 : decide ((0 : Int) < (b : Int)) = true := decide_eq_true (by omega)
      have w1 : IntKind.i64.wrap ((a : Int) - 1) = ((a - 1 : Nat) : Int) := by rw [IntWalk.i64_in _ (by omega)]; omega
      have w2 : IntKind.i64.wrap ((b : Int) - 1) = ((b - 1 : Nat) : Int) := by rw [IntWalk.i64_in _ (by omega)]; omega
      have hcall := gbelow_any p g ((a - 1 : Nat) : Int) ((b - 1 : Nat) : Int) (a - 1) (b - 1) _ (hg.below b0 hg.lt) rfl (by omega) rfl (by omega)
      rw [hE]
      generalize (g (a - 1)).testBit (b - 1) = t at hcall ⊢
      clear b0 hE h0
      go_enter Tryd.func133, Tryd.ntmps133
      go_wp2_with (go_at_call 92; refine hcall.mono ?_; clear hcall; rintro e w1 ⟨rfl, hb1⟩; have B1 := Lib.hid (HB.out.trans (hb1.mono HB.out.size)); clear hb1)
      go_ret
      exact ⟨by simp, B1.out⟩
    · have HE := Lib.hid (show liftB g a b = false by unfold liftB; rw [decide_eq_false h0, decide_eq_false hb0]; rfl)
      obtain rfl : b = 0 := by omega
      clear b0 h0
      go_enter Tryd.func133, Tryd.ntmps133
      go_wp2
      go_ret
      exact ⟨by rw [HE.out]; rfl, HB.out⟩
end Go.Proofs.YtnniffjjbekodaaDoor

/- The program's order of a lift (built). -/
namespace Go.Proofs.YtnniffjjbekodaaDoor
open Go.RowKit Go.Deep Go.Shelf

/-- What row a holds when b elements have been looked at. -/
def liftRow (g : Nat → Nat) (a b : Nat) : List Int := ((List.range b).filter fun k => liftB g a k).map fun k : Nat => (k : Int)
theorem liftRow_yes {g : Nat → Nat} {a b : Nat} (h : liftB g a b = true) : liftRow g a (b + 1) = liftRow g a b ++ [(b : Int)] := by
  unfold liftRow
  rw [List.range_succ, List.filter_append, List.map_append, List.filter_cons, h]
  rfl
theorem liftRow_no {g : Nat → Nat} {a b : Nat} (h : liftB g a b = false) : liftRow g a (b + 1) = liftRow g a b := by
  unfold liftRow
  rw [List.range_succ, List.filter_append, List.filter_cons, h]
  simp
theorem liftRow_len (g : Nat → Nat) (a b : Nat) : (liftRow g a b).length ≤ b := by
  unfold liftRow
  rw [List.length_map]
  have := List.length_filter_le (fun k => liftB g a k) (List.range b)
  simpa using this
/-- All rows, when b elements of row a have been looked at. -/
def liftP (g : Nat → Nat) (N a b q : Nat) : List Int := if q < a then liftRow g q N else if q = a then liftRow g a b else []
theorem liftP_start (g : Nat → Nat) (N : Nat) : liftP g N 0 0 = fun _ => [] := by
  funext q
  unfold liftP
  rw [if_neg (Nat.not_lt_zero _)]
  split
  · rfl
  · rfl
theorem liftP_yes {g : Nat → Nat} {N a b : Nat} (h : liftB g a b = true) : liftP g N a (b + 1) = fun q => if q = a then liftP g N a b a ++ [(b : Int)] else liftP g N a b q := by
  funext q
  unfold liftP
  by_cases e : q = a
  · subst e
    rw [if_neg (Nat.lt_irrefl _), if_pos rfl, if_pos rfl, if_neg (Nat.lt_irrefl _), if_pos rfl, liftRow_yes h]
  · rw [if_neg e, if_neg e, if_neg e]
theorem liftP_no {g : Nat → Nat} {N a b : Nat} (h : liftB g a b = false) : liftP g N a (b + 1) = liftP g N a b := by
  funext q
  unfold liftP
  rw [liftRow_no h]
theorem liftP_next (g : Nat → Nat) (N a : Nat) : liftP g N a N = liftP g N (a + 1) 0 := by
  funext q
  unfold liftP
  by_cases e : q = a
  · subst e
    rw [if_neg (Nat.lt_irrefl _), if_pos rfl, if_pos (Nat.lt_succ_self _)]
  · by_cases e2 : q < a
    · rw [if_pos e2, if_pos (by omega)]
    · rw [if_neg e2, if_neg e, if_neg (by omega)]
      split
      · rfl
      · rfl
theorem liftP_at (g : Nat → Nat) (N a b : Nat) : liftP g N a b a = liftRow g a b := by unfold liftP; rw [if_neg (Nat.lt_irrefl _), if_pos rfl]
theorem liftP_done {g : Nat → Nat} {N q : Nat} (h : q < N) : liftP g N N 0 q = liftRow g q N := by unfold liftP; rw [if_pos h]

/-- While the order is built. -/
structure Bl (w : World) (p L N : Nat) (g : Nat → Nat) (R : Nat → List Int) (W : World) : Prop where
  grid : GridAt W p g
  res : Boxed W w.heap.size 28 (.slice none 0 0)
  own : OwnR 3 25 W (.slice (some ⟨L, 0, none⟩) N N) N R (w.heap.size + 1) W.heap.size
  below : Below w.heap.size w W
theorem Bl.step {w : World} {p L N : Nat} {g : Nat → Nat} {R : Nat → List Int} {W W' : World} (h : Bl w p L N g R W) (hb : Below W.heap.size W W') : Bl w p L N g R W' :=
  ⟨h.grid.below hb h.grid.lt, (hb.block _ h.res.lt).trans h.res, (h.own.below hb (Nat.le_refl _)).wider (Nat.le_refl _) hb.size, h.below.trans (hb.mono h.below.size)⟩

theorem rows_ne : (3 : TypeId) ≠ 25 := by decide
theorem Bl.appended {w : World} {p L N : Nat} {g : Nat → Nat} {R : Nat → List Int} {W W1 W2 : World} {f : Nat → Value} {j g' cap' : Nat} {y : Int} (h : Bl w p L N g R W) (hp : p < w.heap.size) (hN : N ≤ maxLen) (hL : w.heap.size + 1 ≤ L) (hr : W.rowIs L 25 N f)
    (hI : ∀ q, q < N → OwnI 3 W (f q) (R q) (w.heap.size + 1) W.heap.size) (hD : ∀ p q, p < q → q < N → (f p).ownBlock = none ∨ (f p).ownBlock ≠ (f q).ownBlock) (hj : j < N)
    (hy : (Lit.int .i64 y).wf = true) (hb1 : Below W.heap.size W W1)
    (hown : W2.ownsRow (w.heap.size + 1) 3 1 (.slice (some ⟨g', 0, none⟩) ((R j).length + 1) cap') ((R j).length + 1) (cellsI (R j) ++ [.int .i64 y])) (hgrow : W1.grownBy W2 (f j).ownBlock) (hat : (f j).ownBlock = some g' ∨ g' = W.heap.size + 1) (hlt : g' < W2.heap.size) :
    Bl w p L N g (fun q => if q = j then R j ++ [y] else R q) (W2.setCell ⟨L, j, none⟩ (.slice (some ⟨g', 0, none⟩) ((R j).length + 1) cap')) := by
  have hz : w.heap.size < W.heap.size := h.res.lt
  have ho := OwnR.appended (t := 3) (u := 25) rows_ne (Nat.le_refl _) hN hL hr hI hD hj hy hb1.size (fun b hb => hb1.block b hb) hown hgrow (by rcases hat with h | h; exact .inl h; exact .inr (by omega)) hlt
  have hk : Below (w.heap.size + 1) W W2 := (hb1.mono (by omega)).grown hgrow (by have := hb1.size; omega) (fun b e => ((hI j hj).block b e).1)
  have hk2 := hk.setCell (p := ⟨L, j, none⟩) hL (.slice (some ⟨g', 0, none⟩) ((R j).length + 1) cap')
  exact ⟨h.grid.below hk2 (by omega), (hk2.block _ (by omega)).trans h.res, by rw [size_setCell]; exact ho, h.below.trans (hk2.mono (by omega))⟩
end Go.Proofs.YtnniffjjbekodaaDoor

/- The walk of built at a lift. -/
namespace Go.Proofs.YtnniffjjbekodaaDoor
open Go.RowKit Go.Deep Go.Shelf

/-- Rows in memory of their own, and a Boolean. -/
def RowsB (N : Nat) (R : Nat → List Int) (t : Bool) (w : World) (e : Ending) (w' : World) : Prop :=
  ∃ v, e = .returned (.tuple #[.agg #[v], .bool t]) ∧ OwnR 3 25 w' v N R w.heap.size w'.heap.size ∧ Below w.heap.size w w'

set_option maxRecDepth 100000 in
set_option maxHeartbeats 4000000 in
theorem builtLift_yes (p n N : Nat) (g : Nat → Nat) (w : World) (hg : GridAt w p g) (hn : GridN g n) (hN : N = n + 1) (hN2 : N ≤ 200) :
    Calls Tryd.prog 76 #[.iface 97 (.agg #[.iface 58 (.pointer (some ⟨p, 0, none⟩))])] w (RowsB N (fun q => liftRow g q N) true w) := by
  have b0 := (Below.refl w.heap.size w).alloc (Nat.le_refl _) (.cells #[.slice none 0 0] 28)
  have hbx := Boxed.new w 28 (.slice none 0 0)
  have hcall := liftSize_any p n g _ (hg.below b0 hg.lt) hn
  rw [← hN] at hcall
  have hmk := run_make_row' (P := Tryd.prog) 22 25 (.slice none 0 0) 24 Tryd.underlying22 infoInts rfl .i64 .i64 N (by omega) (by omega)
  have hmS := run_lift_size
  have hmB := run_lift_below
  have hN3 : ¬ ((200 : Int) < (N : Int)) := by omega
  have hpl : p < w.heap.size := hg.lt
  obtain ⟨i0, hi0, hz0, hz1, hz2⟩ := info_parts infoInt
  have HG0 := Lib.hid (hg.below b0 hg.lt)
  have HBX := Lib.hid hbx
  have HB0 := Lib.hid b0
  clear hg hn hN b0 hbx
  go_enter Tryd.func76, Tryd.ntmps76
  go_wp2_with (go_at_call 134; refine hcall.mono ?_; clear hcall; rintro e w1 ⟨rfl, hb1⟩; have HG1 := Lib.hid (HG0.out.below hb1 (by rw [World.size_alloc]; omega)); have HBX1 : Hid (Boxed w1 w.heap.size 28 (.slice none 0 0)) := Lib.hid ((hb1.block _ HBX.out.lt).trans HBX.out); have HB1 := Lib.hid (HB0.out.trans (hb1.mono HB0.out.size)); clear hb1)
  have hwl : w.heap.size < w1.heap.size := HBX1.out.lt
  have bA := (Below.refl w1.heap.size w1).alloc (Nat.le_refl _) (.cells (madeCells #[.slice none 0 0] N) 25)
  have HST := Lib.hid (show Bl w p w1.heap.size N g (liftP g N 0 0) (w1.alloc (.cells (madeCells #[.slice none 0 0] N) 25)) from
    ⟨HG1.out.below bA HG1.out.lt, HBX1.out.alloc _, (OwnR.made w1 N (w.heap.size + 1) (by unfold maxLen; omega) hwl (fun _ => [])).congr (fun j _ => by rw [liftP_start]; unfold upto; rw [if_neg (Nat.not_lt_zero _)]), HB1.out.trans (bA.mono HB1.out.size)⟩)
  clear bA hmk
  go_loopw [6, 17] (fun _ av wr => ∃ a : Nat, a ≤ N ∧ av = .int .i64 a ∧ Bl w p w1.heap.size N g (liftP g N a 0) wr) (fun _ av _ => N - (intOf av).toNat)
  case atStart => exact ⟨0, Nat.zero_le _, rfl, HST.out⟩
  case round =>
    obtain ⟨a, ha, rfl, ht⟩ := hrel
    have HT := Lib.hid ht
    clear HST
    by_cases hal : a < N
    · clear ht
      go_wp2
      go_loopw [7, 21] (fun _ bv wr => ∃ b : Nat, b ≤ N ∧ bv = .int .i64 b ∧ Bl w p w1.heap.size N g (liftP g N a b) wr) (fun _ bv _ => N - (intOf bv).toNat)
      case atStart => exact ⟨0, Nat.zero_le _, rfl, HT.out⟩
      case round =>
        obtain ⟨b, hb, rfl, ht⟩ := hrel
        have HK := Lib.hid ht
        clear ht HT
        by_cases hbl : b < N
        · have hcall := liftBelow_any p g a b a b wr HK.out.grid rfl rfl (by omega) (by omega)
          cases hbit : liftB g a b with
          | false =>
            rw [hbit] at hcall
            have HE := Lib.hid (liftP_no (N := N) hbit)
            clear hbit
            go_wp2_with (go_at_call 133; refine hcall.mono ?_; clear hcall; rintro e w2 ⟨rfl, hb2⟩; have H2 := Lib.hid (HK.out.step hb2); clear hb2)
            go_roundw
            case rel => exact ⟨b + 1, by omega, by go_num, by rw [HE.out]; exact H2.out⟩
            case measure => simp [intOf]; omega
          | true =>
            rw [hbit] at hcall
            have HE := Lib.hid (liftP_yes (N := N) hbit)
            clear hbit
            go_wp2_with fail
            refine hcall.mono ?_
            clear hcall
            rintro e w2 ⟨rfl, hb2⟩
            have H2 := Lib.hid (HK.out.step hb2)
            obtain hnil | ⟨g1, C2, f, e, hC2, hm2, hl2, hh2, hr2, hI2, hD2⟩ := H2.out.own
            · cases hnil.1
            cases e
            have hf2 := hr2.frozen a
            have hc2 := hr2.cell hal
            have HR := Lib.hid hr2
            have HI := Lib.hid hI2
            have HD := Lib.hid hD2
            have hne : some w1.heap.size ≠ (f a).ownBlock := fun e => by
              obtain ⟨_, _, c, h3⟩ := (hI2 a hal).block _ e.symm
              obtain ⟨c0, h4, _⟩ := hr2
              rw [h4] at h3
              injection h3 with h3
              injection h3 with _ h5
              exact rows_ne h5.symm
            have HNE := Lib.hid hne
            have HC2 := Lib.hid (cell_alloc_any hc2)
            have HF2 : Hid (∀ X, (w2.alloc X).frozen? ⟨w1.heap.size, a, none⟩ = false) := Lib.hid fun X => (Below.frozen ((Below.refl _ w2).alloc (Nat.le_refl _) X) (p := ⟨w1.heap.size, a, none⟩) hh2).trans hf2
            have HOWN := Lib.hid (hI2 a hal).owns
            have hln : (liftP g N a b a).length ≤ 200 := by rw [liftP_at]; exact Nat.le_trans (liftRow_len g a b) (by omega)
            have HWF : Hid ((Lit.int .i64 (b : Int)).wf = true) := Lib.hid (wf_nat (by omega))
            have hwz : w.heap.size < w2.heap.size := H2.out.res.lt
            have hL2 : w1.heap.size < w2.heap.size := hh2
            have haz : (a : Int) < (N : Int) := by omega
            clear hb2 hr2 hI2 hD2 hne hh2
            go_wp2_with (at_builtin; refine wpList_append_lies _ rfl _ _ 25 rfl (w.heap.size + 1) 3 i0 (.int .i64 0) 1 8 Tryd.underlying25 hi0 hz0 hz1 hz2 rfl (by decide) (f a) (liftP g N a b a).length (cellsI (liftP g N a b a)) (by rfl) (HOWN.out.alloc _) ⟨w2.heap.size, 0, none⟩ 1 1 [.int .i64 (b : Int)] (by rfl) rfl (World.news_of_block (heap_alloc_new w2 _)) (by simp [Value.oneCell']) (by omega) (by unfold maxLen; omega) (by omega) (by simp; omega) (w2.heap.size + 1) (by simp) ?_; intro g' cap' w3 hown hgrow hat hlt'; have hc3 : w3.cell? ⟨w1.heap.size, a, none⟩ = some (f a) := (hgrow.cell_far ⟨w1.heap.size, a, none⟩ (by simp; omega) HNE.out).trans (HC2.out _); have hf3 : w3.frozen? ⟨w1.heap.size, a, none⟩ = false := (hgrow.frozen_far ⟨w1.heap.size, a, none⟩ (by simp; omega) HNE.out).trans (HF2.out _))
            go_roundw
            case rel =>
              refine ⟨b + 1, by omega, by go_num, ?_⟩
              rw [HE.out]
              exact H2.out.appended hpl (by unfold maxLen; omega) hwl HR.out HI.out HD.out hal HWF.out ((Below.refl w2.heap.size w2).alloc (Nat.le_refl _) _) hown ⟨hgrow.os, hgrow.tape, hgrow.output, hgrow.size, hgrow.block⟩ hat hlt'
            case measure => simp [intOf]; omega
        · obtain rfl : b = N := by omega
          go_wp2
          go_roundw
          case rel => exact ⟨a + 1, by omega, by go_num, by rw [← liftP_next]; exact HK.out⟩
          case measure => simp [intOf]; omega
    · obtain rfl : a = N := by omega
      have hres := ht.res.cell
      have hfr := ht.res.frozen
      have hc9 := World.cell?_setCell_same' wr ⟨w.heap.size, 0, none⟩ (.slice (some ⟨w1.heap.size, 0, none⟩) a a) (by rw [hres]; rfl)
      clear ht
      go_wp2
      refine bodyPost_ret (v := .tuple #[.agg #[.slice (some ⟨w1.heap.size, 0, none⟩) a a], .bool true]) (by simp [results, Tryd.results76, go_sem, hc9]) rfl ?_
      refine ⟨_, rfl, ?_, HT.out.below.setCell (p := ⟨w.heap.size, 0, none⟩) (Nat.le_refl _) _⟩
      rw [size_setCell]
      exact ((HT.out.own.kept fun b hb _ => Below.heap_setCell _ _ _ b (show b ≠ w.heap.size by omega)).wider (by omega) (Nat.le_refl _)).congr fun q hq => liftP_done hq
end Go.Proofs.YtnniffjjbekodaaDoor

/- The program's DomainLift. -/
namespace Go.Proofs.YtnniffjjbekodaaDoor
open Go.RowKit Go.Deep Go.Shelf

set_option maxRecDepth 100000 in
set_option maxHeartbeats 4000000 in
theorem builtLift_no (p n N : Nat) (g : Nat → Nat) (w : World) (hg : GridAt w p g) (hn : GridN g n) (hN : N = n + 1) (hN2 : 200 < N) :
    Calls Tryd.prog 76 #[.iface 97 (.agg #[.iface 58 (.pointer (some ⟨p, 0, none⟩))])] w (RowsB 0 (fun _ => []) false w) := by
  have b0 := (Below.refl w.heap.size w).alloc (Nat.le_refl _) (.cells #[.slice none 0 0] 28)
  have hbx := Boxed.new w 28 (.slice none 0 0)
  have hcall := liftSize_any p n g _ (hg.below b0 hg.lt) hn
  rw [← hN] at hcall
  have hmS := run_lift_size
  have hN3 : (200 : Int) < (N : Int) := by omega
  have HBX := Lib.hid hbx
  have HB0 := Lib.hid b0
  clear hg hn hN b0 hbx
  go_enter Tryd.func76, Tryd.ntmps76
  go_wp2_with (go_at_call 134; refine hcall.mono ?_; clear hcall; rintro e w1 ⟨rfl, hb1⟩; have HBX1 : Hid (Boxed w1 w.heap.size 28 (.slice none 0 0)) := Lib.hid ((hb1.block _ HBX.out.lt).trans HBX.out); have HB1 := Lib.hid (HB0.out.trans (hb1.mono HB0.out.size)); have hres := HBX1.out.cell; have hfr := HBX1.out.frozen; clear hb1)
  have hc9 := World.cell?_setCell_same' w1 ⟨w.heap.size, 0, none⟩ (.slice none 0 0) (by rw [hres]; rfl)
  refine bodyPost_ret (v := .tuple #[.agg #[.slice none 0 0], .bool false]) (by simp [results, Tryd.results76, go_sem, hc9]) rfl ?_
  exact ⟨_, rfl, OwnR.nil _ _ _ _ _ _, HB1.out.setCell (p := ⟨w.heap.size, 0, none⟩) (Nat.le_refl _) _⟩

/-- What DomainLift answers. -/
noncomputable def liftOk (rows : Rows2) : Bool := domB rows && decide (rows.length < 200)
noncomputable def liftL (rows : Rows2) : Rows2 := if liftOk rows = true then (List.range (rows.length + 1)).map fun q => liftRow (gridF rows) q (rows.length + 1) else []
theorem liftL_yes {rows : Rows2} (h : liftOk rows = true) : (liftL rows).length = rows.length + 1 ∧ ∀ q, q < rows.length + 1 → rowsF (liftL rows) q = liftRow (gridF rows) q (rows.length + 1) := by
  unfold liftL
  rw [if_pos h]
  refine ⟨by simp, fun q hq => ?_⟩
  rw [rowsF_lt (by simpa using hq)]
  simp
theorem liftL_no {rows : Rows2} (h : liftOk rows = false) : liftL rows = [] := by unfold liftL; rw [if_neg (by rw [h]; simp)]

set_option maxRecDepth 100000 in
set_option maxHeartbeats 4000000 in
theorem implLift_any (v : Value) (rows : Rows2) (w : World) (hv : RowsAt w v rows) (hT : Tab w) (hn : bulk rows ≤ 1048576) :
    Calls Tryd.prog 43 #[.agg #[v]] w (OrderP (liftL rows) (liftOk rows) w) := by
  have b0 := ((Below.refl w.heap.size w).alloc (Nat.le_refl _) (.cells #[v] 28)).alloc (by simp) (.cells #[.slice none 0 0] 28)
  have hbx := Boxed.new (w.alloc (.cells #[v] 28)) 28 (.slice none 0 0)
  rw [World.size_alloc] at hbx
  have hc0 : ((w.alloc (.cells #[v] 28)).alloc (.cells #[.slice none 0 0] 28)).cell? ⟨w.heap.size, 0, none⟩ = some v := cell_alloc_any (one_new w v 28) _
  have hv0 := hv.below b0
  have hT0 := hT.below b0
  obtain ⟨A, C, rfl, _⟩ := hv
  have HBX := Lib.hid hbx
  have HB := Lib.hid b0
  clear b0 hbx
  cases hd : domB rows with
  | false =>
    have hcall := domainOf_no _ rows _ hv0 hT0 hn hd
    have HE := Lib.hid (show liftOk rows = false by unfold liftOk; rw [hd]; rfl)
    clear hd hv0 hT0
    go_enter Tryd.func43, Tryd.ntmps43
    go_wp2_with (go_at_call 75; refine hcall.mono ?_; clear hcall; rintro e w1 ⟨rfl, hb1⟩; have HBX1 : Hid (Boxed w1 (w.heap.size + 1) 28 (.slice none 0 0)) := Lib.hid ((hb1.block _ HBX.out.lt).trans HBX.out); have HB1 := Lib.hid (HB.out.trans (hb1.mono HB.out.size)); have hres := HBX1.out.cell; have hfr := HBX1.out.frozen; clear hb1)
    have hc9 := World.cell?_setCell_same' w1 ⟨w.heap.size + 1, 0, none⟩ (.slice none 0 0) (by rw [hres]; rfl)
    refine bodyPost_ret (v := .tuple #[.agg #[.slice none 0 0], .bool false]) (by simp [results, Tryd.results43, go_sem, hc9]) rfl ?_
    refine ⟨_, by rw [HE.out], ?_, HB1.out.setCell (p := ⟨w.heap.size + 1, 0, none⟩) (Nat.le_succ _) _⟩
    rw [liftL_no HE.out]
    exact OwnR.nil _ _ _ _ _ _
  | true =>
    have hok := ok_of_valid (show validB rows = true by have h := hd; unfold domB at h; rw [Bool.and_eq_true] at h; exact h.1)
    have hcall := domainOf_yes _ rows _ hv0 hT0 hn hd
    by_cases hl : rows.length < 200
    · have HE := Lib.hid (show liftOk rows = true by unfold liftOk; rw [hd, decide_eq_true hl]; rfl)
      have HC := Lib.hid (fun p W hg => builtLift_yes p rows.length (rows.length + 1) (gridF rows) W hg hok.gridN rfl (by omega))
      clear hd hv0 hT0 hok
      go_enter Tryd.func43, Tryd.ntmps43
      go_wp2_with (first | (go_at_call 75; refine hcall.mono ?_; clear hcall; rintro e w1 ⟨⟨p, rfl, _, hg⟩, hb1⟩; have HG := Lib.hid hg; have HBX1 : Hid (Boxed w1 (w.heap.size + 1) 28 (.slice none 0 0)) := Lib.hid ((hb1.block _ HBX.out.lt).trans HBX.out); have HB1 := Lib.hid (HB.out.trans (hb1.mono HB.out.size)); clear hb1 hg) | (go_at_call 76; refine (HC.out p _ HG.out).mono ?_; rintro e w2 ⟨u, rfl, hu, hb2⟩; obtain ⟨a2, C2, rfl⟩ := hu.form; have HU := Lib.hid hu; have HBX2 : Hid (Boxed w2 (w.heap.size + 1) 28 (.slice none 0 0)) := Lib.hid ((hb2.block _ HBX1.out.lt).trans HBX1.out); have HB2 := Lib.hid (HB1.out.trans (hb2.mono HB1.out.size)); have hres := HBX2.out.cell; have hfr := HBX2.out.frozen; clear hu hb2))
      have hc9 := World.cell?_setCell_same' w2 ⟨w.heap.size + 1, 0, none⟩ (.slice a2 (rows.length + 1) C2) (by rw [hres]; rfl)
      have hw1 : w.heap.size + 1 < w1.heap.size := HBX1.out.lt
      refine bodyPost_ret (v := .tuple #[.agg #[.slice a2 (rows.length + 1) C2], .bool true]) (by simp [results, Tryd.results43, go_sem, hc9]) rfl ?_
      obtain ⟨e1, e2⟩ := liftL_yes HE.out
      refine ⟨_, by rw [HE.out], ?_, HB2.out.setCell (p := ⟨w.heap.size + 1, 0, none⟩) (Nat.le_succ _) _⟩
      rw [e1, size_setCell]
      exact ((HU.out.kept fun b hb _ => Below.heap_setCell _ _ _ b (show b ≠ w.heap.size + 1 by omega)).wider (by omega) (Nat.le_refl _)).congr fun q hq => (e2 q hq).symm
    · have HE := Lib.hid (show liftOk rows = false by unfold liftOk; rw [hd, decide_eq_false hl]; rfl)
      have HC := Lib.hid (fun p W hg => builtLift_no p rows.length (rows.length + 1) (gridF rows) W hg hok.gridN rfl (by omega))
      clear hd hv0 hT0 hok
      go_enter Tryd.func43, Tryd.ntmps43
      go_wp2_with (first | (go_at_call 75; refine hcall.mono ?_; clear hcall; rintro e w1 ⟨⟨p, rfl, _, hg⟩, hb1⟩; have HG := Lib.hid hg; have HBX1 : Hid (Boxed w1 (w.heap.size + 1) 28 (.slice none 0 0)) := Lib.hid ((hb1.block _ HBX.out.lt).trans HBX.out); have HB1 := Lib.hid (HB.out.trans (hb1.mono HB.out.size)); clear hb1 hg) | (go_at_call 76; refine (HC.out p _ HG.out).mono ?_; rintro e w2 ⟨u, rfl, hu, hb2⟩; obtain ⟨a2, C2, rfl⟩ := hu.form; have HU := Lib.hid hu; have HBX2 : Hid (Boxed w2 (w.heap.size + 1) 28 (.slice none 0 0)) := Lib.hid ((hb2.block _ HBX1.out.lt).trans HBX1.out); have HB2 := Lib.hid (HB1.out.trans (hb2.mono HB1.out.size)); have hres := HBX2.out.cell; have hfr := HBX2.out.frozen; clear hu hb2))
      have hc9 := World.cell?_setCell_same' w2 ⟨w.heap.size + 1, 0, none⟩ (.slice a2 0 C2) (by rw [hres]; rfl)
      have hw1 : w.heap.size + 1 < w1.heap.size := HBX1.out.lt
      refine bodyPost_ret (v := .tuple #[.agg #[.slice a2 0 C2], .bool false]) (by simp [results, Tryd.results43, go_sem, hc9]) rfl ?_
      refine ⟨_, by rw [HE.out], ?_, HB2.out.setCell (p := ⟨w.heap.size + 1, 0, none⟩) (Nat.le_succ _) _⟩
      rw [liftL_no HE.out, size_setCell]
      exact ((HU.out.kept fun b hb _ => Below.heap_setCell _ _ _ b (show b ≠ w.heap.size + 1 by omega)).wider (by omega) (Nat.le_refl _)).congr fun q hq => absurd hq (Nat.not_lt_zero _)
end Go.Proofs.YtnniffjjbekodaaDoor

/- The model's l2Moved: a list, each number moved on. -/
namespace Go.Proofs.YtnniffjjbekodaaDoor
open Go.RowKit Go.Deep

/-- The first k numbers, each moved on. -/
def movedN (xs : List Int) (by' : Int) (k : Nat) : List Int := (xs.take k).map fun x => x + by'
theorem movedN_length {xs : List Int} {y : Int} {k : Nat} (h : k ≤ xs.length) : (movedN xs y k).length = k := by unfold movedN; simp; omega
theorem movedN_succ {xs : List Int} {y : Int} {k : Nat} (h : k < xs.length) : movedN xs y (k + 1) = movedN xs y k ++ [xs[k] + y] := by
  unfold movedN
  rw [List.take_succ_eq_append_getElem h, List.map_append]
  rfl

set_option maxRecDepth 100000 in
set_option maxHeartbeats 4000000 in
theorem l2Moved_any (v : Value) (xs : List Int) (y : Int) (w : World) (hv : IntsAt w v xs) (hn : xs.length ≤ 1048576) (hr : ∀ x ∈ xs, 0 ≤ x + y ∧ x + y ≤ 1048576) :
    Calls Tryd.prog 96 #[v, .int .i64 y] w (OwnQ (movedN xs y xs.length) w) := by
  have HFA := Lib.hid (fun W (h : Below w.heap.size w W) => (by
    obtain ⟨a, C, e, h1, h2, h3, h4⟩ := hv
    exact ⟨a, C, e, h1, h2, h3, fun i hi => by
      obtain ⟨b, o, ea, hc⟩ := h4 i hi
      exact ⟨b, o, ea, (h.cell (p := ⟨b, o + i, none⟩) (cell_lt hc)).trans hc⟩⟩ : IntsAt W v xs))
  obtain ⟨A, C, rfl, hC, hm, _⟩ := hv
  unfold maxLen at hm
  obtain ⟨i0, hi0, hz0, hz1, hz2⟩ := info_parts infoInt
  have HO := Lib.hid (World.ownsRow_made (e := 3) (size := 1) w #[] 0 (base := w.heap.size) (Nat.le_refl _) (Nat.zero_le _) (by simp))
  have HB0 := Lib.hid ((Below.refl w.heap.size w).alloc (Nat.le_refl _) (.cells #[] 3))
  have HR := Lib.hid hr
  clear hr
  go_enter Tryd.func96, Tryd.ntmps96
  go_wp2
  go_loopw [5, 6] (fun ov kv wr => ∃ k : Nat, k ≤ xs.length ∧ kv = .int .i64 k ∧ wr.ownsRow w.heap.size 3 1 ov (movedN xs y k).length (cellsI (movedN xs y k)) ∧ Below w.heap.size w wr) (fun _ kv _ => xs.length - (intOf kv).toNat)
  case atStart => exact ⟨0, Nat.zero_le _, rfl, by unfold movedN; simpa using HO.out, HB0.out⟩
  case round =>
    obtain ⟨k, hk, rfl, hown, hB⟩ := hrel
    have HOWN := Lib.hid hown
    have HB := Lib.hid hB
    have hcl := Nat.le_of_eq (movedN_length (y := y) hk)
    clear hown hB HO HB0
    by_cases hlt : k < xs.length
    · obtain ⟨b1, o1, rfl, hcf⟩ := (HFA.out wr HB.out).get hlt
      have hr := HR.out _ (List.getElem_mem hlt)
      have hwr : IntKind.i64.wrap (xs[k] + y) = xs[k] + y := IntWalk.i64_in _ (by omega)
      have hbz := HB.out.size
      clear hr
      go_wp2_with (at_builtin; refine wpList_append_own _ rfl _ _ 25 rfl w.heap.size 3 i0 (.int .i64 0) 1 8 Tryd.underlying25 hi0 hz0 hz1 hz2 rfl (by decide) _ _ _ rfl (HOWN.out.alloc _) ⟨wr.heap.size, 0, none⟩ 1 1 [.int .i64 (xs[k] + y)] rfl rfl (cell_one_new _ _ _) (by simp [Value.oneCell']) (by unfold maxLen; omega) (by omega) (by simp; omega) ?_; intro v' w1 hown' hgrow _)
      go_roundw
      case rel =>
        refine ⟨k + 1, by omega, by go_num, ?_, (HB.out.alloc HB.out.size _).grown hgrow (by rw [World.size_alloc]; omega) (fun b e => (HOWN.out.lt b e).1)⟩
        rw [movedN_succ hlt, List.length_append, show cellsI (movedN xs y k ++ [xs[k] + y]) = cellsI (movedN xs y k) ++ [.int .i64 (xs[k] + y)] by simp]
        exact hown'
      case measure => simp [intOf]; omega
    · obtain rfl : k = xs.length := by omega
      go_wp2
      go_ret
      refine ⟨_, rfl, OwnI.of_owns HOWN.out ?_ (fun b hb => (HOWN.out.lt b hb).2), HB.out⟩
      intro z hz
      unfold movedN at hz
      rw [List.take_length] at hz
      obtain ⟨x, hx, rfl⟩ := List.mem_map.1 hz
      exact wf_int (HR.out x hx).1 (HR.out x hx).2
end Go.Proofs.YtnniffjjbekodaaDoor

/- The rows of a lift, in numbers: the first one full, the others moved on by one. -/
namespace Go.Proofs.YtnniffjjbekodaaDoor
open Go.RowKit Go.Deep

theorem liftRow_first (g : Nat → Nat) (N : Nat) : liftRow g 0 N = (List.range N).map fun k : Nat => (k : Int) := by
  unfold liftRow
  rw [List.filter_eq_self.2 (fun k _ => by unfold liftB; rfl)]
theorem filter_short {p : Nat → Bool} {n m : Nat} (h : ∀ k, p k = true → k < n) (hm : n ≤ m) : (List.range m).filter p = (List.range n).filter p := by
  obtain ⟨d, rfl⟩ : ∃ d, m = n + d := ⟨m - n, by omega⟩
  rw [List.range_add, List.filter_append]
  have e : ((List.range d).map fun x => n + x).filter p = [] := by
    rw [List.filter_eq_nil_iff]
    intro x hx hp
    obtain ⟨y, _, rfl⟩ := List.mem_map.1 hx
    have := h _ hp
    omega
  rw [e, List.append_nil]
theorem liftRow_next {rows : Rows2} (h : Ok rows) {i : Nat} (hi : i < rows.length) : liftRow (gridF rows) (i + 1) (rows.length + 1) = movedN rows[i] 1 rows[i].length := by
  unfold liftRow movedN
  rw [List.take_length, h.elems hi, List.range_succ_eq_map, List.filter_cons]
  have e0 : liftB (gridF rows) (i + 1) 0 = false := by unfold liftB; simp
  rw [e0, if_neg (by simp), List.filter_map]
  have e1 : (List.range rows.length).filter ((fun k => liftB (gridF rows) (i + 1) k) ∘ Nat.succ) = (List.range rows.length).filter (fun k => (gridF rows i).testBit k) := by
    congr 1
  have e2 : elems (gridF rows i) = (List.range rows.length).filter (fun k => (gridF rows i).testBit k) := by
    unfold elems
    exact filter_short (fun k hk => (h.bit_lt hk).2) (by have := h.len.2; omega)
  rw [e1, e2, List.map_map, List.map_map]
  apply List.map_congr_left
  intro k _
  simp
end Go.Proofs.YtnniffjjbekodaaDoor

/- An order that is built row by row in a variable of its own: 'out.Up = append(out.Up, row)'. Plain facts on worlds: no function is walked here. -/
namespace Go.Proofs.YtnniffjjbekodaaDoor
open Go.RowKit Go.Deep

/-- Rows are as they were if no block turns but one of another type. -/
theorem OwnR.kept_but {t u : TypeId} {W W' : World} {v : Value} {n : Nat} {R : Nat → List Int} {lo hi z : Nat} {tz : TypeId} {x : Value} (h : OwnR t u W v n R lo hi) (hz : Boxed W z tz x) (h1 : tz ≠ t) (h2 : tz ≠ u) (hb : ∀ b, b ≠ z → W'.heap[b]? = W.heap[b]?) : OwnR t u W' v n R lo hi := by
  obtain h | ⟨g, C, f, rfl, k1, k2, k3, k4, k5, k6, k7⟩ := h
  · exact .inl h
  · have hg : g ≠ z := fun e => by
      obtain ⟨c, k5, _⟩ := k5
      unfold Boxed at hz
      rw [e, hz] at k5
      injection k5 with k5
      injection k5 with _ k5
      exact h2 k5
    refine .inr ⟨g, C, f, rfl, k1, k2, k3, k4, k5.of_block (hb g hg), fun j hj => (k6 j hj).kept fun b e => hb b fun e2 => ?_, k7⟩
    obtain ⟨_, _, c, k8⟩ := (k6 j hj).block b e
    unfold Boxed at hz
    rw [e2, hz] at k8
    injection k8 with k8
    injection k8 with _ k8
    exact h1 k8

theorem ord_ne_int : (28 : TypeId) ≠ 3 := by decide
theorem ord_ne_ints : (28 : TypeId) ≠ 25 := by decide
theorem int_ne_ints : (3 : TypeId) ≠ 25 := by decide

/-- While an order is built in the box Z: n rows R are there. -/
structure Out (w0 : World) (Z : Nat) (u : Value) (n : Nat) (R : Nat → List Int) (W : World) : Prop where
  below : Below w0.heap.size w0 W
  out : Boxed W Z 28 u
  own : OwnR 3 25 W u n R w0.heap.size W.heap.size
  place : w0.heap.size ≤ Z
theorem Out.step {w0 : World} {Z : Nat} {u : Value} {n : Nat} {R : Nat → List Int} {W W' : World} (h : Out w0 Z u n R W) (hb : Below W.heap.size W W') : Out w0 Z u n R W' :=
  ⟨h.below.trans (hb.mono h.below.size), (hb.block _ h.out.lt).trans h.out, (h.own.below hb (Nat.le_refl _)).wider (Nat.le_refl _) hb.size, h.place⟩
theorem Out.congr {w0 : World} {Z : Nat} {u : Value} {n : Nat} {R R' : Nat → List Int} {W : World} (h : Out w0 Z u n R W) (he : ∀ j, j < n → R j = R' j) : Out w0 Z u n R' W :=
  ⟨h.below, h.out, h.own.congr he, h.place⟩

theorem Out.pushed {w0 : World} {Z : Nat} {u : Value} {n : Nat} {R : Nat → List Int} {wr w2 w3 : World} {f : Nat → Value} {v' u2 : Value} {xs : List Int} {o : Obj} (h : Out w0 Z u n R wr)
    (h0 : wr.ownsRow w0.heap.size 25 1 u n ((List.range n).map f)) (h1 : ∀ j, j < n → OwnI 3 wr (f j) (R j) w0.heap.size wr.heap.size) (h2 : ∀ i j, i < j → j < n → (f i).ownBlock = none ∨ (f i).ownBlock ≠ (f j).ownBlock)
    (hb : Below wr.heap.size wr w2) (hn : OwnI 3 w2 v' xs wr.heap.size w2.heap.size) (hown : w3.ownsRow w0.heap.size 25 1 u2 (n + 1) ((List.range n).map f ++ [v'])) (hgrow : (w2.alloc o).grownBy w3 u.ownBlock) :
    Out w0 Z u2 (n + 1) (fun q => if q = n then xs else R q) (w3.setCell ⟨Z, 0, none⟩ u2) := by
  have hs := h.step hb
  have hw := h.below.size
  have hz := hb.size
  obtain ⟨k1, k2, k3, k4, k5⟩ := Boxed.appended (tmp := o) hs.out ord_ne_ints (owns_below h0 hb) hs.below.size h.place hown hgrow
  have h1' : ∀ j, j < n → OwnI 3 w2 (f j) (R j) w0.heap.size wr.heap.size := fun j hj => (h1 j hj).kept fun b hb' => hb.block b ((h1 j hj).block b hb').2.1
  have hp := OwnR.pushed (W := w2) (mid := wr.heap.size) (lo := w0.heap.size) int_ne_ints (owns_below h0 hb) h1' h2 hw hz hn ((Below.refl _ w2).alloc (Nat.le_refl _) o) hown hgrow
  refine ⟨hs.below.trans k5, k2, ?_, h.place⟩
  rw [size_setCell]
  exact hp.kept_but k1 ord_ne_int ord_ne_ints fun b hb' => Below.heap_setCell _ _ _ b hb'
/-- The variable's cell, behind the append. -/
theorem Out.far {w0 : World} {Z : Nat} {u : Value} {n : Nat} {R : Nat → List Int} {w2 w3 : World} {xs : List Value} {o : Obj} (h : Out w0 Z u n R w2) (h0 : w2.ownsRow w0.heap.size 25 1 u n xs) (hgrow : (w2.alloc o).grownBy w3 u.ownBlock) : Boxed w3 Z 28 u :=
  (h.out.alloc o).kept hgrow (Boxed.not_row h.out ord_ne_ints h0)
/-- An order of one row, right behind. -/
theorem Out.one {w0 W : World} {v : Value} {xs : List Int} (hb : Below w0.heap.size w0 W) (hv : OwnI 3 W v xs w0.heap.size W.heap.size) :
    Out w0 (W.heap.size + 1) (.slice (some ⟨W.heap.size, 0, none⟩) 1 1) 1 (fun _ => xs) ((W.alloc (.cells #[v] 25)).alloc (.cells #[.slice (some ⟨W.heap.size, 0, none⟩) 1 1] 28)) := by
  have s1 : (W.alloc (.cells #[v] 25)).heap.size = W.heap.size + 1 := World.size_alloc _ _
  have hz := hb.size
  have b1 := (Below.refl W.heap.size W).alloc (Nat.le_refl _) (.cells #[v] 25)
  have b2 := b1.alloc (by rw [s1]; omega) (.cells #[.slice (some ⟨W.heap.size, 0, none⟩) 1 1] 28)
  have r1 := World.rowIs_alloc W #[v] 25 (fun _ => v) (fun i hi => by
    obtain rfl : i = 0 := by simpa using hi
    rfl)
  have bx := Boxed.new (W.alloc (.cells #[v] 25)) 28 (.slice (some ⟨W.heap.size, 0, none⟩) 1 1)
  rw [s1] at bx
  refine ⟨hb.trans (b2.mono hz), bx, .inr ⟨W.heap.size, 1, fun _ => v, rfl, Nat.le_refl _, by decide, hz, by rw [World.size_alloc, s1]; omega, r1.alloc _, fun j _ => ?_, fun i j hij hj => absurd hj (by omega)⟩, by omega⟩
  exact (hv.wider (Nat.le_refl _) (by rw [World.size_alloc, s1]; omega)).kept fun b e => b2.block b (hv.block b e).2.1
end Go.Proofs.YtnniffjjbekodaaDoor

/- The model's DomainLift. -/
namespace Go.Proofs.YtnniffjjbekodaaDoor
open Go.RowKit Go.Deep

/-- The numbers from 0 on. -/
def uptoL (k : Nat) : List Int := (List.range k).map fun i : Nat => (i : Int)
theorem uptoL_length (k : Nat) : (uptoL k).length = k := by unfold uptoL; simp
theorem uptoL_succ (k : Nat) : uptoL (k + 1) = uptoL k ++ [(k : Int)] := by
  unfold uptoL
  rw [List.range_succ, List.map_append]
  rfl
theorem uptoL_wf {k : Nat} (h : k ≤ 1048576) : ∀ x ∈ uptoL k, (Lit.int .i64 x).wf = true := by
  intro x hx
  unfold uptoL at hx
  obtain ⟨i, hi, rfl⟩ := List.mem_map.1 hx
  rw [List.mem_range] at hi
  exact wf_int (by omega) (by omega)

/-- The rows of the lift, in the model's words. -/
def liftR (rows : Rows2) (q : Nat) : List Int := if q = 0 then uptoL (rows.length + 1) else movedN (rowsF rows (q - 1)) 1 (rowsF rows (q - 1)).length

/-- An order in new memory. -/
def OrdNew (N : Nat) (R : Nat → List Int) (w : World) (e : Ending) (w' : World) : Prop :=
  ∃ v, e = .returned (.agg #[v]) ∧ OwnR 3 25 w' v N R w.heap.size w'.heap.size ∧ Below w.heap.size w w'

set_option maxRecDepth 100000 in
set_option maxHeartbeats 4000000 in
theorem l2Lift_any (v : Value) (rows : Rows2) (w : World) (hv : RowsAt w v rows) (hok : Ok rows) (hl : rows.length < 200) :
    Calls Tryd.prog 74 #[.agg #[v]] w (OrdNew (rows.length + 1) (liftR rows) w) := by
  have s1 : (w.alloc (.cells #[v] 28)).heap.size = w.heap.size + 1 := World.size_alloc _ _
  have b2 := ((Below.refl w.heap.size w).alloc (Nat.le_refl _) (.cells #[v] 28)).alloc (by rw [s1]; omega) (.cells #[.slice none 0 0] 28)
  have hbA := (Boxed.new w 28 v).alloc (.cells #[.slice none 0 0] 28)
  have hbR := Boxed.new (w.alloc (.cells #[v] 28)) 28 (.slice none 0 0)
  have s2 : ((w.alloc (.cells #[v] 28)).alloc (.cells #[.slice none 0 0] 28)).heap.size = w.heap.size + 2 := by rw [World.size_alloc, s1]
  rw [s1] at hbR
  have HV := Lib.hid (fun W (h : Below w.heap.size w W) => hv.below h)
  have hlen := hok.len
  obtain ⟨A, C, rfl, hC, hm, hx⟩ := hv
  unfold maxLen at hm
  obtain ⟨b0, o0, _, rfl, _, _⟩ := hx 0 (by omega)
  generalize hw0 : ((w.alloc (.cells #[.slice (some ⟨b0, o0, none⟩) rows.length C] 28)).alloc (.cells #[.slice none 0 0] 28)) = w0 at b2 hbA hbR s2
  obtain ⟨i0, hi0, hz0, hz1, hz2⟩ := info_parts infoInt
  obtain ⟨j0, hj0, hy0, hy1, hy2⟩ := info_parts infoInts
  have hO := World.ownsRow_made (e := 3) (size := 1) w0 #[] 0 (base := w0.heap.size) (Nat.le_refl _) (Nat.zero_le _) (by simp)
  rw [s2] at hO
  have HO := Lib.hid hO
  have HB1 := Lib.hid ((Below.refl w0.heap.size w0).alloc (Nat.le_refl _) (.cells #[] 3))
  have B2 := Lib.hid b2
  have BA := Lib.hid hbA
  have BR := Lib.hid hbR
  have HOK := Lib.hid hok
  have S2 := Lib.hid s2
  clear b2 hbA hbR hok hx hO s1
  go_enter Tryd.func74, Tryd.ntmps74
  go_upto_region 2 with fail
  clear hw0 s2
  go_wp2
  go_loopw [3, 4] (fun fv iv wr => ∃ k : Nat, k ≤ rows.length + 1 ∧ iv = .int .i64 k ∧ wr.ownsRow (w.heap.size + 2) 3 1 fv (uptoL k).length (cellsI (uptoL k)) ∧ Below w0.heap.size w0 wr) (fun _ iv _ => rows.length + 1 - (intOf iv).toNat)
  case atStart => exact ⟨0, Nat.zero_le _, rfl, HO.out, HB1.out⟩
  case round =>
    obtain ⟨k, hk, rfl, hown, hB⟩ := hrel
    have HOWN := Lib.hid hown
    have HB := Lib.hid hB
    have hcl := Nat.le_of_eq (uptoL_length k)
    have hcell := (hB.cell (p := ⟨w.heap.size, 0, none⟩) (cell_lt BA.out.cell)).trans BA.out.cell
    have hbz : w.heap.size + 2 ≤ wr.heap.size := by have := hB.size; have := S2.out; omega
    clear hown hB HO HB1
    by_cases hlt : k < rows.length + 1
    · have hlz : (k : Int) ≤ (rows.length : Int) := by omega
      go_wp2_with (at_builtin; refine wpList_append_own _ rfl _ _ 25 rfl (w.heap.size + 2) 3 i0 (.int .i64 0) 1 8 Tryd.underlying25 hi0 hz0 hz1 hz2 rfl (by decide) _ _ _ rfl (HOWN.out.alloc _) ⟨wr.heap.size, 0, none⟩ 1 1 [.int .i64 (k : Int)] rfl rfl (cell_one_new _ _ _) (by simp [Value.oneCell']) (by unfold maxLen; omega) (by omega) (by simp; omega) ?_; intro v' w1 hown' hgrow _)
      go_roundw
      case rel =>
        refine ⟨k + 1, by omega, by go_num, ?_, (HB.out.alloc HB.out.size _).grown hgrow (by rw [World.size_alloc, S2.out]; omega) (fun b e => by rw [S2.out]; exact (HOWN.out.lt b e).1)⟩
        rw [uptoL_succ, List.length_append, show cellsI (uptoL k ++ [(k : Int)]) = cellsI (uptoL k) ++ [.int .i64 (k : Int)] by simp]
        exact hown'
      case measure => simp [intOf]; omega
    · obtain rfl : k = rows.length + 1 := by omega
      have hlz : ¬ (((rows.length + 1 : Nat) : Int) ≤ (rows.length : Int)) := by omega
      have hoi : OwnI 3 wr u3 (uptoL (rows.length + 1)) w0.heap.size wr.heap.size := by
        rw [S2.out]
        exact OwnI.of_owns HOWN.out (uptoL_wf (by omega)) (fun b hb => (HOWN.out.lt b hb).2)
      obtain ⟨a3, C3, rfl⟩ := hoi.form
      have HST := Lib.hid ((Out.one HB.out hoi).congr (R' := liftR rows) (fun j hj => by
        obtain rfl : j = 0 := by omega
        unfold liftR
        rw [if_pos rfl]))
      clear hoi HOWN
      have hzz : wr.heap.size + 1 < ((wr.alloc (.cells #[.slice a3 (uptoL (rows.length + 1)).length C3] 25)).alloc (.cells #[.slice (some ⟨wr.heap.size, 0, none⟩) 1 1] 28)).heap.size := by rw [World.size_alloc, World.size_alloc]; omega
      generalize hZ : wr.heap.size + 1 = Z at HST hzz
      go_wp2
      generalize ((wr.alloc (.cells #[.slice a3 (uptoL (rows.length + 1)).length C3] 25)).alloc (.cells #[.slice (some ⟨wr.heap.size, 0, none⟩) 1 1] 28)) = wq at HST hzz ⊢
      clear hcell hZ
      go_loopw [6] (fun iv wx => ∃ (i : Nat) (u : Value), i ≤ rows.length ∧ iv = .int .i64 i ∧ Out w0 Z u (i + 1) (liftR rows) wx) (fun iv _ => rows.length - (intOf iv).toNat)
      case atStart => exact ⟨0, _, Nat.zero_le _, rfl, HST.out⟩
      case round =>
        obtain ⟨i, u, hi, rfl, ho⟩ := hrel
        have HK := Lib.hid ho
        obtain ⟨au, Cu, rfl⟩ := ho.own.form
        have hcell := (ho.below.cell (p := ⟨w.heap.size, 0, none⟩) (cell_lt BA.out.cell)).trans BA.out.cell
        have hout := ho.out.cell
        have hZ2 := ho.out.lt
        have hb0 := ho.below.size
        have HA := Lib.hid ho.place
        clear HST hzz
        by_cases hlt : i < rows.length
        · have hltz : (i : Int) < (rows.length : Int) := by omega
          obtain ⟨A1, C1, hC1, hm1, hc, hyy⟩ := (HV.out wr (B2.out.trans (ho.below.mono (by rw [S2.out]; omega)))).row hlt
          have hran := (HOK.out.asc i hlt).2
          have hrow : IntsAt wr.drew (.slice A1 rows[i].length C1) rows[i] := ⟨A1, C1, rfl, hC1, hm1, fun x hx => by have := hran x hx; exact wf_int (by omega) (by omega), hyy⟩
          have hrl : rows[i].length ≤ 1048576 := by have := bulk_row hlt; have := HOK.out.bulk; omega
          have HMV := Lib.hid (l2Moved_any _ rows[i] 1 wr.drew hrow hrl (fun x hx => by have := hran x hx; omega))
          have hml : (movedN rows[i] 1 rows[i].length).length = rows[i].length := movedN_length (Nat.le_refl _)
          obtain ⟨f, hf0, hf1, hf2⟩ := ho.own.owns
          have HF0 := Lib.hid hf0
          have HF1 := Lib.hid hf1
          have HF2 := Lib.hid hf2
          have HLR := Lib.hid (show liftR rows (i + 1) = movedN rows[i] 1 rows[i].length by
            unfold liftR
            rw [if_neg (by omega), Nat.add_sub_cancel, rowsF_lt hlt])
          clear ho hf0 hf1 hf2 hyy hran hrow
          go_upto_region 10 with fail
          go_region_law (first | (go_simp; go_at_call 96; refine HMV.out.mono ?_; clear HMV; rintro e w2 ⟨v', rfl, hv', hb2⟩; obtain ⟨a2, C2, rfl⟩ := hv'.form; rw [hml] at hv'; have HV2 := Lib.hid hv'; have HB2 := Lib.hid ((below_drew wr _).trans hb2); have HK2 := Lib.hid (HK.out.step HB2.out); have HW0 := Lib.hid (owns_below HF0.out HB2.out); have hout2 := HK2.out.out.cell; have hout3 := cell_alloc_any hout2; have hz22 : wr.heap.size ≤ w2.heap.size := hb2.size; clear hv' hb2) | (refine step_append_lies _ (by rfl) _ _ 22 (by rfl) w0.heap.size 25 j0 (.slice none 0 0) 1 24 Tryd.underlying22 hj0 hy0 hy1 hy2 rfl (by decide) (.slice au (i + 1) Cu) (i + 1) ((List.range (i + 1)).map f) (by rfl) (HW0.out.alloc _) ⟨w2.heap.size, 0, none⟩ 1 1 [.slice a2 rows[i].length C2] (by rfl) rfl (World.news_of_block (heap_alloc_new w2 _)) (by simp [Value.oneCell']) (by omega) (by unfold maxLen; omega) (by omega) (by simp; omega) (w2.heap.size + 1) (by simp) ?_; intro g' cap' w3 hown hgrow hat hlt'; have hfar := HK2.out.far HW0.out hgrow; have hc3 := hfar.cell; have hf3 := hfar.frozen; clear hfar))
          all_goals
            go_wp2
            go_roundw
            case rel =>
              refine ⟨i + 1, _, by omega, by go_num, (HK.out.pushed HF0.out HF1.out HF2.out HB2.out HV2.out hown ⟨hgrow.os, hgrow.tape, hgrow.output, hgrow.size, hgrow.block⟩).congr fun j hj => ?_⟩
              by_cases e : j = i + 1
              · subst e; rw [if_pos rfl, HLR.out]
              · rw [if_neg e]
            case measure => simp [intOf]; omega
        · obtain rfl : i = rows.length := by omega
          have hres := (ho.below.block _ (by rw [S2.out]; omega)).trans BR.out
          have hrc := Boxed.cell hres
          have hrf := Boxed.frozen hres
          have hc9 := World.cell?_setCell_same' wr ⟨w.heap.size + 1, 0, none⟩ (.slice au (rows.length + 1) Cu) (by rw [hrc]; rfl)
          clear ho hres
          go_wp2
          refine bodyPost_ret (v := .agg #[.slice au (rows.length + 1) Cu]) (by simp [results, Tryd.results74, go_sem, hc9]) rfl ?_
          refine ⟨_, rfl, ?_, (B2.out.trans (HK.out.below.mono (by rw [S2.out]; omega))).setCell (p := ⟨w.heap.size + 1, 0, none⟩) (Nat.le_succ _) _⟩
          rw [size_setCell]
          exact (HK.out.own.kept fun b hb _ => Below.heap_setCell _ _ _ b (show b ≠ w.heap.size + 1 by have := S2.out; omega)).wider (by rw [S2.out]; omega) (Nat.le_refl _)

theorem liftR_row {rows : Rows2} (h : Ok rows) {q : Nat} (hq : q < rows.length + 1) : liftR rows q = liftRow (gridF rows) q (rows.length + 1) := by
  unfold liftR
  by_cases e : q = 0
  · subst e
    rw [if_pos rfl, liftRow_first]
    rfl
  · rw [if_neg e, rowsF_lt (by omega)]
    have := liftRow_next h (i := q - 1) (by omega)
    rw [show q - 1 + 1 = q by omega] at this
    exact this.symm

set_option maxRecDepth 100000 in
set_option maxHeartbeats 4000000 in
theorem specLift_any (v : Value) (rows : Rows2) (w : World) (hv : RowsAt w v rows) (hn : bulk rows ≤ 1048576) :
    Calls Tryd.prog 42 #[.agg #[v]] w (OrderP (liftL rows) (liftOk rows) w) := by
  have hH := (Held.start w 28 hv).below ((Below.refl _ _).alloc (Nat.le_refl _) (.cells #[.slice none 0 0] 28))
  have hbx := Boxed.new (w.alloc (.cells #[v] 28)) 28 (.slice none 0 0)
  rw [World.size_alloc] at hbx
  have hcall := specDom_any v rows _ hH.2.1 hn
  obtain ⟨A, C, rfl, _⟩ := hv
  have HH := Lib.hid hH
  have HBX := Lib.hid hbx
  clear hH hbx
  cases hd : domB rows with
  | false =>
    rw [hd] at hcall
    have HE := Lib.hid (show liftOk rows = false by unfold liftOk; rw [hd]; rfl)
    clear hd
    go_enter Tryd.func42, Tryd.ntmps42
    go_wp2_with (go_at_call 52; refine hcall.mono ?_; clear hcall; rintro e w1 ⟨rfl, hb1⟩; have H1 := Lib.hid (HH.out.below hb1); have BX1 : Hid (Boxed w1 (w.heap.size + 1) 28 (.slice none 0 0)) := Lib.hid ((hb1.block _ HBX.out.lt).trans HBX.out); have hc2 := BX1.out.cell; have hf2 := BX1.out.frozen; clear hb1)
    have hc9 := World.cell?_setCell_same' w1 ⟨w.heap.size + 1, 0, none⟩ (.slice none 0 0) (by rw [hc2]; rfl)
    refine bodyPost_ret (v := .tuple #[.agg #[.slice none 0 0], .bool false]) (by simp [results, Tryd.results42, go_sem, hc9]) rfl ?_
    refine ⟨_, by rw [HE.out], ?_, H1.out.2.2.1.setCell (p := ⟨w.heap.size + 1, 0, none⟩) (Nat.le_succ _) _⟩
    rw [liftL_no HE.out]
    exact OwnR.nil _ _ _ _ _ _
  | true =>
    rw [hd] at hcall
    have hok := ok_of_valid (show validB rows = true by have h := hd; unfold domB at h; rw [Bool.and_eq_true] at h; exact h.1)
    by_cases hl : rows.length < 200
    · have hlz : ¬ ((200 : Int) ≤ (rows.length : Int)) := by omega
      have HE := Lib.hid (show liftOk rows = true by unfold liftOk; rw [hd, decide_eq_true hl]; rfl)
      have HC := Lib.hid (fun W u h => l2Lift_any u rows W h hok hl)
      have HRR := Lib.hid (fun q (hq : q < rows.length + 1) => liftR_row hok hq)
      clear hd hok
      go_enter Tryd.func42, Tryd.ntmps42
      go_wp2_with (first | (go_at_call 52; refine hcall.mono ?_; clear hcall; rintro e w1 ⟨rfl, hb1⟩; have H1 := Lib.hid (HH.out.below hb1); have hc1 := H1.out.1; have BX1 : Hid (Boxed w1 (w.heap.size + 1) 28 (.slice none 0 0)) := Lib.hid ((hb1.block _ HBX.out.lt).trans HBX.out); clear hb1) | (go_at_call 74; refine (HC.out _ _ H1.out.2.1).mono ?_; rintro e w2 ⟨u, rfl, hu, hb2⟩; obtain ⟨a2, C2, rfl⟩ := hu.form; have HU := Lib.hid hu; have BX2 : Hid (Boxed w2 (w.heap.size + 1) 28 (.slice none 0 0)) := Lib.hid ((hb2.block _ BX1.out.lt).trans BX1.out); have HB2 := Lib.hid (H1.out.2.2.1.trans (hb2.mono H1.out.2.2.1.size)); have hres := BX2.out.cell; have hfr := BX2.out.frozen; clear hu hb2))
      have hc9 := World.cell?_setCell_same' w2 ⟨w.heap.size + 1, 0, none⟩ (.slice a2 (rows.length + 1) C2) (by rw [hres]; rfl)
      have hw1 : w.heap.size + 1 < w1.heap.size := BX1.out.lt
      refine bodyPost_ret (v := .tuple #[.agg #[.slice a2 (rows.length + 1) C2], .bool true]) (by simp [results, Tryd.results42, go_sem, hc9]) rfl ?_
      obtain ⟨e1, e2⟩ := liftL_yes HE.out
      refine ⟨_, by rw [HE.out], ?_, HB2.out.setCell (p := ⟨w.heap.size + 1, 0, none⟩) (Nat.le_succ _) _⟩
      rw [e1, size_setCell]
      exact ((HU.out.kept fun b hb _ => Below.heap_setCell _ _ _ b (show b ≠ w.heap.size + 1 by omega)).wider (by omega) (Nat.le_refl _)).congr fun q hq => (HRR.out q hq).trans (e2 q hq).symm
    · have hlz : (200 : Int) ≤ (rows.length : Int) := by omega
      have HE := Lib.hid (show liftOk rows = false by unfold liftOk; rw [hd, decide_eq_false hl]; rfl)
      clear hd hok
      go_enter Tryd.func42, Tryd.ntmps42
      go_wp2_with (go_at_call 52; refine hcall.mono ?_; clear hcall; rintro e w1 ⟨rfl, hb1⟩; have H1 := Lib.hid (HH.out.below hb1); have hc1 := H1.out.1; have BX1 : Hid (Boxed w1 (w.heap.size + 1) 28 (.slice none 0 0)) := Lib.hid ((hb1.block _ HBX.out.lt).trans HBX.out); have hc2 := BX1.out.cell; have hf2 := BX1.out.frozen; clear hb1)
      have hc9 := World.cell?_setCell_same' w1 ⟨w.heap.size + 1, 0, none⟩ (.slice none 0 0) (by rw [hc2]; rfl)
      refine bodyPost_ret (v := .tuple #[.agg #[.slice none 0 0], .bool false]) (by simp [results, Tryd.results42, go_sem, hc9]) rfl ?_
      refine ⟨_, by rw [HE.out], ?_, H1.out.2.2.1.setCell (p := ⟨w.heap.size + 1, 0, none⟩) (Nat.le_succ _) _⟩
      rw [liftL_no HE.out]
      exact OwnR.nil _ _ _ _ _ _

theorem lens_small {rows : Rows2} {m n : Nat} (hl : rows.length ≤ n) (h : ∀ r ∈ rows, r.length ≤ m) : bulk rows ≤ n + n * m := by
  unfold bulk
  have h1 := sum_le (m := m) (rows.map List.length) fun x hx => by
    obtain ⟨r, hr, rfl⟩ := List.mem_map.1 hx
    exact h r hr
  rw [List.length_map] at h1
  have h2 := Nat.mul_le_mul_right m hl
  omega
theorem lift_bulk (rows : Rows2) : bulk (liftL rows) ≤ 1048576 := by
  cases h : liftOk rows with
  | false => rw [liftL_no h]; simp [bulk]
  | true =>
    have hl : rows.length < 200 := by
      unfold liftOk at h
      rw [Bool.and_eq_true, decide_eq_true_iff] at h
      exact h.2
    have hb := lens_small (rows := liftL rows) (n := 200) (m := 200) (by rw [(liftL_yes h).1]; omega) (fun r hr => by
      unfold liftL at hr
      rw [if_pos h] at hr
      obtain ⟨q, _, rfl⟩ := List.mem_map.1 hr
      exact Nat.le_trans (liftRow_len _ _ _) (by omega))
    omega
end Go.Proofs.YtnniffjjbekodaaDoor

/- The law of DomainLift: model and program answer alike, the argument is left alone, and the answer owns its memory. -/
namespace Go.Proofs.YtnniffjjbekodaaDoor
open Go.RowKit Go.Deep

set_option maxRecDepth 100000 in
set_option maxHeartbeats 16000000 in
theorem law_lift (v0 : Value) (r0 : Rows2) (w : World) (h0 : RowsAt w v0 r0) (hT : Tab w) :
    Calls Tryd.prog 12 #[.agg #[v0]] w (SaysN true w) := by
  have e0 := St.start1 w 24 v0
  have H0 := Lib.hid h0
  have HTT := Lib.hid hT
  obtain ⟨A0, C0, rfl, _⟩ := h0
  have E0 := Lib.hid e0
  clear e0 hT
  have hdr : ∀ W : World, W.drew.heap = W.heap := fun _ => rfl
  go_enter Tryd.func12, Tryd.ntmps12
  have hc1 := E0.out.cell 0 rfl
  have hsz := szOrder_any _ r0 1048576 _ (H0.out.below E0.out.below) (by omega) (by omega)
  go_wp2_with fail
  refine hsz.mono ?_
  clear hsz
  rintro e w1 ⟨⟨q0, hr, rfl⟩, hb⟩
  have E1 := Lib.hid (E0.out.step hb)
  clear hb hc1 E0
  by_cases hneg0 : q0 < 0
  · go_wp2
    go_ret
    exact ⟨rfl, E1.out.below⟩
  have hq0 : 0 ≤ q0 ∧ q0 ≤ 1048576 ∧ bulk r0 ≤ 1048576 := by rcases hr with h | h <;> omega
  have HB0 := Lib.hid hq0.2.2
  have HM0 := Lib.hid (maxLen_ge HB0.out)
  have HL0 := Lib.hid (show lens r0 r0.length ≤ 1048576 by have := lens_all r0; have := HB0.out; omega)
  clear hr
  clear hq0
  have hspec : ∀ W u0, RowsAt W u0 r0 → Calls Tryd.prog 42 #[.agg #[u0]] W (OrderP (liftL r0) (liftOk r0) W) := fun W u0 k0 => specLift_any u0 r0 W k0 HB0.out
  have himpl : ∀ W u0, RowsAt W u0 r0 → Tab W → Calls Tryd.prog 43 #[.agg #[u0]] W (OrderP (liftL r0) (liftOk r0) W) := fun W u0 k0 kT => implLift_any u0 r0 W k0 kT HB0.out
  have hxl := lift_bulk r0
  generalize liftL r0 = xs at hspec himpl hxl
  generalize liftOk r0 = t at hspec himpl
  have HX := Lib.hid hxl
  have HXL := Lib.hid (show lens xs xs.length ≤ 1048576 by have := lens_all xs; have := HX.out; omega)
  have HS := Lib.hid hspec
  have HI := Lib.hid himpl
  have hne : (t != t) = false := bne_self_eq_false t
  clear hspec himpl hxl
  have hc2 := E1.out.cell 0 rfl
  go_wp2_with fail
  refine (toOrder_any _ r0 _ (H0.out.below E1.out.below) HB0.out).mono ?_
  rintro e w2 ⟨gw2, Gw2, rfl, hg, ho, hb⟩
  have hE := E1.out.copyR HM0.out hg ho hb; simp only [List.cons_append, List.nil_append] at hE; have E2 := Lib.hid hE; clear hE
  clear hg ho hb
  clear hc2
  go_wp2_with fail
  refine (HS.out _ _ (E2.out.rows 1 rfl)).mono ?_
  rintro e w3 ⟨u, rfl, hu, hb⟩
  obtain ⟨aU, CU, rfl⟩ := hu.form; have hE := (E2.out.take 1).pushR hb hu; simp only [List.cons_append, List.nil_append, List.take_succ_cons, List.take_zero] at hE; have E3 := Lib.hid hE; clear hE; clear hb hu
  have hE := E3.out.box 28 (Value.slice aU xs.length CU); simp only [List.cons_append, List.nil_append] at hE; have E4 := Lib.hid hE; clear hE
  have hc3 := E4.out.cell 0 rfl
  go_wp2_with fail
  refine (toOrder_any _ r0 _ (H0.out.below E4.out.below) HB0.out).mono ?_
  rintro e w5 ⟨gw5, Gw5, rfl, hg, ho, hb⟩
  have hE := (E4.out.copyR HM0.out hg ho hb).box 28 (whole gw5 r0.length)
  simp only [List.cons_append, List.nil_append] at hE
  have E5 := Lib.hid hE
  clear hE hg ho hb hc3 E4
  have hc4 := E5.out.cell 4 rfl
  go_wp2_with fail
  refine (HI.out _ _ (E5.out.rows 3 rfl) (HTT.out.below E5.out.below)).mono ?_
  rintro e w6 ⟨u, rfl, hu, hb⟩
  obtain ⟨aG, CG, rfl⟩ := hu.form
  have hE := E5.out.pushR hb hu; simp only [List.cons_append, List.nil_append] at hE; have E6 := Lib.hid hE; clear hE
  clear hb hu E5 hc4
  have hE := E6.out.box 28 (Value.slice aG xs.length CG); simp only [List.cons_append, List.nil_append] at hE; have E7 := Lib.hid hE; clear hE
  clear E6
  have heq := eqOrder_any _ _ xs xs _ (E7.out.rows 5 rfl) (E7.out.rows 1 rfl)
  rw [decide_eq_true (rfl : xs = xs)] at heq
  have hc5 := E7.out.cell 6 rfl
  have hc6 := E7.out.cell 2 rfl
  go_wp2_with fail
  refine heq.mono ?_
  clear heq
  rintro e w8 ⟨rfl, hb⟩
  have E8 := Lib.hid (E7.out.step hb)
  clear hb E7
  clear hc5 hc6
  have hc7 := E8.out.cell 4 rfl
  have hc8 := E8.out.cell 0 rfl
  go_wp2_with fail
  go_region_held3 (fun W' : World => W'.cell? ⟨w5.heap.size, 0, none⟩ = some (whole gw5 r0.length) ∧ W'.cell? ⟨w.heap.size, 0, none⟩ = some (.slice A0 r0.length C0)) (first | exact ⟨E10.out.cell 4 rfl, E10.out.cell 0 rfl⟩ | exact ⟨E9.out.cell 4 rfl, E9.out.cell 0 rfl⟩ | exact ⟨E8.out.drew.cell 4 rfl, E8.out.drew.cell 0 rfl⟩) (first | (go_at_call 18; refine (toOrder_any _ r0 _ (H0.out.below E8.out.drew.below) HB0.out).mono ?_; rintro e w9 ⟨gw9, Gw9, rfl, hg, ho, hb⟩; have hE := E8.out.drew.copyR HM0.out hg ho hb; simp only [List.cons_append, List.nil_append] at hE; have E9 := Lib.hid hE; clear hE; have heq := eqOrder_any _ _ r0 r0 w9 (E9.out.rows 3 rfl) (E9.out.rows 7 rfl); rw [decide_eq_true (rfl : r0 = r0)] at heq; have HEQ := Lib.hid heq; clear heq hg ho hb) | (go_at_call 21; refine HEQ.out.mono ?_; clear HEQ; rintro e w10 ⟨rfl, hb⟩; have hE := (E9.out.take 7).step hb; simp only [List.take_succ_cons, List.take_zero] at hE; have E10 := Lib.hid hE; clear hE; clear hb))
  clear hc7 hc8
  have hc9 := E10.out.cell 4 rfl
  have hmk := markOrder_any _ r0 (1) _ _ _ (E10.out.ownR 3 rfl) (E10.out.boundsR 3 rfl).1 (E10.out.boundsR 3 rfl).2 (by omega) (by have := HL0.out; omega)
  go_wp2_with fail
  refine hmk.mono ?_
  clear hmk
  rintro e w11 ⟨rfl, ho, ht⟩
  have hE := E10.out.turnR 3 rfl ht ho; simp only [List.set_cons_succ, List.set_cons_zero] at hE; have E11 := Lib.hid hE; clear hE
  clear ho ht hc9 E10
  have hpos : ¬ (1 + ((lens r0 r0.length : Nat) : Int) < 0) := by omega
  have heq := eqOrder_any _ _ xs xs _ (E11.out.rows 5 rfl) (E11.out.rows 1 rfl)
  rw [decide_eq_true (rfl : xs = xs)] at heq
  have hc10 := E11.out.cell 6 rfl
  have hc11 := E11.out.cell 2 rfl
  go_wp2_with fail
  refine heq.mono ?_
  clear heq
  rintro e w12 ⟨rfl, hb⟩
  have E12 := Lib.hid (E11.out.step hb)
  clear hb E11
  clear hc10 hc11
  have hc12 := E12.out.cell 6 rfl
  have hmk := markOrder_any _ xs 1 _ _ _ (E12.out.ownR 5 rfl) (E12.out.boundsR 5 rfl).1 (E12.out.boundsR 5 rfl).2 (by omega) (by have := HXL.out; omega)
  go_wp2_with fail
  refine hmk.mono ?_
  clear hmk
  rintro e w13 ⟨rfl, ho, ht⟩
  have hE := E12.out.turnR 5 rfl ht ho; simp only [List.set_cons_succ, List.set_cons_zero] at hE; have E13 := Lib.hid hE; clear hE
  clear ho ht hc12 E12
  have hpos2 : ¬ (1 + ((lens xs xs.length : Nat) : Int) < 0) := by omega
  have hq : ((1 + ((lens xs xs.length : Nat) : Int)) != (1 + ((lens xs xs.length : Nat) : Int))) = false := bne_self_eq_false _
  have hc13 := E13.out.cell 6 rfl
  have hhd := heldOrder_any _ xs 1 _ _ _ (E13.out.ownR 5 rfl) (E13.out.boundsR 5 rfl).2 (by omega) (by have := HXL.out; omega)
  go_wp2_with fail
  refine hhd.mono ?_
  clear hhd
  rintro e w14 ⟨rfl, hb⟩
  have E14 := Lib.hid (E13.out.step hb)
  clear hb E13 hc13
  have HQ := Lib.hid hq
  have HPP := Lib.hid hpos2
  have HNE := Lib.hid hne
  clear hq hpos hpos2 hne
  have hc14 := E14.out.cell 0 rfl
  go_wp2_with fail
  refine (toOrder_any _ r0 _ (H0.out.below E14.out.below) HB0.out).mono ?_
  rintro e w15 ⟨gw15, Gw15, rfl, hg, ho, hb⟩
  have hE := E14.out.copyR HM0.out hg ho hb; simp only [List.cons_append, List.nil_append] at hE; have E15 := Lib.hid hE; clear hE
  clear hg ho hb
  clear hc14
  go_wp2_with fail
  refine (HI.out _ _ (E15.out.rows 7 rfl) (HTT.out.below E15.out.below)).mono ?_
  rintro e w16 ⟨u, rfl, hu, hb⟩
  obtain ⟨aV, CV, rfl⟩ := hu.form; have hE := (E15.out.take 7).pushR hb hu; simp only [List.cons_append, List.nil_append, List.take_succ_cons, List.take_zero] at hE; have E16 := Lib.hid hE; clear hE; clear hb hu
  have hE := E16.out.box 28 (Value.slice aV xs.length CV); simp only [List.cons_append, List.nil_append] at hE; have E17 := Lib.hid hE; clear hE
  have hq := HQ.out
  have hpos2 := HPP.out
  have hne := HNE.out
  have heq := eqOrder_any _ _ xs xs _ (E17.out.rows 7 rfl) (E17.out.rows 1 rfl)
  rw [decide_eq_true (rfl : xs = xs)] at heq
  have hc15 := E17.out.cell 8 rfl
  have hc16 := E17.out.cell 2 rfl
  go_wp2_with fail
  refine heq.mono ?_
  clear heq
  rintro e w18 ⟨rfl, hb⟩
  have E18 := Lib.hid (E17.out.step hb)
  clear hb E17
  clear hc15 hc16
  have hc17 := E18.out.cell 6 rfl
  have hhd := heldOrder_any _ xs 1 _ _ _ (E18.out.ownR 5 rfl) (E18.out.boundsR 5 rfl).2 (by omega) (by have := HXL.out; omega)
  go_wp2_with fail
  refine hhd.mono ?_
  clear hhd
  rintro e w19 ⟨rfl, hb⟩
  have E19 := Lib.hid (E18.out.step hb)
  clear hb E18 hc17
  go_wp2
  go_ret
  exact ⟨rfl, E19.out.below⟩
end Go.Proofs.YtnniffjjbekodaaDoor
