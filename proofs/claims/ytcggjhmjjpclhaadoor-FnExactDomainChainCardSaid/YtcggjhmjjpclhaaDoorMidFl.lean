/- The rows of a domain that is not built yet, as numbers (rowsOf), and its order (built). -/
import Derived.Test.YtcggjhmjjpclhaaDoorBuiltG
import Derived.Test.YtcggjhmjjpclhaaDoorBack
import Derived.Test.YtcggjhmjjpclhaaDoorBNum
import Derived.Test.YtcggjhmjjpclhaaDoorFlatI
import Derived.Test.YtcggjhmjjpclhaaDoorImplDom
import Derived.Test.YtcggjhmjjpclhaaDoorBRow
import Derived.Test.YtcggjhmjjpclhaaDoorMonoS
import Derived.Lib.QuietBelow
import Derived.BigQuiet
import Derived.Test.YtcggjhmjjpclhaaDoorProg
import Derived.Test.YtcggjhmjjpclhaaDoorAns
import Derived.Test.YtcggjhmjjpclhaaDoorEq
import Derived.Test.YtcggjhmjjpclhaaDoorTo
import Derived.StillTailTactics
import Derived.Test.YtcggjhmjjpclhaaDoorMem
import Derived.LoopTactic
import Derived.RegionTactic
import Derived.Outline
import Derived.Test.YtcggjhmjjpclhaaDoorValid
import Derived.Test.YtcggjhmjjpclhaaDoorFirst
import Derived.RangeFuncBox
import Derived.Test.YtcggjhmjjpclhaaDoorJoinS
import Derived.Test.YtcggjhmjjpclhaaDoorOwnB
import Derived.Maps.AppendAt
import Derived.Test.YtcggjhmjjpclhaaDoorBackS
import Derived.Deep.RegionLaw
import Derived.Deep.AppendLies
namespace Go.Proofs.YtcggjhmjjpclhaaDoor
open Go.RowKit Go.Deep Go.Shelf

theorem bNum_elems (B : Nat → Nat → Bool) (a : Nat) {n : Nat} (h : n ≤ 256) : intsOf (elems (bNum B a n)) = bRow B a n := by
  unfold intsOf elems bRow
  congr 1
  have hf : (fun b => (bNum B a n).testBit b) = fun k => decide (k < n) && B a k := by funext k; exact bNum_bit B a k n
  rw [hf]
  obtain ⟨m, hm⟩ : ∃ m, 256 = n + m := ⟨256 - n, by omega⟩
  rw [hm, List.range_add, List.filter_append]
  have h1 : (List.filter (fun k => decide (k < n) && B a k) (List.range n)) = List.filter (fun k => B a k) (List.range n) := List.filter_congr fun k hk => by
    rw [List.mem_range] at hk
    rw [decide_eq_true hk, Bool.true_and]
  have h2 : List.filter (fun k => decide (k < n) && B a k) (List.map (fun x => n + x) (List.range m)) = [] := List.filter_eq_nil_iff.2 fun k hk => by
    obtain ⟨x, _, rfl⟩ := List.mem_map.1 hk
    rw [decide_eq_false (by omega)]
    simp
  rw [h1, h2, List.append_nil]
/-- All rows, when b elements of row a have been looked at. -/
def bG (B : Nat → Nat → Bool) (N a b q : Nat) : Nat := if q < a then bNum B q N else if q = a then bNum B a b else 0
theorem bG_start (B : Nat → Nat → Bool) (N : Nat) : bG B N 0 0 = fun _ => 0 := by
  funext q
  unfold bG
  rw [if_neg (Nat.not_lt_zero _)]
  split
  · rfl
  · rfl
theorem bG_yes {B : Nat → Nat → Bool} {N a b : Nat} (h : B a b = true) : bG B N a (b + 1) = fun j => if j = a then put (bG B N a b a) b else bG B N a b j := by
  funext q
  unfold bG
  by_cases e : q = a
  · subst e
    rw [if_neg (Nat.lt_irrefl _), if_pos rfl, if_pos rfl, if_neg (Nat.lt_irrefl _), if_pos rfl]
    show (if B q b = true then _ else _) = _
    rw [if_pos h]
  · rw [if_neg e, if_neg e, if_neg e]
theorem bG_no {B : Nat → Nat → Bool} {N a b : Nat} (h : B a b = false) : bG B N a (b + 1) = bG B N a b := by
  funext q
  unfold bG
  have e : bNum B a (b + 1) = bNum B a b := by
    show (if B a b = true then _ else _) = _
    rw [h]; rfl
  rw [e]
theorem bG_next (B : Nat → Nat → Bool) (N a : Nat) : bG B N a N = bG B N (a + 1) 0 := by
  funext q
  unfold bG
  by_cases e : q = a
  · subst e
    rw [if_neg (Nat.lt_irrefl _), if_pos rfl, if_pos (Nat.lt_succ_self _)]
  · by_cases e2 : q < a
    · rw [if_pos e2, if_pos (by omega)]
    · rw [if_neg e2, if_neg e, if_neg (by omega)]
      split
      · rfl
      · rfl
/-- The rows of the domain. -/
def madeG (B : Nat → Nat → Bool) (N : Nat) : Nat → Nat := bG B N N 0
theorem madeG_lt {B : Nat → Nat → Bool} {N q : Nat} (h : q < N) : madeG B N q = bNum B q N := by unfold madeG bG; rw [if_pos h]
theorem madeG_out {B : Nat → Nat → Bool} {N q : Nat} (h : N ≤ q) : madeG B N q = 0 := by
  unfold madeG bG
  rw [if_neg (by omega)]
  split
  · rfl
  · rfl
theorem madeG_bit (B : Nat → Nat → Bool) (N q k : Nat) : (madeG B N q).testBit k = (decide (q < N) && decide (k < N) && B q k) := by
  by_cases h : q < N
  · rw [madeG_lt h, bNum_bit, decide_eq_true h, Bool.true_and]
  · rw [madeG_out (by omega), Nat.zero_testBit, decide_eq_false h]; rfl
theorem madeG_gridN {B : Nat → Nat → Bool} {N : Nat} (hN : N ≤ 200) (hr : ∀ q, q < N → B q q = true) : GridN (madeG B N) N :=
  ⟨hN, fun i hi h => (by
    have e := madeG_bit B N i i
    rw [h, Nat.zero_testBit, decide_eq_true hi, hr i hi] at e
    cases e), fun _ => madeG_out (Nat.le_refl _)⟩

/-- What rowsOf answers: none, or rows in memory of their own. -/
def RowsNo (w : World) (e : Ending) (w' : World) : Prop := e = .returned (.tuple #[.pointer none, .bool false]) ∧ Below w.heap.size w w'
def RowsYes (G : Nat → Nat) (w : World) (e : Ending) (w' : World) : Prop :=
  (∃ p : Nat, e = .returned (.tuple #[.pointer (some ⟨p, 0, none⟩), .bool true]) ∧ w.heap.size ≤ p ∧ GridAt w' p G) ∧ Below w.heap.size w w'

/-- While the rows are laid; K is what of the domain's own memory is needed. -/
structure RwG (w : World) (K : World → Prop) (p : Nat) (G : Nat → Nat) (W : World) : Prop where
  kept : K W
  grid : GridAt W p G
  own : w.heap.size ≤ p
  below : Below w.heap.size w W
theorem RwG.step {w : World} {K : World → Prop} {p : Nat} {G : Nat → Nat} {W W' : World} (hK : Stays w K) (h : RwG w K p G W) (hb : Below W.heap.size W W') : RwG w K p G W' :=
  ⟨hK W W' (hb.mono h.below.size) h.kept, h.grid.below hb h.grid.lt, h.own, h.below.trans (hb.mono h.below.size)⟩
theorem RwG.put {w : World} {K : World → Prop} {p : Nat} {G : Nat → Nat} {W : World} (hK : Stays w K) (h : RwG w K p G W) {k i : Nat} (hk : k < 200) (hi : i < 200) (m : Nat) :
    RwG w K p (fun j => if j = k then put (G k) i else G j) ((W.drewN m).setCell ⟨p, k * 4 + i / 64, none⟩ (.int .u64 ((word (G k) (i / 64) ||| 2 ^ (i % 64) : Nat) : Int))) := by
  have hb := below_put (Below.refl w.heap.size W) m (q := p) h.own (k * 4 + i / 64) (.int .u64 ((word (G k) (i / 64) ||| 2 ^ (i % 64) : Nat) : Int))
  exact ⟨hK _ _ hb h.kept, h.grid.putAt hk (by omega) m, h.own, h.below.trans hb⟩

set_option maxRecDepth 100000 in
set_option maxHeartbeats 4000000 in
/-- An order of too many elements is not made. -/
theorem built_no (x : Value) (w : World) (h : ∀ W, Below w.heap.size w W → Calls Tryd.prog 19 #[x] W (RowsNo W)) :
    Calls Tryd.prog 14 #[x] w (RowsG 0 (fun _ => []) false w) := by
  have b0 := (Below.refl w.heap.size w).alloc (Nat.le_refl _) (.cells #[.slice none 0 0] 24)
  have hbx := Boxed.new w 24 (.slice none 0 0)
  have hc1 := h _ b0
  have HBX := Lib.hid hbx
  have HB0 := Lib.hid b0
  clear b0 hbx h
  go_enter Tryd.func14, Tryd.ntmps14
  go_wp2_with (go_at_call 19; refine hc1.mono ?_; clear hc1; rintro e w1 ⟨rfl, hb1⟩; have HBX1 : Hid (Boxed w1 w.heap.size 24 (.slice none 0 0)) := Lib.hid ((hb1.block _ HBX.out.lt).trans HBX.out); have HB1 := Lib.hid (HB0.out.trans (hb1.mono HB0.out.size)); have hres := HBX1.out.cell; have hfr := HBX1.out.frozen; clear hb1)
  have hc9 := World.cell?_setCell_same' w1 ⟨w.heap.size, 0, none⟩ (.slice none 0 0) (by rw [hres]; rfl)
  refine bodyPost_ret (v := .tuple #[.agg #[.slice none 0 0], .bool false]) (by simp [results, Tryd.results14, go_sem, hc9]) rfl ?_
  exact ⟨_, rfl, OwnR.nil _ _ _ _ _ _, HB1.out.setCell (p := ⟨w.heap.size, 0, none⟩) (Nat.le_refl _) _⟩

set_option maxRecDepth 100000 in
set_option maxHeartbeats 4000000 in
theorem built_yes (x : Value) (B : Nat → Nat → Bool) (N : Nat) (w : World) (hT : Tab w) (hN : N ≤ 200) (hr : ∀ q, q < N → B q q = true) (h : ∀ W, Below w.heap.size w W → Calls Tryd.prog 19 #[x] W (RowsYes (madeG B N) W)) :
    Calls Tryd.prog 14 #[x] w (RowsG N (fun q => bRow B q N) true w) := by
  have b0 := (Below.refl w.heap.size w).alloc (Nat.le_refl _) (.cells #[.slice none 0 0] 24)
  have hbx := Boxed.new w 24 (.slice none 0 0)
  have hc1 := h _ b0
  have HBX := Lib.hid hbx
  have HB0 := Lib.hid b0
  have HORD := Lib.hid (fun W p (hg : GridAt W p (madeG B N)) (hW : Below w.heap.size w W) => order_any p N (madeG B N) W hg (hT.below hW) (madeG_gridN hN hr))
  clear b0 hbx h hr hT
  go_enter Tryd.func14, Tryd.ntmps14
  go_wp2_with (first | (go_at_call 19; refine hc1.mono ?_; clear hc1; rintro e w1 ⟨⟨p, rfl, _, hg⟩, hb1⟩; have HG := Lib.hid hg; have HBX1 : Hid (Boxed w1 w.heap.size 24 (.slice none 0 0)) := Lib.hid ((hb1.block _ HBX.out.lt).trans HBX.out); have HB1 := Lib.hid (HB0.out.trans (hb1.mono HB0.out.size)); clear hb1 hg) | (go_at_call 20; refine (HORD.out _ p HG.out HB1.out).mono ?_; rintro e w2 ⟨u, rfl, hu, hb2⟩; obtain ⟨a2, C2, rfl⟩ := hu.form; have HU := Lib.hid hu; have HBX2 : Hid (Boxed w2 w.heap.size 24 (.slice none 0 0)) := Lib.hid ((hb2.block _ HBX1.out.lt).trans HBX1.out); have HB2 := Lib.hid (HB1.out.trans (hb2.mono HB1.out.size)); have hres := HBX2.out.cell; have hfr := HBX2.out.frozen; clear hu hb2))
  have hc9 := World.cell?_setCell_same' w2 ⟨w.heap.size, 0, none⟩ (.slice a2 N C2) (by rw [hres]; rfl)
  have hw1 : w.heap.size < w1.heap.size := HBX1.out.lt
  refine bodyPost_ret (v := .tuple #[.agg #[.slice a2 N C2], .bool true]) (by simp [results, Tryd.results14, go_sem, hc9]) rfl ?_
  refine ⟨_, rfl, ?_, HB2.out.setCell (p := ⟨w.heap.size, 0, none⟩) (Nat.le_refl _) _⟩
  rw [size_setCell]
  exact ((HU.out.kept fun b hb _ => Below.heap_setCell _ _ _ b (show b ≠ w.heap.size by omega)).wider (by omega) (Nat.le_refl _)).congr fun q hq => by rw [madeG_lt hq]; exact bNum_elems B q (by omega)
end Go.Proofs.YtcggjhmjjpclhaaDoor

/- The walks of rowsOf and built at flat. -/
namespace Go.Proofs.YtcggjhmjjpclhaaDoor
open Go.RowKit Go.Deep Go.Shelf

set_option maxRecDepth 100000 in
set_option maxHeartbeats 4000000 in
theorem flatRows_yes (n : Nat) (N : Nat) (w : World) (hn : n ≤ 199) (hN : N = n + 1) (hN2 : N ≤ 200) :
    Calls Tryd.prog 19 #[.iface 33 (.int .i64 (n : Int))] w (RowsYes (madeG flatB N) w) := by
  have hK : Stays w (fun W => Below w.heap.size w W) := fun _ _ hb hk => hk.trans hb
  have hcall0 := fun W (hk : (fun W => Below w.heap.size w W) W) => flatSize_any n (n + 1) W rfl hn
  have hk0 : (fun W => Below w.heap.size w W) w := (Below.refl _ _)
  have hcall := hcall0 _ hk0
  rw [← hN] at hcall
  have HBC := Lib.hid (fun (a b : Nat) (ha : a < N) (hb : b < N) W (hk : (fun W => Below w.heap.size w W) W) => flatBelow_any n a b W)
  have hmS := run_flat_size
  have hmB := run_flat_below
  have hN3 : ¬ ((200 : Int) < (N : Int)) := by omega
  have hz := (zero_of_info zeroGrid).1
  have HK0 := Lib.hid hk0
  have HKK := Lib.hid hK
  clear  hN hcall0 hk0 hK
  go_enter Tryd.func19, Tryd.ntmps19
  go_wp2_with (go_at_call 49; refine hcall.mono ?_; clear hcall; rintro e w1 ⟨rfl, hb1⟩; have HK1 := Lib.hid (HKK.out _ _ hb1 HK0.out); have HB1 := Lib.hid hb1; clear hb1)
  have bA := (Below.refl w1.heap.size w1).alloc (Nat.le_refl _) (.cells (gridCells fun _ => 0) 53)
  have HST := Lib.hid (show RwG w (fun W => Below w.heap.size w W) w1.heap.size (bG flatB N 0 0) (w1.alloc (.cells (gridCells fun _ => 0) 53)) from
    ⟨HKK.out _ _ (bA.mono HB1.out.size) HK1.out, by rw [bG_start]; exact store_new w1, HB1.out.size, HB1.out.trans (bA.mono HB1.out.size)⟩)
  clear bA hz
  go_loopw [6, 13] (fun _ av wr => ∃ a : Nat, a ≤ N ∧ av = .int .i64 a ∧ RwG w (fun W => Below w.heap.size w W) w1.heap.size (bG flatB N a 0) wr) (fun _ av _ => N - (intOf av).toNat)
  case atStart => exact ⟨0, Nat.zero_le _, rfl, HST.out⟩
  case round =>
    obtain ⟨a, ha, rfl, ht⟩ := hrel
    have HT := Lib.hid ht
    clear HST ht
    by_cases hal : a < N
    · go_wp2
      go_loopw [7, 17] (fun _ bv wr => ∃ b : Nat, b ≤ N ∧ bv = .int .i64 b ∧ RwG w (fun W => Below w.heap.size w W) w1.heap.size (bG flatB N a b) wr) (fun _ bv _ => N - (intOf bv).toNat)
      case atStart => exact ⟨0, Nat.zero_le _, rfl, HT.out⟩
      case round =>
        obtain ⟨b, hb, rfl, ht⟩ := hrel
        have HK := Lib.hid ht
        clear ht HT
        by_cases hbl : b < N
        · have hcall := HBC.out a b hal hbl wr HK.out.kept
          cases hbit : flatB a b with
          | false =>
            rw [hbit] at hcall
            have HE := Lib.hid (bG_no (N := N) hbit)
            clear hbit
            go_wp2_with (go_at_call 48; refine hcall.mono ?_; clear hcall; rintro e w2 ⟨rfl, hb2⟩; have H2 := Lib.hid (HK.out.step HKK.out hb2); clear hb2)
            go_roundw
            case rel => exact ⟨b + 1, by omega, by go_num, by rw [HE.out]; exact H2.out⟩
            case measure => simp [intOf]; omega
          | true =>
            rw [hbit] at hcall
            have HE := Lib.hid (bG_yes (N := N) hbit)
            have ha200 : a < 200 := by omega
            have hb200 : b < 200 := by omega
            have ha0 : (0 : Int) ≤ (a : Int) := by omega
            have ha1 : (a : Int) < 200 := by omega
            clear hbit
            go_wp2_with (first | (go_at_call 48; refine hcall.mono ?_; clear hcall; rintro e w2 ⟨rfl, hb2⟩; have H2 := Lib.hid (HK.out.step HKK.out hb2); have hadd := addTo_any w1.heap.size a b (b : Int) _ w2 H2.out.grid ha200 hb200 rfl; clear hb2) | (go_at_call 24; refine hadd.mono ?_; clear hadd; rintro e w3 ⟨rfl, m, rfl⟩))
            go_roundw
            case rel => exact ⟨b + 1, by omega, by go_num, by rw [HE.out]; exact H2.out.put HKK.out ha200 hb200 m⟩
            case measure => simp [intOf]; omega
        · obtain rfl : b = N := by omega
          go_wp2
          go_roundw
          case rel => exact ⟨a + 1, by omega, by go_num, by rw [← bG_next]; exact HK.out⟩
          case measure => simp [intOf]; omega
    · obtain rfl : a = N := by omega
      go_wp2
      go_ret2
      exact ⟨⟨w1.heap.size, rfl, HT.out.own, HT.out.grid⟩, HT.out.below⟩
theorem flatBuilt_yes (n : Nat) (N : Nat) (w : World) (hn : n ≤ 199) (hN : N = n + 1) (hN2 : N ≤ 200) (hT : Tab w) (hrf : ∀ q, q < N → flatB q q = true) :
    Calls Tryd.prog 14 #[.iface 33 (.int .i64 (n : Int))] w (RowsG N (fun q => bRow flatB q N) true w) :=
  built_yes _ flatB N w hT hN2 hrf fun W _ => flatRows_yes n N W hn hN hN2
end Go.Proofs.YtcggjhmjjpclhaaDoor

/- The walks of rowsOf and built at chain. -/
namespace Go.Proofs.YtcggjhmjjpclhaaDoor
open Go.RowKit Go.Deep Go.Shelf

set_option maxRecDepth 100000 in
set_option maxHeartbeats 4000000 in
theorem chainRows_yes (n : Nat) (N : Nat) (w : World)  (hN : N = n + 0) (hN2 : N ≤ 200) :
    Calls Tryd.prog 19 #[.iface 39 (.int .i64 (n : Int))] w (RowsYes (madeG chainB N) w) := by
  have hK : Stays w (fun W => Below w.heap.size w W) := fun _ _ hb hk => hk.trans hb
  have hcall0 := fun W (hk : (fun W => Below w.heap.size w W) W) => (show Calls Tryd.prog 51 #[.int .i64 (n : Int)] W (SaysI ((n + 0 : Nat) : Int) W) from chainSize_any n W)
  have hk0 : (fun W => Below w.heap.size w W) w := (Below.refl _ _)
  have hcall := hcall0 _ hk0
  rw [← hN] at hcall
  have HBC := Lib.hid (fun (a b : Nat) (ha : a < N) (hb : b < N) W (hk : (fun W => Below w.heap.size w W) W) => chainBelow_any n a b W)
  have hmS := run_chain_size
  have hmB := run_chain_below
  have hN3 : ¬ ((200 : Int) < (N : Int)) := by omega
  have hz := (zero_of_info zeroGrid).1
  have HK0 := Lib.hid hk0
  have HKK := Lib.hid hK
  clear  hN hcall0 hk0 hK
  go_enter Tryd.func19, Tryd.ntmps19
  go_wp2_with (go_at_call 51; refine hcall.mono ?_; clear hcall; rintro e w1 ⟨rfl, hb1⟩; have HK1 := Lib.hid (HKK.out _ _ hb1 HK0.out); have HB1 := Lib.hid hb1; clear hb1)
  have bA := (Below.refl w1.heap.size w1).alloc (Nat.le_refl _) (.cells (gridCells fun _ => 0) 53)
  have HST := Lib.hid (show RwG w (fun W => Below w.heap.size w W) w1.heap.size (bG chainB N 0 0) (w1.alloc (.cells (gridCells fun _ => 0) 53)) from
    ⟨HKK.out _ _ (bA.mono HB1.out.size) HK1.out, by rw [bG_start]; exact store_new w1, HB1.out.size, HB1.out.trans (bA.mono HB1.out.size)⟩)
  clear bA hz
  go_loopw [6, 13] (fun _ av wr => ∃ a : Nat, a ≤ N ∧ av = .int .i64 a ∧ RwG w (fun W => Below w.heap.size w W) w1.heap.size (bG chainB N a 0) wr) (fun _ av _ => N - (intOf av).toNat)
  case atStart => exact ⟨0, Nat.zero_le _, rfl, HST.out⟩
  case round =>
    obtain ⟨a, ha, rfl, ht⟩ := hrel
    have HT := Lib.hid ht
    clear HST ht
    by_cases hal : a < N
    · go_wp2
      go_loopw [7, 17] (fun _ bv wr => ∃ b : Nat, b ≤ N ∧ bv = .int .i64 b ∧ RwG w (fun W => Below w.heap.size w W) w1.heap.size (bG chainB N a b) wr) (fun _ bv _ => N - (intOf bv).toNat)
      case atStart => exact ⟨0, Nat.zero_le _, rfl, HT.out⟩
      case round =>
        obtain ⟨b, hb, rfl, ht⟩ := hrel
        have HK := Lib.hid ht
        clear ht HT
        by_cases hbl : b < N
        · have hcall := HBC.out a b hal hbl wr HK.out.kept
          cases hbit : chainB a b with
          | false =>
            rw [hbit] at hcall
            have HE := Lib.hid (bG_no (N := N) hbit)
            clear hbit
            go_wp2_with (go_at_call 50; refine hcall.mono ?_; clear hcall; rintro e w2 ⟨rfl, hb2⟩; have H2 := Lib.hid (HK.out.step HKK.out hb2); clear hb2)
            go_roundw
            case rel => exact ⟨b + 1, by omega, by go_num, by rw [HE.out]; exact H2.out⟩
            case measure => simp [intOf]; omega
          | true =>
            rw [hbit] at hcall
            have HE := Lib.hid (bG_yes (N := N) hbit)
            have ha200 : a < 200 := by omega
            have hb200 : b < 200 := by omega
            have ha0 : (0 : Int) ≤ (a : Int) := by omega
            have ha1 : (a : Int) < 200 := by omega
            clear hbit
            go_wp2_with (first | (go_at_call 50; refine hcall.mono ?_; clear hcall; rintro e w2 ⟨rfl, hb2⟩; have H2 := Lib.hid (HK.out.step HKK.out hb2); have hadd := addTo_any w1.heap.size a b (b : Int) _ w2 H2.out.grid ha200 hb200 rfl; clear hb2) | (go_at_call 24; refine hadd.mono ?_; clear hadd; rintro e w3 ⟨rfl, m, rfl⟩))
            go_roundw
            case rel => exact ⟨b + 1, by omega, by go_num, by rw [HE.out]; exact H2.out.put HKK.out ha200 hb200 m⟩
            case measure => simp [intOf]; omega
        · obtain rfl : b = N := by omega
          go_wp2
          go_roundw
          case rel => exact ⟨a + 1, by omega, by go_num, by rw [← bG_next]; exact HK.out⟩
          case measure => simp [intOf]; omega
    · obtain rfl : a = N := by omega
      go_wp2
      go_ret2
      exact ⟨⟨w1.heap.size, rfl, HT.out.own, HT.out.grid⟩, HT.out.below⟩
theorem chainBuilt_yes (n : Nat) (N : Nat) (w : World)  (hN : N = n + 0) (hN2 : N ≤ 200) (hT : Tab w) (hrf : ∀ q, q < N → chainB q q = true) :
    Calls Tryd.prog 14 #[.iface 39 (.int .i64 (n : Int))] w (RowsG N (fun q => bRow chainB q N) true w) :=
  built_yes _ chainB N w hT hN2 hrf fun W _ => chainRows_yes n N W  hN hN2
end Go.Proofs.YtcggjhmjjpclhaaDoor

/- Domains told by bits; orders made of a relation; meets in domains. Plain facts: no function is walked here. -/
namespace Go.Proofs.YtcggjhmjjpclhaaDoor
open Go.RowKit Go.Deep

theorem bottomF_pos {g : Nat → Nat} {s : Nat} (hs : s < 2 ^ 256) : 0 ≤ bottomF g s ↔ ∃ k, s.testBit k = true ∧ g k = s := by
  unfold bottomF
  cases hf : (elems s).find? (fun k => g k == s) with
  | none =>
    rw [List.find?_eq_none] at hf
    constructor
    · intro h
      exact absurd h (by decide)
    · rintro ⟨k, hk, e⟩
      exact absurd (beq_iff_eq.2 e) (hf k ((mem_elems hs).2 hk))
  | some k =>
    have h1 := List.find?_some hf
    have h2 := List.mem_of_find?_eq_some hf
    exact ⟨fun _ => ⟨k, (mem_elems hs).1 h2, beq_iff_eq.1 h1⟩, fun _ => Int.natCast_nonneg k⟩

/-- A domain, told by bits. -/
def DomBits (rows : Rows2) : Prop := (∃ m, m < rows.length ∧ gridF rows m = allF rows.length) ∧ ∀ a b, a < rows.length → b < rows.length → gridF rows a &&& gridF rows b ≠ 0 → ∃ c, c < rows.length ∧ gridF rows c = gridF rows a &&& gridF rows b
theorem domI_iff {rows : Rows2} (h : Ok rows) : domI rows = true ↔ DomBits rows := by
  have hn := h.len
  have hbad : ∀ a b, a < rows.length → b < rows.length → (badB rows a b = false ↔ (gridF rows a &&& gridF rows b ≠ 0 → ∃ c, c < rows.length ∧ gridF rows c = gridF rows a &&& gridF rows b)) := by
    intro a b ha hb
    have hlt : gridF rows a &&& gridF rows b < 2 ^ 256 := Nat.and_lt_two_pow _ (h.lt b)
    have hpos := bottomF_pos (g := gridF rows) hlt
    rw [← badF_eq h ha hb]
    unfold badF
    rw [Bool.and_eq_false_iff, Bool.not_eq_false', decide_eq_true_iff, decide_eq_false_iff_not]
    constructor
    · rintro (e | e) h0
      · exact absurd e h0
      · obtain ⟨k, hk, e2⟩ := hpos.1 (by omega)
        rw [Nat.testBit_and, Bool.and_eq_true] at hk
        exact ⟨k, (h.bit_lt hk.1).2, e2⟩
    · intro hi
      by_cases e : gridF rows a &&& gridF rows b = 0
      · exact .inl e
      · obtain ⟨c, hc, e2⟩ := hi e
        right
        have := hpos.2 ⟨c, by rw [← e2]; exact h.own c hc, e2⟩
        omega
  have hl : 0 ≤ leastI rows ↔ ∃ m, m < rows.length ∧ gridF rows m = allF rows.length := by
    rw [least_eq h, bottomF_pos (allF_lt (by omega))]
    constructor
    · rintro ⟨k, hk, e⟩
      rw [testBit_allF, decide_eq_true_iff] at hk
      exact ⟨k, hk, e⟩
    · rintro ⟨m, hm, e⟩
      exact ⟨m, by rw [testBit_allF]; exact decide_eq_true hm, e⟩
  constructor
  · intro hd
    have h1 : 0 ≤ leastI rows := by
      rcases Int.lt_or_le (leastI rows) 0 with h1 | h1
      · rw [domI_least h1] at hd; cases hd
      · exact h1
    refine ⟨hl.1 h1, fun a b ha hb hne => ?_⟩
    have hb' : ∀ a b, a < rows.length → b < a → badB rows a b = false := fun a b ha hb => by
      cases hq : badB rows a b with
      | false => rfl
      | true => rw [domI_bad ha hb hq] at hd; cases hd
    rcases Nat.lt_trichotomy b a with hlt | rfl | hlt
    · exact (hbad a b ha hb).1 (hb' a b ha hlt) hne
    · exact ⟨b, hb, (Nat.and_self _).symm⟩
    · obtain ⟨c, hc, e⟩ := (hbad b a hb ha).1 (hb' b a hb hlt) (by rw [Nat.and_comm]; exact hne)
      exact ⟨c, hc, by rw [e, Nat.and_comm]⟩
  · rintro ⟨h1, h2⟩
    exact domI_yes (hl.2 h1) fun a ha b hb => (hbad a b ha (by omega)).2 (h2 a b ha (by omega))
theorem domB_iff {rows : Rows2} : domB rows = true ↔ Ok rows ∧ DomBits rows := by
  unfold domB
  rw [Bool.and_eq_true]
  constructor
  · rintro ⟨h1, h2⟩
    exact ⟨ok_of_valid h1, (domI_iff (ok_of_valid h1)).1 h2⟩
  · rintro ⟨h1, h2⟩
    exact ⟨valid_of_ok h1, (domI_iff h1).2 h2⟩

theorem bRow_mem {B : Nat → Nat → Bool} {a N : Nat} (j : Int) : j ∈ bRow B a N ↔ ∃ k : Nat, k < N ∧ B a k = true ∧ j = (k : Int) := by
  unfold bRow
  rw [List.mem_map]
  constructor
  · rintro ⟨k, hk, rfl⟩
    rw [List.mem_filter, List.mem_range] at hk
    exact ⟨k, hk.1, hk.2, rfl⟩
  · rintro ⟨k, h1, h2, rfl⟩
    exact ⟨k, List.mem_filter.2 ⟨List.mem_range.2 h1, h2⟩, rfl⟩
theorem bRow_asc (B : Nat → Nat → Bool) (a N : Nat) : Asc (bRow B a N) := by
  have hp : ((List.range N).filter fun i => B a i).Pairwise (· < ·) := List.Pairwise.filter _ List.pairwise_lt_range
  intro i j hij hj
  unfold bRow at hj ⊢
  rw [List.length_map] at hj
  rw [List.getElem_map, List.getElem_map]
  have := (List.pairwise_iff_getElem.1 hp) i j (by omega) hj hij
  omega
/-- The order of N elements that a relation makes. -/
def madeL (B : Nat → Nat → Bool) (N : Nat) : Rows2 := (List.range N).map fun q => bRow B q N
theorem madeL_len (B : Nat → Nat → Bool) (N : Nat) : (madeL B N).length = N := by simp [madeL]
theorem madeL_at {B : Nat → Nat → Bool} {N q : Nat} (hq : q < (madeL B N).length) : (madeL B N)[q] = bRow B q N := by simp [madeL]
theorem made_asc (B : Nat → Nat → Bool) (N : Nat) (i : Nat) (hi : i < (madeL B N).length) : Asc (madeL B N)[i] ∧ ∀ x ∈ (madeL B N)[i], 0 ≤ x ∧ x < (madeL B N).length := by
  rw [madeL_at, madeL_len]
  refine ⟨bRow_asc B i N, fun x hx => ?_⟩
  obtain ⟨k, hk, _, rfl⟩ := (bRow_mem x).1 hx
  omega
theorem made_bit (B : Nat → Nat → Bool) {N q : Nat} (hq : q < N) (j : Nat) : (gridF (madeL B N) q).testBit j = (decide (j < N) && B q j) := by
  have hq' : q < (madeL B N).length := by rw [madeL_len]; exact hq
  rw [grid_bit hq' ((ascB_iff _ _).2 (made_asc B N q hq')), madeL_at, Bool.eq_iff_iff, decide_eq_true_iff, bRow_mem, Bool.and_eq_true, decide_eq_true_iff]
  constructor
  · rintro ⟨k, h1, h2, e⟩
    obtain rfl : j = k := by omega
    exact ⟨h1, h2⟩
  · rintro ⟨h1, h2⟩
    exact ⟨j, h1, h2, rfl⟩
theorem made_ok {B : Nat → Nat → Bool} {N : Nat} (h1 : 1 ≤ N) (h2 : N ≤ 200) (hr : ∀ a, a < N → B a a = true) (ha : ∀ a b, a < N → b < N → B a b = true → b ≠ a → B b a = false)
    (ht : ∀ a b c, a < N → b < N → c < N → B a b = true → B b c = true → B a c = true) : Ok (madeL B N) := by
  refine ⟨by rw [madeL_len]; exact ⟨h1, h2⟩, made_asc B N, fun i hi => ?_, fun i j hi hj hne => ?_, fun i j hi hj m hm => ?_⟩
  · rw [madeL_len] at hi
    rw [made_bit B hi, hr i hi, decide_eq_true hi]
    rfl
  · rw [madeL_len] at hi
    rw [made_bit B hi, Bool.and_eq_true, decide_eq_true_iff] at hj
    rw [made_bit B hj.1, ha i j hi hj.1 hj.2 hne, Bool.and_false]
  · rw [madeL_len] at hi
    rw [made_bit B hi, Bool.and_eq_true, decide_eq_true_iff] at hj
    rw [made_bit B hj.1, Bool.and_eq_true, decide_eq_true_iff] at hm
    rw [made_bit B hi, ht i j m hi hj.1 hm.1 hj.2 hm.2, decide_eq_true hm.1]
    rfl
theorem made_dom {B : Nat → Nat → Bool} {N : Nat} (h1 : 1 ≤ N) (h2 : N ≤ 200) (hr : ∀ a, a < N → B a a = true) (ha : ∀ a b, a < N → b < N → B a b = true → b ≠ a → B b a = false)
    (ht : ∀ a b c, a < N → b < N → c < N → B a b = true → B b c = true → B a c = true) (hl : ∃ m, m < N ∧ ∀ k, k < N → B m k = true)
    (hj : ∀ a b, a < N → b < N → (∃ c, c < N ∧ B a c = true ∧ B b c = true) → ∃ c, c < N ∧ ∀ k, k < N → B c k = (B a k && B b k)) : domB (madeL B N) = true := by
  refine domB_iff.2 ⟨made_ok h1 h2 hr ha ht, ?_, ?_⟩
  · obtain ⟨m, hm, hk⟩ := hl
    refine ⟨m, by rw [madeL_len]; exact hm, ?_⟩
    rw [madeL_len]
    apply Nat.eq_of_testBit_eq
    intro k
    rw [made_bit B hm, testBit_allF]
    by_cases hlt : k < N
    · rw [hk k hlt, Bool.and_true]
    · rw [decide_eq_false hlt, Bool.false_and]
  · intro a b ha' hb' hne
    rw [madeL_len] at ha' hb' ⊢
    obtain ⟨c, hc⟩ := Nat.exists_testBit_of_ne_zero hne
    rw [Nat.testBit_and, made_bit B ha', made_bit B hb', Bool.and_eq_true, Bool.and_eq_true, Bool.and_eq_true, decide_eq_true_iff] at hc
    obtain ⟨d, hd, hk⟩ := hj a b ha' hb' ⟨c, hc.1.1, hc.1.2, hc.2.2⟩
    refine ⟨d, hd, ?_⟩
    apply Nat.eq_of_testBit_eq
    intro k
    rw [Nat.testBit_and, made_bit B hd, made_bit B ha', made_bit B hb']
    by_cases hlt : k < N
    · rw [hk k hlt, decide_eq_true hlt]
      simp
    · rw [decide_eq_false hlt]
      simp

theorem lens_cut {rows : Rows2} {m n : Nat} (hl : rows.length ≤ n) (h : ∀ r ∈ rows, r.length ≤ m) : bulk rows ≤ n + n * m := by
  unfold bulk
  have h1 := sum_le (m := m) (rows.map List.length) fun x hx => by
    obtain ⟨r, hr, rfl⟩ := List.mem_map.1 hx
    exact h r hr
  rw [List.length_map] at h1
  have h2 := Nat.mul_le_mul_right m hl
  omega
theorem made_small {B : Nat → Nat → Bool} {N : Nat} (h : N ≤ 200) : bulk (madeL B N) ≤ 1048576 := by
  have hb := lens_cut (rows := madeL B N) (n := 200) (m := 200) (by rw [madeL_len]; exact h) (fun r hr => by
    unfold madeL at hr
    obtain ⟨q, _, rfl⟩ := List.mem_map.1 hr
    exact Nat.le_trans (bRow_len _ _ _) h)
  omega
/-- The relation of a grid. -/
def bitB (g : Nat → Nat) (a b : Nat) : Bool := (g a).testBit b

/-- In a domain each two elements have a meet. -/
theorem meet_there {rows : Rows2} (h : domB rows = true) {a b : Nat} (ha : a < rows.length) (hb : b < rows.length) : ∃ c, c < rows.length ∧ joinI (backRows rows) a b = (c : Int) := by
  obtain ⟨ok, ⟨m, hm, hme⟩, hjn⟩ := domB_iff.1 h
  have hleast : ∀ x, x < rows.length → (gridF rows m).testBit x = true := fun x hx => by rw [hme, testBit_allF]; exact decide_eq_true hx
  have key : ∀ k, k ≤ rows.length → ∃ c, c < rows.length ∧ (gridF rows c).testBit a = true ∧ (gridF rows c).testBit b = true ∧ ∀ x, x < k → (gridF rows x).testBit a = true → (gridF rows x).testBit b = true → (gridF rows x).testBit c = true := by
    intro k
    induction k with
    | zero => exact fun _ => ⟨m, hm, hleast a ha, hleast b hb, fun x hx => absurd hx (Nat.not_lt_zero _)⟩
    | succ k ih =>
      intro hk
      obtain ⟨c, hc, hca, hcb, hx⟩ := ih (by omega)
      by_cases hka : (gridF rows k).testBit a = true ∧ (gridF rows k).testBit b = true
      · have hne : gridF rows c &&& gridF rows k ≠ 0 := fun e => by
          have := congrArg (fun n => n.testBit a) e
          simp only [Nat.testBit_and, hca, hka.1, Nat.zero_testBit] at this
          cases this
        obtain ⟨d, hd, e⟩ := hjn c k hc (by omega) hne
        have hbit : ∀ x, (gridF rows d).testBit x = ((gridF rows c).testBit x && (gridF rows k).testBit x) := fun x => by rw [e, Nat.testBit_and]
        have hown := ok.own d hd
        rw [hbit, Bool.and_eq_true] at hown
        refine ⟨d, hd, by rw [hbit, hca, hka.1]; rfl, by rw [hbit, hcb, hka.2]; rfl, fun x hxk h1 h2 => ?_⟩
        by_cases exk : x = k
        · subst exk; exact hown.2
        · exact ok.trans x c (by omega) (hx x (by omega) h1 h2) d hown.1
      · refine ⟨c, hc, hca, hcb, fun x hxk h1 h2 => ?_⟩
        by_cases exk : x = k
        · subst exk; exact absurd ⟨h1, h2⟩ hka
        · exact hx x (by omega) h1 h2
  obtain ⟨c, hc, hca, hcb, hx⟩ := key rows.length (Nat.le_refl _)
  have hlen := backRows_len rows
  have hb9 := ok.back
  have hbits : gridF (backRows rows) c = gridF (backRows rows) a &&& gridF (backRows rows) b := by
    apply Nat.eq_of_testBit_eq
    intro x
    rw [Nat.testBit_and, back_bit ok, back_bit ok, back_bit ok, Bool.eq_iff_iff, Bool.and_eq_true]
    constructor
    · intro h1
      have hxl := (ok.bit_lt h1).1
      exact ⟨ok.trans x c hxl h1 a hca, ok.trans x c hxl h1 b hcb⟩
    · rintro ⟨h1, h2⟩
      exact hx x (ok.bit_lt h1).1 h1 h2
  have hpos : 0 ≤ joinI (backRows rows) a b := by
    rw [join_eq hb9 (by rw [hlen]; exact ha) (by rw [hlen]; exact hb), bottomF_pos (Nat.and_lt_two_pow _ (hb9.lt b))]
    exact ⟨c, by rw [← hbits]; exact hb9.own c (by rw [hlen]; exact hc), hbits⟩
  have hbd : joinI (backRows rows) a b < rows.length := by
    rw [join_eq hb9 (by rw [hlen]; exact ha) (by rw [hlen]; exact hb)] at hpos ⊢
    unfold bottomF at hpos ⊢
    cases hf : (elems (gridF (backRows rows) a &&& gridF (backRows rows) b)).find? (fun k => gridF (backRows rows) k == gridF (backRows rows) a &&& gridF (backRows rows) b) with
    | none => rw [hf] at hpos; exact absurd hpos (by decide)
    | some k =>
      have h2 := List.mem_of_find?_eq_some hf
      rw [mem_elems (Nat.and_lt_two_pow _ (hb9.lt b)), Nat.testBit_and, Bool.and_eq_true] at h2
      have := (hb9.bit_lt h2.1).2
      rw [hlen] at this
      show (k : Int) < _
      omega
  exact ⟨(joinI (backRows rows) a b).toNat, by omega, by omega⟩
end Go.Proofs.YtcggjhmjjpclhaaDoor

/- The model's FunStrict. -/
namespace Go.Proofs.YtcggjhmjjpclhaaDoor
open Go.RowKit Go.Deep

theorem leastI_nat {rows : Rows2} (h : 0 ≤ leastI rows) : ∃ m : Nat, m < rows.length ∧ leastI rows = m := by
  unfold leastI at h ⊢
  cases e : (List.range rows.length).find? (fun i => (rows.getD i []).length == rows.length) with
  | none => rw [e] at h; exact absurd h (by decide)
  | some m => exact ⟨m, List.mem_range.1 (List.mem_of_find?_eq_some e), rfl⟩
theorem dom_least {rows : Rows2} (h : domB rows = true) : ∃ m : Nat, m < rows.length ∧ leastI rows = m := by
  unfold domB domI at h
  rw [Bool.and_eq_true, Bool.and_eq_true, decide_eq_true_iff] at h
  exact leastI_nat h.2.1
theorem monoB_parts {rows rows' : Rows2} {f : List Int} (h : monoB rows rows' f = true) : domB rows = true ∧ domB rows' = true ∧ Mono rows rows' f := by
  classical
  unfold monoB monoI at h
  rw [Bool.and_eq_true, Bool.and_eq_true, decide_eq_true_iff] at h
  exact ⟨h.1.1, h.1.2, h.2⟩

/-- A monotone function that has the least element for the least one. -/
noncomputable def strictB (rows rows' : Rows2) (f : List Int) : Bool := monoB rows rows' f && decide (f.getD (leastI rows).toNat 0 = leastI rows')

end Go.Proofs.YtcggjhmjjpclhaaDoor

/- The laws' own marks: an answer is written full of numbers, and looked at again (markIntS, markIntSS, markOrder, heldIntS, heldIntSS, heldOrder). -/
namespace Go.Proofs.YtcggjhmjjpclhaaDoor
open Go.RowKit Go.Deep

theorem grownBy_trans {a b c : World} {row : Option Nat} (h : a.grownBy b row) (k : b.grownBy c row) : a.grownBy c row :=
  ⟨k.os.trans h.os, k.tape.trans h.tape, k.output.trans h.output, Nat.le_trans h.size k.size, fun i hi hr => (k.block i (Nat.lt_of_lt_of_le hi h.size) hr).trans (h.block i hi hr)⟩
theorem grownBy_set (W : World) (g o : Nat) (v : Value) : W.grownBy (W.setCell ⟨g, o, none⟩ v) (some g) :=
  ⟨rfl, rfl, rfl, by simp [World.setCell], fun k _ hk => Below.heap_setCell _ _ _ k (fun e => hk (by rw [e]))⟩

/-- The slice v has been marked from k on. -/
def MarkI (v : Value) (xs : List Int) (k : Int) (lo hi : Nat) (w : World) (e : Ending) (w' : World) : Prop :=
  e = .returned (.int .i64 (k + xs.length)) ∧ OwnI 3 w' v (marks k xs.length) lo hi ∧ w.grownBy w' v.ownBlock

set_option maxHeartbeats 1000000 in
theorem markIntS_any (v : Value) (xs : List Int) (k : Int) (lo hi : Nat) (w : World) (h : OwnI 3 w v xs lo hi) (h0 : 0 ≤ k) (h1 : k + xs.length ≤ 1099511627776) :
    Calls Tryd.prog 22 #[v, .int .i64 k] w (MarkI v xs k lo hi w) := by
  have hwf := marks_wf (k := k) (n := xs.length) h0 h1
  have HWF := Lib.hid hwf
  clear hwf
  obtain ⟨_, ⟨rfl, rfl⟩ | ⟨g, C, f, rfl, hC, hm, hlo, hhi, hr, hf⟩⟩ := h
  · go_enter Tryd.func22, Tryd.ntmps22
    go_wp2
    refine wp_loop_rounds 1 ?_
    rw [rounds_succ]
    go_wp2
    go_ret
    exact ⟨by simp, OwnI.nil _ _ _ _, ⟨rfl, rfl, rfl, Nat.le_refl _, fun _ _ _ => rfl⟩⟩
  · unfold maxLen at hm
    have HF := Lib.hid hf
    clear hf
    go_enter Tryd.func22, Tryd.ntmps22
    go_wp2
    go_loopw [1, 5] (fun kv iv wr => ∃ j : Nat, j ≤ xs.length ∧ iv = .int .i64 j ∧ kv = .int .i64 (k + j) ∧ wr.rowIs g 3 C (fun i => if i < j then .int .i64 (k + i) else f i) ∧ w.grownBy wr (some g)) (fun _ iv _ => xs.length - (intOf iv).toNat)
    case atStart =>
      exact ⟨0, Nat.zero_le _, rfl, by simp, hr.congr (fun i _ => by simp), ⟨rfl, rfl, rfl, Nat.le_refl _, fun _ _ _ => rfl⟩⟩
    case round =>
      obtain ⟨j, hj, rfl, rfl, hrow, hg⟩ := hrel
      by_cases hlt : j < xs.length
      · obtain ⟨v3, h3⟩ : ∃ v3, wr.cell? ⟨g, j, none⟩ = some v3 := ⟨_, hrow.cell (by omega)⟩
        have hfr := hrow.frozen j
        have HR := Lib.hid hrow
        have HG := Lib.hid hg
        clear hrow hg hr
        go_wp2
        go_roundw
        case rel =>
          refine ⟨j + 1, by omega, by go_num, by first | go_num | (congr 1; omega), (HR.out.set j _).congr (fun i _ => ?_), grownBy_trans HG.out (grownBy_set _ _ _ _)⟩
          by_cases e : i = j
          · subst e; rw [if_pos rfl, if_pos (by omega)]
          · rw [if_neg e]
            by_cases h : i < j
            · rw [if_pos h, if_pos (by omega)]
            · rw [if_neg h, if_neg (by omega)]
        case measure => simp [intOf]; omega
      · obtain rfl : j = xs.length := by omega
        have HR := Lib.hid hrow
        have HG := Lib.hid hg
        clear hrow hg hr
        go_wp2
        go_ret
        refine ⟨rfl, ⟨HWF.out, .inr ⟨g, C, _, by rw [marks_length], by rw [marks_length]; exact hC, by unfold maxLen; exact hm, hlo, hhi, HR.out, fun i hi => ?_⟩⟩, HG.out⟩
        rw [marks_length] at hi
        rw [if_pos hi, marks_at]

/-- The number k, and a world that parts from w in draws alone. -/
def SaysK (k : Int) (w : World) (e : Ending) (w' : World) : Prop := e = .returned (.int .i64 k) ∧ ∃ n, w' = w.drewN n

set_option maxHeartbeats 1000000 in
theorem heldIntS_any (v : Value) (k : Int) (n : Nat) (w : World) (h : IntsAt w v (marks k n)) (h0 : 0 ≤ k) (h1 : k + n ≤ 1099511627776) :
    Calls Tryd.prog 23 #[v, .int .i64 k] w (SaysK (k + n) w) := by
  obtain ⟨a, C, rfl, hC, hm, _, hx⟩ := h
  have hx' : ∀ i, i < n → ∃ b o, a = some ⟨b, o, none⟩ ∧ w.cell? ⟨b, o + i, none⟩ = some (.int .i64 (k + i)) := fun i hi => by
    obtain ⟨b, o, h1, h2⟩ := hx i (by rw [marks_length]; exact hi)
    exact ⟨b, o, h1, by rw [h2, marks_at]⟩
  have HX := Lib.hid hx'
  rw [marks_length] at *
  unfold maxLen at hm
  clear hx hx'
  go_enter Tryd.func23, Tryd.ntmps23
  go_wp2
  go_loopw [1, 5] (fun kv iv wr => ∃ j m : Nat, j ≤ n ∧ iv = .int .i64 j ∧ kv = .int .i64 (k + j) ∧ wr = w.drewN m) (fun _ iv _ => n - (intOf iv).toNat)
  case atStart => exact ⟨0, 0, Nat.zero_le _, rfl, by simp, rfl⟩
  case round =>
    obtain ⟨j, m, hj, rfl, rfl, hw⟩ := hrel
    by_cases hlt : j < n
    · obtain ⟨b, o, rfl, hc⟩ := HX.out j hlt
      replace hc : wr.cell? ⟨b, o + j, none⟩ = some (.int .i64 (k + j)) := by rw [hw]; exact hc
      have HW := Lib.hid hw
      clear hw
      go_wp2
      go_roundw
      case rel => exact ⟨j + 1, _, by omega, by go_num, by first | go_num | (congr 1; omega), by rw [HW.out]⟩
      case measure => simp [intOf]; omega
    · obtain rfl : j = n := by omega
      have HW := Lib.hid hw
      clear hw
      go_wp2
      go_ret
      exact ⟨rfl, _, HW.out⟩

theorem type_ne : (3 : TypeId) ≠ 37 := by decide

/-- The rows of the slice v have been marked from m on. -/
def MarkR (v : Value) (rows : Rows2) (m : Int) (lo hi : Nat) (w : World) (e : Ending) (w' : World) : Prop :=
  e = .returned (.int .i64 (m + (lens rows rows.length : Nat))) ∧ OwnR 3 37 w' v rows.length (marked m rows rows.length) lo hi ∧ Turned lo hi w w'

theorem marked_zero (m : Int) (rows : Rows2) (j : Nat) : marked m rows 0 j = rowsF rows j := by unfold marked; rw [if_neg (by omega)]
theorem lens_mono {rows : Rows2} {i : Nat} : ∀ {j : Nat}, i ≤ j → j ≤ rows.length → lens rows i ≤ lens rows j
  | 0, h, _ => by obtain rfl : i = 0 := (by omega); exact Nat.le_refl _
  | j + 1, h, hj => by
    by_cases e : i = j + 1
    · subst e; exact Nat.le_refl _
    · have := lens_mono (rows := rows) (i := i) (j := j) (by omega) (by omega)
      rw [lens_succ (by omega)]; omega

set_option maxHeartbeats 1000000 in
theorem markIntSS_any (v : Value) (rows : Rows2) (m : Int) (lo hi : Nat) (w : World) (h : OwnR 3 37 w v rows.length (rowsF rows) lo hi) (hlo : lo ≤ w.heap.size) (h0 : 0 ≤ m) (h1 : m + (lens rows rows.length : Nat) ≤ 1099511627776) :
    Calls Tryd.prog 16 #[v, .int .i64 m] w (MarkR v rows m lo hi w) := by
  obtain ⟨rfl, hz⟩ | ⟨g, C, f, rfl, hC, hm, hl, hh, hr, hI, hD⟩ := h
  · obtain rfl : rows = [] := List.length_eq_zero_iff.1 hz
    go_enter Tryd.func16, Tryd.ntmps16
    go_wp2
    refine wp_loop_rounds 1 ?_
    rw [rounds_succ]
    go_wp2
    go_ret
    exact ⟨by simp [lens], OwnR.nil _ _ _ _ _ _, Turned.refl _ _ _⟩
  · unfold maxLen at hm
    have HI := Lib.hid hI
    have HD := Lib.hid hD
    have HR := Lib.hid hr
    clear hI hD hr
    go_enter Tryd.func16, Tryd.ntmps16
    go_wp2
    go_loopw [1, 5] (fun kv iv wr => ∃ j : Nat, j ≤ rows.length ∧ iv = .int .i64 j ∧ kv = .int .i64 (m + (lens rows j : Nat)) ∧ wr.rowIs g 37 C f ∧ (∀ i, i < rows.length → OwnI 3 wr (f i) (marked m rows j i) lo hi) ∧ Turned lo hi w wr) (fun _ iv _ => rows.length - (intOf iv).toNat)
    case atStart => exact ⟨0, Nat.zero_le _, rfl, by simp [lens], HR.out, fun i hi => by rw [marked_zero]; exact HI.out i hi, Turned.refl _ _ _⟩
    case round =>
      obtain ⟨j, hj, rfl, rfl, hrow, hrows, ht⟩ := hrel
      have HS := Lib.hid hrows
      have HT := Lib.hid ht
      have HW := Lib.hid hrow
      by_cases hlt : j < rows.length
      · have hc : wr.cell? ⟨g, j, none⟩ = some (f j) := hrow.cell (by omega)
        have hj0 := hrows j hlt
        have e0 : marked m rows j j = rows[j] := by unfold marked; rw [if_neg (by omega), rowsF_lt hlt]
        rw [e0] at hj0
        have hls := lens_succ hlt
        have hmono := lens_mono (rows := rows) (i := j + 1) (j := rows.length) (by omega) (Nat.le_refl _)
        have hcall := markIntS_any (f j) rows[j] (m + (lens rows j : Nat)) lo hi wr hj0 (by omega) (by omega)
        have HLS := Lib.hid hls
        clear hrow hrows ht e0 hj0 hls
        go_wp2_with (go_at_call 22; refine hcall.mono ?_; clear hcall; rintro e w1 ⟨rfl, ho, hg⟩; have HO := Lib.hid ho; have HG := Lib.hid hg; clear ho hg)
        go_roundw
        case rel =>
          have hls := HLS.out
          have hgt : ∀ b, (f j).ownBlock = some b → lo ≤ b ∧ b < hi := fun b hb => by
            obtain ⟨x, y, _⟩ := HO.out.block b hb
            exact ⟨x, y⟩
          refine ⟨j + 1, by omega, by go_num, by rw [hls]; first | go_num | (congr 1; omega), ?_, fun i hi' => ?_, HT.out.trans (Turned.of_grownBy HG.out (Nat.le_trans hlo HT.out.below.size) hgt)⟩
          · refine HW.out.of_block (HG.out.block g HW.out.lt (fun e => ?_))
            obtain ⟨_, _, c, hcb⟩ := HO.out.block g e.symm
            obtain ⟨_, _, c0, hc0⟩ := (HS.out j hlt).block g e.symm
            obtain ⟨c1, hc1, _⟩ := HW.out
            rw [hc0] at hc1
            have e3 := Option.some.inj hc1
            injection e3 with _ e4
            exact type_ne e4
          · by_cases e : i = j
            · subst e
              have e1 : marked m rows (i + 1) i = marks (m + (lens rows i : Nat)) rows[i].length := by unfold marked; rw [if_pos (by omega), rowsF_lt hlt]
              rw [e1]; exact HO.out
            · have e1 : marked m rows (j + 1) i = marked m rows j i := by
                unfold marked
                by_cases h : i < j
                · rw [if_pos h, if_pos (by omega)]
                · rw [if_neg h, if_neg (by omega)]
              rw [e1]
              refine (HS.out i hi').kept fun b hb => HG.out.block b ?_ fun e2 => ?_
              · obtain ⟨_, _, c, hcb⟩ := (HS.out i hi').block b hb
                exact (Array.getElem?_eq_some_iff.1 hcb).1
              · rcases Nat.lt_or_gt_of_ne e with hij | hij
                · rcases HD.out i j hij hlt with h3 | h3
                  · rw [h3] at hb; cases hb
                  · exact h3 (hb.trans e2)
                · rcases HD.out j i hij hi' with h3 | h3
                  · rw [h3] at e2; cases e2
                  · exact h3 (e2.symm.trans hb.symm)
        case measure => simp [intOf]; omega
      · obtain rfl : j = rows.length := by omega
        clear hrow hrows ht
        go_wp2
        go_ret
        exact ⟨rfl, .inr ⟨g, C, f, rfl, hC, by unfold maxLen; exact hm, hl, hh, HW.out, HS.out, HD.out⟩, HT.out⟩

set_option maxHeartbeats 1000000 in
theorem heldIntSS_any (v : Value) (rows : Rows2) (m : Int) (lo hi : Nat) (w : World) (h : OwnR 3 37 w v rows.length (marked m rows rows.length) lo hi) (h0 : 0 ≤ m) (h1 : m + (lens rows rows.length : Nat) ≤ 1099511627776) :
    Calls Tryd.prog 17 #[v, .int .i64 m] w (SaysK (m + (lens rows rows.length : Nat)) w) := by
  obtain ⟨rfl, hz⟩ | ⟨g, C, f, rfl, hC, hm, hl, hh, hr, hI, hD⟩ := h
  · obtain rfl : rows = [] := List.length_eq_zero_iff.1 hz
    go_enter Tryd.func17, Tryd.ntmps17
    go_wp2
    refine wp_loop_rounds 1 ?_
    rw [rounds_succ]
    go_wp2
    go_ret
    exact ⟨by simp [lens], 0, rfl⟩
  · unfold maxLen at hm
    have HI := Lib.hid hI
    have HR := Lib.hid hr
    clear hI hD hr
    go_enter Tryd.func17, Tryd.ntmps17
    go_wp2
    go_loopw [1, 5] (fun kv iv wr => ∃ j d : Nat, j ≤ rows.length ∧ iv = .int .i64 j ∧ kv = .int .i64 (m + (lens rows j : Nat)) ∧ wr = w.drewN d) (fun _ iv _ => rows.length - (intOf iv).toNat)
    case atStart => exact ⟨0, 0, Nat.zero_le _, rfl, by simp [lens], rfl⟩
    case round =>
      obtain ⟨j, d, hj, rfl, rfl, hw⟩ := hrel
      by_cases hlt : j < rows.length
      · have hc : wr.cell? ⟨g, j, none⟩ = some (f j) := by rw [hw]; exact HR.out.cell (by omega)
        have e0 : marked m rows rows.length j = marks (m + (lens rows j : Nat)) rows[j].length := by unfold marked; rw [if_pos hlt, rowsF_lt hlt]
        have hj0 : IntsAt wr (f j) (marks (m + (lens rows j : Nat)) rows[j].length) := by rw [hw, ← e0]; exact (HI.out j hlt).at
        have hls := lens_succ hlt
        have hmono := lens_mono (rows := rows) (i := j + 1) (j := rows.length) (by omega) (Nat.le_refl _)
        have hcall := heldIntS_any (f j) (m + (lens rows j : Nat)) rows[j].length wr hj0 (by omega) (by omega)
        have HLS := Lib.hid hls
        have HW := Lib.hid hw
        have hpos : ¬ (m + (lens rows j : Nat) + (rows[j].length : Int) < 0) := by omega
        clear hw e0 hj0 hls
        go_wp2_with (go_at_call 23; refine hcall.mono ?_; clear hcall; rintro e w1 ⟨rfl, d1, rfl⟩)
        go_roundw
        case rel => exact ⟨j + 1, _, by omega, by go_num, by rw [HLS.out]; first | go_num | (congr 1; omega), by rw [HW.out, World.drewN_drewN]⟩
        case measure => simp [intOf]; omega
      · obtain rfl : j = rows.length := by omega
        have HW := Lib.hid hw
        clear hw
        go_wp2
        go_ret
        exact ⟨rfl, _, HW.out⟩

/-- The number k, and a world in which nothing that was there has turned. -/
def SaysJ (k : Int) (w : World) (e : Ending) (w' : World) : Prop := e = .returned (.int .i64 k) ∧ Below w.heap.size w w'

theorem turned_alloc (lo hi : Nat) (w : World) (o : Obj) (h : lo ≤ w.heap.size) : Turned lo hi w (w.alloc o) := ⟨(Below.refl _ w).alloc h o, fun _ _ hb => Below.heap_alloc _ _ _ hb⟩

set_option maxHeartbeats 1000000 in
theorem markOrder_any (v : Value) (rows : Rows2) (m : Int) (lo hi : Nat) (w : World) (h : OwnR 3 37 w v rows.length (rowsF rows) lo hi) (hlo : lo ≤ w.heap.size) (hhi : hi ≤ w.heap.size) (h0 : 0 ≤ m) (h1 : m + (lens rows rows.length : Nat) ≤ 1099511627776) :
    Calls Tryd.prog 8 #[.agg #[v], .int .i64 m] w (MarkR v rows m lo hi w) := by
  have ht := turned_alloc lo hi w (.cells #[v] 24) hlo
  have hcall := markIntSS_any v rows m lo hi _ (h.below ((Below.refl _ w).alloc (Nat.le_refl _) (.cells #[v] 24)) hhi) (by rw [World.size_alloc]; omega) h0 h1
  have HT := Lib.hid ht
  obtain ⟨a, C, rfl, _⟩ := h.at
  clear ht h
  go_enter Tryd.func8, Tryd.ntmps8
  go_wp2_with (go_at_call 16; refine hcall.mono ?_; clear hcall; rintro e w1 ⟨rfl, ho, ht⟩; have HO := Lib.hid ho; have HT1 := Lib.hid ht; clear ho ht)
  go_ret
  exact ⟨rfl, HO.out, HT.out.trans HT1.out⟩

set_option maxHeartbeats 1000000 in
theorem heldOrder_any (v : Value) (rows : Rows2) (m : Int) (lo hi : Nat) (w : World) (h : OwnR 3 37 w v rows.length (marked m rows rows.length) lo hi) (hhi : hi ≤ w.heap.size) (h0 : 0 ≤ m) (h1 : m + (lens rows rows.length : Nat) ≤ 1099511627776) :
    Calls Tryd.prog 9 #[.agg #[v], .int .i64 m] w (SaysJ (m + (lens rows rows.length : Nat)) w) := by
  have hb := (Below.refl _ w).alloc (Nat.le_refl _) (.cells #[v] 24)
  have hcall := heldIntSS_any v rows m lo hi _ (h.below hb hhi) h0 h1
  have HB := Lib.hid hb
  have hpos : ¬ (m + (lens rows rows.length : Nat) < 0) := by omega
  have hv : ∃ a n C, v = .slice a n C := by
    obtain ⟨rfl, _⟩ | ⟨g, C, f, rfl, _⟩ := h
    · exact ⟨_, _, _, rfl⟩
    · exact ⟨_, _, _, rfl⟩
  obtain ⟨a, n, C, rfl⟩ := hv
  clear hb h
  go_enter Tryd.func9, Tryd.ntmps9
  go_wp2_with (go_at_call 17; refine hcall.mono ?_; clear hcall; rintro e w1 ⟨rfl, d, rfl⟩)
  go_ret
  exact ⟨rfl, HB.out.trans (below_drewN' _ _ _)⟩
end Go.Proofs.YtcggjhmjjpclhaaDoor

/- The laws' own measures of an argument's size (szIntS, szIntSS, szOrder): what is left, or less than 0. -/
namespace Go.Proofs.YtcggjhmjjpclhaaDoor
open Go.RowKit Go.Deep

/-- What is left of 'left' when the rows are taken off, or -1 where they are too many. -/
def SzPost (rows : Rows2) (left : Int) (P : World → Prop) (e : Ending) (w' : World) : Prop :=
  (∃ r : Int, (r = -1 ∨ (0 ≤ r ∧ r ≤ left ∧ bulk rows ≤ left)) ∧ e = .returned (.int .i64 r)) ∧ P w'
theorem SzPost.no {rows : Rows2} {left : Int} {P : World → Prop} {w' : World} (h : P w') : SzPost rows left P (.returned (.int .i64 (-1))) w' := ⟨⟨-1, .inl rfl, rfl⟩, h⟩
theorem SzPost.yes {rows : Rows2} {left r : Int} {P : World → Prop} {w' : World} (h0 : 0 ≤ r) (h1 : r ≤ left) (h2 : bulk rows ≤ left) (h : P w') : SzPost rows left P (.returned (.int .i64 r)) w' := ⟨⟨r, .inr ⟨h0, h1, h2⟩, rfl⟩, h⟩

theorem below_drew (w : World) (B : Nat) : Below B w w.drew := ⟨rfl, rfl, rfl, Nat.le_refl _, fun _ _ => rfl⟩
theorem maxLen_ge {n : Nat} (h : n ≤ 1048576) : n ≤ maxLen := by unfold maxLen; omega
end Go.Proofs.YtcggjhmjjpclhaaDoor

/- What a law holds while it looks at an answer that is an order: the argument, the model's answer, the copy that the program had, the program's answer, all in memory of their own. Plain facts on worlds. -/
namespace Go.Proofs.YtcggjhmjjpclhaaDoor
open Go.RowKit Go.Deep

/-- The rows res as an order in memory of its own, and the Boolean t. -/
def OrderP (res : Rows2) (t : Bool) (w : World) (e : Ending) (w' : World) : Prop :=
  ∃ v, e = .returned (.tuple #[.agg #[v], .bool t]) ∧ OwnR 3 37 w' v res.length (rowsF res) w.heap.size w'.heap.size ∧ Below w.heap.size w w'


/-- The places of the answers. -/
structure Places where
  lo1 : Nat
  hi1 : Nat
  lo2 : Nat
  hi2 : Nat
  lo3 : Nat
  hi3 : Nat

structure Lw (w : World) (v : Value) (rows res : Rows2) (p : Places) (v1 v2 v3 : Value) (R2 R3 : Nat → List Int) (W : World) : Prop where
  base : RowsAt w v rows
  tab0 : Tab w
  arg : W.cell? ⟨w.heap.size, 0, none⟩ = some v
  below : Below w.heap.size w W
  b4 : Boxed W p.hi1 24 v1
  o4 : OwnR 3 37 W v1 res.length (rowsF res) p.lo1 p.hi1
  b6 : Boxed W p.hi2 24 v2
  o6 : OwnR 3 37 W v2 rows.length R2 p.lo2 p.hi2
  b7 : Boxed W p.hi3 24 v3
  o7 : OwnR 3 37 W v3 res.length R3 p.lo3 p.hi3
  ord : w.heap.size < p.lo1 ∧ p.lo1 ≤ p.hi1 ∧ p.hi1 < p.lo2 ∧ p.lo2 ≤ p.hi2 ∧ p.hi2 < p.lo3 ∧ p.lo3 ≤ p.hi3 ∧ p.hi3 < W.heap.size

section
variable {w : World} {v v1 v2 v3 : Value} {rows res : Rows2} {p : Places} {R2 R3 : Nat → List Int} {W W' : World}
theorem Lw.rowsAt (h : Lw w v rows res p v1 v2 v3 R2 R3 W) : RowsAt W v rows := h.base.below h.below
theorem Lw.tab (h : Lw w v rows res p v1 v2 v3 R2 R3 W) : Tab W := h.tab0.below h.below
theorem Lw.step (h : Lw w v rows res p v1 v2 v3 R2 R3 W) (hb : Below W.heap.size W W') : Lw w v rows res p v1 v2 v3 R2 R3 W' := by
  have ho := h.ord
  have hz := hb.size
  exact ⟨h.base, h.tab0, (hb.cell (p := ⟨w.heap.size, 0, none⟩) (cell_lt h.arg)).trans h.arg, h.below.trans (hb.mono h.below.size), (hb.block _ h.b4.lt).trans h.b4, h.o4.below hb (by omega), (hb.block _ h.b6.lt).trans h.b6, h.o6.below hb (by omega), (hb.block _ h.b7.lt).trans h.b7, h.o7.below hb (by omega), by omega⟩
/-- The copy has been marked. -/
theorem Lw.mark2 {R2' : Nat → List Int} (h : Lw w v rows res p v1 v2 v3 R2 R3 W) (ht : Turned p.lo2 p.hi2 W W') (ho : OwnR 3 37 W' v2 rows.length R2' p.lo2 p.hi2) : Lw w v rows res p v1 v2 v3 R2' R3 W' := by
  have hd := h.ord
  have hz := ht.below.size
  have hbl : ∀ b, b < p.lo2 → W'.heap[b]? = W.heap[b]? := fun b hb => ht.below.block b hb
  have hab : ∀ b, p.hi2 ≤ b → b < W.heap.size → W'.heap[b]? = W.heap[b]? := ht.above
  exact ⟨h.base, h.tab0, (World.cell?_of_block (hbl w.heap.size (by omega))).trans h.arg, h.below.trans (ht.below.mono (by omega)), (hbl _ (by omega)).trans h.b4, h.o4.kept fun b _ hb => hbl b (by omega), (hab _ (by omega) (by omega)).trans h.b6, ho, (hab _ (by omega) (by omega)).trans h.b7, h.o7.kept fun b hb hb' => hab b (by omega) (by omega), by omega⟩
/-- The program's answer has been marked. -/
theorem Lw.mark3 {R3' : Nat → List Int} (h : Lw w v rows res p v1 v2 v3 R2 R3 W) (ht : Turned p.lo3 p.hi3 W W') (ho : OwnR 3 37 W' v3 res.length R3' p.lo3 p.hi3) : Lw w v rows res p v1 v2 v3 R2 R3' W' := by
  have hd := h.ord
  have hz := ht.below.size
  have hbl : ∀ b, b < p.lo3 → W'.heap[b]? = W.heap[b]? := fun b hb => ht.below.block b hb
  have hab : ∀ b, p.hi3 ≤ b → b < W.heap.size → W'.heap[b]? = W.heap[b]? := ht.above
  exact ⟨h.base, h.tab0, (World.cell?_of_block (hbl w.heap.size (by omega))).trans h.arg, h.below.trans (ht.below.mono (by omega)), (hbl _ (by omega)).trans h.b4, h.o4.kept fun b _ hb => hbl b (by omega), (hbl _ (by omega)).trans h.b6, h.o6.kept fun b _ hb => hbl b (by omega), (hab _ (by omega) (by omega)).trans h.b7, ho, by omega⟩
end
end Go.Proofs.YtcggjhmjjpclhaaDoor

/- The model's steps (l3Step), and its FunStep. -/
namespace Go.Proofs.YtcggjhmjjpclhaaDoor
open Go.RowKit Go.Deep

theorem owns_weaker {W : World} {lo lo' n : Nat} {t : TypeId} {v : Value} {xs : List Value} (h : W.ownsRow lo t 1 v n xs) (hl : lo' ≤ lo) : W.ownsRow lo' t 1 v n xs := by
  obtain ⟨h1, h2 | ⟨g, c, cur, rfl, h3, h4⟩⟩ := h
  · exact ⟨h1, .inl h2⟩
  · exact ⟨h1, .inr ⟨g, c, cur, rfl, by omega, h4⟩⟩
/-- The numbers xs, in memory of their own. -/
def OwnQ (xs : List Int) (w : World) (e : Ending) (w' : World) : Prop :=
  ∃ v, e = .returned v ∧ OwnI 3 w' v xs w.heap.size w'.heap.size ∧ Below w.heap.size w w'

/-- What the step of a to b has for element i. -/
def stepAt (rows rows' : Rows2) (a : Nat) (b : Int) (i : Nat) : Int := if upB rows a (i : Int) = true then b else leastI rows'
def stepN (rows rows' : Rows2) (a : Nat) (b : Int) (k : Nat) : List Int := (List.range k).map (stepAt rows rows' a b)
theorem stepN_length (rows rows' : Rows2) (a : Nat) (b : Int) (k : Nat) : (stepN rows rows' a b k).length = k := by unfold stepN; simp
theorem stepN_succ (rows rows' : Rows2) (a : Nat) (b : Int) (k : Nat) : stepN rows rows' a b (k + 1) = stepN rows rows' a b k ++ [stepAt rows rows' a b k] := by
  unfold stepN
  rw [List.range_succ, List.map_append]
  rfl

/-- Behind an append to a list of the call's own. -/
theorem Two.grow {w : World} {v v' : Value} {rows rows' : Rows2} {W w1 : World} (h : Two w v v' rows rows' W) (hv : RowsAt w v rows) (hv' : RowsAt w v' rows') {u : Value} {n : Nat} {xs : List Value} (ho : W.ownsRow (w.heap.size + 2) 3 1 u n xs) (o : Obj) {row : Option Nat} (hg : (W.alloc o).grownBy w1 row) (hr : row = u.ownBlock := by rfl) : Two w v v' rows rows' w1 := by
  subst hr
  have hb1 : w.heap.size + 1 < W.heap.size := cell_lt h.c1
  have hb : Below (w.heap.size + 2) W w1 := ((Below.refl (w.heap.size + 2) W).alloc (by omega) o).grown hg (by rw [World.size_alloc]; omega) (fun b e => (ho.lt b e).1)
  have hw : Below w.heap.size w w1 := h.below.trans (hb.mono (by omega))
  exact ⟨(hb.cell (p := ⟨w.heap.size, 0, none⟩) (by show w.heap.size < w.heap.size + 2; omega)).trans h.c0, (hb.cell (p := ⟨w.heap.size + 1, 0, none⟩) (by show w.heap.size + 1 < w.heap.size + 2; omega)).trans h.c1, hv.below hw, hv'.below hw, hw⟩

/-- What FunStep answers. -/
noncomputable def stepOk (rows rows' : Rows2) (a b : Int) : Bool := domB rows && domB rows' && (decide (0 ≤ a ∧ a < rows.length) && decide (0 ≤ b ∧ b < rows'.length))
noncomputable def stepL (rows rows' : Rows2) (a b : Int) : List Int := if stepOk rows rows' a b = true then stepN rows rows' a.toNat b rows.length else []
/-- A list in memory of its own, and a Boolean. -/
def OwnB (xs : List Int) (t : Bool) (w : World) (e : Ending) (w' : World) : Prop :=
  ∃ v, e = .returned (.tuple #[v, .bool t]) ∧ OwnI 3 w' v xs w.heap.size w'.heap.size ∧ Below w.heap.size w w'
theorem stepOk_no1 {rows rows' : Rows2} {a b : Int} (h : domB rows = false) : stepOk rows rows' a b = false := by unfold stepOk; rw [h]; rfl
theorem stepOk_no2 {rows rows' : Rows2} {a b : Int} (h : domB rows' = false) : stepOk rows rows' a b = false := by unfold stepOk; rw [h]; simp
theorem stepOk_no3 {rows rows' : Rows2} {a b : Int} (h : ¬ (0 ≤ a ∧ a < rows.length)) : stepOk rows rows' a b = false := by unfold stepOk; rw [decide_eq_false h]; simp
theorem stepOk_no4 {rows rows' : Rows2} {a b : Int} (h : ¬ (0 ≤ b ∧ b < rows'.length)) : stepOk rows rows' a b = false := by unfold stepOk; rw [decide_eq_false h]; simp

/-- An empty list made by the call. -/
theorem ownB_none {rows rows' : Rows2} {a b : Int} {w W : World} (h : stepOk rows rows' a b = false) (hb : Below w.heap.size w W) : OwnB (stepL rows rows' a b) (stepOk rows rows' a b) w (.returned (.tuple #[.slice (some ⟨W.heap.size, 0, none⟩) 0 0, .bool false])) (W.alloc (.cells #[] 3)) := by
  unfold stepL
  rw [h]
  exact ⟨_, rfl, ⟨fun _ h => (by cases h), .inr ⟨W.heap.size, 0, fun _ => undef, rfl, Nat.le_refl _, Nat.zero_le _, hb.size, by rw [World.size_alloc]; omega, World.rowIs_alloc W #[] 3 (fun _ => undef) (fun _ h => absurd h (Nat.not_lt_zero _)), fun _ h => absurd h (Nat.not_lt_zero _)⟩⟩, hb.alloc hb.size _⟩

end Go.Proofs.YtcggjhmjjpclhaaDoor

/- The model's l2Row: the indexes that are kept. -/
namespace Go.Proofs.YtcggjhmjjpclhaaDoor
open Go.RowKit Go.Deep

/-- The indexes below k that are kept. -/
def keptN (K : Nat → Bool) (k : Nat) : List Int := ((List.range k).filter K).map fun i : Nat => (i : Int)
theorem keptN_succ (K : Nat → Bool) (k : Nat) : keptN K (k + 1) = if K k = true then keptN K k ++ [(k : Int)] else keptN K k := by
  unfold keptN
  rw [List.range_succ, List.filter_append, List.map_append, List.filter_cons]
  cases K k with
  | true => rfl
  | false => simp
theorem keptN_le (K : Nat → Bool) (k : Nat) : (keptN K k).length ≤ k := by
  unfold keptN
  rw [List.length_map]
  have := List.length_filter_le K (List.range k)
  simpa using this
theorem keptN_range {K : Nat → Bool} {k : Nat} : ∀ x ∈ keptN K k, 0 ≤ x ∧ x < (k : Int) := by
  intro x hx
  unfold keptN at hx
  obtain ⟨i, hi, rfl⟩ := List.mem_map.1 hx
  have := List.mem_range.1 (List.mem_filter.1 hi).1
  omega

set_option maxRecDepth 100000 in
set_option maxHeartbeats 2000000 in
theorem l2Row_any (g n C : Nat) (K : Nat → Bool) (w : World) (hn : n ≤ 1048576) (hk : ∀ i, i < n → w.cell? ⟨g, i, none⟩ = some (.bool (K i))) :
    Calls Tryd.prog 18 #[.slice (some ⟨g, 0, none⟩) n C] w (OwnQ (keptN K n) w) := by
  have HC := Lib.hid (fun W (h : Below w.heap.size w W) i (hi : i < n) => (h.cell (p := ⟨g, i, none⟩) (cell_lt (hk i hi))).trans (hk i hi))
  have HO := Lib.hid (World.ownsRow_made (e := 3) (size := 1) w #[] 0 (base := w.heap.size) (Nat.le_refl _) (Nat.zero_le _) (by simp))
  have HB0 := Lib.hid ((Below.refl w.heap.size w).alloc (Nat.le_refl _) (.cells #[] 3))
  obtain ⟨i0, hi0, hz0, hz1, hz2⟩ := info_parts infoInt
  clear hk
  go_enter Tryd.func18, Tryd.ntmps18
  go_wp2
  go_loopw [3, 4] (fun ov iv wr => ∃ i : Nat, i ≤ n ∧ iv = .int .i64 i ∧ wr.ownsRow w.heap.size 3 1 ov (keptN K i).length (cellsI (keptN K i)) ∧ Below w.heap.size w wr) (fun _ iv _ => n - (intOf iv).toNat)
  case atStart => exact ⟨0, Nat.zero_le _, rfl, HO.out, HB0.out⟩
  case round =>
    obtain ⟨i, hi, rfl, hown, hB⟩ := hrel
    have HOWN := Lib.hid hown
    have HB := Lib.hid hB
    have hcl := keptN_le K i
    clear hown hB HO HB0
    by_cases hlt : i < n
    · have hltz : (i : Int) < (n : Int) := by omega
      have hc := HC.out _ HB.out i hlt
      have hbz := HB.out.size
      cases hq : K i with
      | true =>
        rw [hq] at hc
        have HE := Lib.hid (show keptN K (i + 1) = keptN K i ++ [(i : Int)] by rw [keptN_succ, if_pos hq])
        clear hq
        go_wp2_with (at_builtin; refine wpList_append_own _ rfl _ _ 37 rfl w.heap.size 3 i0 (.int .i64 0) 1 8 Tryd.underlying37 hi0 hz0 hz1 hz2 rfl (by decide) _ _ _ rfl (HOWN.out.alloc _) ⟨wr.heap.size, 0, none⟩ 1 1 [.int .i64 (i : Int)] rfl rfl (cell_one_new _ _ _) (by simp [Value.oneCell']) (by unfold maxLen; omega) (by omega) (by simp; omega) ?_; intro v' w1 hown' hgrow _)
        go_roundw
        case rel =>
          refine ⟨i + 1, by omega, by go_num, ?_, (HB.out.alloc HB.out.size _).grown hgrow (by rw [World.size_alloc]; omega) (fun b e => (HOWN.out.lt b e).1)⟩
          rw [HE.out, List.length_append, show cellsI (keptN K i ++ [(i : Int)]) = cellsI (keptN K i) ++ [.int .i64 (i : Int)] by simp]
          exact hown'
        case measure => simp [intOf]; omega
      | false =>
        rw [hq] at hc
        have HE := Lib.hid (show keptN K (i + 1) = keptN K i by rw [keptN_succ, if_neg (by rw [hq]; simp)])
        clear hq
        go_wp2
        go_roundw
        case rel => exact ⟨i + 1, by omega, by go_num, by rw [HE.out]; exact HOWN.out, HB.out⟩
        case measure => simp [intOf]; omega
    · obtain rfl : i = n := by omega
      go_wp2
      go_ret
      refine ⟨_, rfl, OwnI.of_owns HOWN.out (fun y hy => ?_) (fun b hb => (HOWN.out.lt b hb).2), HB.out⟩
      have := keptN_range y hy
      exact wf_int (by omega) (by omega)
end Go.Proofs.YtcggjhmjjpclhaaDoor

/- An order that is built row by row in a variable of its own: 'out.Up = append(out.Up, row)'. Plain facts on worlds: no function is walked here. -/
namespace Go.Proofs.YtcggjhmjjpclhaaDoor
open Go.RowKit Go.Deep

/-- Rows are as they were if no block turns but one of another type. -/
theorem OwnR.kept_but {t u : TypeId} {W W' : World} {v : Value} {n : Nat} {R : Nat → List Int} {lo hi z : Nat} {tz : TypeId} {x : Value} (h : OwnR t u W v n R lo hi) (hz : Boxed W z tz x) (h1 : tz ≠ t) (h2 : tz ≠ u) (hb : ∀ b, b ≠ z → W'.heap[b]? = W.heap[b]?) : OwnR t u W' v n R lo hi := by
  obtain h | ⟨g, C, f, rfl, k1, k2, k3, k4, k5, k6, k7⟩ := h
  · exact .inl h
  · have hg : g ≠ z := fun e => by
      obtain ⟨c, k5, _⟩ := k5
      unfold Boxed at hz
      rw [e, hz] at k5
      injection k5 with k5
      injection k5 with _ k5
      exact h2 k5
    refine .inr ⟨g, C, f, rfl, k1, k2, k3, k4, k5.of_block (hb g hg), fun j hj => (k6 j hj).kept fun b e => hb b fun e2 => ?_, k7⟩
    obtain ⟨_, _, c, k8⟩ := (k6 j hj).block b e
    unfold Boxed at hz
    rw [e2, hz] at k8
    injection k8 with k8
    injection k8 with _ k8
    exact h1 k8

theorem ord_ne_int : (24 : TypeId) ≠ 3 := by decide
theorem ord_ne_ints : (24 : TypeId) ≠ 37 := by decide
theorem int_ne_ints : (3 : TypeId) ≠ 37 := by decide

/-- While an order is built in the box Z: n rows R are there. -/
structure Out (w0 : World) (Z : Nat) (u : Value) (n : Nat) (R : Nat → List Int) (W : World) : Prop where
  below : Below w0.heap.size w0 W
  out : Boxed W Z 24 u
  own : OwnR 3 37 W u n R w0.heap.size W.heap.size
  place : w0.heap.size ≤ Z
theorem Out.step {w0 : World} {Z : Nat} {u : Value} {n : Nat} {R : Nat → List Int} {W W' : World} (h : Out w0 Z u n R W) (hb : Below W.heap.size W W') : Out w0 Z u n R W' :=
  ⟨h.below.trans (hb.mono h.below.size), (hb.block _ h.out.lt).trans h.out, (h.own.below hb (Nat.le_refl _)).wider (Nat.le_refl _) hb.size, h.place⟩
theorem Out.congr {w0 : World} {Z : Nat} {u : Value} {n : Nat} {R R' : Nat → List Int} {W : World} (h : Out w0 Z u n R W) (he : ∀ j, j < n → R j = R' j) : Out w0 Z u n R' W :=
  ⟨h.below, h.out, h.own.congr he, h.place⟩

theorem Out.pushed {w0 : World} {Z : Nat} {u : Value} {n : Nat} {R : Nat → List Int} {wr w2 w3 : World} {f : Nat → Value} {v' u2 : Value} {xs : List Int} {o : Obj} (h : Out w0 Z u n R wr)
    (h0 : wr.ownsRow w0.heap.size 37 1 u n ((List.range n).map f)) (h1 : ∀ j, j < n → OwnI 3 wr (f j) (R j) w0.heap.size wr.heap.size) (h2 : ∀ i j, i < j → j < n → (f i).ownBlock = none ∨ (f i).ownBlock ≠ (f j).ownBlock)
    (hb : Below wr.heap.size wr w2) (hn : OwnI 3 w2 v' xs wr.heap.size w2.heap.size) (hown : w3.ownsRow w0.heap.size 37 1 u2 (n + 1) ((List.range n).map f ++ [v'])) (hgrow : (w2.alloc o).grownBy w3 u.ownBlock) :
    Out w0 Z u2 (n + 1) (fun q => if q = n then xs else R q) (w3.setCell ⟨Z, 0, none⟩ u2) := by
  have hs := h.step hb
  have hw := h.below.size
  have hz := hb.size
  obtain ⟨k1, k2, k3, k4, k5⟩ := Boxed.appended (tmp := o) hs.out ord_ne_ints (owns_below h0 hb) hs.below.size h.place hown hgrow
  have h1' : ∀ j, j < n → OwnI 3 w2 (f j) (R j) w0.heap.size wr.heap.size := fun j hj => (h1 j hj).kept fun b hb' => hb.block b ((h1 j hj).block b hb').2.1
  have hp := OwnR.pushed (W := w2) (mid := wr.heap.size) (lo := w0.heap.size) int_ne_ints (owns_below h0 hb) h1' h2 hw hz hn ((Below.refl _ w2).alloc (Nat.le_refl _) o) hown hgrow
  refine ⟨hs.below.trans k5, k2, ?_, h.place⟩
  rw [size_setCell]
  exact hp.kept_but k1 ord_ne_int ord_ne_ints fun b hb' => Below.heap_setCell _ _ _ b hb'
/-- The variable's cell, behind the append. -/
theorem Out.far {w0 : World} {Z : Nat} {u : Value} {n : Nat} {R : Nat → List Int} {w2 w3 : World} {xs : List Value} {o : Obj} (h : Out w0 Z u n R w2) (h0 : w2.ownsRow w0.heap.size 37 1 u n xs) (hgrow : (w2.alloc o).grownBy w3 u.ownBlock) : Boxed w3 Z 24 u :=
  (h.out.alloc o).kept hgrow (Boxed.not_row h.out ord_ne_ints h0)
/-- An order of one row, right behind. -/
theorem Out.one {w0 W : World} {v : Value} {xs : List Int} (hb : Below w0.heap.size w0 W) (hv : OwnI 3 W v xs w0.heap.size W.heap.size) :
    Out w0 (W.heap.size + 1) (.slice (some ⟨W.heap.size, 0, none⟩) 1 1) 1 (fun _ => xs) ((W.alloc (.cells #[v] 37)).alloc (.cells #[.slice (some ⟨W.heap.size, 0, none⟩) 1 1] 24)) := by
  have s1 : (W.alloc (.cells #[v] 37)).heap.size = W.heap.size + 1 := World.size_alloc _ _
  have hz := hb.size
  have b1 := (Below.refl W.heap.size W).alloc (Nat.le_refl _) (.cells #[v] 37)
  have b2 := b1.alloc (by rw [s1]; omega) (.cells #[.slice (some ⟨W.heap.size, 0, none⟩) 1 1] 24)
  have r1 := World.rowIs_alloc W #[v] 37 (fun _ => v) (fun i hi => by
    obtain rfl : i = 0 := by simpa using hi
    rfl)
  have bx := Boxed.new (W.alloc (.cells #[v] 37)) 24 (.slice (some ⟨W.heap.size, 0, none⟩) 1 1)
  rw [s1] at bx
  refine ⟨hb.trans (b2.mono hz), bx, .inr ⟨W.heap.size, 1, fun _ => v, rfl, Nat.le_refl _, by decide, hz, by rw [World.size_alloc, s1]; omega, r1.alloc _, fun j _ => ?_, fun i j hij hj => absurd hj (by omega)⟩, by omega⟩
  exact (hv.wider (Nat.le_refl _) (by rw [World.size_alloc, s1]; omega)).kept fun b e => b2.block b (hv.block b e).2.1
end Go.Proofs.YtcggjhmjjpclhaaDoor

/- An order that is new; no row of it yet. Plain facts on worlds: no function is walked here. -/
namespace Go.Proofs.YtcggjhmjjpclhaaDoor
open Go.RowKit Go.Deep

/-- An order in new memory. -/
def OrdNew (N : Nat) (R : Nat → List Int) (w : World) (e : Ending) (w' : World) : Prop :=
  ∃ v, e = .returned (.agg #[v]) ∧ OwnR 3 37 w' v N R w.heap.size w'.heap.size ∧ Below w.heap.size w w'
/-- No row yet. -/
theorem Out.empty (w0 : World) (R : Nat → List Int) : Out w0 (w0.heap.size + 1) (.slice (some ⟨w0.heap.size, 0, none⟩) 0 0) 0 R ((w0.alloc (.cells #[] 37)).alloc (.cells #[.slice (some ⟨w0.heap.size, 0, none⟩) 0 0] 24)) := by
  have s1 : (w0.alloc (.cells #[] 37)).heap.size = w0.heap.size + 1 := World.size_alloc _ _
  have b1 := (Below.refl w0.heap.size w0).alloc (Nat.le_refl _) (.cells #[] 37)
  have b2 := b1.alloc (by rw [s1]; omega) (.cells #[.slice (some ⟨w0.heap.size, 0, none⟩) 0 0] 24)
  have r1 := World.rowIs_alloc w0 #[] 37 (fun _ => undef) (fun _ h => absurd h (Nat.not_lt_zero _))
  have bx := Boxed.new (w0.alloc (.cells #[] 37)) 24 (.slice (some ⟨w0.heap.size, 0, none⟩) 0 0)
  rw [s1] at bx
  exact ⟨b2, bx, .inr ⟨w0.heap.size, 0, _, rfl, Nat.le_refl _, Nat.zero_le _, Nat.le_refl _, by rw [World.size_alloc, s1]; omega, r1.alloc _, fun j hj => absurd hj (Nat.not_lt_zero _), fun i j _ hj => absurd hj (Nat.not_lt_zero _)⟩, Nat.le_succ _⟩
end Go.Proofs.YtcggjhmjjpclhaaDoor

/- Flat domains and chains: the program's and the model's functions. -/
namespace Go.Proofs.YtcggjhmjjpclhaaDoor
open Go.RowKit Go.Deep Go.Shelf

/-- What DomainFlat and DomainChain answer. -/
def flatOk (z : Int) : Bool := decide (0 ≤ z ∧ z ≤ 199)
def flatL (z : Int) : Rows2 := if flatOk z = true then madeL flatB (z.toNat + 1) else []
def chainOk (z : Int) : Bool := decide (1 ≤ z ∧ z ≤ 200)
def chainL (z : Int) : Rows2 := if chainOk z = true then madeL chainB z.toNat else []

theorem orderP_zero {t : Bool} {xs : Rows2} {w W : World} (hx : xs = []) (ht : t = false) (hb : Below w.heap.size w W) : OrderP xs t w (.returned (.tuple #[.agg #[.slice none 0 0], .bool false])) W := by
  subst hx ht
  exact ⟨_, rfl, OwnR.nil _ _ _ _ _ _, hb⟩
theorem orderP_made {B : Nat → Nat → Bool} {N : Nat} {t : Bool} {xs : Rows2} {w W : World} {b : Nat} {u : Value} (hx : xs = madeL B N) (ht : t = true) (ho : OwnR 3 37 W u N (fun q => bRow B q N) (w.heap.size + 1) W.heap.size) (hb : Below w.heap.size w W) (he : b = w.heap.size) :
    OrderP xs t w (.returned (.tuple #[.agg #[u], .bool true])) (W.setCell ⟨b, 0, none⟩ u) := by
  subst hx ht he
  refine ⟨_, rfl, ?_, hb.setCell (p := ⟨w.heap.size, 0, none⟩) (Nat.le_refl _) _⟩
  rw [madeL_len, size_setCell]
  refine ((ho.kept fun b hb _ => Below.heap_setCell _ _ _ b (show b ≠ w.heap.size by omega)).wider (Nat.le_succ _) (Nat.le_refl _)).congr fun q hq => ?_
  rw [rowsF_lt (by rw [madeL_len]; exact hq), madeL_at]

set_option maxRecDepth 100000 in
set_option maxHeartbeats 4000000 in
theorem implFlat_any (z : Int) (w : World) (hT : Tab w) : Calls Tryd.prog 6 #[.int .i64 z] w (OrderP (flatL z) (flatOk z) w) := by
  have b0 := (Below.refl w.heap.size w).alloc (Nat.le_refl _) (.cells #[.slice none 0 0] 24)
  have hbx := Boxed.new w 24 (.slice none 0 0)
  have HB0 := Lib.hid b0
  have HBX := Lib.hid hbx
  by_cases hz : 0 ≤ z ∧ z ≤ 199
  · obtain ⟨n, rfl⟩ : ∃ n : Nat, z = (n : Int) := ⟨z.toNat, by omega⟩
    have hE : flatOk (n : Int) = true := decide_eq_true hz
    have HE := Lib.hid hE
    have HL := Lib.hid (show flatL (n : Int) = madeL flatB (n + 1) by unfold flatL; rw [if_pos hE, Int.toNat_natCast])
    have q1 : ¬ ((n : Int) < 0) := by omega
    have q2 : ¬ ((199 : Int) < (n : Int)) := by omega
    have hcall := flatBuilt_yes n (n + 1) (w.alloc (.cells #[.slice none 0 0] 24)) (by omega) rfl (by omega) (hT.below b0) (fun q _ => by unfold flatB; simp)
    clear b0 hbx hz hE
    go_enter Tryd.func6, Tryd.ntmps6
    go_wp2_with (go_at_call 14; refine hcall.mono ?_; clear hcall; rintro e w1 ⟨u, rfl, hu, hb1⟩; obtain ⟨a1, C1, rfl⟩ := hu.form; have HU := Lib.hid hu; have BX1 : Hid (Boxed w1 w.heap.size 24 (.slice none 0 0)) := Lib.hid ((hb1.block _ HBX.out.lt).trans HBX.out); have HB1 := Lib.hid (HB0.out.trans (hb1.mono HB0.out.size)); have hres := BX1.out.cell; have hfr := BX1.out.frozen; clear hu hb1)
    have hc9 := World.cell?_setCell_same' w1 ⟨w.heap.size, 0, none⟩ (.slice a1 (n + 1) C1) (by rw [hres]; rfl)
    refine bodyPost_ret (v := .tuple #[.agg #[.slice a1 (n + 1) C1], .bool true]) (by simp [results, Tryd.results6, go_sem, hc9]) rfl ?_
    have hu := HU.out
    rw [World.size_alloc] at hu
    exact orderP_made HL.out HE.out hu HB1.out rfl
  · have hE : flatOk z = false := decide_eq_false hz
    have HE := Lib.hid hE
    have HL := Lib.hid (show flatL z = [] by unfold flatL; rw [if_neg (by rw [hE]; simp)])
    have hres := hbx.cell
    have hfr := hbx.frozen
    clear hE hbx b0
    by_cases h0 : z < 0
    · clear hz
      go_enter Tryd.func6, Tryd.ntmps6
      go_wp2
      refine bodyPost_ret (v := .tuple #[.agg #[.slice none 0 0], .bool false]) (by simp [results, Tryd.results6, go_sem]) rfl ?_
      exact orderP_zero HL.out HE.out HB0.out
    · have h1 : (199 : Int) < z := by omega
      clear hz
      go_enter Tryd.func6, Tryd.ntmps6
      go_wp2
      refine bodyPost_ret (v := .tuple #[.agg #[.slice none 0 0], .bool false]) (by simp [results, Tryd.results6, go_sem]) rfl ?_
      exact orderP_zero HL.out HE.out HB0.out

set_option maxRecDepth 100000 in
set_option maxHeartbeats 4000000 in
theorem implChain_any (z : Int) (w : World) (hT : Tab w) : Calls Tryd.prog 11 #[.int .i64 z] w (OrderP (chainL z) (chainOk z) w) := by
  have b0 := (Below.refl w.heap.size w).alloc (Nat.le_refl _) (.cells #[.slice none 0 0] 24)
  have hbx := Boxed.new w 24 (.slice none 0 0)
  have HB0 := Lib.hid b0
  have HBX := Lib.hid hbx
  by_cases hz : 1 ≤ z ∧ z ≤ 200
  · obtain ⟨n, rfl⟩ : ∃ n : Nat, z = (n : Int) := ⟨z.toNat, by omega⟩
    have hE : chainOk (n : Int) = true := decide_eq_true hz
    have HE := Lib.hid hE
    have HL := Lib.hid (show chainL (n : Int) = madeL chainB n by unfold chainL; rw [if_pos hE, Int.toNat_natCast])
    have q1 : ¬ ((n : Int) < 1) := by omega
    have q2 : ¬ ((200 : Int) < (n : Int)) := by omega
    have hcall := chainBuilt_yes n n (w.alloc (.cells #[.slice none 0 0] 24)) rfl (by omega) (hT.below b0) (fun q _ => by unfold chainB; simp)
    clear b0 hbx hz hE
    go_enter Tryd.func11, Tryd.ntmps11
    go_wp2_with (go_at_call 14; refine hcall.mono ?_; clear hcall; rintro e w1 ⟨u, rfl, hu, hb1⟩; obtain ⟨a1, C1, rfl⟩ := hu.form; have HU := Lib.hid hu; have BX1 : Hid (Boxed w1 w.heap.size 24 (.slice none 0 0)) := Lib.hid ((hb1.block _ HBX.out.lt).trans HBX.out); have HB1 := Lib.hid (HB0.out.trans (hb1.mono HB0.out.size)); have hres := BX1.out.cell; have hfr := BX1.out.frozen; clear hu hb1)
    have hc9 := World.cell?_setCell_same' w1 ⟨w.heap.size, 0, none⟩ (.slice a1 n C1) (by rw [hres]; rfl)
    refine bodyPost_ret (v := .tuple #[.agg #[.slice a1 n C1], .bool true]) (by simp [results, Tryd.results11, go_sem, hc9]) rfl ?_
    have hu := HU.out
    rw [World.size_alloc] at hu
    exact orderP_made HL.out HE.out hu HB1.out rfl
  · have hE : chainOk z = false := decide_eq_false hz
    have HE := Lib.hid hE
    have HL := Lib.hid (show chainL z = [] by unfold chainL; rw [if_neg (by rw [hE]; simp)])
    have hres := hbx.cell
    have hfr := hbx.frozen
    clear hE hbx b0
    by_cases h0 : z < 1
    · clear hz
      go_enter Tryd.func11, Tryd.ntmps11
      go_wp2
      refine bodyPost_ret (v := .tuple #[.agg #[.slice none 0 0], .bool false]) (by simp [results, Tryd.results11, go_sem]) rfl ?_
      exact orderP_zero HL.out HE.out HB0.out
    · have h1 : (200 : Int) < z := by omega
      clear hz
      go_enter Tryd.func11, Tryd.ntmps11
      go_wp2
      refine bodyPost_ret (v := .tuple #[.agg #[.slice none 0 0], .bool false]) (by simp [results, Tryd.results11, go_sem]) rfl ?_
      exact orderP_zero HL.out HE.out HB0.out

/-- Rows of kept elements, while a row is told. -/
theorem kept_bRow (B : Nat → Nat → Bool) (a N : Nat) : keptN (B a) N = bRow B a N := rfl
end Go.Proofs.YtcggjhmjjpclhaaDoor

/- Flat domains and chains: the model's functions. -/
namespace Go.Proofs.YtcggjhmjjpclhaaDoor
open Go.RowKit Go.Deep

theorem infoBoolF : (Tryd.prog.info? 4).map (fun i => (i.zero, i.size, i.bytes)) = some (some (.bool false), 1, 1) := by kernel_rfl

set_option maxRecDepth 100000 in
set_option maxHeartbeats 4000000 in
theorem l2Flat_any (n : Nat) (w : World) (hn : n ≤ 199) :
    Calls Tryd.prog 13 #[.int .i64 (n : Int)] w (OrdNew (n + 1) (fun a => bRow flatB a (n + 1)) w) := by
  have b2 := (Below.refl w.heap.size w).alloc (Nat.le_refl _) (.cells #[.slice none 0 0] 24)
  have hbR := Boxed.new w 24 (.slice none 0 0)
  have s2 : (w.alloc (.cells #[.slice none 0 0] 24)).heap.size = w.heap.size + 1 := World.size_alloc _ _
  generalize hw0 : (w.alloc (.cells #[.slice none 0 0] 24)) = w0 at b2 hbR s2
  obtain ⟨i0, hi0, hz0, hz1, hz2⟩ := info_parts infoInt
  obtain ⟨j0, hj0, hy0, hy1, hy2⟩ := info_parts infoInts
  have hN0 := Out.empty w0 (fun a => bRow flatB a (n + 1))
  rw [s2] at hN0
  have B2 := Lib.hid b2
  have BR := Lib.hid hbR
  have S2 := Lib.hid s2
  have hmk := run_make_row' (P := Tryd.prog) 36 4 (.bool false) 1 Tryd.underlying36 infoBoolF rfl .i64 .i64 (n + 1) (by omega) (by omega)
  rw [show ((n + 1 : Nat) : Int) = (n : Int) + 1 from rfl] at hmk
  clear b2 hbR
  go_enter Tryd.func13, Tryd.ntmps13
  go_upto_region 2 with fail
  clear hw0 s2
  generalize ((w0.alloc (.cells #[] 37)).alloc (.cells #[.slice (some ⟨w.heap.size + 1, 0, none⟩) 0 0] 24)) = wq at hN0 ⊢
  generalize w.heap.size + 1 + 1 = Z at hN0 ⊢
  have HST := Lib.hid hN0
  clear hN0
  go_wp2
  go_loopw [4] (fun av wx => ∃ (a : Nat) (u : Value), a ≤ (n + 1) ∧ av = .int .i64 a ∧ Out w0 Z u a (fun a => bRow flatB a (n + 1)) wx) (fun av _ => (n + 1) - (intOf av).toNat)
  case atStart => exact ⟨0, _, Nat.zero_le _, rfl, HST.out⟩
  case round =>
    obtain ⟨wo, hwo⟩ : ∃ wo : World, wo = wr := ⟨_, rfl⟩
    subst hwo
    obtain ⟨a, u, ha, rfl, ho⟩ := hrel
    have HK := Lib.hid ho
    obtain ⟨au, Cu, rfl⟩ := ho.own.form
    clear HST
    by_cases hlt : a < (n + 1)
    · have hltz : (a : Int) ≤ (n : Int) := by omega
      have HRW := Lib.hid (World.rowIs_made wo (.bool false) (n + 1) 4)
      have HBB := Lib.hid ((Below.refl wo.heap.size wo).alloc (Nat.le_refl _) (.cells (madeCells #[.bool false] (n + 1)) 4))
      clear ho
      go_upto_region 6 with fail
      generalize wo.alloc (.cells (madeCells #[.bool false] (n + 1)) 4) = wa at HRW HBB ⊢
      go_wp2
      go_loopw [6] (fun bv wx => ∃ b : Nat, b ≤ (n + 1) ∧ bv = .int .i64 b ∧ wx.rowIs wo.heap.size 4 (n + 1) (fun i => if i < b then .bool (flatB a i) else .bool false) ∧ Below wo.heap.size wo wx) (fun bv _ => (n + 1) - (intOf bv).toNat)
      case atStart => exact ⟨0, Nat.zero_le _, rfl, HRW.out.congr (fun i _ => by rw [if_neg (Nat.not_lt_zero i)]), HBB.out⟩
      case round =>
        obtain ⟨b, hb, rfl, hr, hB⟩ := hrel
        have HR := Lib.hid hr
        have HB := Lib.hid hB
        clear HRW HBB hB
        by_cases hbl : b < (n + 1)
        · have hbz : (b : Int) ≤ (n : Int) := by omega
          have hbN : (b : Int) < (n : Int) + 1 := by omega
          have hc := hr.cell hbl
          have hfz := hr.frozen b
          rw [if_neg (Nat.lt_irrefl b)] at hc
          clear hr
          by_cases h0 : a = 0
          · subst h0
            have HA := Lib.hid (show flatB 0 b = true by unfold flatB; simp)
            go_wp2
            go_roundw
            case rel =>
              refine ⟨b + 1, by omega, by go_num, (HR.out.set b (.bool true)).congr (fun i hi => ?_), HB.out.setCell (p := ⟨wo.heap.size, b, none⟩) (Nat.le_refl _) _⟩
              by_cases e : i = b
              · subst e; rw [if_pos (Nat.lt_succ_self i), HA.out]; simp
              · by_cases e2 : i < b
                · simp [e, e2, show i < b + 1 by omega]
                · simp [e, e2, show ¬ i < b + 1 by omega]
            case measure => simp [intOf]; omega
          · have q1 : ((a : Int) == 0) = false := by rw [beq_eq_false_iff_ne]; omega
            have q2 : (a == 0) = false := by rw [beq_eq_false_iff_ne]; exact h0
            obtain ⟨t, ht⟩ : ∃ t : Bool, ((a : Int) == (b : Int)) = t := ⟨_, rfl⟩
            have ht2 : (a == b) = t := by rw [← ht, Bool.eq_iff_iff, beq_iff_eq, beq_iff_eq]; omega
            have HA := Lib.hid (show flatB a b = t by unfold flatB; rw [decide_eq_false h0, Bool.false_or, ← ht2]; rfl)
            clear h0
            go_wp2
            go_roundw
            case rel =>
              refine ⟨b + 1, by omega, by go_num, (HR.out.set b (.bool t)).congr (fun i hi => ?_), HB.out.setCell (p := ⟨wo.heap.size, b, none⟩) (Nat.le_refl _) _⟩
              by_cases e : i = b
              · subst e; rw [if_pos (Nat.lt_succ_self i), HA.out]; simp
              · by_cases e2 : i < b
                · simp [e, e2, show i < b + 1 by omega]
                · simp [e, e2, show ¬ i < b + 1 by omega]
            case measure => simp [intOf]; omega
        · obtain rfl : b = n + 1 := by omega
          have hbz : ¬ (((n + 1 : Nat) : Int) ≤ (n : Int)) := by omega
          have HOX := Lib.hid (HK.out.step HB.out)
          have hout := HOX.out.out.cell
          have hZ2 := HOX.out.out.lt
          have hb0 := HOX.out.below.size
          have HRO := Lib.hid (l2Row_any wo.heap.size (n + 1) (n + 1) (flatB a) wr.drew (by omega) (fun i hi => by have := HR.out.cell hi; rw [if_pos hi] at this; exact this))
          obtain ⟨f, hf0, hf1, hf2⟩ := HOX.out.own.owns
          have HF0 := Lib.hid hf0
          have HF1 := Lib.hid hf1
          have HF2 := Lib.hid hf2
          clear hf0 hf1 hf2 hr
          go_upto_region 10 with fail
          go_region_law (first | (go_simp; go_at_call 18; refine HRO.out.mono ?_; clear HRO; rintro e w2 ⟨v', rfl, hv', hb2⟩; obtain ⟨a2, C2, rfl⟩ := hv'.form; have HV2 := Lib.hid hv'; have HB2 := Lib.hid ((below_drew wr _).trans hb2); have HK2 := Lib.hid (HOX.out.step HB2.out); have HW0 := Lib.hid (owns_below HF0.out HB2.out); have hout2 := HK2.out.out.cell; have hout3 := cell_alloc_any hout2; have hz22 : wr.heap.size ≤ w2.heap.size := hb2.size; clear hv' hb2) | (refine step_append_lies _ (by rfl) _ _ 22 (by rfl) w0.heap.size 37 j0 (.slice none 0 0) 1 24 Tryd.underlying22 hj0 hy0 hy1 hy2 rfl (by decide) (.slice au a Cu) a ((List.range a).map f) (by rfl) (HW0.out.alloc _) ⟨w2.heap.size, 0, none⟩ 1 1 [.slice a2 (keptN (flatB a) (n + 1)).length C2] (by rfl) rfl (World.news_of_block (heap_alloc_new w2 _)) (by simp [Value.oneCell']) (by omega) (by unfold maxLen; omega) (by omega) (by simp; omega) (w2.heap.size + 1) (by simp) ?_; intro g' cap' w3 hown hgrow hat hlt'; have hfar := HK2.out.far HW0.out hgrow; have hc3 := hfar.cell; have hf3 := hfar.frozen; clear hfar))
          all_goals
            go_wp2
            go_roundw
            case rel =>
              refine ⟨a + 1, _, by omega, by go_num, (HOX.out.pushed HF0.out HF1.out HF2.out HB2.out HV2.out hown ⟨hgrow.os, hgrow.tape, hgrow.output, hgrow.size, hgrow.block⟩).congr fun j hj => ?_⟩
              by_cases e : j = a
              · subst e; rw [if_pos rfl]; rfl
              · rw [if_neg e]
            case measure => simp [intOf]; omega
    · obtain rfl : a = n + 1 := by omega
      have hltz : ¬ (((n + 1 : Nat) : Int) ≤ (n : Int)) := by omega
      have hres := (ho.below.block _ (by rw [S2.out]; omega)).trans BR.out
      have hrc := Boxed.cell hres
      have hrf := Boxed.frozen hres
      have hout := ho.out.cell
      have hc9 := World.cell?_setCell_same' wo ⟨w.heap.size, 0, none⟩ (.slice au (n + 1) Cu) (by rw [hrc]; rfl)
      clear ho hres
      go_wp2
      refine bodyPost_ret (v := .agg #[.slice au (n + 1) Cu]) (by simp [results, Tryd.results13, go_sem, hc9]) rfl ?_
      refine ⟨_, rfl, ?_, (B2.out.trans (HK.out.below.mono (by rw [S2.out]; omega))).setCell (p := ⟨w.heap.size, 0, none⟩) (Nat.le_refl _) _⟩
      rw [size_setCell]
      exact (HK.out.own.kept fun b hb _ => Below.heap_setCell _ _ _ b (show b ≠ w.heap.size by have := S2.out; omega)).wider (by rw [S2.out]; omega) (Nat.le_refl _)

set_option maxRecDepth 100000 in
set_option maxHeartbeats 4000000 in
theorem specFlat_any (z : Int) (w : World) : Calls Tryd.prog 5 #[.int .i64 z] w (OrderP (flatL z) (flatOk z) w) := by
  have b0 := (Below.refl w.heap.size w).alloc (Nat.le_refl _) (.cells #[.slice none 0 0] 24)
  have hbx := Boxed.new w 24 (.slice none 0 0)
  have HB0 := Lib.hid b0
  have HBX := Lib.hid hbx
  by_cases hz : 0 ≤ z ∧ z ≤ 199
  · obtain ⟨n, rfl⟩ : ∃ n : Nat, z = (n : Int) := ⟨z.toNat, by omega⟩
    have hE : flatOk (n : Int) = true := decide_eq_true hz
    have HE := Lib.hid hE
    have HL := Lib.hid (show flatL (n : Int) = madeL flatB (n + 1) by unfold flatL; rw [if_pos hE, Int.toNat_natCast])
    have hcall := l2Flat_any n (w.alloc (.cells #[.slice none 0 0] 24)) (by omega)
    have hin := l6In_yes (n : Int) 0 199 (w.alloc (.cells #[.slice none 0 0] 24)) hz.1 hz.2
    clear b0 hbx hz hE
    go_enter Tryd.func5, Tryd.ntmps5
    go_wp2_with (first | (go_at_call 12; refine hin.mono ?_; clear hin; rintro e w1 ⟨rfl, rfl⟩) | (go_at_call 13; refine hcall.mono ?_; clear hcall; rintro e w1 ⟨u, rfl, hu, hb1⟩; obtain ⟨a1, C1, rfl⟩ := hu.form; have HU := Lib.hid hu; have BX1 : Hid (Boxed w1 w.heap.size 24 (.slice none 0 0)) := Lib.hid ((hb1.block _ HBX.out.lt).trans HBX.out); have HB1 := Lib.hid (HB0.out.trans (hb1.mono HB0.out.size)); have hres := BX1.out.cell; have hfr := BX1.out.frozen; clear hu hb1))
    have hc9 := World.cell?_setCell_same' w1 ⟨w.heap.size, 0, none⟩ (.slice a1 (n + 1) C1) (by rw [hres]; rfl)
    refine bodyPost_ret (v := .tuple #[.agg #[.slice a1 (n + 1) C1], .bool true]) (by simp [results, Tryd.results5, go_sem, hc9]) rfl ?_
    have hu := HU.out
    rw [World.size_alloc] at hu
    exact orderP_made HL.out HE.out hu HB1.out rfl
  · have hE : flatOk z = false := decide_eq_false hz
    have HE := Lib.hid hE
    have HL := Lib.hid (show flatL z = [] by unfold flatL; rw [if_neg (by rw [hE]; simp)])
    have hres := hbx.cell
    have hfr := hbx.frozen
    have hin := l6In_no z 0 199 (w.alloc (.cells #[.slice none 0 0] 24)) hz
    clear hE hbx b0 hz
    go_enter Tryd.func5, Tryd.ntmps5
    go_wp2_with (first | (go_at_call 12; refine hin.mono ?_; clear hin; rintro e w1 ⟨rfl, rfl⟩))
    refine bodyPost_ret (v := .tuple #[.agg #[.slice none 0 0], .bool false]) (by simp [results, Tryd.results5, go_sem]) rfl ?_
    exact orderP_zero HL.out HE.out HB0.out

set_option maxRecDepth 100000 in
set_option maxHeartbeats 4000000 in
theorem specChain_any (z : Int) (w : World) : Calls Tryd.prog 10 #[.int .i64 z] w (OrderP (chainL z) (chainOk z) w) := by
  have b2 := (Below.refl w.heap.size w).alloc (Nat.le_refl _) (.cells #[.slice none 0 0] 24)
  have hbR := Boxed.new w 24 (.slice none 0 0)
  have s2 : (w.alloc (.cells #[.slice none 0 0] 24)).heap.size = w.heap.size + 1 := World.size_alloc _ _
  by_cases hz : 1 ≤ z ∧ z ≤ 200
  · obtain ⟨n, rfl⟩ : ∃ n : Nat, z = (n : Int) := ⟨z.toNat, by omega⟩
    have hn : n ≤ 200 := by omega
    have hE : chainOk (n : Int) = true := decide_eq_true hz
    have HE := Lib.hid hE
    have HL := Lib.hid (show chainL (n : Int) = madeL chainB n by unfold chainL; rw [if_pos hE, Int.toNat_natCast])
    have hin := fun W => l6In_yes (n : Int) 1 200 W hz.1 hz.2
    generalize hw0 : (w.alloc (.cells #[.slice none 0 0] 24)) = w0 at b2 hbR s2
    obtain ⟨i0, hi0, hz0, hz1, hz2⟩ := info_parts infoInt
    obtain ⟨j0, hj0, hy0, hy1, hy2⟩ := info_parts infoInts
    have hN0 := Out.empty w0 (fun a => bRow chainB a n)
    rw [s2] at hN0
    have B2 := Lib.hid b2
    have BR := Lib.hid hbR
    have S2 := Lib.hid s2
    have hmk := run_make_row' (P := Tryd.prog) 36 4 (.bool false) 1 Tryd.underlying36 infoBoolF rfl .i64 .i64 n (by omega) (by omega)
    clear b2 hbR hz hE
    go_enter Tryd.func10, Tryd.ntmps10
    go_upto_region 4 with (go_at_call 12; refine (hin _).mono ?_; clear hin; rintro e w1 ⟨rfl, hw1⟩; obtain rfl : w0 = w1 := by first | exact hw1 | exact hw1.symm)
    clear hw0 s2
    generalize ((w0.alloc (.cells #[] 37)).alloc (.cells #[.slice (some ⟨w.heap.size + 1, 0, none⟩) 0 0] 24)) = wq at hN0 ⊢
    generalize w.heap.size + 1 + 1 = Z at hN0 ⊢
    have HST := Lib.hid hN0
    clear hN0
    go_wp2
    go_loopw [5] (fun av wx => ∃ (a : Nat) (u : Value), a ≤ n ∧ av = .int .i64 a ∧ Out w0 Z u a (fun a => bRow chainB a n) wx) (fun av _ => n - (intOf av).toNat)
    case atStart => exact ⟨0, _, Nat.zero_le _, rfl, HST.out⟩
    case round =>
      obtain ⟨wo, hwo⟩ : ∃ wo : World, wo = wr := ⟨_, rfl⟩
      subst hwo
      obtain ⟨a, u, ha, rfl, ho⟩ := hrel
      have HK := Lib.hid ho
      obtain ⟨au, Cu, rfl⟩ := ho.own.form
      clear HST
      by_cases hlt : a < n
      · have hltz : (a : Int) < (n : Int) := by omega
        have HRW := Lib.hid (World.rowIs_made wo (.bool false) n 4)
        have HBB := Lib.hid ((Below.refl wo.heap.size wo).alloc (Nat.le_refl _) (.cells (madeCells #[.bool false] n) 4))
        clear ho
        go_upto_region 8 with fail
        generalize wo.alloc (.cells (madeCells #[.bool false] n) 4) = wa at HRW HBB ⊢
        go_wp2
        go_loopw [7] (fun bv wx => ∃ b : Nat, a ≤ b ∧ b ≤ n ∧ bv = .int .i64 b ∧ wx.rowIs wo.heap.size 4 n (fun i => .bool (decide (a ≤ i) && decide (i < b))) ∧ Below wo.heap.size wo wx) (fun bv _ => n - (intOf bv).toNat)
        case atStart => exact ⟨a, Nat.le_refl _, ha, rfl, HRW.out.congr (fun i _ => by
          by_cases h : a ≤ i
          · rw [decide_eq_false (show ¬ i < a by omega), Bool.and_false]
          · rw [decide_eq_false h, Bool.false_and]), HBB.out⟩
        case round =>
          obtain ⟨b, hab, hb, rfl, hr, hB⟩ := hrel
          have HR := Lib.hid hr
          have HB := Lib.hid hB
          clear HRW HBB hB
          by_cases hbl : b < n
          · have hbz : (b : Int) < (n : Int) := by omega
            have hc := hr.cell hbl
            have hfz := hr.frozen b
            rw [decide_eq_false (Nat.lt_irrefl b), Bool.and_false] at hc
            clear hr
            go_wp2
            go_roundw
            case rel =>
              refine ⟨b + 1, by omega, by omega, by go_num, (HR.out.set b (.bool true)).congr (fun i hi => ?_), HB.out.setCell (p := ⟨wo.heap.size, b, none⟩) (Nat.le_refl _) _⟩
              by_cases e : i = b
              · subst e; rw [decide_eq_true hab, decide_eq_true (Nat.lt_succ_self i)]; simp
              · have e3 : decide (i < b + 1) = decide (i < b) := by rw [Bool.eq_iff_iff, decide_eq_true_iff, decide_eq_true_iff]; omega
                simp [e, e3]
            case measure => simp [intOf]; omega
          · obtain rfl : b = n := by omega
            have hbz : ¬ ((b : Int) < (b : Int)) := by omega
            have HOX := Lib.hid (HK.out.step HB.out)
            have hout := HOX.out.out.cell
            have hZ2 := HOX.out.out.lt
            have hb0 := HOX.out.below.size
            have HRO := Lib.hid (l2Row_any wo.heap.size b b (chainB a) wr.drew (by omega) (fun i hi => by have := HR.out.cell hi; rw [decide_eq_true hi, Bool.and_true] at this; exact this))
            obtain ⟨f, hf0, hf1, hf2⟩ := HOX.out.own.owns
            have HF0 := Lib.hid hf0
            have HF1 := Lib.hid hf1
            have HF2 := Lib.hid hf2
            clear hf0 hf1 hf2 hr
            go_upto_region 12 with fail
            go_region_law (first | (go_simp; go_at_call 18; refine HRO.out.mono ?_; clear HRO; rintro e w2 ⟨v', rfl, hv', hb2⟩; obtain ⟨a2, C2, rfl⟩ := hv'.form; have HV2 := Lib.hid hv'; have HB2 := Lib.hid ((below_drew wr _).trans hb2); have HK2 := Lib.hid (HOX.out.step HB2.out); have HW0 := Lib.hid (owns_below HF0.out HB2.out); have hout2 := HK2.out.out.cell; have hout3 := cell_alloc_any hout2; have hz22 : wr.heap.size ≤ w2.heap.size := hb2.size; clear hv' hb2) | (refine step_append_lies _ (by rfl) _ _ 22 (by rfl) w0.heap.size 37 j0 (.slice none 0 0) 1 24 Tryd.underlying22 hj0 hy0 hy1 hy2 rfl (by decide) (.slice au a Cu) a ((List.range a).map f) (by rfl) (HW0.out.alloc _) ⟨w2.heap.size, 0, none⟩ 1 1 [.slice a2 (keptN (chainB a) b).length C2] (by rfl) rfl (World.news_of_block (heap_alloc_new w2 _)) (by simp [Value.oneCell']) (by omega) (by unfold maxLen; omega) (by omega) (by simp; omega) (w2.heap.size + 1) (by simp) ?_; intro g' cap' w3 hown hgrow hat hlt'; have hfar := HK2.out.far HW0.out hgrow; have hc3 := hfar.cell; have hf3 := hfar.frozen; clear hfar))
            all_goals
              go_wp2
              go_roundw
              case rel =>
                refine ⟨a + 1, _, by omega, by go_num, (HOX.out.pushed HF0.out HF1.out HF2.out HB2.out HV2.out hown ⟨hgrow.os, hgrow.tape, hgrow.output, hgrow.size, hgrow.block⟩).congr fun j hj => ?_⟩
                by_cases e : j = a
                · subst e; rw [if_pos rfl]; rfl
                · rw [if_neg e]
              case measure => simp [intOf]; omega
      · obtain rfl : a = n := by omega
        have hltz : ¬ ((a : Int) < (a : Int)) := by omega
        have hres := (ho.below.block _ (by rw [S2.out]; omega)).trans BR.out
        have hrc := Boxed.cell hres
        have hrf := Boxed.frozen hres
        have hout := ho.out.cell
        have hc9 := World.cell?_setCell_same' wo ⟨w.heap.size, 0, none⟩ (.slice au a Cu) (by rw [hrc]; rfl)
        clear ho hres
        go_wp2
        refine bodyPost_ret (v := .tuple #[.agg #[.slice au a Cu], .bool true]) (by simp [results, Tryd.results10, go_sem, hc9]) rfl ?_
        exact orderP_made HL.out HE.out (HK.out.own.wider (by rw [S2.out]; omega) (Nat.le_refl _)) (B2.out.trans (HK.out.below.mono (by rw [S2.out]; omega))) rfl
  · have hE : chainOk z = false := decide_eq_false hz
    have HE := Lib.hid hE
    have HL := Lib.hid (show chainL z = [] by unfold chainL; rw [if_neg (by rw [hE]; simp)])
    have HB0 := Lib.hid b2
    have hres := hbR.cell
    have hfr := hbR.frozen
    have hin := l6In_no z 1 200 (w.alloc (.cells #[.slice none 0 0] 24)) hz
    clear hE hbR b2 hz
    go_enter Tryd.func10, Tryd.ntmps10
    go_wp2_with (first | (go_at_call 12; refine hin.mono ?_; clear hin; rintro e w1 ⟨rfl, rfl⟩))
    refine bodyPost_ret (v := .tuple #[.agg #[.slice none 0 0], .bool false]) (by simp [results, Tryd.results10, go_sem]) rfl ?_
    exact orderP_zero HL.out HE.out HB0.out
theorem flat_bulk (z : Int) : bulk (flatL z) ≤ 1048576 := by
  unfold flatL
  split
  · rename_i h
    have := of_decide_eq_true h
    exact made_small (by omega)
  · exact Nat.zero_le _
theorem chain_bulk (z : Int) : bulk (chainL z) ≤ 1048576 := by
  unfold chainL
  split
  · rename_i h
    have := of_decide_eq_true h
    exact made_small (by omega)
  · exact Nat.zero_le _
end Go.Proofs.YtcggjhmjjpclhaaDoor

/- What a law holds while it runs, as a list of things that lie one behind the other in memory: variables' boxes, copies, answers. Plain facts on worlds: no function is walked here. -/
namespace Go.Proofs.YtcggjhmjjpclhaaDoor
open Go.RowKit Go.Deep

/-- A thing that lies between the blocks lo and hi, and hangs on these alone. -/
structure It where
  lo : Nat
  hi : Nat
  P : World → Prop
  loc : ∀ W W' : World, (∀ b, lo ≤ b → b < hi → W'.heap[b]? = W.heap[b]?) → P W → P W'

/-- A list of integers in memory of its own; rows likewise; a variable's box. -/
def ItI (v : Value) (xs : List Int) (lo hi : Nat) : It := ⟨lo, hi, fun W => OwnI 3 W v xs lo hi, fun _ _ h k => k.kept fun b e => h b (k.block b e).1 (k.block b e).2.1⟩
def ItR (v : Value) (n : Nat) (R : Nat → List Int) (lo hi : Nat) : It := ⟨lo, hi, fun W => OwnR 3 37 W v n R lo hi, fun _ _ h k => k.kept h⟩
def ItB (b : Nat) (t : TypeId) (v : Value) : It := ⟨b, b + 1, fun W => Boxed W b t v, fun _ _ h k => (h b (Nat.le_refl _) (Nat.lt_succ_self _)).trans k⟩

def Holds (W : World) : Nat → List It → Prop
  | n, [] => n ≤ W.heap.size
  | n, i :: is => n ≤ i.lo ∧ i.lo ≤ i.hi ∧ i.P W ∧ Holds W i.hi is

theorem Holds.le {W : World} : ∀ {is : List It} {n : Nat}, Holds W n is → n ≤ W.heap.size
  | [], _, h => h
  | _ :: _, _, h => Nat.le_trans h.1 (Nat.le_trans h.2.1 (Holds.le h.2.2.2))
theorem Holds.above {W W' : World} : ∀ {is : List It} {n : Nat}, Holds W n is → (∀ b, n ≤ b → b < W.heap.size → W'.heap[b]? = W.heap[b]?) → W.heap.size ≤ W'.heap.size → Holds W' n is
  | [], _, h, _, hz => Nat.le_trans h hz
  | i :: _, _, h, hb, hz => ⟨h.1, h.2.1, i.loc W W' (fun b hl hh => hb b (Nat.le_trans h.1 hl) (Nat.lt_of_lt_of_le hh h.2.2.2.le)) h.2.2.1, h.2.2.2.above (fun b hl hs => hb b (Nat.le_trans h.1 (Nat.le_trans h.2.1 hl)) hs) hz⟩
theorem Holds.step {W W' : World} {is : List It} {n : Nat} (h : Holds W n is) (hb : Below W.heap.size W W') : Holds W' n is := h.above (fun b _ hs => hb.block b hs) hb.size
theorem Holds.push {W W' : World} {it : It} (hb : Below W.heap.size W W') (h1 : W.heap.size ≤ it.lo) (h2 : it.lo ≤ it.hi) (h3 : it.hi ≤ W'.heap.size) (hP : it.P W') : ∀ {is : List It} {n : Nat}, Holds W n is → Holds W' n (is ++ [it])
  | [], _, h => ⟨Nat.le_trans h h1, h2, hP, h3⟩
  | i :: _, _, h => ⟨h.1, h.2.1, i.loc W W' (fun b _ hh => hb.block b (Nat.lt_of_lt_of_le hh h.2.2.2.le)) h.2.2.1, Holds.push hb h1 h2 h3 hP h.2.2.2⟩
theorem Holds.pop {W : World} {it : It} : ∀ {is : List It} {n : Nat}, Holds W n (is ++ [it]) → Holds W n is
  | [], _, h => Nat.le_trans h.1 (Nat.le_trans h.2.1 h.2.2.2)
  | _ :: _, _, h => ⟨h.1, h.2.1, h.2.2.1, Holds.pop h.2.2.2⟩
theorem Holds.take {W : World} : ∀ {is : List It} {n : Nat} (k : Nat), Holds W n is → Holds W n (is.take k)
  | [], _, k, h => by rw [List.take_nil]; exact h
  | _ :: _, _, 0, h => Nat.le_trans h.1 (Nat.le_trans h.2.1 h.2.2.2.le)
  | _ :: _, _, k + 1, h => ⟨h.1, h.2.1, h.2.2.1, Holds.take k h.2.2.2⟩
theorem Holds.get {W : World} {it : It} : ∀ {is : List It} {n : Nat} (k : Nat), is[k]? = some it → Holds W n is → n ≤ it.lo ∧ it.lo ≤ it.hi ∧ it.hi ≤ W.heap.size ∧ it.P W
  | [], _, k, e, _ => by simp at e
  | i :: is, n, 0, e, h => by
    obtain rfl : i = it := by simpa using e
    exact ⟨h.1, h.2.1, h.2.2.2.le, h.2.2.1⟩
  | i :: is, n, k + 1, e, h => by
    have e' : is[k]? = some it := by simpa using e
    obtain ⟨a, b, c, d⟩ := Holds.get k e' h.2.2.2
    exact ⟨Nat.le_trans h.1 (Nat.le_trans h.2.1 a), b, c, d⟩
theorem Holds.turn {W W' : World} {it it' : It} (hlo : it'.lo = it.lo) (hhi : it'.hi = it.hi) (ht : Turned it.lo it.hi W W') (hP : it'.P W') : ∀ {is : List It} {n : Nat} (k : Nat), is[k]? = some it → Holds W n is → Holds W' n (is.set k it')
  | [], _, k, e, _ => by simp at e
  | i :: is, n, 0, e, h => by
    obtain rfl : i = it := by simpa using e
    refine ⟨by rw [hlo]; exact h.1, by rw [hlo, hhi]; exact h.2.1, hP, ?_⟩
    rw [hhi]
    exact h.2.2.2.above (fun b hl hs => ht.above b hl hs) ht.below.size
  | i :: is, n, k + 1, e, h => by
    have e' : is[k]? = some it := by simpa using e
    have hg := Holds.get k e' h.2.2.2
    exact ⟨h.1, h.2.1, i.loc W W' (fun b _ hh => ht.below.block b (Nat.lt_of_lt_of_le hh hg.1)) h.2.2.1, Holds.turn hlo hhi ht hP k e' h.2.2.2⟩

/-- The world W, since w: all that lay there lies as it lay, and behind it lie these things. -/
structure St (w : World) (is : List It) (W : World) : Prop where
  below : Below w.heap.size w W
  holds : Holds W w.heap.size is

section
variable {w : World} {is : List It} {W W' : World}
theorem St.start (w : World) : St w [] w := ⟨Below.refl _ _, Nat.le_refl _⟩
theorem St.step (h : St w is W) (hb : Below W.heap.size W W') : St w is W' := ⟨h.below.trans (hb.mono h.below.size), h.holds.step hb⟩
theorem St.drew (h : St w is W) : St w is W.drew := h.step ⟨rfl, rfl, rfl, Nat.le_refl _, fun _ _ => rfl⟩
theorem St.drewN (h : St w is W) (n : Nat) : St w is (W.drewN n) := h.step ⟨rfl, rfl, rfl, Nat.le_refl _, fun _ _ => rfl⟩
theorem St.push {it : It} (h : St w is W) (hb : Below W.heap.size W W') (h1 : W.heap.size ≤ it.lo) (h2 : it.lo ≤ it.hi) (h3 : it.hi ≤ W'.heap.size) (hP : it.P W') : St w (is ++ [it]) W' :=
  ⟨h.below.trans (hb.mono h.below.size), h.holds.push hb h1 h2 h3 hP⟩
theorem St.pop {it : It} (h : St w (is ++ [it]) W) : St w is W := ⟨h.below, h.holds.pop⟩
theorem St.take (h : St w is W) (k : Nat) : St w (is.take k) W := ⟨h.below, h.holds.take k⟩
theorem St.box (h : St w is W) (t : TypeId) (v : Value) : St w (is ++ [ItB W.heap.size t v]) (W.alloc (.cells #[v] t)) :=
  h.push ((Below.refl _ _).alloc (Nat.le_refl _) _) (Nat.le_refl _) (Nat.le_succ _) (by rw [World.size_alloc]; exact Nat.le_refl _) (Boxed.new W t v)
theorem St.pushI {v : Value} {xs : List Int} (h : St w is W) (hb : Below W.heap.size W W') (ho : OwnI 3 W' v xs W.heap.size W'.heap.size) : St w (is ++ [ItI v xs W.heap.size W'.heap.size]) W' :=
  h.push hb (Nat.le_refl _) hb.size (Nat.le_refl _) ho
theorem St.pushR {v : Value} {n : Nat} {R : Nat → List Int} (h : St w is W) (hb : Below W.heap.size W W') (ho : OwnR 3 37 W' v n R W.heap.size W'.heap.size) : St w (is ++ [ItR v n R W.heap.size W'.heap.size]) W' :=
  h.push hb (Nat.le_refl _) hb.size (Nat.le_refl _) ho
/-- The copies that the laws make. -/
theorem St.copyR {g : Nat} {G : Nat → Nat} {rows : Rows2} (h : St w is W) (hn : bulk rows ≤ maxLen) (hg : W.heap.size ≤ g) (ho : OwnRows 3 37 W' g W'.heap.size G rows) (hb : Below W.heap.size W W') :
    St w (is ++ [ItR (whole g rows.length) rows.length (rowsF rows) W.heap.size W'.heap.size]) W' :=
  h.pushR hb ((ho.ownR hn).wider hg (Nat.le_refl _))
theorem OwnInts.ownI {t : TypeId} {g : Nat} {xs : List Int} {hi : Nat} (h : OwnInts t W g xs) (hn : xs.length ≤ maxLen) (hg : g < hi) : OwnI t W (whole g xs.length) xs g hi :=
  ⟨h.2, .inr ⟨g, _, _, rfl, Nat.le_refl _, hn, Nat.le_refl _, hg, h.1, fun _ hi => intCell_lt hi⟩⟩
theorem St.copyI {xs : List Int} (h : St w is W) (hn : xs.length ≤ maxLen) (ho : OwnInts 3 W' W.heap.size xs) (hz : W'.heap.size = W.heap.size + 1) (hb : Below W.heap.size W W') :
    St w (is ++ [ItI (whole W.heap.size xs.length) xs W.heap.size W'.heap.size]) W' :=
  h.pushI hb (ho.ownI hn (by omega))
theorem St.cell {b : Nat} {t : TypeId} {v : Value} (h : St w is W) (k : Nat) (e : is[k]? = some (ItB b t v)) : W.cell? ⟨b, 0, none⟩ = some v := Boxed.cell (h.holds.get k e).2.2.2
theorem St.lt {b : Nat} {t : TypeId} {v : Value} (h : St w is W) (k : Nat) (e : is[k]? = some (ItB b t v)) : b < W.heap.size := Boxed.lt (h.holds.get k e).2.2.2
theorem St.ownI {v : Value} {xs : List Int} {lo hi : Nat} (h : St w is W) (k : Nat) (e : is[k]? = some (ItI v xs lo hi)) : OwnI 3 W v xs lo hi := (h.holds.get k e).2.2.2
theorem St.ownR {v : Value} {n : Nat} {R : Nat → List Int} {lo hi : Nat} (h : St w is W) (k : Nat) (e : is[k]? = some (ItR v n R lo hi)) : OwnR 3 37 W v n R lo hi := (h.holds.get k e).2.2.2
theorem St.ints {v : Value} {xs : List Int} {lo hi : Nat} (h : St w is W) (k : Nat) (e : is[k]? = some (ItI v xs lo hi)) : IntsAt W v xs := (h.ownI k e).at
theorem St.rows {v : Value} {rows : Rows2} {lo hi : Nat} (h : St w is W) (k : Nat) (e : is[k]? = some (ItR v rows.length (rowsF rows) lo hi)) : RowsAt W v rows := (h.ownR k e).at
theorem St.boundsR {v : Value} {n : Nat} {R : Nat → List Int} {lo hi : Nat} (h : St w is W) (k : Nat) (e : is[k]? = some (ItR v n R lo hi)) : lo ≤ W.heap.size ∧ hi ≤ W.heap.size := ⟨Nat.le_trans (h.holds.get k e).2.1 (h.holds.get k e).2.2.1, (h.holds.get k e).2.2.1⟩
theorem St.turn {it it' : It} (h : St w is W) (k : Nat) (e : is[k]? = some it) (hlo : it'.lo = it.lo) (hhi : it'.hi = it.hi) (ht : Turned it.lo it.hi W W') (hP : it'.P W') : St w (is.set k it') W' :=
  ⟨h.below.trans (ht.below.mono (h.holds.get k e).1), h.holds.turn hlo hhi ht hP k e⟩
theorem St.turnR {v : Value} {n : Nat} {R R' : Nat → List Int} {lo hi : Nat} (h : St w is W) (k : Nat) (e : is[k]? = some (ItR v n R lo hi)) (ht : Turned lo hi W W') (ho : OwnR 3 37 W' v n R' lo hi) : St w (is.set k (ItR v n R' lo hi)) W' :=
  h.turn (it' := ItR v n R' lo hi) k e rfl rfl ht ho
theorem St.turnI {v : Value} {xs ys : List Int} {lo hi : Nat} (h : St w is W) (k : Nat) (e : is[k]? = some (ItI v xs lo hi)) (hg : W.grownBy W' v.ownBlock) (ho : OwnI 3 W' v ys lo hi) : St w (is.set k (ItI v ys lo hi)) W' :=
  have hk := h.holds.get k e
  h.turn (it' := ItI v ys lo hi) k e rfl rfl (Turned.of_grownBy hg (Nat.le_trans hk.2.1 hk.2.2.1) fun b e' => ⟨((h.ownI k e).block b e').1, ((h.ownI k e).block b e').2.1⟩) ho
end
theorem St.start1 (w : World) (t : TypeId) (v : Value) : St w [ItB w.heap.size t v] (w.alloc (.cells #[v] t)) := (St.start w).box t v
theorem St.start2 (w : World) (t t' : TypeId) (v v' : Value) : St w [ItB w.heap.size t v, ItB (w.heap.size + 1) t' v'] ((w.alloc (.cells #[v] t)).alloc (.cells #[v'] t')) := by
  have h := (St.start1 w t v).box t' v'
  rw [World.size_alloc] at h
  exact h
theorem St.start3 (w : World) (t t' t2 : TypeId) (v v' v2 : Value) : St w [ItB w.heap.size t v, ItB (w.heap.size + 1) t' v', ItB (w.heap.size + 2) t2 v2] (((w.alloc (.cells #[v] t)).alloc (.cells #[v'] t')).alloc (.cells #[v2] t2)) := by
  have h := (St.start2 w t t' v v').box t2 v2
  rw [World.size_alloc, World.size_alloc] at h
  exact h
end Go.Proofs.YtcggjhmjjpclhaaDoor
