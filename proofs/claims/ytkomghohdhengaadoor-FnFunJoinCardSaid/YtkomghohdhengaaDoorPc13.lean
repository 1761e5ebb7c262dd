/- The program's order turned round (grid.back). -/
import Derived.Test.YtkomghohdhengaaDoorPc12
import Derived.Test.YtkomghohdhengaaDoorPc1
import Derived.Test.YtkomghohdhengaaDoorPc7
import Derived.Test.YtkomghohdhengaaDoorPc11
import Derived.Test.YtkomghohdhengaaDoorPc10
import Derived.Test.YtkomghohdhengaaDoorPc8
import Derived.Test.YtkomghohdhengaaDoorPc4
import Derived.Maps.AppendAt
import Derived.Deep.RegionHeld3
namespace Go.Proofs.YtkomghohdhengaaDoor
open Go.RowKit Go.Deep Go.Shelf
attribute [local go_sem] Oper.semAt_some

/-! ### Plain facts -/
/-- Row k of the first n rows turned round. -/
def backN (g : Nat → Nat) : Nat → Nat → Nat
  | 0, _ => 0
  | i + 1, k => if (g i).testBit k then put (backN g i k) i else backN g i k
theorem backN_bit (g : Nat → Nat) (k i : Nat) : ∀ n, (backN g n k).testBit i = (decide (i < n) && (g i).testBit k)
  | 0 => by simp [backN]
  | n + 1 => by
    have ih := backN_bit g k i n
    unfold backN
    by_cases h : (g n).testBit k = true
    · rw [if_pos h, testBit_put, ih]
      by_cases e : n = i
      · subst e; simp [h]
      · rw [decide_eq_false e, Bool.or_false]
        congr 1
        rw [decide_eq_decide]; omega
    · rw [if_neg h, ih]
      by_cases e : i = n
      · subst e; simp [h]
      · congr 1
        rw [decide_eq_decide]; omega
theorem backN_lt (g : Nat → Nat) (k : Nat) : ∀ n, n ≤ 256 → backN g n k < 2 ^ 256
  | 0, _ => Nat.two_pow_pos 256
  | n + 1, h => by
    have ih := backN_lt g k n (by omega)
    unfold backN
    split
    · exact put_lt ih (by omega)
    · exact ih
/-- The same, with the numbers ks of row i. -/
def backM (g : Nat → Nat) (i : Nat) (ks : List Nat) (k : Nat) : Nat := if k ∈ ks then put (backN g i k) i else backN g i k
theorem backM_nil (g : Nat → Nat) (i : Nat) : backM g i [] = backN g i := by funext k; simp [backM]
theorem put_put (r k : Nat) : put (put r k) k = put r k := by unfold put; rw [Nat.or_assoc, Nat.or_self]
theorem backM_snoc (g : Nat → Nat) (i : Nat) (ks : List Nat) (k : Nat) : (fun j => if j = k then put (backM g i ks k) i else backM g i ks j) = backM g i (ks ++ [k]) := by
  funext j
  unfold backM
  by_cases e : j = k
  · subst e
    rw [if_pos rfl, if_pos (show j ∈ ks ++ [j] by simp)]
    split
    · exact put_put _ _
    · rfl
  · rw [if_neg e]
    have : (j ∈ ks ++ [k]) = (j ∈ ks) := by simp [e]
    simp only [this]
theorem backM_done {g : Nat → Nat} {i : Nat} (h : g i < 2 ^ 256) : backM g i (elems (g i)) = backN g (i + 1) := by
  funext k
  unfold backM
  rw [show backN g (i + 1) k = if (g i).testBit k then put (backN g i k) i else backN g i k from rfl]
  by_cases e : (g i).testBit k = true
  · rw [if_pos ((mem_elems h).2 e), if_pos e]
  · rw [if_neg (fun hm => e ((mem_elems h).1 hm)), if_neg e]

/-- A number is put into row k of a grid. -/
theorem GridAt.putAt {W : World} {b : Nat} {g : Nat → Nat} (h : GridAt W b g) {k i : Nat} (hk : k < 200) (hi : i < 256) (m : Nat) :
    GridAt ((W.drewN m).setCell ⟨b, k * 4 + i / 64, none⟩ (.int .u64 ((word (g k) (i / 64) ||| 2 ^ (i % 64) : Nat) : Int))) b (fun j => if j = k then put (g k) i else g j) := by
  have hW : GridAt (W.drewN m) b g := h.below (below_drewN' _ _ _) h.lt
  have hset := hW.set (g' := fun j => if j = k then put (g k) i else g j) k (i / 64) hk (by omega) (word (g k) (i / 64) ||| 2 ^ (i % 64)) (fun j => by
    show (if j = k then put (g k) i else g j) < 2 ^ 256
    split
    · exact put_lt (h.2 k) hi
    · exact h.2 j) (fun i' j' _ _ => by
    show word (if i' = k then put (g k) i else g i') j' = _
    by_cases e : i' = k
    · subst e
      rw [if_pos rfl, word_put]
      by_cases e2 : i / 64 = j'
      · subst e2; rw [if_pos rfl, if_pos ⟨rfl, rfl⟩]
      · rw [if_neg e2, if_neg (fun h => e2 h.2.symm)]
    · rw [if_neg e, if_neg (fun h => e h.1)])
  rw [Nat.mul_comm] at hset
  exact hset

theorem addTo_any (b k i : Nat) (a : Int) (g : Nat → Nat) (W : World) (h : GridAt W b g) (hk : k < 200) (hi : i < 200) (ha : a = i) :
    Calls Tryd.prog 119 #[.pointer (some ⟨b, k * 4, none⟩), .int .i64 a] W (Puts ⟨b, k * 4 + i / 64, none⟩ (.int .u64 ((word (g k) (i / 64) ||| 2 ^ (i % 64) : Nat) : Int)) W) := by
  have hw := h.cell k (i / 64) hk (by omega)
  rw [Nat.mul_comm] at hw
  exact add_any b (k * 4) a i (word (g k) (i / 64)) W ha (by omega) (word_lt _ _) hw (h.frozen _)
theorem GridAt.kept {W W' : World} {row : Option Nat} {b : Nat} {g : Nat → Nat} (h : GridAt W b g) (hg : W.grownBy W' row) (hr : ∀ r, row = some r → ∃ o : Obj, W.heap[r]? = some o ∧ o.isCells = false) : GridAt W' b g := ⟨blk_kept h.1 hg hr, h.2⟩

theorem keeps_put (W : World) (m : Nat) (a : Addr) (v : Value) : KeepsOthers W ((W.drewN m).setCell a v) :=
  (show KeepsOthers W (W.drewN m) from ⟨Nat.le_refl _, fun _ _ h _ => h⟩).trans (KeepsOthers.setCell _ _ _)
theorem boxed_apart {W : World} {p : Nat} {t : TypeId} {u : Value} (h : Boxed W p t u) (m : Nat) {q : Nat} (hq : p ≠ q) (o : Nat) (v : Value) : Boxed ((W.drewN m).setCell ⟨q, o, none⟩ v) p t u := by
  show ((W.drewN m).setCell ⟨q, o, none⟩ v).heap[p]? = _
  rw [heap_setCell_other _ ⟨q, o, none⟩ p v hq]
  exact h
theorem GridAt.apart {W : World} {b : Nat} {g : Nat → Nat} (h : GridAt W b g) (m : Nat) {q : Nat} (hq : b ≠ q) (o : Nat) (v : Value) : GridAt ((W.drewN m).setCell ⟨q, o, none⟩ v) b g :=
  (h.below (below_drewN' W m _) h.lt).setOther (a := ⟨q, o, none⟩) hq v
theorem below_put {B : Nat} {w W : World} (h : Below B w W) (m : Nat) {q : Nat} (hq : B ≤ q) (o : Nat) (v : Value) : Below B w ((W.drewN m).setCell ⟨q, o, none⟩ v) :=
  (h.trans (below_drewN' _ m _)).setCell (p := ⟨q, o, none⟩) hq _

/-- The grid g as a value, and a world in which nothing that was there has turned. -/
def SaysG (g : Nat → Nat) (w : World) (e : Ending) (w' : World) : Prop := e = .returned (.agg (gridCells g)) ∧ Below w.heap.size w w'

set_option maxRecDepth 100000 in
set_option maxHeartbeats 4000000 in
theorem back_any (b n : Nat) (g : Nat → Nat) (w : World) (hg : GridAt w b g) (hT : Tab w) (hn : GridN g n) (hel : ∀ i, i < n → ∀ k ∈ elems (g i), k < 200) :
    Calls Tryd.prog 84 #[.pointer (some ⟨b, 0, none⟩)] w (SaysG (backN g n) w) := by
  have htab : 0 < w.heap.size := cell_lt (hT 0 (by omega))
  have hglt := hg.lt
  have hz := (zero_of_info zeroGrid).1
  have hb2 : Below w.heap.size w ((w.alloc (.cells (gridCells fun _ => 0) 93)).alloc (.cells (gridCells fun _ => 0) 93)) := ((Below.refl _ w).alloc (Nat.le_refl _) _).alloc (by simp) _
  have hcall := size_any b n g _ (hg.below hb2 hglt) hn.le hn.some hn.none
  have hn2 := hn.le
  have z : ∀ i : Nat, (fun _ : Nat => (0 : Nat)) i < 2 ^ 256 := fun _ => Nat.two_pow_pos 256
  have s1 : (w.alloc (.cells (gridCells fun _ => 0) 93)).heap.size = w.heap.size + 1 := World.size_alloc _ _
  have hg0 : GridAt (w.alloc (.cells (gridCells fun _ => 0) 93)) w.heap.size (fun _ => 0) := ⟨heap_alloc_new _ _, z⟩
  have hg1 : GridAt ((w.alloc (.cells (gridCells fun _ => 0) 93)).alloc (.cells (gridCells fun _ => 0) 93)) (w.heap.size + 1) (fun _ => 0) := by rw [← s1]; exact ⟨heap_alloc_new _ _, z⟩
  have hg0' := hg0.below ((Below.refl _ (w.alloc (.cells (gridCells fun _ => 0) 93))).alloc (Nat.le_refl _) (.cells (gridCells fun _ => 0) 93)) hg0.lt
  have G0 := Lib.hid hg0'
  have G1 := Lib.hid hg1
  have HB2 := Lib.hid hb2
  have HEL := Lib.hid hel
  have HG := Lib.hid hg
  have HT := Lib.hid hT
  clear hel hg hT hn hb2 z s1 hg0 hg1 hg0'
  refine (callsIn_wide (n := 8)).1 ?_
  refine callsIn_of_wp_marks Tryd.func84 rfl trivial (wpIn_mono (Q := NoPanic (bodyPostM Fence.wide 8 Tryd.prog Tryd.f84 (SaysG (backN g n) w))) ?_ NoPanic.le) rfl
  simp only [Tryd.ntmps84, List.size_toArray, List.length_cons, List.length_nil, Nat.reduceAdd, Nat.reduceSub, Array.replicate_succ, Array.replicate_zero, List.push_toArray, List.append_toArray, List.nil_append, List.cons_append]
  gi_wp2
  refine ⟨trivial, (callsIn_wide.2 hcall).mono ?_⟩
  clear hcall
  rintro e w1 ⟨rfl, hb1⟩
  have B1 := Lib.hid (HB2.out.trans (hb1.mono HB2.out.size))
  have R0 := Lib.hid (G0.out.below hb1 G0.out.lt)
  have R1 := Lib.hid (G1.out.below hb1 G1.out.lt)
  clear hb1
  gi_wp2
  refine wpIn_loop (fun a' wr => ∃ (k : Nat) (Ds : List Nat) (u4 u5 u9 u10 u11 u12 u13 u14 u15 u16 u17 u18 u19 u20 u21 u22 : Value), (k ≤ n ∧ GridAt wr (w.heap.size + 1) (backN g k) ∧ GridAt wr w.heap.size (fun _ => 0) ∧ MarksAt w.heap.size Ds wr ∧ Below w.heap.size w wr) ∧
    a' = { tmps := #[.pointer (some ⟨b, 0, none⟩), undef, .pointer (some ⟨w.heap.size, 0, none⟩), .pointer (some ⟨w.heap.size + 1, 0, none⟩), u4, u5, .pointer (some ⟨b, 0, none⟩), .int .i64 n, .int .i64 k, u9, u10, u11, u12, u13, u14, u15, u16, u17, u18, u19, u20, u21, u22, undef], defers := marksOf Ds })
    (fun a' _ => n - (intOf (a'.tmps.getD 8 undef)).toNat) ?atStart ?round
  case atStart => exact ⟨0, [], _, _, _, _, _, _, _, _, _, _, _, _, _, _, _, _, ⟨Nat.zero_le _, R1.out, R0.out, MarksAt.nil _ _, B1.out⟩, rfl⟩
  case round =>
    rintro _ wr ⟨k, Ds, u4, u5, u9, u10, u11, u12, u13, u14, u15, u16, u17, u18, u19, u20, u21, u22, ⟨hk, hr1, hr0, hm, hb⟩, rfl⟩
    have GR1 := Lib.hid hr1
    have GR0 := Lib.hid hr0
    have HM := Lib.hid hm
    have HB := Lib.hid hb
    have hblt : b < wr.heap.size := Nat.lt_of_lt_of_le hglt hb.size
    clear hr1 hr0 hm hb R0 R1 B1
    by_cases hlt : k < n
    · have hk0 : (0 : Int) ≤ (k : Int) := by omega
      have hk1 : (k : Int) < 200 := by omega
      obtain ⟨c0, c1, c2, c3⟩ := (HG.out.below HB.out hglt).row k (by omega)
      replace c0 := cell_alloc_any c0
      replace c1 := cell_alloc_any c1
      replace c2 := cell_alloc_any c2
      replace c3 := cell_alloc_any c3
      have hmx : Tryd.prog.follows .mixedOrders = true := by kernel_rfl
      gi_wp2
      first | (gi_region_with_o (refine ⟨trivial, ?_⟩; gi_at_call 138; refine (callsIn_wide.2 (elements_any (g k) _)).mono ?_; rintro e w2 ⟨rfl, rfl⟩)) | fail
      gi_wp2
      have hB4 : Below wr.heap.size wr ((wr.alloc (.cells #[.int .i64 (k : Int)] 3)).alloc (.cells #[.int .u64 ((word (g k) 0 : Nat) : Int), .int .u64 ((word (g k) 1 : Nat) : Int), .int .u64 ((word (g k) 2 : Nat) : Int), .int .u64 ((word (g k) 3 : Nat) : Int)] 91)).drew := (((Below.refl _ wr).alloc (Nat.le_refl _) _).alloc (by simp) _).drew
      have p4 : Boxed ((wr.alloc (.cells #[.int .i64 (k : Int)] 3)).alloc (.cells #[.int .u64 ((word (g k) 0 : Nat) : Int), .int .u64 ((word (g k) 1 : Nat) : Int), .int .u64 ((word (g k) 2 : Nat) : Int), .int .u64 ((word (g k) 3 : Nat) : Int)] 91)).drew wr.heap.size 3 (.int .i64 (k : Int)) := (Boxed.new wr 3 _).alloc _
      have r4 : RowIn ((wr.alloc (.cells #[.int .i64 (k : Int)] 3)).alloc (.cells #[.int .u64 ((word (g k) 0 : Nat) : Int), .int .u64 ((word (g k) 1 : Nat) : Int), .int .u64 ((word (g k) 2 : Nat) : Int), .int .u64 ((word (g k) 3 : Nat) : Int)] 91)).drew (wr.heap.size + 1) (g k) := by
        have h := RowIn.alloc (wr.alloc (.cells #[.int .i64 (k : Int)] 3)) (HG.out.2 k)
        rw [World.size_alloc] at h
        exact h
      have hz4 : ((wr.alloc (.cells #[.int .i64 (k : Int)] 3)).alloc (.cells #[.int .u64 ((word (g k) 0 : Nat) : Int), .int .u64 ((word (g k) 1 : Nat) : Int), .int .u64 ((word (g k) 2 : Nat) : Int), .int .u64 ((word (g k) 3 : Nat) : Int)] 91)).drew.heap.size = wr.heap.size + 2 := by simp [World.drew]
      revert hB4 p4 r4 hz4
      generalize ((wr.alloc (.cells #[.int .i64 (k : Int)] 3)).alloc (.cells #[.int .u64 ((word (g k) 0 : Nat) : Int), .int .u64 ((word (g k) 1 : Nat) : Int), .int .u64 ((word (g k) 2 : Nat) : Int), .int .u64 ((word (g k) 3 : Nat) : Int)] 91)).drew = w4
      intro hB4 p4 r4 hz4
      have hw0 := HB.out.size
      have hsz1 : w.heap.size + 1 < wr.heap.size := GR1.out.lt
      have M4 := HM.out.below hB4
      have mlt : ∀ D ∈ Ds, D < w4.heap.size := fun D hD => M4.lt hD
      have T4 : Tab w4 := (HT.out.below HB.out).below hB4
      have hBw : Below w.heap.size w w4 := HB.out.trans (hB4.mono hw0)
      refine wpIn_rangeFunc_ownG rfl (by omega) (gf := 159) (lb := #[.pointer (some ⟨wr.heap.size + 1, 0, none⟩)]) rfl trivial (enters_of Tryd.func159 (by kernel_rfl) rfl)
        (elements1_stops _ w.heap.size (wr.heap.size + 1) (g k) w4 (by omega) (HG.out.2 k) r4 (by omega) htab T4) belowK_t (belowK_b (by omega)) (Below.refl _ _) (fun _ => rfl)
        (fun pre W => (GridAt W (w.heap.size + 1) (backM g k (natsOf pre)) ∧ GridAt W w.heap.size (fun _ => 0) ∧ Boxed W wr.heap.size 3 (.int .i64 (k : Int))) ∧ MarksAt w.heap.size Ds W ∧ Below w.heap.size w W)
        (fun _ _ _ => False)
        (OwnFrom.and (Own.from (fun _ A B row hs hg hr => ⟨hs.1.kept hg hr, hs.2.1.kept hg hr, blk_kept hs.2.2 hg hr⟩) _) (OwnFrom.and (MarksAt.own mlt) (ownFrom_below (Nat.le_refl _) (by omega))))
        (fun _ _ _ _ _ hs _ _ => hs)
        ⟨⟨by rw [show natsOf ([] : List (Bt (g k))) = [] from rfl, backM_nil]; exact GR1.out.below hB4 GR1.out.lt, GR0.out.below hB4 GR0.out.lt, p4⟩, M4, hBw⟩
        (fun x => { tmps := #[.pointer (some ⟨b, 0, none⟩), undef, .pointer (some ⟨w.heap.size, 0, none⟩), .pointer (some ⟨w.heap.size + 1, 0, none⟩), .pointer (some ⟨wr.heap.size, 0, none⟩), .int .i64 ((x.1 : Nat) : Int), .pointer (some ⟨b, 0, none⟩), .int .i64 n, .int .i64 k, .bool true, .int .i64 k, .pointer (some ⟨b, 0, none⟩), .int .i64 k, .pointer (some ⟨b, 0, none⟩), .pointer (some ⟨b, k * 4, none⟩), rowV (g k), .func (.func 159) #[] #[.pointer (some ⟨wr.heap.size + 1, 0, none⟩)], .int .i64 ((x.1 : Nat) : Int), u18, u19, u20, u21, u22, undef], defers := [] }) ?assign ?body ?done ?stop
      case assign =>
        intro l x W K hK
        unfold encBt
        gi_wp2
        exact hK
      case body =>
        rintro l pre x W ⟨⟨h1, h0, hp⟩, hM, hB⟩ _
        obtain ⟨kk, hkm⟩ := x
        dsimp only
        have hkk := HEL.out k hlt kk hkm
        have hkk0 : (0 : Int) ≤ (kk : Int) := by omega
        have hkk1 : (kk : Int) < 200 := by omega
        have hcp := hp.cell
        have hadd := addTo_any (w.heap.size + 1) kk k k _ W.drew (h1.below (Below.refl _ W).drew h1.lt) hkk (by omega) rfl
        have H1 := Lib.hid h1
        have H0 := Lib.hid h0
        have HP := Lib.hid hp
        have HMM := Lib.hid hM
        have HBB := Lib.hid hB
        have HADD := Lib.hid hadd
        clear h1 h0 hp hM hB hadd
        gi_wp2
        first | (gi_region_with_o (refine ⟨trivial, ?_⟩; gi_at_call 119; refine (CallsIn.inRound l (callsIn_wide.2 HADD.out)).mono ?_; rintro e w' ⟨rfl, m, rfl⟩)) | fail
        all_goals gi_wp2
        all_goals
          refine ⟨(keeps_put _ _ _ _).from _, below_put (Below.refl _ _) _ (Nat.le_succ _) _ _, ⟨?_, H0.out.apart _ (by omega) _ _, boxed_apart HP.out _ (by omega) _ _⟩, HMM.out.keeps (keeps_put _ _ _ _), below_put HBB.out _ (Nat.le_succ _) _ _⟩
          rw [natsOf_snoc, ← backM_snoc]
          exact H1.out.putAt hkk (by omega) _
      case done =>
        rintro D ys W hD rfl ⟨⟨h1, h0, hp⟩, hM, hB⟩ hK
        rw [natsOf_all, backM_done (HG.out.2 k)] at h1
        have H1 := Lib.hid h1
        have H0 := Lib.hid h0
        have HMM := Lib.hid (MarksAt.cons hM (fun E hE => Nat.lt_of_lt_of_le (mlt E hE) hD) (by omega) hK)
        have HBB := Lib.hid hB
        clear h1 h0 hp hM hB hK
        gi_wp2
        refine ⟨?_, ?measure⟩
        refine ⟨k + 1, D :: Ds, ?_⟩
        (repeat apply Exists.intro)
        refine ⟨?rel, ?frame⟩
        case frame => rw [show (((k + 1 : Nat)) : Int) = (k : Int) + 1 from by omega]; rfl
        case rel => exact ⟨by omega, H1.out, H0.out, HMM.out, HBB.out⟩
        case measure => simp [intOf]; omega
      case stop =>
        rintro D c pre W _ _ h _
        exact h.elim
    · obtain rfl : k = n := by omega
      have hug := Tryd.underlying93
      have hG := GR1.out
      have hG0 := GR0.out
      have hfin : GridAt (wr.setRow w.heap.size (gridCells (backN g k))) w.heap.size (backN g k) := hG0.setRow hG.2
      have HFIN := Lib.hid hfin
      have hbe := below_setRow' HB.out (Nat.le_refl w.heap.size) (gridCells (backN g k))
      have HBE := Lib.hid hbe
      have hme : MarksAt w.heap.size Ds (wr.setRow w.heap.size (gridCells (backN g k))) := ⟨HM.out.nodup, fun D hD => by
        obtain ⟨h1, h2⟩ := HM.out.at_ D hD
        refine ⟨h1, ?_⟩
        rw [setRow_other wr w.heap.size D _ (fun e => by rw [e, hG0.1] at h2; cases h2)]
        exact h2⟩
      have HME := Lib.hid hme
      clear hfin hbe hme
      gi_wp2_with (first | (refine wpListIn_load_row rfl rfl 93 (.tmp 3) rfl (w.heap.size + 1) rfl 93 (gridCells (backN g k)) (0, 0) _ hG.1 hug rfl (by rw [gridCells_size]; exact sizeGrid) ?_) | (refine wpListIn_store_row rfl rfl 93 (.tmp 2) (.tmp 23) rfl w.heap.size (gridCells (backN g k)) rfl rfl 93 (gridCells fun _ => 0) hG0.1 (by rw [gridCells_size]; exact sizeGrid) (by rw [gridCells_size, gridCells_size]) (gridCells_one _) ?_))
      refine leaves_marks (n₀ := w.heap.size) (K := fun W => Below w.heap.size w W ∧ GridAt W w.heap.size (backN g k)) (fun W D h h1 h2 => ⟨h.1.trans (belowK_b (w := w) (Nat.le_refl _) W D _ _ h1 h2 rfl rfl), ⟨by rw [World.putObj_heap_other (fun e => by rw [← e, h.2.1] at h2; cases h2)]; exact h.2.1, h.2.2⟩⟩) (fun W h => ⟨.agg (gridCells (backN g k)), ?_, rfl, h.1⟩) Ds _ HME.out ⟨HBE.out, HFIN.out⟩
      exact results_cell_row rfl _ W w.heap.size 93 (gridCells (backN g k)) (0, 0) _ rfl h.2.1 hug rfl (by rw [gridCells_size]; exact sizeGrid)
end Go.Proofs.YtkomghohdhengaaDoor

/- The program's isElement; a new variable that holds a grid. -/
namespace Go.Proofs.YtkomghohdhengaaDoor
open Go.RowKit Go.Deep

theorem isElement_any (v : Value) (rows : Rows2) (a : Int) (w : World) (hv : RowsAt w v rows) : 
    Calls Tryd.prog 83 #[.agg #[v], .int .i64 a] w (SaysN (decide (0 ≤ a ∧ a < rows.length)) w) := by
  have b1 : Below w.heap.size w (w.alloc (.cells #[v] 25)) := (Below.refl _ w).alloc (Nat.le_refl _) _
  obtain ⟨A, C, rfl, _⟩ := hv
  have HB := Lib.hid b1
  clear b1
  by_cases h1 : 0 ≤ a
  · by_cases h2 : a < rows.length
    · rw [decide_eq_true ⟨h1, h2⟩]
      go_enter Tryd.func83, Tryd.ntmps83
      go_wp2
      go_ret
      exact ⟨rfl, HB.out⟩
    · rw [decide_eq_false (fun h => h2 h.2)]
      go_enter Tryd.func83, Tryd.ntmps83
      go_wp2
      go_ret
      exact ⟨rfl, HB.out⟩
  · rw [decide_eq_false (fun h => h1 h.1)]
    go_enter Tryd.func83, Tryd.ntmps83
    go_wp2
    go_ret
    exact ⟨rfl, HB.out⟩

/-- A new variable that holds a grid, laid behind w1. -/
def newGrid (g : Nat → Nat) (w1 : World) : World := (w1.alloc (.cells (gridCells fun _ => 0) 93)).setRow w1.heap.size (gridCells g)
theorem newGrid_at {g : Nat → Nat} (hg : ∀ i, g i < 2 ^ 256) (w1 : World) : GridAt (newGrid g w1) w1.heap.size g :=
  GridAt.setRow (g := fun _ => 0) ⟨heap_alloc_new _ _, fun _ => Nat.two_pow_pos 256⟩ hg
theorem newGrid_below (g : Nat → Nat) (w1 : World) : Below w1.heap.size w1 (newGrid g w1) := below_setRow' ((Below.refl _ w1).alloc (Nat.le_refl _) _) (Nat.le_refl _) _

theorem store_new (w1 : World) : GridAt (w1.alloc (.cells (gridCells fun _ => 0) 93)) w1.heap.size (fun _ => 0) := ⟨heap_alloc_new _ _, fun _ => Nat.two_pow_pos 256⟩
end Go.Proofs.YtkomghohdhengaaDoor

/- The model's OrderJoin. -/
namespace Go.Proofs.YtkomghohdhengaaDoor
open Go.RowKit Go.Deep

/-- What OrderJoin answers. -/
noncomputable def joinB (rows : Rows2) (a b : Int) : Int := if hasB rows a b = true then joinI rows a.toNat b.toNat else -1

theorem has_parts {rows : Rows2} {a b : Int} (h : hasB rows a b = true) : validB rows = true ∧ (0 ≤ a ∧ a < rows.length) ∧ (0 ≤ b ∧ b < rows.length) := by
  unfold hasB at h
  simp only [Bool.and_eq_true, decide_eq_true_eq] at h
  exact h

end Go.Proofs.YtkomghohdhengaaDoor

/- The program's order of a grid (grid.order), in memory of its own. -/
namespace Go.Proofs.YtkomghohdhengaaDoor
open Go.RowKit Go.Deep Go.Shelf

theorem ints_ne : (3 : TypeId) ≠ 26 := by decide

/-- Rows in memory of their own, as an order. -/
def RowsPost (n : Nat) (R : Nat → List Int) (w : World) (e : Ending) (w' : World) : Prop :=
  ∃ v, e = .returned (.agg #[v]) ∧ OwnR 3 26 w' v n R w.heap.size w'.heap.size ∧ Below w.heap.size w w'

/-- A list is stored into row i of rows that are being filled. -/
theorem OwnR.fill {W W2 : World} {g n i lo : Nat} {R : Nat → List Int} {v' : Value} {xs : List Int} (h : OwnR 3 26 W (.slice (some ⟨g, 0, none⟩) n n) n R lo W.heap.size)
    (hb : Below W.heap.size W W2) (hn : OwnI 3 W2 v' xs W.heap.size W2.heap.size) :
    OwnR 3 26 (W2.setCell ⟨g, i, none⟩ v') (.slice (some ⟨g, 0, none⟩) n n) n (fun q => if q = i then xs else R q) lo (W2.setCell ⟨g, i, none⟩ v').heap.size := by
  obtain hnil | ⟨g1, C1, f, e, h1, h2, h3, h4, h5, h6, h7⟩ := h
  · cases hnil.1
  cases e
  rw [size_setCell]
  exact OwnR.stored ints_ne h1 h2 h3 h5 h6 h7 hb hn
theorem OwnR.cellOf {W : World} {g n i lo hi : Nat} {R : Nat → List Int} (h : OwnR 3 26 W (.slice (some ⟨g, 0, none⟩) n n) n R lo hi) (hlt : i < n) : (∃ u, W.cell? ⟨g, i, none⟩ = some u) ∧ W.frozen? ⟨g, i, none⟩ = false ∧ g < W.heap.size := by
  obtain hnil | ⟨g1, C1, f, e, h1, h2, h3, h4, h5, h6, h7⟩ := h
  · cases hnil.1
  cases e
  exact ⟨⟨_, h5.cell hlt⟩, h5.frozen i, h5.lt⟩
/-- What row j holds when i rows have been filled. -/
def upto (R : Nat → List Int) (i j : Nat) : List Int := if j < i then R j else []
theorem upto_step (R : Nat → List Int) (i : Nat) : (fun q => if q = i then R i else upto R i q) = upto R (i + 1) := by
  funext q
  unfold upto
  by_cases e : q = i
  · subst e; rw [if_pos rfl, if_pos (by omega)]
  · rw [if_neg e]
    by_cases h : q < i
    · rw [if_pos h, if_pos (by omega)]
    · rw [if_neg h, if_neg (by omega)]
theorem OwnR.made (W : World) (n lo : Nat) (hn : n ≤ maxLen) (hlo : lo ≤ W.heap.size) (R : Nat → List Int) :
    OwnR 3 26 (W.alloc (.cells (madeCells #[.slice none 0 0] n) 26)) (.slice (some ⟨W.heap.size, 0, none⟩) n n) n (upto R 0) lo (W.alloc (.cells (madeCells #[.slice none 0 0] n) 26)).heap.size :=
  .inr ⟨W.heap.size, n, _, rfl, Nat.le_refl _, hn, hlo, by simp, World.rowIs_made W (.slice none 0 0) n 26, fun j _ => by unfold upto; rw [if_neg (Nat.not_lt_zero _)]; exact OwnI.nil _ _ _ _, fun _ _ _ _ => .inl rfl⟩

set_option maxRecDepth 100000 in
set_option maxHeartbeats 4000000 in
theorem order_any (b n : Nat) (g : Nat → Nat) (w : World) (hg : GridAt w b g) (hT : Tab w) (hn : GridN g n) :
    Calls Tryd.prog 122 #[.pointer (some ⟨b, 0, none⟩)] w (RowsPost n (fun i => intsOf (elems (g i))) w) := by
  have hn2 := hn.le
  have hmk := run_make_row' (P := Tryd.prog) 23 26 (.slice none 0 0) 24 Tryd.underlying23 infoInts rfl .i64 .i64 n (by omega) (by omega)
  have hL0 : Look b g w w := ⟨hg, hT, Below.refl _ _, hg.lt⟩
  have hL1 := hL0.step ((Below.refl _ w).alloc (Nat.le_refl _) (.cells #[.slice none 0 0] 25))
  have hbx := Boxed.new w 25 (.slice none 0 0)
  have hcall := size_any b n g _ hL1.grid hn.le hn.some hn.none
  have HL1 := Lib.hid hL1
  have HBX := Lib.hid hbx
  clear hL0 hL1 hg hT hn hbx
  go_enter Tryd.func122, Tryd.ntmps122
  go_wp2_with (go_at_call 106; refine hcall.mono ?_; clear hcall; rintro e w1 ⟨rfl, hb1⟩; have HL2 := Lib.hid (HL1.out.step hb1); have HBX1 : Hid (Boxed w1 w.heap.size 25 (.slice none 0 0)) := Lib.hid ((hb1.block _ HBX.out.lt).trans HBX.out); clear hb1)
  clear hmk
  have HLa := Lib.hid (HL2.out.step ((Below.refl _ w1).alloc (Nat.le_refl _) (.cells (madeCells #[.slice none 0 0] n) 26)))
  have HBa := Lib.hid (HBX1.out.alloc (.cells (madeCells #[.slice none 0 0] n) 26))
  have HOa := Lib.hid (OwnR.made w1 n (w.heap.size + 1) (by unfold maxLen; omega) HBX1.out.lt (fun i => intsOf (elems (g i))))
  have hwl : w.heap.size < w1.heap.size := HBX1.out.lt
  go_loopw [10] (fun iv wr => ∃ i : Nat, i ≤ n ∧ iv = .int .i64 i ∧ OwnR 3 26 wr (.slice (some ⟨w1.heap.size, 0, none⟩) n n) n (upto (fun i => intsOf (elems (g i))) i) (w.heap.size + 1) wr.heap.size ∧ Boxed wr w.heap.size 25 (.slice none 0 0) ∧ Look b g w wr) (fun iv _ => n - (intOf iv).toNat)
  case atStart => exact ⟨0, Nat.zero_le _, rfl, HOa.out, HBa.out, HLa.out⟩
  case round =>
    obtain ⟨i, hi, rfl, ho, hbx, hL⟩ := hrel
    have HO := Lib.hid ho
    have HB := Lib.hid hbx
    have HL := Lib.hid hL
    clear HLa HBa HOa
    by_cases hlt : i < n
    · have hi0 : (0 : Int) ≤ (i : Int) := by omega
      have hi1 : (i : Int) < 200 := by omega
      obtain ⟨c0, c1, c2, c3⟩ := hL.grid.row i (by omega)
      have HCALL := Lib.hid (list_any (g i) wr (hL.grid.2 i) hL.tab)
      clear ho hbx hL
      go_wp2_with fail
      refine HCALL.out.mono ?_
      clear HCALL
      rintro e w2 ⟨v', rfl, hv', hb2⟩
      obtain ⟨⟨u, hu⟩, hfz, hgl⟩ := HO.out.cellOf hlt
      have hu2 : w2.cell? ⟨w1.heap.size, i, none⟩ = some u := (hb2.cell (p := ⟨w1.heap.size, i, none⟩) hgl).trans hu
      have hf2 : w2.frozen? ⟨w1.heap.size, i, none⟩ = false := (hb2.frozen (p := ⟨w1.heap.size, i, none⟩) hgl).trans hfz
      have HV := Lib.hid hv'
      have HB2 := Lib.hid hb2
      obtain ⟨a', C', rfl⟩ := hv'.form
      clear hv' hb2 hu hfz c0 c1 c2 c3
      go_wp2
      go_roundw
      case rel =>
        have hls := HL.out.step HB2.out
        refine ⟨i + 1, by omega, by go_num, ?_, ?_, hls.set (p := w1.heap.size) HL2.out.below.size _ _⟩
        · rw [← upto_step]
          exact HO.out.fill HB2.out HV.out
        · exact (Below.heap_setCell _ _ _ w.heap.size (show w.heap.size ≠ w1.heap.size by omega)).trans ((HB2.out.block _ HB.out.lt).trans HB.out)
      case measure => simp [intOf]; omega
    · obtain rfl : i = n := by omega
      have hres := hbx.cell
      have hfr := hbx.frozen
      have hc9 := World.cell?_setCell_same' wr ⟨w.heap.size, 0, none⟩ (.slice (some ⟨w1.heap.size, 0, none⟩) i i) (by rw [hres]; rfl)
      clear ho hbx hL
      go_wp2
      refine bodyPost_ret (v := .agg #[.slice (some ⟨w1.heap.size, 0, none⟩) i i]) (by simp [results, Tryd.results122, go_sem, hc9]) rfl ?_
      refine ⟨_, rfl, ?_, HL.out.below.setCell (p := ⟨w.heap.size, 0, none⟩) (Nat.le_refl _) _⟩
      rw [size_setCell]
      exact ((HO.out.kept fun b' hb' _ => Below.heap_setCell _ _ _ b' (show b' ≠ w.heap.size by omega)).wider (by omega) (Nat.le_refl _)).congr fun j hj => by unfold upto; rw [if_pos hj]
end Go.Proofs.YtkomghohdhengaaDoor

/- The model's l2Row: the indexes that are kept. -/
namespace Go.Proofs.YtkomghohdhengaaDoor
open Go.RowKit Go.Deep

/-- The indexes below k that are kept. -/
def keptN (K : Nat → Bool) (k : Nat) : List Int := ((List.range k).filter K).map fun i : Nat => (i : Int)
theorem keptN_succ (K : Nat → Bool) (k : Nat) : keptN K (k + 1) = if K k = true then keptN K k ++ [(k : Int)] else keptN K k := by
  unfold keptN
  rw [List.range_succ, List.filter_append, List.map_append, List.filter_cons]
  cases K k with
  | true => rfl
  | false => simp
theorem keptN_le (K : Nat → Bool) (k : Nat) : (keptN K k).length ≤ k := by
  unfold keptN
  rw [List.length_map]
  have := List.length_filter_le K (List.range k)
  simpa using this
theorem keptN_range {K : Nat → Bool} {k : Nat} : ∀ x ∈ keptN K k, 0 ≤ x ∧ x < (k : Int) := by
  intro x hx
  unfold keptN at hx
  obtain ⟨i, hi, rfl⟩ := List.mem_map.1 hx
  have := List.mem_range.1 (List.mem_filter.1 hi).1
  omega

set_option maxRecDepth 100000 in
set_option maxHeartbeats 2000000 in
theorem l2Row_any (g n C : Nat) (K : Nat → Bool) (w : World) (hn : n ≤ 1048576) (hk : ∀ i, i < n → w.cell? ⟨g, i, none⟩ = some (.bool (K i))) :
    Calls Tryd.prog 91 #[.slice (some ⟨g, 0, none⟩) n C] w (OwnQ (keptN K n) w) := by
  have HC := Lib.hid (fun W (h : Below w.heap.size w W) i (hi : i < n) => (h.cell (p := ⟨g, i, none⟩) (cell_lt (hk i hi))).trans (hk i hi))
  have HO := Lib.hid (World.ownsRow_made (e := 3) (size := 1) w #[] 0 (base := w.heap.size) (Nat.le_refl _) (Nat.zero_le _) (by simp))
  have HB0 := Lib.hid ((Below.refl w.heap.size w).alloc (Nat.le_refl _) (.cells #[] 3))
  obtain ⟨i0, hi0, hz0, hz1, hz2⟩ := info_parts infoInt
  clear hk
  go_enter Tryd.func91, Tryd.ntmps91
  go_wp2
  go_loopw [3, 4] (fun ov iv wr => ∃ i : Nat, i ≤ n ∧ iv = .int .i64 i ∧ wr.ownsRow w.heap.size 3 1 ov (keptN K i).length (cellsI (keptN K i)) ∧ Below w.heap.size w wr) (fun _ iv _ => n - (intOf iv).toNat)
  case atStart => exact ⟨0, Nat.zero_le _, rfl, HO.out, HB0.out⟩
  case round =>
    obtain ⟨i, hi, rfl, hown, hB⟩ := hrel
    have HOWN := Lib.hid hown
    have HB := Lib.hid hB
    have hcl := keptN_le K i
    clear hown hB HO HB0
    by_cases hlt : i < n
    · have hltz : (i : Int) < (n : Int) := by omega
      have hc := HC.out _ HB.out i hlt
      have hbz := HB.out.size
      cases hq : K i with
      | true =>
        rw [hq] at hc
        have HE := Lib.hid (show keptN K (i + 1) = keptN K i ++ [(i : Int)] by rw [keptN_succ, if_pos hq])
        clear hq
        go_wp2_with (at_builtin; refine wpList_append_own _ rfl _ _ 26 rfl w.heap.size 3 i0 (.int .i64 0) 1 8 Tryd.underlying26 hi0 hz0 hz1 hz2 rfl (by decide) _ _ _ rfl (HOWN.out.alloc _) ⟨wr.heap.size, 0, none⟩ 1 1 [.int .i64 (i : Int)] rfl rfl (cell_one_new _ _ _) (by simp [Value.oneCell']) (by unfold maxLen; omega) (by omega) (by simp; omega) ?_; intro v' w1 hown' hgrow _)
        go_roundw
        case rel =>
          refine ⟨i + 1, by omega, by go_num, ?_, (HB.out.alloc HB.out.size _).grown hgrow (by rw [World.size_alloc]; omega) (fun b e => (HOWN.out.lt b e).1)⟩
          rw [HE.out, List.length_append, show cellsI (keptN K i ++ [(i : Int)]) = cellsI (keptN K i) ++ [.int .i64 (i : Int)] by simp]
          exact hown'
        case measure => simp [intOf]; omega
      | false =>
        rw [hq] at hc
        have HE := Lib.hid (show keptN K (i + 1) = keptN K i by rw [keptN_succ, if_neg (by rw [hq]; simp)])
        clear hq
        go_wp2
        go_roundw
        case rel => exact ⟨i + 1, by omega, by go_num, by rw [HE.out]; exact HOWN.out, HB.out⟩
        case measure => simp [intOf]; omega
    · obtain rfl : i = n := by omega
      go_wp2
      go_ret
      refine ⟨_, rfl, OwnI.of_owns HOWN.out (fun y hy => ?_) (fun b hb => (HOWN.out.lt b hb).2), HB.out⟩
      have := keptN_range y hy
      exact wf_int (by omega) (by omega)
end Go.Proofs.YtkomghohdhengaaDoor

/- What the walks of heights and covers share: boxes, a row in a block, what a call keeps. -/
namespace Go.Proofs.YtkomghohdhengaaDoor
open Go.RowKit Go.Deep Go.Shelf
attribute [local go_sem] Oper.semAt_some

theorem keeps_below {W W' : World} (h : Below W.heap.size W W') : KeepsOthers W W' :=
  ⟨h.size, fun k _ hk _ => (h.block k (Array.getElem?_eq_some_iff.1 hk).1).trans hk⟩
theorem topsOf_nil (g : Nat → Nat) (s : Nat) : topsOf g s [] = 0 := rfl
theorem rowIn_zero (W : World) : RowIn (W.alloc (.cells #[.int .u64 0, .int .u64 0, .int .u64 0, .int .u64 0] 91)) W.heap.size 0 := by
  refine ⟨?_, Nat.two_pow_pos 256⟩
  have h := heap_alloc_new W (.cells #[.int .u64 0, .int .u64 0, .int .u64 0, .int .u64 0] 91)
  simpa [word] using h

theorem boxed_other {W : World} {p q : Nat} {t : TypeId} {u : Value} (h : Boxed W p t u) (hq : p ≠ q) (o : Nat) (v : Value) : Boxed (W.setCell ⟨q, o, none⟩ v) p t u := by
  show (W.setCell ⟨q, o, none⟩ v).heap[p]? = _
  rw [heap_setCell_other _ ⟨q, o, none⟩ p v hq]
  exact h
theorem rowAdd_any (p s k : Nat) (a : Int) (W : World) (ha : a = k) (h : RowIn W p s) (hk : k < 256) :
    Calls Tryd.prog 119 #[.pointer (some ⟨p, 0, none⟩), .int .i64 a] W (Puts ⟨p, k / 64, none⟩ (.int .u64 ((word s (k / 64) ||| 2 ^ (k % 64) : Nat) : Int)) W) := by
  have hcall := add_any p 0 a k (word s (k / 64)) W ha hk (word_lt _ _) (by rw [Nat.zero_add]; exact h.cellAt (by omega)) (h.frozen _)
  rw [Nat.zero_add] at hcall
  exact hcall
end Go.Proofs.YtkomghohdhengaaDoor

/- Inside a round, a region without a defer is walked as outside it. -/
namespace Go.Proofs.YtkomghohdhengaaDoor
open Go.RowKit Go.Deep Go.Shelf

theorem uponIn_round_eq (F : Fence) (l n : Nat) (P : Program) (o : Oper) (a : Act) (next : Act → World → Prop) (Q : Exit → Act → World → Prop) (r : Result Next) :
    o.uponIn F n P a next Q r → o.uponIn (F.inRound l) n P a next Q r := by
  intro h
  cases r with
  | ok x w' => cases x <;> exact h
  | halt x w' => cases x <;> exact h

theorem wpAnyIn_round {F : Fence} {l n : Nat} {P : Program} {md : Region.Mode} {ops : Array Oper} {Q : Exit → Act → World → Prop} (hnd : ∀ (i : Nat) (o : Oper), ops[i]? = some o → ∀ c, o.op ≠ .defer c) :
    ∀ (fuel : Nat) (listed : Array Bool) (a : Act) (w : World), wpAnyIn F n P md ops Q fuel listed a w → wpAnyIn (F.inRound l) n P md ops Q fuel listed a w
  | 0, _, _, _, h => h
  | fuel + 1, listed, a, w, h => by
    refine ⟨h.1, fun i hi => ?_⟩
    have h2 := h.2 i hi
    unfold wpOpIn at h2 ⊢
    cases ho : ops[i]? with
    | none => rw [ho] at h2; exact wpAnyIn_round hnd fuel _ _ _ h2
    | some o =>
      rw [ho] at h2
      dsimp only at h2 ⊢
      split
      · rename_i hw
        rw [if_pos hw] at h2
        have h3 := Oper.wpIn_mono (K' := wpAnyIn (F.inRound l) n P md ops Q fuel (listed.setIfInBounds i true)) (fun a' w' => wpAnyIn_round hnd fuel (listed.setIfInBounds i true) a' w') h2
        unfold Oper.wpIn at h3 ⊢
        rw [Oper.semAt_eq _ _ _ (hnd i o ho)] at h3 ⊢
        exact ⟨h3.1, uponIn_round_eq F l n P o a _ Q _ h3.2⟩
      · rename_i hw
        rw [if_neg hw] at h2
        exact ⟨h2.1, wpAnyIn_round hnd fuel _ _ _ h2.2⟩
theorem noDefer {ops : Array Oper} (h : ops.all (fun o => match o.op with | .defer _ => false | _ => true) = true) (i : Nat) (o : Oper) (ho : ops[i]? = some o) (c : Call) : o.op ≠ .defer c := by
  intro e
  have hm := Array.all_eq_true_iff_forall_mem.1 h o (Array.mem_of_getElem? ho)
  rw [e] at hm
  cases hm
end Go.Proofs.YtkomghohdhengaaDoor

/- The program's OrderBelow. -/
namespace Go.Proofs.YtkomghohdhengaaDoor
open Go.RowKit Go.Deep

set_option maxHeartbeats 4000000 in
theorem implBelow_any (v : Value) (rows : Rows2) (a b : Int) (w : World) (hv : RowsAt w v rows) (hT : Tab w) (hn : bulk rows ≤ 1048576) :
    Calls Tryd.prog 34 #[.agg #[v], .int .i64 a, .int .i64 b] w (SaysN (belowB rows a b) w) := by
  have hH := Held.start w 25 hv
  have hcall := gridOf_any v rows _ hH.2.1 (hT.below ((Below.refl _ w).alloc (Nat.le_refl _) _)) hn
  have hz := (zero_of_info zeroGrid).1
  obtain ⟨A, C, rfl, _⟩ := hv
  have HH := Lib.hid hH
  clear hH hT
  generalize hval : validB rows = t at hcall
  have hcall2 : Calls Tryd.prog 82 #[.agg #[.slice A rows.length C]] (w.alloc (.cells #[.slice A rows.length C] 25)) fun e w' => (∃ g : Nat → Nat, ((∀ i, g i < 2 ^ 256) ∧ (t = true → g = gridF rows)) ∧ e = .returned (.tuple #[.agg (gridCells g), .bool t])) ∧ Below (w.alloc (.cells #[.slice A rows.length C] 25)).heap.size (w.alloc (.cells #[.slice A rows.length C] 25)) w' :=
    hcall.mono fun e w' ⟨⟨g, h1, h2, h3⟩, h4⟩ => ⟨⟨g, ⟨h1, fun h => h2 (by rw [hval]; exact h)⟩, by rw [h3, hval]⟩, h4⟩
  have HCALL := Lib.hid hcall2
  have HVAL := Lib.hid hval
  clear hcall hcall2 hval
  cases t with
  | false =>
    have e : belowB rows a b = false := by unfold belowB hasB; rw [HVAL.out]; rfl
    rw [e]
    clear e
    go_enter Tryd.func34, Tryd.ntmps34
    go_wp2_with (first | (go_at_call 82; refine HCALL.out.mono ?_; clear HCALL; rintro e w1 ⟨⟨g, hg, rfl⟩, hb1⟩; have HG := Lib.hid hg; have H1 := Lib.hid (HH.out.below hb1); clear hg hb1) | (refine wpList_store_row rfl 93 (.tmp 7) (.tmp 12) rfl w1.heap.size (gridCells g) rfl rfl 93 (gridCells fun _ => 0) (store_new w1).1 (by rw [gridCells_size]; exact sizeGrid) (by rw [gridCells_size, gridCells_size]) (gridCells_one _) ?_))
    go_ret
    exact ⟨rfl, (H1.out.below (newGrid_below g w1)).2.2.1⟩
  | true =>
    by_cases ha : 0 ≤ a ∧ a < rows.length
    · obtain ⟨an, rfl⟩ : ∃ an : Nat, a = (an : Int) := ⟨a.toNat, by omega⟩
      have ha1 : an < rows.length := by omega
      have hn2 : rows.length ≤ 200 := (lists_len (valid_lists HVAL.out)).2
      have ha2 : an < 200 := by omega
      have hA0 : (0 : Int) ≤ (an : Int) := by omega
      have hA1 : (an : Int) < 200 := by omega
      have hasc : ascB rows.length rows[an] = true := (ascB_iff _ _).2 (lists_at (valid_lists HVAL.out) an ha1)
      have HAS := Lib.hid hasc
      have HA := Lib.hid ha
      clear hasc ha
      by_cases hb : 0 ≤ b ∧ b < rows.length
      · obtain ⟨bn, rfl⟩ : ∃ bn : Nat, b = (bn : Int) := ⟨b.toNat, by omega⟩
        have e : belowB rows an bn = (gridF rows an).testBit bn := by
          unfold belowB hasB
          rw [HVAL.out, decide_eq_true HA.out, decide_eq_true hb, Int.toNat_natCast, grid_bit ha1 HAS.out]
          unfold upB
          rw [getD_at [] ha1]
          rfl
        rw [e]
        have HB := Lib.hid hb
        have hb1 : bn < 256 := by omega
        clear e hb
        go_enter Tryd.func34, Tryd.ntmps34
        go_wp2_with (first | (go_at_call 82; refine HCALL.out.mono ?_; clear HCALL; rintro e w1 ⟨⟨g, hg, rfl⟩, hb1⟩; have HG := Lib.hid hg; have H1 := Lib.hid (HH.out.below hb1); have H2 := Lib.hid (H1.out.below (newGrid_below g w1)); have hc2 : (World.setRow (w1.alloc (.cells (gridCells fun _ => 0) 93)) w1.heap.size (gridCells g)).cell? ⟨w.heap.size, 0, none⟩ = some (.slice A rows.length C) := H2.out.1; clear hg hb1) | (refine wpList_store_row rfl 93 (.tmp 7) (.tmp 12) rfl w1.heap.size (gridCells g) rfl rfl 93 (gridCells fun _ => 0) (store_new w1).1 (by rw [gridCells_size]; exact sizeGrid) (by rw [gridCells_size, gridCells_size]) (gridCells_one _) ?_))
        refine (isElement_any _ rows an _ H2.out.2.1).mono ?_
        rw [decide_eq_true HA.out]
        rintro e w3 ⟨rfl, hb3⟩
        have H3 := Lib.hid (H2.out.below hb3)
        have HG3 := Lib.hid ((newGrid_at HG.out.1 w1).below hb3 (newGrid_at HG.out.1 w1).lt)
        have hc3 := H3.out.1
        clear hb3 hc2
        go_wp2_with fail
        refine (isElement_any _ rows bn _ H3.out.2.1).mono ?_
        rw [decide_eq_true HB.out]
        rintro e w4 ⟨rfl, hb4⟩
        have H4 := Lib.hid (H3.out.below hb4)
        have HG4 := Lib.hid (HG3.out.below hb4 HG3.out.lt)
        obtain ⟨g0, g1, g2, g3⟩ := HG4.out.row an ha2
        have hge : g an = gridF rows an := by rw [HG.out.2 (by trivial)]
        have HGE := Lib.hid hge
        clear hb4 hc3 hge
        go_wp2_with (go_at_call 89; refine (has_any (g an) bn bn _ rfl hb1).mono ?_; rintro e w5 ⟨rfl, hb5⟩)
        go_ret
        exact ⟨by rw [← HGE.out]; rfl, (H4.out.below hb5).2.2.1⟩
      · have e : belowB rows an b = false := by unfold belowB hasB; rw [decide_eq_false hb]; simp
        rw [e]
        have HB := Lib.hid hb
        clear e hb
        go_enter Tryd.func34, Tryd.ntmps34
        go_wp2_with (first | (go_at_call 82; refine HCALL.out.mono ?_; clear HCALL; rintro e w1 ⟨⟨g, hg, rfl⟩, hb1⟩; have HG := Lib.hid hg; have H1 := Lib.hid (HH.out.below hb1); have H2 := Lib.hid (H1.out.below (newGrid_below g w1)); have hc2 : (World.setRow (w1.alloc (.cells (gridCells fun _ => 0) 93)) w1.heap.size (gridCells g)).cell? ⟨w.heap.size, 0, none⟩ = some (.slice A rows.length C) := H2.out.1; clear hg hb1) | (refine wpList_store_row rfl 93 (.tmp 7) (.tmp 12) rfl w1.heap.size (gridCells g) rfl rfl 93 (gridCells fun _ => 0) (store_new w1).1 (by rw [gridCells_size]; exact sizeGrid) (by rw [gridCells_size, gridCells_size]) (gridCells_one _) ?_))
        refine (isElement_any _ rows an _ H2.out.2.1).mono ?_
        rw [decide_eq_true HA.out]
        rintro e w3 ⟨rfl, hb3⟩
        have H3 := Lib.hid (H2.out.below hb3)
        have hc3 := H3.out.1
        clear hb3 hc2
        go_wp2_with fail
        refine (isElement_any _ rows b _ H3.out.2.1).mono ?_
        rw [decide_eq_false HB.out]
        rintro e w4 ⟨rfl, hb4⟩
        have H4 := Lib.hid (H3.out.below hb4)
        clear hb4 hc3
        go_wp2
        go_ret
        exact ⟨rfl, H4.out.2.2.1⟩
    · have e : belowB rows a b = false := by unfold belowB hasB; rw [decide_eq_false ha]; simp
      rw [e]
      have HA := Lib.hid ha
      clear e ha
      go_enter Tryd.func34, Tryd.ntmps34
      go_wp2_with (first | (go_at_call 82; refine HCALL.out.mono ?_; clear HCALL; rintro e w1 ⟨⟨g, hg, rfl⟩, hb1⟩; have HG := Lib.hid hg; have H1 := Lib.hid (HH.out.below hb1); have H2 := Lib.hid (H1.out.below (newGrid_below g w1)); have hc2 : (World.setRow (w1.alloc (.cells (gridCells fun _ => 0) 93)) w1.heap.size (gridCells g)).cell? ⟨w.heap.size, 0, none⟩ = some (.slice A rows.length C) := H2.out.1; clear hg hb1) | (refine wpList_store_row rfl 93 (.tmp 7) (.tmp 12) rfl w1.heap.size (gridCells g) rfl rfl 93 (gridCells fun _ => 0) (store_new w1).1 (by rw [gridCells_size]; exact sizeGrid) (by rw [gridCells_size, gridCells_size]) (gridCells_one _) ?_))
      refine (isElement_any _ rows a _ H2.out.2.1).mono ?_
      rw [decide_eq_false HA.out]
      rintro e w3 ⟨rfl, hb3⟩
      have H3 := Lib.hid (H2.out.below hb3)
      clear hb3 hc2
      go_wp2
      go_ret
      exact ⟨rfl, H3.out.2.2.1⟩
end Go.Proofs.YtkomghohdhengaaDoor

/- Rows closed under their steps: plain facts; '==' on grids. No function is walked here. -/
namespace Go.Proofs.YtkomghohdhengaaDoor
open Go.RowKit Go.Deep

theorem ClI.gridN {E : Nat → Nat → Prop} {n : Nat} {g : Nat → Nat} (h : ClI E n g) (hn : n ≤ 200) : GridN g n :=
  ⟨hn, fun i hi e => by have := h.own i hi; rw [e] at this; simp at this, fun _ => Nat.eq_of_testBit_eq fun j => by
    rw [Nat.zero_testBit]
    cases hb : (g n).testBit j with
    | false => rfl
    | true => have := (h.sound n j hb).1; omega⟩
theorem ClI.out {E : Nat → Nat → Prop} {n : Nat} {g : Nat → Nat} (h : ClI E n g) {i : Nat} (hi : n ≤ i) : g i = 0 := Nat.eq_of_testBit_eq fun j => by
  rw [Nat.zero_testBit]
  cases hb : (g i).testBit j with
  | false => rfl
  | true => have := (h.sound i j hb).1; omega
theorem ClI.elem {E : Nat → Nat → Prop} {n : Nat} {g : Nat → Nat} (h : ClI E n g) {i k : Nat} (hk : k ∈ elems (g i)) : k < n := (h.sound i k ((mem_elems (h.lt i)).1 hk)).2.1

theorem elems_zero : elems 0 = [] := List.eq_nil_iff_forall_not_mem.2 fun k hk => by
  rw [mem_elems (Nat.two_pow_pos 256), Nat.zero_testBit] at hk
  cases hk
/-- The next rows, while those of row i's elements l have been added. -/
def nextG (g : Nat → Nat) (i : Nat) (l : List Nat) (q : Nat) : Nat := if q < i then stepG g q else if q = i then l.foldl (fun r k => r ||| g k) (g i) else g q
theorem nextG_start (g : Nat → Nat) : nextG g 0 [] = g := by
  funext q
  unfold nextG
  rw [if_neg (Nat.not_lt_zero _)]
  split
  · rename_i e; rw [e]; rfl
  · rfl
theorem nextG_snoc (g : Nat → Nat) (i : Nat) (l : List Nat) (k : Nat) : nextG g i (l ++ [k]) = fun j => if j = i then nextG g i l i ||| g k else nextG g i l j := by
  funext q
  unfold nextG
  by_cases e : q = i
  · subst e
    rw [if_neg (Nat.lt_irrefl _), if_pos rfl, if_pos rfl, if_neg (Nat.lt_irrefl _), if_pos rfl, List.foldl_append]
    rfl
  · by_cases e2 : q < i
    · simp [e, e2]
    · simp [e, e2]
theorem nextG_next (g : Nat → Nat) (i : Nat) : nextG g i (elems (g i)) = nextG g (i + 1) [] := by
  funext q
  unfold nextG
  by_cases e : q = i
  · subst e
    rw [if_neg (Nat.lt_irrefl _), if_pos rfl, if_pos (Nat.lt_succ_self _)]
    rfl
  · by_cases e2 : q < i
    · rw [if_pos e2, if_pos (by omega)]
    · rw [if_neg e2, if_neg e, if_neg (by omega)]
      split
      · rename_i e3; rw [e3]; rfl
      · rfl
theorem nextG_done {E : Nat → Nat → Prop} {n : Nat} {g : Nat → Nat} (h : ClI E n g) : nextG g n [] = stepG g := by
  funext q
  unfold nextG
  by_cases e2 : q < n
  · rw [if_pos e2]
  · have hz := h.out (i := q) (by omega)
    have hs : stepG g q = g q := by
      unfold stepG
      rw [hz, elems_zero]
      rfl
    rw [if_neg e2, hs]
    split
    · rename_i e; rw [e]; rfl
    · rfl
theorem nextG_lt {g : Nat → Nat} (hg : ∀ k, g k < 2 ^ 256) (i : Nat) (l : List Nat) (q : Nat) : nextG g i l q < 2 ^ 256 := by
  unfold nextG
  split
  · exact or_lt g hg _ _ (hg _)
  · split
    · exact or_lt g hg _ _ (hg _)
    · exact hg _
/-- How many bits may still be added. -/
theorem pop_step {E : Nat → Nat → Prop} {n : Nat} {g : Nat → Nat} (h : ClI E n g) (hne : stepG g ≠ g) : popG g n < popG (stepG g) n := by
  have hex : ∃ i, i < n ∧ stepG g i ≠ g i := by
    refine Classical.byContradiction fun hno => hne (funext fun i => ?_)
    by_cases hi : i < n
    · exact Classical.byContradiction fun e => hno ⟨i, hi, e⟩
    · rw [h.out (i := i) (by omega)]
      unfold stepG
      rw [h.out (i := i) (by omega), elems_zero]
      rfl
  obtain ⟨i, hi, hd⟩ := hex
  exact popG_lt (fun i j hb => (stepG_bit g i j).2 (.inl hb)) h.step.lt hd (h.lt i) n hi

/-- A row of a grid, out of its cells. -/
theorem grid_part (g : Nat → Nat) (i : Nat) (hi : i < 200) (w : World) : (part 91 (gridCells g) (i * 4)).run Tryd.prog w = .ok (rowV (g i)) w := by
  have ha : (isAgg 91).run Tryd.prog w = .ok true w := by kernel_rfl
  have hz : (sizeOf 91).run Tryd.prog w = .ok 4 w := by kernel_rfl
  have he : (gridCells g).extract (i * 4) (i * 4 + 4) = #[.int .u64 ((word (g i) 0 : Nat) : Int), .int .u64 ((word (g i) 1 : Nat) : Int), .int .u64 ((word (g i) 2 : Nat) : Int), .int .u64 ((word (g i) 3 : Nat) : Int)] := by
    apply Array.ext_getElem?
    intro j
    rw [Array.getElem?_extract, gridCells_size]
    by_cases hj : j < 4
    · rw [if_pos (by omega), show i * 4 + j = 4 * i + j by omega, gridCells_at g i j hi hj]
      obtain rfl | rfl | rfl | rfl : j = 0 ∨ j = 1 ∨ j = 2 ∨ j = 3 := by omega
      all_goals rfl
    · rw [if_neg (by omega), Array.getElem?_eq_none (by simp; omega)]
  simp only [part, Sem.run_bind, ha, Result.andThen_ok, if_true, hz, he, Sem.run_pure]
/-- '==' on grids. -/
theorem run_eqGrid (d : Nat) (g h : Nat → Nat) (hg : ∀ i, g i < 2 ^ 256) (hh : ∀ i, h i < 2 ^ 256) (w : World) :
    (Op.equalIn (d + 3) 93 (.agg (gridCells g)) (.agg (gridCells h))).run Tryd.prog w = .ok ((List.range 200).all fun i => decide (g i = h i)) w := by
  refine run_eq_array (P := Tryd.prog) (d + 2) 200 4 93 91 (gridCells g) (gridCells h) (fun i => decide (g i = h i)) Tryd.underlying93 (fun w => by kernel_rfl) (fun i hi => ⟨_, _, fun w => grid_part g i hi w, fun w => grid_part h i hi w, fun w => ?_⟩) w
  have := run_eq4 d ((word (g i) 0 : Nat) : Int) ((word (g i) 1 : Nat) : Int) ((word (g i) 2 : Nat) : Int) ((word (g i) 3 : Nat) : Int) ((word (h i) 0 : Nat) : Int) ((word (h i) 1 : Nat) : Int) ((word (h i) 2 : Nat) : Int) ((word (h i) 3 : Nat) : Int) w
  rw [row_eq (hg i) (hh i)] at this
  exact this
theorem grid_all {E E' : Nat → Nat → Prop} {n : Nat} {g h : Nat → Nat} (hg : ClI E n g) (hh : ClI E' n h) (hn : n ≤ 200) : ((List.range 200).all fun i => decide (g i = h i)) = true ↔ g = h := by
  rw [List.all_eq_true]
  constructor
  · intro hall
    funext i
    by_cases hi : i < 200
    · exact of_decide_eq_true (hall i (List.mem_range.2 hi))
    · rw [hg.out (i := i) (by omega), hh.out (i := i) (by omega)]
  · rintro rfl i _
    exact decide_eq_true rfl
/-- Four stores into one block: the other blocks are as they were. -/
theorem heap_four (W : World) (b o0 o1 o2 o3 : Nat) (v0 v1 v2 v3 : Value) (c : Nat) (h : c ≠ b) : ((((W.setCell ⟨b, o0, none⟩ v0).setCell ⟨b, o1, none⟩ v1).setCell ⟨b, o2, none⟩ v2).setCell ⟨b, o3, none⟩ v3).heap[c]? = W.heap[c]? :=
  (Below.heap_setCell _ _ _ c h).trans ((Below.heap_setCell _ _ _ c h).trans ((Below.heap_setCell _ _ _ c h).trans (Below.heap_setCell _ _ _ c h)))
theorem cell_four {W : World} {b o0 o1 o2 o3 : Nat} {v0 v1 v2 v3 : Value} {c o : Nat} {x : Value} (hc : W.cell? ⟨c, o, none⟩ = some x) (h : c ≠ b) : ((((W.setCell ⟨b, o0, none⟩ v0).setCell ⟨b, o1, none⟩ v1).setCell ⟨b, o2, none⟩ v2).setCell ⟨b, o3, none⟩ v3).cell? ⟨c, o, none⟩ = some x := by
  have e := World.cell?_of_block (a := ⟨c, o, none⟩) (heap_four W b o0 o1 o2 o3 v0 v1 v2 v3 c h)
  exact e.trans hc
/-- A row is written, word by word. -/
theorem GridAt.setRow4 {W : World} {b : Nat} {g : Nat → Nat} (h : GridAt W b g) {m X : Nat} (hm : m < 200) (hX : X < 2 ^ 256) :
    GridAt ((((W.setCell ⟨b, m * 4, none⟩ (.int .u64 ((word X 0 : Nat) : Int))).setCell ⟨b, m * 4 + 1, none⟩ (.int .u64 ((word X 1 : Nat) : Int))).setCell ⟨b, m * 4 + 2, none⟩ (.int .u64 ((word X 2 : Nat) : Int))).setCell ⟨b, m * 4 + 3, none⟩ (.int .u64 ((word X 3 : Nat) : Int))) b (fun q => if q = m then X else g q) := by
  refine ⟨?_, fun i => by
    show (if i = m then X else g i) < 2 ^ 256
    split
    · exact hX
    · exact h.2 i⟩
  rw [heap_setCell_same _ b _ _ _ _ (heap_setCell_same _ b _ _ _ _ (heap_setCell_same _ b _ _ _ _ (heap_setCell_same W b _ _ _ _ h.1)))]
  rw [show (((((gridCells g).setIfInBounds (m * 4) (.int .u64 ((word X 0 : Nat) : Int))).setIfInBounds (m * 4 + 1) (.int .u64 ((word X 1 : Nat) : Int))).setIfInBounds (m * 4 + 2) (.int .u64 ((word X 2 : Nat) : Int))).setIfInBounds (m * 4 + 3) (.int .u64 ((word X 3 : Nat) : Int))) = gridCells (fun q => if q = m then X else g q) from ?_]
  apply gridCells_ext
  · simp [gridCells_size]
  · intro i j hi hj
    simp only [Array.getElem?_setIfInBounds, Array.size_setIfInBounds, gridCells_size]
    by_cases e : i = m
    · subst e
      rw [if_pos rfl]
      obtain rfl | rfl | rfl | rfl : j = 0 ∨ j = 1 ∨ j = 2 ∨ j = 3 := by omega
      · rw [if_neg (by omega), if_neg (by omega), if_neg (by omega), if_pos (by omega), if_pos (by omega)]
      · rw [if_neg (by omega), if_neg (by omega), if_pos (by omega), if_pos (by omega)]
      · rw [if_neg (by omega), if_pos (by omega), if_pos (by omega)]
      · rw [if_pos (by omega), if_pos (by omega)]
    · rw [if_neg (by omega), if_neg (by omega), if_neg (by omega), if_neg (by omega), if_neg e, gridCells_at g i j hi hj]
end Go.Proofs.YtkomghohdhengaaDoor

/- A region that draws its order, inside a round of a range over a function: walked as outside of it. -/
namespace Go.Proofs.YtkomghohdhengaaDoor
open Go.RowKit Go.Deep Go.Shelf

theorem wpIn_wide {n : Nat} {P : Program} {o : Oper} {a : Act} {w : World} {K : Act → World → Prop} {Q : Exit → Act → World → Prop} (h : o.wp P a w K Q) : o.wpIn Fence.wide n P a w K Q := by
  refine ⟨fun _ _ => trivial, ?_⟩
  have e : o.semAt Fence.wide.round a.eval = execOp a.eval o := by simp [Oper.semAt, Fence.wide]
  rw [e]
  unfold Oper.wp at h
  generalize (execOp a.eval o).run P w = r at h
  cases r with
  | ok x w' =>
    cases x with
    | enter f args => exact ⟨fun hd => by simp [Fence.wide] at hd, callsIn_wide.2 h⟩
    | row row args => exact ⟨fun hd => by simp [Fence.wide] at hd, fun c cs _ => let ⟨v, w', r, s⟩ := h c cs; ⟨v, w', r, stepsIn_wide.2 s⟩⟩
    | value v => exact h
    | skip => exact h
    | defer d => exact h
    | round l f tmps assign body => exact h.elim
    | _ => exact h
  | halt x w' =>
    cases x with
    | panic v => exact h
    | _ => exact h

theorem any_wide {n : Nat} {P : Program} {md : Region.Mode} {ops : Array Oper} {Q : Exit → Act → World → Prop} (hQ : ¬ LetsOut Q) :
    ∀ (fuel : Nat) (listed : Array Bool) (a : Act) (w : World), wpAny P md ops Q fuel listed a w → wpAnyIn Fence.wide n P md ops Q fuel listed a w
  | 0, _, _, _, h => h
  | fuel + 1, listed, a, w, h => by
    refine ⟨h.1, fun i hi => ?_⟩
    have h2 := h.2 i hi
    unfold wpOp at h2
    unfold wpOpIn
    cases ho : ops[i]? with
    | none => rw [ho] at h2; exact any_wide hQ fuel _ _ _ h2
    | some o =>
      rw [ho] at h2
      dsimp only at h2 ⊢
      split
      · rename_i hw
        rw [if_pos hw] at h2
        rcases h2 with h2 | h2
        · exact Oper.wpIn_mono (fun a' w' h3 => any_wide hQ fuel _ a' w' h3) (wpIn_wide h2)
        · exact absurd h2.2 hQ
      · rename_i hw
        rw [if_neg hw] at h2
        exact ⟨fun _ _ => trivial, any_wide hQ fuel _ _ _ h2⟩

theorem held_round {l n : Nat} {P : Program} {id : Nat} {ops : Array Oper} {Q : Exit → Act → World → Prop} {S : World → Prop} {a : Act} {w : World} (hm : P.follows .mixedOrders = true) (hQ : ¬ LetsOut Q)
    (hnd : ops.all (fun o => match o.op with | .defer _ => false | _ => true) = true) (hS : S w.drew) (h : S w.drew → wpAnyH P .any ops Q S ops.size (Array.replicate ops.size false) a w.drew) : (Code.region id ops true).wpIn (Fence.wide.inRound l) n P Q a w :=
  wpIn_region_any hm (wpAnyIn_round (noDefer hnd) _ _ _ _ (any_wide hQ _ _ _ _ (wpAny_of_held _ _ _ _ (h hS))))
end Go.Proofs.YtkomghohdhengaaDoor
