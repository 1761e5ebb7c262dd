/- The program's order turned round (grid.back). -/
import Derived.Test.YtkhhbpeheikmfaaDoorBottom
import Derived.Test.YtkhhbpeheikmfaaDoorMarks
import Derived.Test.YtkhhbpeheikmfaaDoorGridK
import Derived.Test.YtkhhbpeheikmfaaDoorRowIn
namespace Go.Proofs.YtkhhbpeheikmfaaDoor
open Go.RowKit Go.Deep Go.Shelf
attribute [local go_sem] Oper.semAt_some

/-! ### Plain facts -/
/-- Row k of the first n rows turned round. -/
def backN (g : Nat → Nat) : Nat → Nat → Nat
  | 0, _ => 0
  | i + 1, k => if (g i).testBit k then put (backN g i k) i else backN g i k
theorem backN_bit (g : Nat → Nat) (k i : Nat) : ∀ n, (backN g n k).testBit i = (decide (i < n) && (g i).testBit k)
  | 0 => by simp [backN]
  | n + 1 => by
    have ih := backN_bit g k i n
    unfold backN
    by_cases h : (g n).testBit k = true
    · rw [if_pos h, testBit_put, ih]
      by_cases e : n = i
      · subst e; simp [h]
      · rw [decide_eq_false e, Bool.or_false]
        congr 1
        rw [decide_eq_decide]; omega
    · rw [if_neg h, ih]
      by_cases e : i = n
      · subst e; simp [h]
      · congr 1
        rw [decide_eq_decide]; omega
theorem backN_lt (g : Nat → Nat) (k : Nat) : ∀ n, n ≤ 256 → backN g n k < 2 ^ 256
  | 0, _ => Nat.two_pow_pos 256
  | n + 1, h => by
    have ih := backN_lt g k n (by omega)
    unfold backN
    split
    · exact put_lt ih (by omega)
    · exact ih
/-- The same, with the numbers ks of row i. -/
def backM (g : Nat → Nat) (i : Nat) (ks : List Nat) (k : Nat) : Nat := if k ∈ ks then put (backN g i k) i else backN g i k
theorem backM_nil (g : Nat → Nat) (i : Nat) : backM g i [] = backN g i := by funext k; simp [backM]
theorem put_put (r k : Nat) : put (put r k) k = put r k := by unfold put; rw [Nat.or_assoc, Nat.or_self]
theorem backM_snoc (g : Nat → Nat) (i : Nat) (ks : List Nat) (k : Nat) : (fun j => if j = k then put (backM g i ks k) i else backM g i ks j) = backM g i (ks ++ [k]) := by
  funext j
  unfold backM
  by_cases e : j = k
  · subst e
    rw [if_pos rfl, if_pos (show j ∈ ks ++ [j] by simp)]
    split
    · exact put_put _ _
    · rfl
  · rw [if_neg e]
    have : (j ∈ ks ++ [k]) = (j ∈ ks) := by simp [e]
    simp only [this]
theorem backM_done {g : Nat → Nat} {i : Nat} (h : g i < 2 ^ 256) : backM g i (elems (g i)) = backN g (i + 1) := by
  funext k
  unfold backM
  rw [show backN g (i + 1) k = if (g i).testBit k then put (backN g i k) i else backN g i k from rfl]
  by_cases e : (g i).testBit k = true
  · rw [if_pos ((mem_elems h).2 e), if_pos e]
  · rw [if_neg (fun hm => e ((mem_elems h).1 hm)), if_neg e]

/-- A number is put into row k of a grid. -/
theorem GridAt.putAt {W : World} {b : Nat} {g : Nat → Nat} (h : GridAt W b g) {k i : Nat} (hk : k < 200) (hi : i < 256) (m : Nat) :
    GridAt ((W.drewN m).setCell ⟨b, k * 4 + i / 64, none⟩ (.int .u64 ((word (g k) (i / 64) ||| 2 ^ (i % 64) : Nat) : Int))) b (fun j => if j = k then put (g k) i else g j) := by
  have hW : GridAt (W.drewN m) b g := h.below (below_drewN' _ _ _) h.lt
  have hset := hW.set (g' := fun j => if j = k then put (g k) i else g j) k (i / 64) hk (by omega) (word (g k) (i / 64) ||| 2 ^ (i % 64)) (fun j => by
    show (if j = k then put (g k) i else g j) < 2 ^ 256
    split
    · exact put_lt (h.2 k) hi
    · exact h.2 j) (fun i' j' _ _ => by
    show word (if i' = k then put (g k) i else g i') j' = _
    by_cases e : i' = k
    · subst e
      rw [if_pos rfl, word_put]
      by_cases e2 : i / 64 = j'
      · subst e2; rw [if_pos rfl, if_pos ⟨rfl, rfl⟩]
      · rw [if_neg e2, if_neg (fun h => e2 h.2.symm)]
    · rw [if_neg e, if_neg (fun h => e h.1)])
  rw [Nat.mul_comm] at hset
  exact hset

theorem addTo_any (b k i : Nat) (a : Int) (g : Nat → Nat) (W : World) (h : GridAt W b g) (hk : k < 200) (hi : i < 200) (ha : a = i) :
    Calls Tryd.prog 76 #[.pointer (some ⟨b, k * 4, none⟩), .int .i64 a] W (Puts ⟨b, k * 4 + i / 64, none⟩ (.int .u64 ((word (g k) (i / 64) ||| 2 ^ (i % 64) : Nat) : Int)) W) := by
  have hw := h.cell k (i / 64) hk (by omega)
  rw [Nat.mul_comm] at hw
  exact add_any b (k * 4) a i (word (g k) (i / 64)) W ha (by omega) (word_lt _ _) hw (h.frozen _)
theorem GridAt.kept {W W' : World} {row : Option Nat} {b : Nat} {g : Nat → Nat} (h : GridAt W b g) (hg : W.grownBy W' row) (hr : ∀ r, row = some r → ∃ o : Obj, W.heap[r]? = some o ∧ o.isCells = false) : GridAt W' b g := ⟨blk_kept h.1 hg hr, h.2⟩

theorem keeps_put (W : World) (m : Nat) (a : Addr) (v : Value) : KeepsOthers W ((W.drewN m).setCell a v) :=
  (show KeepsOthers W (W.drewN m) from ⟨Nat.le_refl _, fun _ _ h _ => h⟩).trans (KeepsOthers.setCell _ _ _)
theorem boxed_apart {W : World} {p : Nat} {t : TypeId} {u : Value} (h : Boxed W p t u) (m : Nat) {q : Nat} (hq : p ≠ q) (o : Nat) (v : Value) : Boxed ((W.drewN m).setCell ⟨q, o, none⟩ v) p t u := by
  show ((W.drewN m).setCell ⟨q, o, none⟩ v).heap[p]? = _
  rw [heap_setCell_other _ ⟨q, o, none⟩ p v hq]
  exact h
theorem GridAt.apart {W : World} {b : Nat} {g : Nat → Nat} (h : GridAt W b g) (m : Nat) {q : Nat} (hq : b ≠ q) (o : Nat) (v : Value) : GridAt ((W.drewN m).setCell ⟨q, o, none⟩ v) b g :=
  (h.below (below_drewN' W m _) h.lt).setOther (a := ⟨q, o, none⟩) hq v
theorem below_put {B : Nat} {w W : World} (h : Below B w W) (m : Nat) {q : Nat} (hq : B ≤ q) (o : Nat) (v : Value) : Below B w ((W.drewN m).setCell ⟨q, o, none⟩ v) :=
  (h.trans (below_drewN' _ m _)).setCell (p := ⟨q, o, none⟩) hq _

/-- The grid g as a value, and a world in which nothing that was there has turned. -/
def SaysG (g : Nat → Nat) (w : World) (e : Ending) (w' : World) : Prop := e = .returned (.agg (gridCells g)) ∧ Below w.heap.size w w'

set_option maxRecDepth 100000 in
set_option maxHeartbeats 4000000 in
theorem back_any (b n : Nat) (g : Nat → Nat) (w : World) (hg : GridAt w b g) (hT : Tab w) (hn : GridN g n) (hel : ∀ i, i < n → ∀ k ∈ elems (g i), k < 200) :
    Calls Tryd.prog 72 #[.pointer (some ⟨b, 0, none⟩)] w (SaysG (backN g n) w) := by
  have htab : 0 < w.heap.size := cell_lt (hT 0 (by omega))
  have hglt := hg.lt
  have hz := (zero_of_info zeroGrid).1
  have hb2 : Below w.heap.size w ((w.alloc (.cells (gridCells fun _ => 0) 94)).alloc (.cells (gridCells fun _ => 0) 94)) := ((Below.refl _ w).alloc (Nat.le_refl _) _).alloc (by simp) _
  have hcall := size_any b n g _ (hg.below hb2 hglt) hn.le hn.some hn.none
  have hn2 := hn.le
  have z : ∀ i : Nat, (fun _ : Nat => (0 : Nat)) i < 2 ^ 256 := fun _ => Nat.two_pow_pos 256
  have s1 : (w.alloc (.cells (gridCells fun _ => 0) 94)).heap.size = w.heap.size + 1 := World.size_alloc _ _
  have hg0 : GridAt (w.alloc (.cells (gridCells fun _ => 0) 94)) w.heap.size (fun _ => 0) := ⟨heap_alloc_new _ _, z⟩
  have hg1 : GridAt ((w.alloc (.cells (gridCells fun _ => 0) 94)).alloc (.cells (gridCells fun _ => 0) 94)) (w.heap.size + 1) (fun _ => 0) := by rw [← s1]; exact ⟨heap_alloc_new _ _, z⟩
  have hg0' := hg0.below ((Below.refl _ (w.alloc (.cells (gridCells fun _ => 0) 94))).alloc (Nat.le_refl _) (.cells (gridCells fun _ => 0) 94)) hg0.lt
  have G0 := Lib.hid hg0'
  have G1 := Lib.hid hg1
  have HB2 := Lib.hid hb2
  have HEL := Lib.hid hel
  have HG := Lib.hid hg
  have HT := Lib.hid hT
  clear hel hg hT hn hb2 z s1 hg0 hg1 hg0'
  refine (callsIn_wide (n := 8)).1 ?_
  refine callsIn_of_wp_marks Tryd.func72 rfl trivial (wpIn_mono (Q := NoPanic (bodyPostM Fence.wide 8 Tryd.prog Tryd.f72 (SaysG (backN g n) w))) ?_ NoPanic.le) rfl
  simp only [Tryd.ntmps72, List.size_toArray, List.length_cons, List.length_nil, Nat.reduceAdd, Nat.reduceSub, Array.replicate_succ, Array.replicate_zero, List.push_toArray, List.append_toArray, List.nil_append, List.cons_append]
  gi_wp2
  refine ⟨trivial, (callsIn_wide.2 hcall).mono ?_⟩
  clear hcall
  rintro e w1 ⟨rfl, hb1⟩
  have B1 := Lib.hid (HB2.out.trans (hb1.mono HB2.out.size))
  have R0 := Lib.hid (G0.out.below hb1 G0.out.lt)
  have R1 := Lib.hid (G1.out.below hb1 G1.out.lt)
  clear hb1
  gi_wp2
  refine wpIn_loop (fun a' wr => ∃ (k : Nat) (Ds : List Nat) (u4 u5 u9 u10 u11 u12 u13 u14 u15 u16 u17 u18 u19 u20 u21 u22 : Value), (k ≤ n ∧ GridAt wr (w.heap.size + 1) (backN g k) ∧ GridAt wr w.heap.size (fun _ => 0) ∧ MarksAt w.heap.size Ds wr ∧ Below w.heap.size w wr) ∧
    a' = { tmps := #[.pointer (some ⟨b, 0, none⟩), undef, .pointer (some ⟨w.heap.size, 0, none⟩), .pointer (some ⟨w.heap.size + 1, 0, none⟩), u4, u5, .pointer (some ⟨b, 0, none⟩), .int .i64 n, .int .i64 k, u9, u10, u11, u12, u13, u14, u15, u16, u17, u18, u19, u20, u21, u22, undef], defers := marksOf Ds })
    (fun a' _ => n - (intOf (a'.tmps.getD 8 undef)).toNat) ?atStart ?round
  case atStart => exact ⟨0, [], _, _, _, _, _, _, _, _, _, _, _, _, _, _, _, _, ⟨Nat.zero_le _, R1.out, R0.out, MarksAt.nil _ _, B1.out⟩, rfl⟩
  case round =>
    rintro _ wr ⟨k, Ds, u4, u5, u9, u10, u11, u12, u13, u14, u15, u16, u17, u18, u19, u20, u21, u22, ⟨hk, hr1, hr0, hm, hb⟩, rfl⟩
    have GR1 := Lib.hid hr1
    have GR0 := Lib.hid hr0
    have HM := Lib.hid hm
    have HB := Lib.hid hb
    have hblt : b < wr.heap.size := Nat.lt_of_lt_of_le hglt hb.size
    clear hr1 hr0 hm hb R0 R1 B1
    by_cases hlt : k < n
    · have hk0 : (0 : Int) ≤ (k : Int) := by omega
      have hk1 : (k : Int) < 200 := by omega
      obtain ⟨c0, c1, c2, c3⟩ := (HG.out.below HB.out hglt).row k (by omega)
      replace c0 := cell_alloc_any c0
      replace c1 := cell_alloc_any c1
      replace c2 := cell_alloc_any c2
      replace c3 := cell_alloc_any c3
      have hmx : Tryd.prog.follows .mixedOrders = true := by kernel_rfl
      gi_wp2
      first | (gi_region_with_o (refine ⟨trivial, ?_⟩; gi_at_call 88; refine (callsIn_wide.2 (elements_any (g k) _)).mono ?_; rintro e w2 ⟨rfl, rfl⟩)) | fail
      gi_wp2
      have hB4 : Below wr.heap.size wr ((wr.alloc (.cells #[.int .i64 (k : Int)] 3)).alloc (.cells #[.int .u64 ((word (g k) 0 : Nat) : Int), .int .u64 ((word (g k) 1 : Nat) : Int), .int .u64 ((word (g k) 2 : Nat) : Int), .int .u64 ((word (g k) 3 : Nat) : Int)] 92)).drew := (((Below.refl _ wr).alloc (Nat.le_refl _) _).alloc (by simp) _).drew
      have p4 : Boxed ((wr.alloc (.cells #[.int .i64 (k : Int)] 3)).alloc (.cells #[.int .u64 ((word (g k) 0 : Nat) : Int), .int .u64 ((word (g k) 1 : Nat) : Int), .int .u64 ((word (g k) 2 : Nat) : Int), .int .u64 ((word (g k) 3 : Nat) : Int)] 92)).drew wr.heap.size 3 (.int .i64 (k : Int)) := (Boxed.new wr 3 _).alloc _
      have r4 : RowIn ((wr.alloc (.cells #[.int .i64 (k : Int)] 3)).alloc (.cells #[.int .u64 ((word (g k) 0 : Nat) : Int), .int .u64 ((word (g k) 1 : Nat) : Int), .int .u64 ((word (g k) 2 : Nat) : Int), .int .u64 ((word (g k) 3 : Nat) : Int)] 92)).drew (wr.heap.size + 1) (g k) := by
        have h := RowIn.alloc (wr.alloc (.cells #[.int .i64 (k : Int)] 3)) (HG.out.2 k)
        rw [World.size_alloc] at h
        exact h
      have hz4 : ((wr.alloc (.cells #[.int .i64 (k : Int)] 3)).alloc (.cells #[.int .u64 ((word (g k) 0 : Nat) : Int), .int .u64 ((word (g k) 1 : Nat) : Int), .int .u64 ((word (g k) 2 : Nat) : Int), .int .u64 ((word (g k) 3 : Nat) : Int)] 92)).drew.heap.size = wr.heap.size + 2 := by simp [World.drew]
      revert hB4 p4 r4 hz4
      generalize ((wr.alloc (.cells #[.int .i64 (k : Int)] 3)).alloc (.cells #[.int .u64 ((word (g k) 0 : Nat) : Int), .int .u64 ((word (g k) 1 : Nat) : Int), .int .u64 ((word (g k) 2 : Nat) : Int), .int .u64 ((word (g k) 3 : Nat) : Int)] 92)).drew = w4
      intro hB4 p4 r4 hz4
      have hw0 := HB.out.size
      have hsz1 : w.heap.size + 1 < wr.heap.size := GR1.out.lt
      have M4 := HM.out.below hB4
      have mlt : ∀ D ∈ Ds, D < w4.heap.size := fun D hD => M4.lt hD
      have T4 : Tab w4 := (HT.out.below HB.out).below hB4
      have hBw : Below w.heap.size w w4 := HB.out.trans (hB4.mono hw0)
      refine wpIn_rangeFunc_ownG rfl (by omega) (gf := 96) (lb := #[.pointer (some ⟨wr.heap.size + 1, 0, none⟩)]) rfl trivial (enters_of Tryd.func96 (by kernel_rfl) rfl)
        (elements1_stops _ w.heap.size (wr.heap.size + 1) (g k) w4 (by omega) (HG.out.2 k) r4 (by omega) htab T4) belowK_t (belowK_b (by omega)) (Below.refl _ _) (fun _ => rfl)
        (fun pre W => (GridAt W (w.heap.size + 1) (backM g k (natsOf pre)) ∧ GridAt W w.heap.size (fun _ => 0) ∧ Boxed W wr.heap.size 3 (.int .i64 (k : Int))) ∧ MarksAt w.heap.size Ds W ∧ Below w.heap.size w W)
        (fun _ _ _ => False)
        (OwnFrom.and (Own.from (fun _ A B row hs hg hr => ⟨hs.1.kept hg hr, hs.2.1.kept hg hr, blk_kept hs.2.2 hg hr⟩) _) (OwnFrom.and (MarksAt.own mlt) (ownFrom_below (Nat.le_refl _) (by omega))))
        (fun _ _ _ _ _ hs _ _ => hs)
        ⟨⟨by rw [show natsOf ([] : List (Bt (g k))) = [] from rfl, backM_nil]; exact GR1.out.below hB4 GR1.out.lt, GR0.out.below hB4 GR0.out.lt, p4⟩, M4, hBw⟩
        (fun x => { tmps := #[.pointer (some ⟨b, 0, none⟩), undef, .pointer (some ⟨w.heap.size, 0, none⟩), .pointer (some ⟨w.heap.size + 1, 0, none⟩), .pointer (some ⟨wr.heap.size, 0, none⟩), .int .i64 ((x.1 : Nat) : Int), .pointer (some ⟨b, 0, none⟩), .int .i64 n, .int .i64 k, .bool true, .int .i64 k, .pointer (some ⟨b, 0, none⟩), .int .i64 k, .pointer (some ⟨b, 0, none⟩), .pointer (some ⟨b, k * 4, none⟩), rowV (g k), .func (.func 96) #[] #[.pointer (some ⟨wr.heap.size + 1, 0, none⟩)], .int .i64 ((x.1 : Nat) : Int), u18, u19, u20, u21, u22, undef], defers := [] }) ?assign ?body ?done ?stop
      case assign =>
        intro l x W K hK
        unfold encBt
        gi_wp2
        exact hK
      case body =>
        rintro l pre x W ⟨⟨h1, h0, hp⟩, hM, hB⟩ _
        obtain ⟨kk, hkm⟩ := x
        dsimp only
        have hkk := HEL.out k hlt kk hkm
        have hkk0 : (0 : Int) ≤ (kk : Int) := by omega
        have hkk1 : (kk : Int) < 200 := by omega
        have hcp := hp.cell
        have hadd := addTo_any (w.heap.size + 1) kk k k _ W.drew (h1.below (Below.refl _ W).drew h1.lt) hkk (by omega) rfl
        have H1 := Lib.hid h1
        have H0 := Lib.hid h0
        have HP := Lib.hid hp
        have HMM := Lib.hid hM
        have HBB := Lib.hid hB
        have HADD := Lib.hid hadd
        clear h1 h0 hp hM hB hadd
        gi_wp2
        first | (gi_region_with_o (refine ⟨trivial, ?_⟩; gi_at_call 76; refine (CallsIn.inRound l (callsIn_wide.2 HADD.out)).mono ?_; rintro e w' ⟨rfl, m, rfl⟩)) | fail
        all_goals gi_wp2
        all_goals
          refine ⟨(keeps_put _ _ _ _).from _, below_put (Below.refl _ _) _ (Nat.le_succ _) _ _, ⟨?_, H0.out.apart _ (by omega) _ _, boxed_apart HP.out _ (by omega) _ _⟩, HMM.out.keeps (keeps_put _ _ _ _), below_put HBB.out _ (Nat.le_succ _) _ _⟩
          rw [natsOf_snoc, ← backM_snoc]
          exact H1.out.putAt hkk (by omega) _
      case done =>
        rintro D ys W hD rfl ⟨⟨h1, h0, hp⟩, hM, hB⟩ hK
        rw [natsOf_all, backM_done (HG.out.2 k)] at h1
        have H1 := Lib.hid h1
        have H0 := Lib.hid h0
        have HMM := Lib.hid (MarksAt.cons hM (fun E hE => Nat.lt_of_lt_of_le (mlt E hE) hD) (by omega) hK)
        have HBB := Lib.hid hB
        clear h1 h0 hp hM hB hK
        gi_wp2
        refine ⟨?_, ?measure⟩
        refine ⟨k + 1, D :: Ds, ?_⟩
        (repeat apply Exists.intro)
        refine ⟨?rel, ?frame⟩
        case frame => rw [show (((k + 1 : Nat)) : Int) = (k : Int) + 1 from by omega]; rfl
        case rel => exact ⟨by omega, H1.out, H0.out, HMM.out, HBB.out⟩
        case measure => simp [intOf]; omega
      case stop =>
        rintro D c pre W _ _ h _
        exact h.elim
    · obtain rfl : k = n := by omega
      have hug := Tryd.underlying94
      have hG := GR1.out
      have hG0 := GR0.out
      have hfin : GridAt (wr.setRow w.heap.size (gridCells (backN g k))) w.heap.size (backN g k) := hG0.setRow hG.2
      have HFIN := Lib.hid hfin
      have hbe := below_setRow' HB.out (Nat.le_refl w.heap.size) (gridCells (backN g k))
      have HBE := Lib.hid hbe
      have hme : MarksAt w.heap.size Ds (wr.setRow w.heap.size (gridCells (backN g k))) := ⟨HM.out.nodup, fun D hD => by
        obtain ⟨h1, h2⟩ := HM.out.at_ D hD
        refine ⟨h1, ?_⟩
        rw [setRow_other wr w.heap.size D _ (fun e => by rw [e, hG0.1] at h2; cases h2)]
        exact h2⟩
      have HME := Lib.hid hme
      clear hfin hbe hme
      gi_wp2_with (first | (refine wpListIn_load_row rfl rfl 94 (.tmp 3) rfl (w.heap.size + 1) rfl 94 (gridCells (backN g k)) (0, 0) _ hG.1 hug rfl (by rw [gridCells_size]; exact sizeGrid) ?_) | (refine wpListIn_store_row rfl rfl 94 (.tmp 2) (.tmp 23) rfl w.heap.size (gridCells (backN g k)) rfl rfl 94 (gridCells fun _ => 0) hG0.1 (by rw [gridCells_size]; exact sizeGrid) (by rw [gridCells_size, gridCells_size]) (gridCells_one _) ?_))
      refine leaves_marks (n₀ := w.heap.size) (K := fun W => Below w.heap.size w W ∧ GridAt W w.heap.size (backN g k)) (fun W D h h1 h2 => ⟨h.1.trans (belowK_b (w := w) (Nat.le_refl _) W D _ _ h1 h2 rfl rfl), ⟨by rw [World.putObj_heap_other (fun e => by rw [← e, h.2.1] at h2; cases h2)]; exact h.2.1, h.2.2⟩⟩) (fun W h => ⟨.agg (gridCells (backN g k)), ?_, rfl, h.1⟩) Ds _ HME.out ⟨HBE.out, HFIN.out⟩
      exact results_cell_row rfl _ W w.heap.size 94 (gridCells (backN g k)) (0, 0) _ rfl h.2.1 hug rfl (by rw [gridCells_size]; exact sizeGrid)
end Go.Proofs.YtkhhbpeheikmfaaDoor
