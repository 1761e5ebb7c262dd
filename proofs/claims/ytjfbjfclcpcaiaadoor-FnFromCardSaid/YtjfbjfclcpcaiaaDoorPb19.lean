/- The program's height of an order (grid.height). -/
import Derived.Test.YtjfbjfclcpcaiaaDoorPb13
namespace Go.Proofs.YtjfbjfclcpcaiaaDoor
open Go.RowKit Go.Deep Go.Shelf
attribute [local go_sem] Oper.semAt_some

set_option maxRecDepth 100000 in
set_option maxHeartbeats 40000000 in
theorem height_any (b n H : Nat) (g : Nat → Nat) (w : World) (hg : GridAt w b g) (hT : Tab w) (hn : GridN g n) (hsub : ∀ t, ∀ k ∈ elems (leftF g n t), k < n) (hlf : ∀ t, leftF g n t < 2 ^ 256)
    (hH : H ≤ 256) (hno : ∀ t, t < H → leftF g n t ≠ 0) (hz : leftF g n H = 0) :
    Calls Tryd.prog 77 #[.pointer (some ⟨b, 0, none⟩)] w (SaysI H w) := by
  have htab : 0 < w.heap.size := cell_lt (hT 0 (by omega))
  have hglt := hg.lt
  have hn2 := hn.le
  have hb1 : Below w.heap.size w (w.alloc (.cells #[.pointer (some ⟨b, 0, none⟩)] 69)) := (Below.refl _ w).alloc (Nat.le_refl _) _
  have hcall := all_any b n g _ (hg.below hb1 hglt) hn
  have HBX := Lib.hid (Boxed.new w 69 (.pointer (some ⟨b, 0, none⟩)))
  have HB1 := Lib.hid hb1
  have HG := Lib.hid hg
  have HT := Lib.hid hT
  have HSUB := Lib.hid hsub
  have HLF := Lib.hid hlf
  have HNO := Lib.hid hno
  have HZ := Lib.hid hz
  clear hb1 hg hT hsub hlf hno hz hn
  refine (callsIn_wide (n := 8)).1 ?_
  refine callsIn_of_wp_marks Tryd.func77 rfl trivial (wpIn_mono (Q := NoPanic (bodyPostM Fence.wide 8 Tryd.prog Tryd.f77 (SaysI H w))) ?_ NoPanic.le) rfl
  simp only [Tryd.ntmps77, List.size_toArray, List.length_cons, List.length_nil, Nat.reduceAdd, Nat.reduceSub, Array.replicate_succ, Array.replicate_zero, List.push_toArray, List.append_toArray, List.nil_append, List.cons_append]
  gi_wp2
  refine ⟨trivial, (callsIn_wide.2 hcall).mono ?_⟩
  clear hcall
  rintro e w1 ⟨rfl, hb1⟩
  have B1 := Lib.hid (HB1.out.trans (hb1.mono HB1.out.size))
  have BX1 : Hid (Boxed w1 w.heap.size 69 (.pointer (some ⟨b, 0, none⟩))) := Lib.hid ((hb1.block _ (by simp)).trans HBX.out)
  clear hb1
  gi_wp2
  refine wpIn_loop (fun a' wr => ∃ (t p : Nat) (Ds : List Nat) (u5 u6 u9 u10 u11 u12 u13 u14 u15 u16 u17 u18 u19 u20 u21 u22 u23 u24 u25 u26 u27 u28 u29 u30 u31 u32 : Value), (t ≤ H ∧ RowIn wr p (leftF g n t) ∧ w.heap.size < p ∧ Boxed wr w.heap.size 69 (.pointer (some ⟨b, 0, none⟩)) ∧ MarksAt w.heap.size Ds wr ∧ Below w.heap.size w wr) ∧
    a' = { tmps := #[.pointer (some ⟨b, 0, none⟩), .pointer (some ⟨w.heap.size, 0, none⟩), .int .i64 0, .int .i64 t, .pointer (some ⟨p, 0, none⟩), u5, u6, .pointer (some ⟨b, 0, none⟩), rowV (allF n), u9, u10, u11, u12, u13, u14, u15, u16, u17, u18, u19, u20, u21, u22, u23, u24, u25, u26, u27, u28, u29, u30, u31, u32, undef], defers := marksOf Ds })
    (fun a' _ => H - (intOf (a'.tmps.getD 3 undef)).toNat) ?atStart ?round
  case atStart =>
    refine ⟨0, w1.heap.size, [], ?_⟩
    (repeat apply Exists.intro)
    refine ⟨?rel, ?frame⟩
    case frame => rfl
    case rel => exact ⟨Nat.zero_le _, RowIn.alloc w1 (allF_lt (by omega)), BX1.out.lt, BX1.out.alloc _, MarksAt.nil _ _, B1.out.alloc B1.out.size _⟩
  case round =>
    rintro _ wr ⟨t, p, Ds, u5, u6, u9, u10, u11, u12, u13, u14, u15, u16, u17, u18, u19, u20, u21, u22, u23, u24, u25, u26, u27, u28, u29, u30, u31, u32, ⟨ht, hr, hp, hbx, hm, hb⟩, rfl⟩
    have HR := Lib.hid hr
    have HBX2 := Lib.hid hbx
    have HM := Lib.hid hm
    have HB := Lib.hid hb
    have hemp := empty_any (leftF g n t) wr (HLF.out t)
    obtain ⟨r0, r1, r2, r3⟩ := hr.cells
    clear hr hbx hm hb B1 BX1 HBX HB1
    by_cases hlt : t < H
    · rw [decide_eq_false (HNO.out t hlt)] at hemp
      gi_wp2
      refine ⟨trivial, (callsIn_wide.2 hemp).mono ?_⟩
      clear hemp
      rintro e w2 ⟨rfl, hb2⟩
      have R2 := Lib.hid (HR.out.below hb2 HR.out.lt)
      have BX2 : Hid (Boxed w2 w.heap.size 69 (.pointer (some ⟨b, 0, none⟩))) := Lib.hid ((hb2.block _ HBX2.out.lt).trans HBX2.out)
      have M2 := Lib.hid (HM.out.below hb2)
      have B2 := Lib.hid (HB.out.trans (hb2.mono HB.out.size))
      clear hb2 HR HBX2 HM HB r0 r1 r2 r3
      obtain ⟨r0, r1, r2, r3⟩ := R2.out.cells
      replace r0 := cell_alloc_any r0
      replace r1 := cell_alloc_any r1
      replace r2 := cell_alloc_any r2
      replace r3 := cell_alloc_any r3
      gi_wp2
      refine ⟨trivial, (callsIn_wide.2 (elements_any (leftF g n t) _)).mono ?_⟩
      rintro e w3 ⟨rfl, rfl⟩
      gi_wp2
      have hB4 : Below w2.heap.size w2 ((w2.alloc (.cells #[.int .u64 0, .int .u64 0, .int .u64 0, .int .u64 0] 81)).alloc (.cells #[.int .u64 ((word (leftF g n t) 0 : Nat) : Int), .int .u64 ((word (leftF g n t) 1 : Nat) : Int), .int .u64 ((word (leftF g n t) 2 : Nat) : Int), .int .u64 ((word (leftF g n t) 3 : Nat) : Int)] 81)) := ((Below.refl _ w2).alloc (Nat.le_refl _) _).alloc (by simp) _
      have p4 : RowIn ((w2.alloc (.cells #[.int .u64 0, .int .u64 0, .int .u64 0, .int .u64 0] 81)).alloc (.cells #[.int .u64 ((word (leftF g n t) 0 : Nat) : Int), .int .u64 ((word (leftF g n t) 1 : Nat) : Int), .int .u64 ((word (leftF g n t) 2 : Nat) : Int), .int .u64 ((word (leftF g n t) 3 : Nat) : Int)] 81)) w2.heap.size 0 := (rowIn_zero w2).below ((Below.refl _ (w2.alloc (.cells #[.int .u64 0, .int .u64 0, .int .u64 0, .int .u64 0] 81))).alloc (Nat.le_refl _) _) (rowIn_zero w2).lt
      have r4 : RowIn ((w2.alloc (.cells #[.int .u64 0, .int .u64 0, .int .u64 0, .int .u64 0] 81)).alloc (.cells #[.int .u64 ((word (leftF g n t) 0 : Nat) : Int), .int .u64 ((word (leftF g n t) 1 : Nat) : Int), .int .u64 ((word (leftF g n t) 2 : Nat) : Int), .int .u64 ((word (leftF g n t) 3 : Nat) : Int)] 81)) (w2.heap.size + 1) (leftF g n t) := by
        have h := RowIn.alloc (w2.alloc (.cells #[.int .u64 0, .int .u64 0, .int .u64 0, .int .u64 0] 81)) (HLF.out t)
        rw [World.size_alloc] at h
        exact h
      have hz4 : ((w2.alloc (.cells #[.int .u64 0, .int .u64 0, .int .u64 0, .int .u64 0] 81)).alloc (.cells #[.int .u64 ((word (leftF g n t) 0 : Nat) : Int), .int .u64 ((word (leftF g n t) 1 : Nat) : Int), .int .u64 ((word (leftF g n t) 2 : Nat) : Int), .int .u64 ((word (leftF g n t) 3 : Nat) : Int)] 81)).heap.size = w2.heap.size + 2 := by simp
      revert hB4 p4 r4 hz4
      generalize ((w2.alloc (.cells #[.int .u64 0, .int .u64 0, .int .u64 0, .int .u64 0] 81)).alloc (.cells #[.int .u64 ((word (leftF g n t) 0 : Nat) : Int), .int .u64 ((word (leftF g n t) 1 : Nat) : Int), .int .u64 ((word (leftF g n t) 2 : Nat) : Int), .int .u64 ((word (leftF g n t) 3 : Nat) : Int)] 81)) = w4
      intro hB4 p4 r4 hz4
      have hw0 := B2.out.size
      have hplt : p < w2.heap.size := R2.out.lt
      have M4 := M2.out.below hB4
      have mlt : ∀ D ∈ Ds, D < w4.heap.size := fun D hD => M4.lt hD
      have T4 : Tab w4 := (HT.out.below B2.out).below hB4
      have hBw : Below w.heap.size w w4 := B2.out.trans (hB4.mono hw0)
      have BX4 : Boxed w4 w.heap.size 69 (.pointer (some ⟨b, 0, none⟩)) := (hB4.block _ BX2.out.lt).trans BX2.out
      have L4 : RowIn w4 p (leftF g n t) := R2.out.below hB4 hplt
      refine wpIn_rangeFunc_ownG rfl (by omega) (gf := 136) (lb := #[.pointer (some ⟨w2.heap.size + 1, 0, none⟩)]) rfl trivial (enters_of Tryd.func136 (by kernel_rfl) rfl)
        (elements1_stops _ w.heap.size (w2.heap.size + 1) (leftF g n t) w4 (by omega) (HLF.out t) r4 (by omega) htab T4) belowK_t (belowK_b (by omega)) (Below.refl _ _) (fun _ => rfl)
        (fun pre W => (RowIn W w2.heap.size (topsOf g (leftF g n t) (natsOf pre)) ∧ RowIn W p (leftF g n t) ∧ Boxed W w.heap.size 69 (.pointer (some ⟨b, 0, none⟩))) ∧ MarksAt w.heap.size Ds W ∧ Below w.heap.size w W)
        (fun _ _ _ => False)
        (OwnFrom.and (Own.from (fun _ A B row hs hg hr => ⟨hs.1.kept hg hr, hs.2.1.kept hg hr, blk_kept hs.2.2 hg hr⟩) _) (OwnFrom.and (MarksAt.own mlt) (ownFrom_below (Nat.le_refl _) (by omega))))
        (fun _ _ _ _ _ hs _ _ => hs)
        ⟨⟨p4, L4, BX4⟩, M4, hBw⟩
        (fun x => { tmps := #[.pointer (some ⟨b, 0, none⟩), .pointer (some ⟨w.heap.size, 0, none⟩), .int .i64 0, .int .i64 t, .pointer (some ⟨p, 0, none⟩), .pointer (some ⟨w2.heap.size, 0, none⟩), .int .i64 ((x.1 : Nat) : Int), .pointer (some ⟨b, 0, none⟩), rowV (allF n), rowV (leftF g n t), .bool false, .bool true, u12, u13, rowV (leftF g n t), .func (.func 136) #[] #[.pointer (some ⟨w2.heap.size + 1, 0, none⟩)], .int .i64 ((x.1 : Nat) : Int), u17, u18, u19, u20, u21, u22, u23, u24, u25, u26, u27, u28, u29, u30, u31, u32, undef], defers := [] }) ?assign ?body ?done ?stop
      case assign =>
        intro l x W K hK
        unfold encBt
        gi_wp2
        exact hK
      case body =>
        rintro l pre x W ⟨⟨h1, h0, hp'⟩, hM, hB⟩ _
        obtain ⟨k, hkm⟩ := x
        dsimp only
        have hk := HSUB.out t k hkm
        have hk0 : (0 : Int) ≤ (k : Int) := by omega
        have hk1 : (k : Int) < 200 := by omega
        obtain ⟨c0, c1, c2, c3⟩ := (HG.out.below hB hglt).row k (by omega)
        obtain ⟨s0, s1, s2, s3⟩ := h0.cells
        have hcp := hp'.cell
        have hmx : Tryd.prog.follows .mixedOrders = true := by kernel_rfl
        have heq := fun (w : World) => run_eq4 9998 ((word (g k &&& leftF g n t) 0 : Nat) : Int) ((word (g k &&& leftF g n t) 1 : Nat) : Int) ((word (g k &&& leftF g n t) 2 : Nat) : Int) ((word (g k &&& leftF g n t) 3 : Nat) : Int) ((word (2 ^ k) 0 : Nat) : Int) ((word (2 ^ k) 1 : Nat) : Int) ((word (2 ^ k) 2 : Nat) : Int) ((word (2 ^ k) 3 : Nat) : Int) w
        rw [row_eq (by rw [Nat.and_comm]; exact Nat.and_lt_two_pow _ (HG.out.2 k)) (Nat.pow_lt_pow_right (by decide) (by omega))] at heq
        have H1 := Lib.hid h1
        have H0 := Lib.hid h0
        have HP := Lib.hid hp'
        have HMM := Lib.hid hM
        have HBB := Lib.hid hB
        clear h1 h0 hp' hM hB
        by_cases he : g k &&& leftF g n t = 2 ^ k
        · rw [decide_eq_true he] at heq
          have HE := Lib.hid he
          clear he
          gi_wp2
          first | (gi_region_with_o (first | (refine ⟨trivial, ?_⟩; gi_at_call 121; refine (CallsIn.inRound l (callsIn_wide.2 (and_any _ _ _))).mono ?_; rintro e wa ⟨rfl, hba⟩; have ⟨hca, hfa⟩ := bcell hba; have hza := bsize hba; first | (have BN : Below W.heap.size W wa := BL.trans (hba.mono BL.size); clear BL; have BL := BN; clear BN) | (have BL : Below W.heap.size W wa := (Below.refl _ W).drew.trans hba); clear hba) | (refine ⟨trivial, ?_⟩; gi_at_call 126; refine (CallsIn.inRound l (callsIn_wide.2 (rowOf_any _ k _ rfl (by omega)))).mono ?_; rintro e wb ⟨rfl, hbb⟩; have ⟨hcb, hfb⟩ := bcell hbb; have hzb := bsize hbb; first | (have BN : Below W.heap.size W wb := BL.trans (hbb.mono BL.size); clear BL; have BL := BN; clear BN) | (have BL : Below W.heap.size W wb := (Below.refl _ W).drew.trans hbb); clear hbb))) | fail
          all_goals
            gi_wp2
            refine ⟨trivial, (CallsIn.inRound l (callsIn_wide.2 (rowAdd_any w2.heap.size (topsOf g (leftF g n t) (natsOf pre)) k _ _ rfl (H1.out.below BL H1.out.lt) (by omega)))).mono ?_⟩
            rintro e w' ⟨rfl, m, rfl⟩
            gi_wp2
            exact ⟨((keeps_below BL).trans (keeps_put _ _ _ _)).from _, below_put (BL.mono HBB.out.size) _ (by omega) _ _, ⟨by rw [natsOf_snoc, topsOf_snoc, if_pos HE.out]; exact (H1.out.below BL H1.out.lt).put (by omega) m, (H0.out.below BL H0.out.lt).apart m (by omega) _ _, boxed_apart ((BL.block _ HP.out.lt).trans HP.out) m (by omega) _ _⟩, (HMM.out.below BL).keeps (keeps_put _ _ _ _), below_put (HBB.out.trans (BL.mono HBB.out.size)) _ (by omega) _ _⟩
        · rw [decide_eq_false he] at heq
          have HE := Lib.hid he
          clear he
          gi_wp2
          first | (gi_region_with_o (first | (refine ⟨trivial, ?_⟩; gi_at_call 121; refine (CallsIn.inRound l (callsIn_wide.2 (and_any _ _ _))).mono ?_; rintro e wa ⟨rfl, hba⟩; have ⟨hca, hfa⟩ := bcell hba; have hza := bsize hba; first | (have BN : Below W.heap.size W wa := BL.trans (hba.mono BL.size); clear BL; have BL := BN; clear BN) | (have BL : Below W.heap.size W wa := (Below.refl _ W).drew.trans hba); clear hba) | (refine ⟨trivial, ?_⟩; gi_at_call 126; refine (CallsIn.inRound l (callsIn_wide.2 (rowOf_any _ k _ rfl (by omega)))).mono ?_; rintro e wb ⟨rfl, hbb⟩; have ⟨hcb, hfb⟩ := bcell hbb; have hzb := bsize hbb; first | (have BN : Below W.heap.size W wb := BL.trans (hbb.mono BL.size); clear BL; have BL := BN; clear BN) | (have BL : Below W.heap.size W wb := (Below.refl _ W).drew.trans hbb); clear hbb))) | fail
          all_goals
            gi_wp2
            exact ⟨(keeps_below BL).from _, BL.mono HBB.out.size, ⟨by rw [natsOf_snoc, topsOf_snoc, if_neg HE.out]; exact H1.out.below BL H1.out.lt, H0.out.below BL H0.out.lt, (BL.block _ HP.out.lt).trans HP.out⟩, HMM.out.below BL, HBB.out.trans (BL.mono HBB.out.size)⟩
      case done =>
        rintro D ys W hD rfl ⟨⟨h1, h0, hp'⟩, hM, hB⟩ hK
        rw [natsOf_all] at h1
        have H1 := Lib.hid h1
        have H0 := Lib.hid h0
        have HP := Lib.hid hp'
        have HMM := Lib.hid (MarksAt.cons hM (fun E hE => Nat.lt_of_lt_of_le (mlt E hE) hD) (by omega) hK)
        have HBB := Lib.hid hB
        obtain ⟨q0, q1, q2, q3⟩ := h1.cells
        obtain ⟨s0, s1, s2, s3⟩ := h0.cells
        have hfz := h0.frozen
        clear h1 h0 hp' hM hB hK
        gi_wp2
        refine ⟨trivial, (callsIn_wide.2 (without_any _ _ _)).mono ?_⟩
        rintro e w5 ⟨rfl, hb5⟩
        have ⟨hc5, hf5⟩ := bcell hb5
        have hplt5 := H0.out.lt
        gi_wp2
        refine ⟨?_, ?measure⟩
        refine ⟨t + 1, w5.heap.size, D :: Ds, ?_⟩
        (repeat apply Exists.intro)
        refine ⟨?rel, ?frame⟩
        case frame => rw [show (((t + 1 : Nat)) : Int) = (t : Int) + 1 from by omega]; rfl
        case rel =>
          have hz5 := hb5.size
          have hd : diff (leftF g n t) (topsOf g (leftF g n t) (elems (leftF g n t))) < 2 ^ 256 := HLF.out (t + 1)
          refine ⟨by omega, ?_, by have := HBB.out.size; omega, ?_, ((HMM.out.below hb5).keeps ((((KeepsOthers.setCell _ _ _).trans (KeepsOthers.setCell _ _ _)).trans (KeepsOthers.setCell _ _ _)).trans (KeepsOthers.setCell _ _ _))).keeps (KeepsOthers.alloc _ _), (((((HBB.out.trans (hb5.mono HBB.out.size)).setCell (by show _ ≤ p; omega) _).setCell (by show _ ≤ p; omega) _).setCell (by show _ ≤ p; omega) _).setCell (by show _ ≤ p; omega) _).alloc (by simp only [size_setCell]; have := HBB.out.size; omega) _⟩
          · have h := RowIn.alloc ((((w5.setCell ⟨p, 0, none⟩ (.int .u64 ((word (diff (leftF g n t) (topsOf g (leftF g n t) (elems (leftF g n t)))) 0 : Nat) : Int))).setCell ⟨p, 1, none⟩ (.int .u64 ((word (diff (leftF g n t) (topsOf g (leftF g n t) (elems (leftF g n t)))) 1 : Nat) : Int))).setCell ⟨p, 2, none⟩ (.int .u64 ((word (diff (leftF g n t) (topsOf g (leftF g n t) (elems (leftF g n t)))) 2 : Nat) : Int))).setCell ⟨p, 3, none⟩ (.int .u64 ((word (diff (leftF g n t) (topsOf g (leftF g n t) (elems (leftF g n t)))) 3 : Nat) : Int))) hd
            simp only [size_setCell] at h
            exact h
          · refine Boxed.alloc ?_ _
            exact ((((((hb5.block _ HP.out.lt).trans HP.out) : Boxed w5 w.heap.size 69 (.pointer (some ⟨b, 0, none⟩))) |> fun h => boxed_other h (by omega) _ _) |> fun h => boxed_other h (by omega) _ _) |> fun h => boxed_other h (by omega) _ _) |> fun h => boxed_other h (by omega) _ _
        case measure => simp [intOf]; omega
      case stop =>
        rintro D c pre W _ _ h _
        exact h.elim
    · obtain rfl : t = H := by omega
      rw [decide_eq_true HZ.out] at hemp
      gi_wp2
      refine ⟨trivial, (callsIn_wide.2 hemp).mono ?_⟩
      clear hemp
      rintro e w2 ⟨rfl, hb2⟩
      have M2 := Lib.hid (HM.out.below hb2)
      have B2 := Lib.hid (HB.out.trans (hb2.mono HB.out.size))
      clear hb2
      gi_wp2
      refine leaves_marks (n₀ := w.heap.size) (K := fun W => Below w.heap.size w W) (fun W D h h1 h2 => h.trans (belowK_b (w := w) (Nat.le_refl _) W D _ _ h1 h2 rfl rfl)) (fun W h => ⟨_, results_tmp rfl _ _ _, rfl, h⟩) Ds _ M2.out B2.out
end Go.Proofs.YtjfbjfclcpcaiaaDoor


