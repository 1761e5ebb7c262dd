/- The program's elements that cover one (grid.covers). -/
import Derived.Test.YtjlemkmpmjdjaaaDoorPa13
import Derived.Test.YtjlemkmpmjdjaaaDoorPa8
import Derived.Sort.CutIn
namespace Go.Proofs.YtjlemkmpmjdjaaaDoor
open Go.RowKit Go.Deep Go.Shelf
attribute [local go_sem] Oper.semAt_some

theorem above_lt' {g : Nat → Nat} (hg : ∀ i, g i < 2 ^ 256) (i : Nat) : aboveF g i < 2 ^ 256 := diff_lt _ (hg i)

theorem zero_drew (W W' : World) (hb : Below (W.alloc (.cells #[.int .u64 0, .int .u64 0, .int .u64 0, .int .u64 0] 58)).drew.heap.size (W.alloc (.cells #[.int .u64 0, .int .u64 0, .int .u64 0, .int .u64 0] 58)).drew W') : RowIn W' W.heap.size 0 :=
  ⟨(hb.block W.heap.size (by show W.heap.size < (W.alloc _).heap.size; simp)).trans (rowIn_zero W).1, Nat.two_pow_pos 256⟩
theorem zero_plain (W W' : World) (hb : Below (W.alloc (.cells #[.int .u64 0, .int .u64 0, .int .u64 0, .int .u64 0] 58)).heap.size (W.alloc (.cells #[.int .u64 0, .int .u64 0, .int .u64 0, .int .u64 0] 58)) W') : RowIn W' W.heap.size 0 :=
  ⟨(hb.block W.heap.size (by simp)).trans (rowIn_zero W).1, Nat.two_pow_pos 256⟩

theorem row_other {W : World} {p q r : Nat} (h : RowIn W p r) (hq : p ≠ q) (o : Nat) (v : Value) : RowIn (W.setCell ⟨q, o, none⟩ v) p r :=
  ⟨by rw [heap_setCell_other _ ⟨q, o, none⟩ p v hq]; exact h.1, h.2⟩

set_option maxRecDepth 100000 in
set_option maxHeartbeats 40000000 in
theorem covers_any (b i : Nat) (x : Int) (g : Nat → Nat) (w : World) (hg : GridAt w b g) (hT : Tab w) (hx : x = i) (hi : i < 200) (hel : ∀ k ∈ elems (aboveF g i), k < 200) :
    Calls Tryd.prog 81 #[.pointer (some ⟨b, 0, none⟩), .int .i64 x] w (SaysR (coversF g i) w) := by
  subst hx
  have htab : 0 < w.heap.size := cell_lt (hT 0 (by omega))
  have hglt := hg.lt
  have hi0 : (0 : Int) ≤ (i : Int) := by omega
  have hi1 : (i : Int) < 200 := by omega
  have s1 : (w.alloc (.cells #[.pointer (some ⟨b, 0, none⟩)] 96)).heap.size = w.heap.size + 1 := World.size_alloc _ _
  have hb2 : Below w.heap.size w ((w.alloc (.cells #[.pointer (some ⟨b, 0, none⟩)] 96)).alloc (.cells #[.int .u64 0, .int .u64 0, .int .u64 0, .int .u64 0] 58)) := ((Below.refl _ w).alloc (Nat.le_refl _) _).alloc (by simp) _
  have hbx : Boxed ((w.alloc (.cells #[.pointer (some ⟨b, 0, none⟩)] 96)).alloc (.cells #[.int .u64 0, .int .u64 0, .int .u64 0, .int .u64 0] 58)) w.heap.size 96 (.pointer (some ⟨b, 0, none⟩)) := (Boxed.new w _ _).alloc _
  have hrz := rowIn_zero (w.alloc (.cells #[.pointer (some ⟨b, 0, none⟩)] 96))
  rw [s1] at hrz
  have hz2 : ((w.alloc (.cells #[.pointer (some ⟨b, 0, none⟩)] 96)).alloc (.cells #[.int .u64 0, .int .u64 0, .int .u64 0, .int .u64 0] 58)).heap.size = w.heap.size + 2 := by rw [World.size_alloc, s1]
  refine (callsIn_wide (n := 8)).1 ?_
  refine callsIn_of_wp_marks Tryd.func81 rfl trivial (wpIn_mono (Q := NoPanic (bodyPostM Fence.wide 8 Tryd.prog Tryd.f81 (SaysR (coversF g i) w))) ?_ NoPanic.le) rfl
  simp only [Tryd.ntmps81, List.size_toArray, List.length_cons, List.length_nil, Nat.reduceAdd, Nat.reduceSub, Array.replicate_succ, Array.replicate_zero, List.push_toArray, List.append_toArray, List.nil_append, List.cons_append]
  clear s1
  gi_upto_region 1 with fail
  generalize ((w.alloc (.cells #[.pointer (some ⟨b, 0, none⟩)] 96)).alloc (.cells #[.int .u64 0, .int .u64 0, .int .u64 0, .int .u64 0] 58)) = w2 at hb2 hbx hrz hz2 ⊢
  have HG := Lib.hid hg
  have HT := Lib.hid hT
  have HEL := Lib.hid hel
  have HB2 := Lib.hid hb2
  have HBX := Lib.hid hbx
  have HRZ := Lib.hid hrz
  clear hg hT hel hb2 hbx hrz
  gi_cut [5] from 8 (fun s5 wx => ∃ p : Nat, s5 = .pointer (some ⟨p, 0, none⟩) ∧ w.heap.size + 2 ≤ p ∧ RowIn wx p (aboveF g i) ∧ Below w2.heap.size w2 wx)
  case first =>
    have hbc := HBX.out.cell
    have hbc2 := cell_alloc_any hbc
    obtain ⟨c0, c1, c2, c3⟩ := (HG.out.below HB2.out hglt).row i hi
    have e0 := cell_alloc_any c0
    have e1 := cell_alloc_any c1
    have e2 := cell_alloc_any c2
    have e3 := cell_alloc_any c3
    have hle2 : w.heap.size ≤ w2.heap.size := by omega
    have hl1 : b < w2.heap.size := by omega
    have hl2 : b < w2.heap.size + 1 := by omega
    have hl3 : w.heap.size < w2.heap.size := by omega
    have hl4 : w.heap.size < w2.heap.size + 1 := by omega
    have hmx : Tryd.prog.follows .mixedOrders = true := by kernel_rfl
    have hdr : ∀ W : World, W.drew.heap = W.heap := fun _ => rfl
    first | (gi_region_with_o (first | (refine ⟨trivial, ?_⟩; gi_at_call 107; refine (callsIn_wide.2 (rowOf_any _ i _ rfl (by omega))).mono ?_; rintro e wa ⟨rfl, hba⟩; have ⟨hca, hfa⟩ := bcell hba; have hza := bsize hba; have BA : Below w2.heap.size w2 wa := (by first | exact (Below.refl _ w2).drew.trans hba | exact (((Below.refl _ w2).alloc (Nat.le_refl _) _).drew).trans (hba.mono (by simp [hdr]))); obtain ⟨m0, m1, m2, m3⟩ := (HG.out.below (HB2.out.trans (BA.mono hle2)) hglt).row i hi; have n0 := cell_alloc_any m0; have n1 := cell_alloc_any m1; have n2 := cell_alloc_any m2; have n3 := cell_alloc_any m3; have mb : wa.cell? ⟨w.heap.size, 0, none⟩ = some (.pointer (some ⟨b, 0, none⟩)) := (BA.cell (p := ⟨w.heap.size, 0, none⟩) hl3).trans hbc; have mb2 := cell_alloc_any mb; clear hca hfa; first | (have RZ : RowIn wa w2.heap.size 0 := zero_drew w2 wa hba) | skip) | (refine ⟨trivial, ?_⟩; gi_at_call 106; refine (callsIn_wide.2 (without_any _ _ _)).mono ?_; rintro e wb ⟨rfl, hbb⟩; have ⟨hcb, hfb⟩ := bcell hbb; have hzb := bsize hbb; have BB : Below w2.heap.size w2 wb := (by first | exact BA.trans (hbb.mono BA.size) | exact (BA.alloc BA.size _).trans (hbb.mono (by have := BA.size; simp; omega))); (first | (have RY : RowIn wb w2.heap.size 0 := RZ.below hbb RZ.lt) | (have RY : RowIn wb wa.heap.size 0 := zero_plain wa wb hbb) | skip); (first | (obtain ⟨z0, z1, z2, z3⟩ := RY.cells; have hfz := RY.frozen; (try (rw [hz2] at z0 z1 z2 z3 hfz)); clear hcb hfb) | skip)))) | fail
    all_goals
      gi_wp2
      gi_meet
    all_goals rw [show aboveF g i = diff (g i) (2 ^ i) from rfl]
    all_goals
      first
        | (refine ⟨wb.heap.size, rfl, ?_⟩; exact ⟨by have := BB.size; omega, RowIn.alloc _ (diff_lt _ (HG.out.2 i)), BB.alloc BB.size _⟩)
        | (refine ⟨wa.heap.size, rfl, ?_⟩; exact ⟨by have := BA.size; omega, RowIn.set4 RY.1 (diff_lt _ (HG.out.2 i)), (((BB.setCell BA.size _).setCell BA.size _).setCell BA.size _).setCell BA.size _⟩)
        | (refine ⟨w.heap.size + 2, rfl, ?_⟩; rw [hz2] at RY; exact ⟨Nat.le_refl _, RowIn.set4 RY.1 (diff_lt _ (HG.out.2 i)), (((BB.setCell (Nat.le_of_eq hz2) _).setCell (Nat.le_of_eq hz2) _).setCell (Nat.le_of_eq hz2) _).setCell (Nat.le_of_eq hz2) _⟩)
  case rest =>
    obtain ⟨p, rfl, hp, hr, hB⟩ := hcut
    have hlt := hr.2
    have hplt := hr.lt
    have HBX1 : Hid (Boxed wc w.heap.size 96 (.pointer (some ⟨b, 0, none⟩))) := Lib.hid ((hB.block _ (by omega)).trans HBX.out)
    have HRZ1 : Hid (RowIn wc (w.heap.size + 1) 0) := Lib.hid (HRZ.out.below hB (by omega))
    have HBW : Hid (Below w.heap.size w wc) := Lib.hid (HB2.out.trans (hB.mono (by omega)))
    have hr' := hr.below ((Below.refl _ wc).alloc (Nat.le_refl _) (.cells #[.int .u64 ((word (aboveF g i) 0 : Nat) : Int), .int .u64 ((word (aboveF g i) 1 : Nat) : Int), .int .u64 ((word (aboveF g i) 2 : Nat) : Int), .int .u64 ((word (aboveF g i) 3 : Nat) : Int)] 58)) hplt
    obtain ⟨r0, r1, r2, r3⟩ := hr.cells
    obtain ⟨q0, q1, q2, q3⟩ := hr'.cells
    clear hr' HBX HRZ HB2
    gi_wp2
    refine ⟨trivial, (callsIn_wide.2 (elements_any (aboveF g i) _)).mono ?_⟩
    rintro e w3 ⟨rfl, rfl⟩
    gi_wp2
    have hB4 : Below wc.heap.size wc ((wc.alloc (.cells #[.int .u64 ((word (aboveF g i) 0 : Nat) : Int), .int .u64 ((word (aboveF g i) 1 : Nat) : Int), .int .u64 ((word (aboveF g i) 2 : Nat) : Int), .int .u64 ((word (aboveF g i) 3 : Nat) : Int)] 58)).alloc (.cells #[.int .u64 ((word (aboveF g i) 0 : Nat) : Int), .int .u64 ((word (aboveF g i) 1 : Nat) : Int), .int .u64 ((word (aboveF g i) 2 : Nat) : Int), .int .u64 ((word (aboveF g i) 3 : Nat) : Int)] 58)) := ((Below.refl _ wc).alloc (Nat.le_refl _) _).alloc (by simp) _
    have p4 : RowIn ((wc.alloc (.cells #[.int .u64 ((word (aboveF g i) 0 : Nat) : Int), .int .u64 ((word (aboveF g i) 1 : Nat) : Int), .int .u64 ((word (aboveF g i) 2 : Nat) : Int), .int .u64 ((word (aboveF g i) 3 : Nat) : Int)] 58)).alloc (.cells #[.int .u64 ((word (aboveF g i) 0 : Nat) : Int), .int .u64 ((word (aboveF g i) 1 : Nat) : Int), .int .u64 ((word (aboveF g i) 2 : Nat) : Int), .int .u64 ((word (aboveF g i) 3 : Nat) : Int)] 58)) wc.heap.size (aboveF g i) := (RowIn.alloc wc hlt).below ((Below.refl _ _).alloc (Nat.le_refl _) _) (RowIn.alloc wc hlt).lt
    have r4 : RowIn ((wc.alloc (.cells #[.int .u64 ((word (aboveF g i) 0 : Nat) : Int), .int .u64 ((word (aboveF g i) 1 : Nat) : Int), .int .u64 ((word (aboveF g i) 2 : Nat) : Int), .int .u64 ((word (aboveF g i) 3 : Nat) : Int)] 58)).alloc (.cells #[.int .u64 ((word (aboveF g i) 0 : Nat) : Int), .int .u64 ((word (aboveF g i) 1 : Nat) : Int), .int .u64 ((word (aboveF g i) 2 : Nat) : Int), .int .u64 ((word (aboveF g i) 3 : Nat) : Int)] 58)) (wc.heap.size + 1) (aboveF g i) := by
      have h := RowIn.alloc (wc.alloc (.cells #[.int .u64 ((word (aboveF g i) 0 : Nat) : Int), .int .u64 ((word (aboveF g i) 1 : Nat) : Int), .int .u64 ((word (aboveF g i) 2 : Nat) : Int), .int .u64 ((word (aboveF g i) 3 : Nat) : Int)] 58)) hlt
      rw [World.size_alloc] at h
      exact h
    have hz4 : ((wc.alloc (.cells #[.int .u64 ((word (aboveF g i) 0 : Nat) : Int), .int .u64 ((word (aboveF g i) 1 : Nat) : Int), .int .u64 ((word (aboveF g i) 2 : Nat) : Int), .int .u64 ((word (aboveF g i) 3 : Nat) : Int)] 58)).alloc (.cells #[.int .u64 ((word (aboveF g i) 0 : Nat) : Int), .int .u64 ((word (aboveF g i) 1 : Nat) : Int), .int .u64 ((word (aboveF g i) 2 : Nat) : Int), .int .u64 ((word (aboveF g i) 3 : Nat) : Int)] 58)).heap.size = wc.heap.size + 2 := by simp
    revert hB4 p4 r4 hz4
    generalize ((wc.alloc (.cells #[.int .u64 ((word (aboveF g i) 0 : Nat) : Int), .int .u64 ((word (aboveF g i) 1 : Nat) : Int), .int .u64 ((word (aboveF g i) 2 : Nat) : Int), .int .u64 ((word (aboveF g i) 3 : Nat) : Int)] 58)).alloc (.cells #[.int .u64 ((word (aboveF g i) 0 : Nat) : Int), .int .u64 ((word (aboveF g i) 1 : Nat) : Int), .int .u64 ((word (aboveF g i) 2 : Nat) : Int), .int .u64 ((word (aboveF g i) 3 : Nat) : Int)] 58)) = w4
    intro hB4 p4 r4 hz4
    have hw0 := HBW.out.size
    have T4 : Tab w4 := (HT.out.below HBW.out).below hB4
    have hBw : Below w.heap.size w w4 := HBW.out.trans (hB4.mono hw0)
    have BX4 : Boxed w4 w.heap.size 96 (.pointer (some ⟨b, 0, none⟩)) := (hB4.block _ HBX1.out.lt).trans HBX1.out
    have Z4 : RowIn w4 (w.heap.size + 1) 0 := HRZ1.out.below hB4 HRZ1.out.lt
    have hm1 : w.heap.size + 2 < wc.heap.size := by omega
    clear r0 r1 r2 r3 q0 q1 q2 q3 hr hB
    refine wpIn_rangeFunc_ownG rfl (by omega) (gf := 125) (lb := #[.pointer (some ⟨wc.heap.size + 1, 0, none⟩)]) rfl trivial (enters_of Tryd.func125 (by kernel_rfl) rfl)
      (elements1_stops _ w.heap.size (wc.heap.size + 1) (aboveF g i) w4 (by omega) hlt r4 (by omega) htab T4) belowK_t (belowK_b (by omega)) (Below.refl _ _) (fun _ => rfl)
      (fun pre W => (RowIn W wc.heap.size (lessF g (natsOf pre) (aboveF g i)) ∧ RowIn W (w.heap.size + 1) 0 ∧ Boxed W w.heap.size 96 (.pointer (some ⟨b, 0, none⟩))) ∧ Below w.heap.size w W)
      (fun _ _ _ => False)
      (OwnFrom.and (Own.from (fun _ A B row hs hg hr => ⟨hs.1.kept hg hr, hs.2.1.kept hg hr, blk_kept hs.2.2 hg hr⟩) _) (ownFrom_below (Nat.le_refl _) (by omega)))
      (fun _ _ _ _ _ hs _ _ => hs)
      ⟨⟨p4, Z4, BX4⟩, hBw⟩
      (fun x => { tmps := #[.pointer (some ⟨b, 0, none⟩), .int .i64 ((i : Nat) : Int), .pointer (some ⟨w.heap.size, 0, none⟩), undef, .pointer (some ⟨w.heap.size + 1, 0, none⟩), .pointer (some ⟨p, 0, none⟩), .pointer (some ⟨wc.heap.size, 0, none⟩), .int .i64 ((x.1 : Nat) : Int), u8, u9, u10, u11, u12, u13, u14, u15, rowV (aboveF g i), rowV (aboveF g i), .func (.func 125) #[] #[.pointer (some ⟨wc.heap.size + 1, 0, none⟩)], .int .i64 ((x.1 : Nat) : Int), u20, u21, u22, u23, u24, u25, u26, u27, u28, u29, u30], defers := [] }) ?assign ?body ?done ?stop
    case assign =>
      intro l x W K hK
      unfold encBt
      gi_wp2
      exact hK
    case body =>
      rintro l pre x W ⟨⟨h6, hz0, hbx⟩, hB⟩ _
      obtain ⟨k, hkm⟩ := x
      dsimp only
      have hk := HEL.out k hkm
      have hk0 : (0 : Int) ≤ (k : Int) := by omega
      have hk1 : (k : Int) < 200 := by omega
      obtain ⟨c0, c1, c2, c3⟩ := (HG.out.below hB hglt).row k (by omega)
      obtain ⟨s0, s1, s2, s3⟩ := h6.cells
      have hfz := h6.frozen
      have hcp := hbx.cell
      have hmx : Tryd.prog.follows .mixedOrders = true := by kernel_rfl
      have H6 := Lib.hid h6
      have HZ0 := Lib.hid hz0
      have HXB := Lib.hid hbx
      have HBB := Lib.hid hB
      have hx1 := h6.lt
      have hx2 := hbx.lt
      have hx3 : b < W.heap.size := by have := hB.size; omega
      clear h6 hz0 hbx hB
      refine wpIn_mono (Q := NoPanic _) ?_ NoPanic.le
      gi_wp2
      refine wpIn_region_any hmx (wpAnyIn_round (F := Fence.wide) (noDefer (by kernel_rfl)) _ _ _ _ ?_)
      try (change wpAnyIn _ _ _ _ _ _ _ _ _ (World.drew _))
      refine wpAnyIn_take (i := 2) (v := .int .i64 (k : Int)) rfl rfl (by kernel_rfl) (by kernel_rfl) (by kernel_rfl) (fun _ _ _ h => h) ⟨Or.inl ⟨by rfl, (by intro w; go_simp)⟩, fun _ => rfl⟩ ?_
      refine wpAnyIn_take (i := 6) (v := .int .i64 (k : Int)) rfl rfl (by kernel_rfl) (by kernel_rfl) (by kernel_rfl) (fun _ _ _ h => h) ⟨Or.inl ⟨by rfl, (by intro w; go_simp)⟩, fun _ => rfl⟩ ?_
      refine wpAnyIn_ready (rs := [0, 1, 7]) (by kernel_rfl) (by simp) ?_
      refine AllReadyIn.cons rfl (fun K hK => ?_) ?_
      · go_simp
        try (refine hK _ _ ?_; clear hK K)
        refine wpAnyIn_ready (rs := [1, 7]) (by kernel_rfl) (by simp) ?_
        refine AllReadyIn.cons rfl (fun K hK => ?_) ?_
        · go_simp
          try (refine hK _ _ ?_; clear hK K)
          refine wpAnyIn_take (i := 3) (v := .pointer (some ⟨b, 0, none⟩)) rfl rfl (by kernel_rfl) (by kernel_rfl) (by kernel_rfl) (fun _ _ _ h => h) ⟨Or.inl ⟨by rfl, (by intro w; go_simp)⟩, fun _ => rfl⟩ ?_
          refine wpAnyIn_take (i := 4) (v := .pointer (some ⟨b, k * 4, none⟩)) rfl rfl (by kernel_rfl) (by kernel_rfl) (by kernel_rfl) (fun _ _ _ h => h) ⟨Or.inl ⟨by rfl, (by intro w; go_simp)⟩, fun _ => rfl⟩ ?_
          refine wpAnyIn_ready (rs := [5, 7]) (by kernel_rfl) (by simp) ?_
          refine AllReadyIn.cons rfl (fun K hK => ?_) ?_
          · go_simp
            try (refine hK _ _ ?_; clear hK K)
            refine wpAnyIn_ready (rs := [7]) (by kernel_rfl) (by simp) ?_
            refine AllReadyIn.cons rfl (fun K hK => ?_) ?_
            · go_simp
              gi_wp2_with (refine ⟨trivial, ?_⟩; gi_at_call 107; refine (callsIn_wide.2 (rowOf_any _ k _ rfl (by omega))).mono ?_; rintro e wb ⟨rfl, hbb⟩; (first | (have BN : Below W.heap.size W wb := BL.trans (hbb.mono BL.size); clear BL; have BL := BN; clear BN) | (have BL : Below W.heap.size W wb := (Below.refl _ W).drew.trans hbb)); clear hbb; have ⟨hcb, hfb⟩ := bcell BL; have hzb := bsize BL)
              try (refine hK _ _ ?_; clear hK K)
              refine wpAnyIn_ready (rs := [8]) (by kernel_rfl) (by simp) ?_
              refine AllReadyIn.cons rfl (fun K hK => ?_) ?_
              · go_simp
                gi_wp2_with (refine ⟨trivial, ?_⟩; gi_at_call 106; refine (callsIn_wide.2 (without_any _ _ _)).mono ?_; rintro e wa ⟨rfl, hba⟩; (first | (have BN : Below W.heap.size W wa := BL.trans (hba.mono BL.size); clear BL; have BL := BN; clear BN) | (have BL : Below W.heap.size W wa := (Below.refl _ W).drew.trans hba)); clear hba; have ⟨hca, hfa⟩ := bcell BL; have hza := bsize BL)
                try (refine hK _ _ ?_; clear hK K)
                refine wpAnyIn_ready (rs := [9]) (by kernel_rfl) (by simp) ?_
                refine AllReadyIn.cons rfl (fun K hK => ?_) ?_
                · go_simp
                  gi_wp2_with (refine ⟨trivial, ?_⟩; gi_at_call 106; refine (callsIn_wide.2 (without_any _ _ _)).mono ?_; rintro e wa ⟨rfl, hba⟩; (first | (have BN : Below W.heap.size W wa := BL.trans (hba.mono BL.size); clear BL; have BL := BN; clear BN) | (have BL : Below W.heap.size W wa := (Below.refl _ W).drew.trans hba)); clear hba; have ⟨hca, hfa⟩ := bcell BL; have hza := bsize BL)
                  try (refine hK _ _ ?_; clear hK K)
                  refine wpAnyIn_ready (rs := [10]) (by kernel_rfl) (by simp) ?_
                  refine AllReadyIn.cons rfl (fun K hK => ?_) ?_
                  · go_simp
                    try (refine hK _ _ ?_; clear hK K)
                    refine wpAnyIn_done (by kernel_rfl) ?_ _
                    gi_wp2
                    dsimp only [NoPanic]
                    refine ⟨((keeps_below BL).trans (((((KeepsOthers.setCell _ _ _).trans (KeepsOthers.setCell _ _ _)).trans (KeepsOthers.setCell _ _ _)).trans (KeepsOthers.setCell _ _ _)))).from _, ((((BL.mono HBB.out.size).setCell hw0 _).setCell hw0 _).setCell hw0 _).setCell hw0 _, ⟨?_, ?_, ?_⟩, ((((HBB.out.trans (BL.mono HBB.out.size)).setCell hw0 _).setCell hw0 _).setCell hw0 _).setCell hw0 _⟩
                    · rw [natsOf_snoc, lessF_snoc]
                      exact RowIn.set4 (H6.out.below BL H6.out.lt).1 (diff_lt _ H6.out.2)
                    · exact row_other (row_other (row_other (row_other (HZ0.out.below BL HZ0.out.lt) (by omega) _ _) (by omega) _ _) (by omega) _ _) (by omega) _ _
                    · exact boxed_other (boxed_other (boxed_other (boxed_other ((BL.block _ HXB.out.lt).trans HXB.out) (by omega) _ _) (by omega) _ _) (by omega) _ _) (by omega) _ _
                  exact AllReadyIn.nil
                exact AllReadyIn.nil
              exact AllReadyIn.nil
            exact AllReadyIn.nil
          refine AllReadyIn.cons rfl (fun K hK => ?_) ?_
          · go_simp
            gi_wp2_with (refine ⟨trivial, ?_⟩; gi_at_call 107; refine (callsIn_wide.2 (rowOf_any _ k _ rfl (by omega))).mono ?_; rintro e wb ⟨rfl, hbb⟩; (first | (have BN : Below W.heap.size W wb := BL.trans (hbb.mono BL.size); clear BL; have BL := BN; clear BN) | (have BL : Below W.heap.size W wb := (Below.refl _ W).drew.trans hbb)); clear hbb; have ⟨hcb, hfb⟩ := bcell BL; have hzb := bsize BL)
            try (refine hK _ _ ?_; clear hK K)
            refine wpAnyIn_ready (rs := [5]) (by kernel_rfl) (by simp) ?_
            refine AllReadyIn.cons rfl (fun K hK => ?_) ?_
            · go_simp
              try (refine hK _ _ ?_; clear hK K)
              refine wpAnyIn_ready (rs := [8]) (by kernel_rfl) (by simp) ?_
              refine AllReadyIn.cons rfl (fun K hK => ?_) ?_
              · go_simp
                gi_wp2_with (refine ⟨trivial, ?_⟩; gi_at_call 106; refine (callsIn_wide.2 (without_any _ _ _)).mono ?_; rintro e wa ⟨rfl, hba⟩; (first | (have BN : Below W.heap.size W wa := BL.trans (hba.mono BL.size); clear BL; have BL := BN; clear BN) | (have BL : Below W.heap.size W wa := (Below.refl _ W).drew.trans hba)); clear hba; have ⟨hca, hfa⟩ := bcell BL; have hza := bsize BL)
                try (refine hK _ _ ?_; clear hK K)
                refine wpAnyIn_ready (rs := [9]) (by kernel_rfl) (by simp) ?_
                refine AllReadyIn.cons rfl (fun K hK => ?_) ?_
                · go_simp
                  gi_wp2_with (refine ⟨trivial, ?_⟩; gi_at_call 106; refine (callsIn_wide.2 (without_any _ _ _)).mono ?_; rintro e wa ⟨rfl, hba⟩; (first | (have BN : Below W.heap.size W wa := BL.trans (hba.mono BL.size); clear BL; have BL := BN; clear BN) | (have BL : Below W.heap.size W wa := (Below.refl _ W).drew.trans hba)); clear hba; have ⟨hca, hfa⟩ := bcell BL; have hza := bsize BL)
                  try (refine hK _ _ ?_; clear hK K)
                  refine wpAnyIn_ready (rs := [10]) (by kernel_rfl) (by simp) ?_
                  refine AllReadyIn.cons rfl (fun K hK => ?_) ?_
                  · go_simp
                    try (refine hK _ _ ?_; clear hK K)
                    refine wpAnyIn_done (by kernel_rfl) ?_ _
                    gi_wp2
                    dsimp only [NoPanic]
                    refine ⟨((keeps_below BL).trans (((((KeepsOthers.setCell _ _ _).trans (KeepsOthers.setCell _ _ _)).trans (KeepsOthers.setCell _ _ _)).trans (KeepsOthers.setCell _ _ _)))).from _, ((((BL.mono HBB.out.size).setCell hw0 _).setCell hw0 _).setCell hw0 _).setCell hw0 _, ⟨?_, ?_, ?_⟩, ((((HBB.out.trans (BL.mono HBB.out.size)).setCell hw0 _).setCell hw0 _).setCell hw0 _).setCell hw0 _⟩
                    · rw [natsOf_snoc, lessF_snoc]
                      exact RowIn.set4 (H6.out.below BL H6.out.lt).1 (diff_lt _ H6.out.2)
                    · exact row_other (row_other (row_other (row_other (HZ0.out.below BL HZ0.out.lt) (by omega) _ _) (by omega) _ _) (by omega) _ _) (by omega) _ _
                    · exact boxed_other (boxed_other (boxed_other (boxed_other ((BL.block _ HXB.out.lt).trans HXB.out) (by omega) _ _) (by omega) _ _) (by omega) _ _) (by omega) _ _
                  exact AllReadyIn.nil
                exact AllReadyIn.nil
              exact AllReadyIn.nil
            exact AllReadyIn.nil
          exact AllReadyIn.nil
        refine AllReadyIn.cons rfl (fun K hK => ?_) ?_
        · go_simp
          gi_wp2_with (refine ⟨trivial, ?_⟩; gi_at_call 107; refine (callsIn_wide.2 (rowOf_any _ k _ rfl (by omega))).mono ?_; rintro e wb ⟨rfl, hbb⟩; (first | (have BN : Below W.heap.size W wb := BL.trans (hbb.mono BL.size); clear BL; have BL := BN; clear BN) | (have BL : Below W.heap.size W wb := (Below.refl _ W).drew.trans hbb)); clear hbb; have ⟨hcb, hfb⟩ := bcell BL; have hzb := bsize BL)
          try (refine hK _ _ ?_; clear hK K)
          refine wpAnyIn_ready (rs := [1]) (by kernel_rfl) (by simp) ?_
          refine AllReadyIn.cons rfl (fun K hK => ?_) ?_
          · go_simp
            try (refine hK _ _ ?_; clear hK K)
            refine wpAnyIn_take (i := 3) (v := .pointer (some ⟨b, 0, none⟩)) rfl rfl (by kernel_rfl) (by kernel_rfl) (by kernel_rfl) (fun _ _ _ h => h) ⟨Or.inl ⟨by rfl, (by intro w; go_simp)⟩, fun _ => rfl⟩ ?_
            refine wpAnyIn_take (i := 4) (v := .pointer (some ⟨b, k * 4, none⟩)) rfl rfl (by kernel_rfl) (by kernel_rfl) (by kernel_rfl) (fun _ _ _ h => h) ⟨Or.inl ⟨by rfl, (by intro w; go_simp)⟩, fun _ => rfl⟩ ?_
            refine wpAnyIn_ready (rs := [5]) (by kernel_rfl) (by simp) ?_
            refine AllReadyIn.cons rfl (fun K hK => ?_) ?_
            · go_simp
              try (refine hK _ _ ?_; clear hK K)
              refine wpAnyIn_ready (rs := [8]) (by kernel_rfl) (by simp) ?_
              refine AllReadyIn.cons rfl (fun K hK => ?_) ?_
              · go_simp
                gi_wp2_with (refine ⟨trivial, ?_⟩; gi_at_call 106; refine (callsIn_wide.2 (without_any _ _ _)).mono ?_; rintro e wa ⟨rfl, hba⟩; (first | (have BN : Below W.heap.size W wa := BL.trans (hba.mono BL.size); clear BL; have BL := BN; clear BN) | (have BL : Below W.heap.size W wa := (Below.refl _ W).drew.trans hba)); clear hba; have ⟨hca, hfa⟩ := bcell BL; have hza := bsize BL)
                try (refine hK _ _ ?_; clear hK K)
                refine wpAnyIn_ready (rs := [9]) (by kernel_rfl) (by simp) ?_
                refine AllReadyIn.cons rfl (fun K hK => ?_) ?_
                · go_simp
                  gi_wp2_with (refine ⟨trivial, ?_⟩; gi_at_call 106; refine (callsIn_wide.2 (without_any _ _ _)).mono ?_; rintro e wa ⟨rfl, hba⟩; (first | (have BN : Below W.heap.size W wa := BL.trans (hba.mono BL.size); clear BL; have BL := BN; clear BN) | (have BL : Below W.heap.size W wa := (Below.refl _ W).drew.trans hba)); clear hba; have ⟨hca, hfa⟩ := bcell BL; have hza := bsize BL)
                  try (refine hK _ _ ?_; clear hK K)
                  refine wpAnyIn_ready (rs := [10]) (by kernel_rfl) (by simp) ?_
                  refine AllReadyIn.cons rfl (fun K hK => ?_) ?_
                  · go_simp
                    try (refine hK _ _ ?_; clear hK K)
                    refine wpAnyIn_done (by kernel_rfl) ?_ _
                    gi_wp2
                    dsimp only [NoPanic]
                    refine ⟨((keeps_below BL).trans (((((KeepsOthers.setCell _ _ _).trans (KeepsOthers.setCell _ _ _)).trans (KeepsOthers.setCell _ _ _)).trans (KeepsOthers.setCell _ _ _)))).from _, ((((BL.mono HBB.out.size).setCell hw0 _).setCell hw0 _).setCell hw0 _).setCell hw0 _, ⟨?_, ?_, ?_⟩, ((((HBB.out.trans (BL.mono HBB.out.size)).setCell hw0 _).setCell hw0 _).setCell hw0 _).setCell hw0 _⟩
                    · rw [natsOf_snoc, lessF_snoc]
                      exact RowIn.set4 (H6.out.below BL H6.out.lt).1 (diff_lt _ H6.out.2)
                    · exact row_other (row_other (row_other (row_other (HZ0.out.below BL HZ0.out.lt) (by omega) _ _) (by omega) _ _) (by omega) _ _) (by omega) _ _
                    · exact boxed_other (boxed_other (boxed_other (boxed_other ((BL.block _ HXB.out.lt).trans HXB.out) (by omega) _ _) (by omega) _ _) (by omega) _ _) (by omega) _ _
                  exact AllReadyIn.nil
                exact AllReadyIn.nil
              exact AllReadyIn.nil
            exact AllReadyIn.nil
          exact AllReadyIn.nil
        exact AllReadyIn.nil
      refine AllReadyIn.cons rfl (fun K hK => ?_) ?_
      · go_simp
        try (refine hK _ _ ?_; clear hK K)
        refine wpAnyIn_take (i := 3) (v := .pointer (some ⟨b, 0, none⟩)) rfl rfl (by kernel_rfl) (by kernel_rfl) (by kernel_rfl) (fun _ _ _ h => h) ⟨Or.inl ⟨by rfl, (by intro w; go_simp)⟩, fun _ => rfl⟩ ?_
        refine wpAnyIn_take (i := 4) (v := .pointer (some ⟨b, k * 4, none⟩)) rfl rfl (by kernel_rfl) (by kernel_rfl) (by kernel_rfl) (fun _ _ _ h => h) ⟨Or.inl ⟨by rfl, (by intro w; go_simp)⟩, fun _ => rfl⟩ ?_
        refine wpAnyIn_ready (rs := [0, 5, 7]) (by kernel_rfl) (by simp) ?_
        refine AllReadyIn.cons rfl (fun K hK => ?_) ?_
        · go_simp
          try (refine hK _ _ ?_; clear hK K)
          refine wpAnyIn_ready (rs := [5, 7]) (by kernel_rfl) (by simp) ?_
          refine AllReadyIn.cons rfl (fun K hK => ?_) ?_
          · go_simp
            try (refine hK _ _ ?_; clear hK K)
            refine wpAnyIn_ready (rs := [7]) (by kernel_rfl) (by simp) ?_
            refine AllReadyIn.cons rfl (fun K hK => ?_) ?_
            · go_simp
              gi_wp2_with (refine ⟨trivial, ?_⟩; gi_at_call 107; refine (callsIn_wide.2 (rowOf_any _ k _ rfl (by omega))).mono ?_; rintro e wb ⟨rfl, hbb⟩; (first | (have BN : Below W.heap.size W wb := BL.trans (hbb.mono BL.size); clear BL; have BL := BN; clear BN) | (have BL : Below W.heap.size W wb := (Below.refl _ W).drew.trans hbb)); clear hbb; have ⟨hcb, hfb⟩ := bcell BL; have hzb := bsize BL)
              try (refine hK _ _ ?_; clear hK K)
              refine wpAnyIn_ready (rs := [8]) (by kernel_rfl) (by simp) ?_
              refine AllReadyIn.cons rfl (fun K hK => ?_) ?_
              · go_simp
                gi_wp2_with (refine ⟨trivial, ?_⟩; gi_at_call 106; refine (callsIn_wide.2 (without_any _ _ _)).mono ?_; rintro e wa ⟨rfl, hba⟩; (first | (have BN : Below W.heap.size W wa := BL.trans (hba.mono BL.size); clear BL; have BL := BN; clear BN) | (have BL : Below W.heap.size W wa := (Below.refl _ W).drew.trans hba)); clear hba; have ⟨hca, hfa⟩ := bcell BL; have hza := bsize BL)
                try (refine hK _ _ ?_; clear hK K)
                refine wpAnyIn_ready (rs := [9]) (by kernel_rfl) (by simp) ?_
                refine AllReadyIn.cons rfl (fun K hK => ?_) ?_
                · go_simp
                  gi_wp2_with (refine ⟨trivial, ?_⟩; gi_at_call 106; refine (callsIn_wide.2 (without_any _ _ _)).mono ?_; rintro e wa ⟨rfl, hba⟩; (first | (have BN : Below W.heap.size W wa := BL.trans (hba.mono BL.size); clear BL; have BL := BN; clear BN) | (have BL : Below W.heap.size W wa := (Below.refl _ W).drew.trans hba)); clear hba; have ⟨hca, hfa⟩ := bcell BL; have hza := bsize BL)
                  try (refine hK _ _ ?_; clear hK K)
                  refine wpAnyIn_ready (rs := [10]) (by kernel_rfl) (by simp) ?_
                  refine AllReadyIn.cons rfl (fun K hK => ?_) ?_
                  · go_simp
                    try (refine hK _ _ ?_; clear hK K)
                    refine wpAnyIn_done (by kernel_rfl) ?_ _
                    gi_wp2
                    dsimp only [NoPanic]
                    refine ⟨((keeps_below BL).trans (((((KeepsOthers.setCell _ _ _).trans (KeepsOthers.setCell _ _ _)).trans (KeepsOthers.setCell _ _ _)).trans (KeepsOthers.setCell _ _ _)))).from _, ((((BL.mono HBB.out.size).setCell hw0 _).setCell hw0 _).setCell hw0 _).setCell hw0 _, ⟨?_, ?_, ?_⟩, ((((HBB.out.trans (BL.mono HBB.out.size)).setCell hw0 _).setCell hw0 _).setCell hw0 _).setCell hw0 _⟩
                    · rw [natsOf_snoc, lessF_snoc]
                      exact RowIn.set4 (H6.out.below BL H6.out.lt).1 (diff_lt _ H6.out.2)
                    · exact row_other (row_other (row_other (row_other (HZ0.out.below BL HZ0.out.lt) (by omega) _ _) (by omega) _ _) (by omega) _ _) (by omega) _ _
                    · exact boxed_other (boxed_other (boxed_other (boxed_other ((BL.block _ HXB.out.lt).trans HXB.out) (by omega) _ _) (by omega) _ _) (by omega) _ _) (by omega) _ _
                  exact AllReadyIn.nil
                exact AllReadyIn.nil
              exact AllReadyIn.nil
            exact AllReadyIn.nil
          refine AllReadyIn.cons rfl (fun K hK => ?_) ?_
          · go_simp
            gi_wp2_with (refine ⟨trivial, ?_⟩; gi_at_call 107; refine (callsIn_wide.2 (rowOf_any _ k _ rfl (by omega))).mono ?_; rintro e wb ⟨rfl, hbb⟩; (first | (have BN : Below W.heap.size W wb := BL.trans (hbb.mono BL.size); clear BL; have BL := BN; clear BN) | (have BL : Below W.heap.size W wb := (Below.refl _ W).drew.trans hbb)); clear hbb; have ⟨hcb, hfb⟩ := bcell BL; have hzb := bsize BL)
            try (refine hK _ _ ?_; clear hK K)
            refine wpAnyIn_ready (rs := [5]) (by kernel_rfl) (by simp) ?_
            refine AllReadyIn.cons rfl (fun K hK => ?_) ?_
            · go_simp
              try (refine hK _ _ ?_; clear hK K)
              refine wpAnyIn_ready (rs := [8]) (by kernel_rfl) (by simp) ?_
              refine AllReadyIn.cons rfl (fun K hK => ?_) ?_
              · go_simp
                gi_wp2_with (refine ⟨trivial, ?_⟩; gi_at_call 106; refine (callsIn_wide.2 (without_any _ _ _)).mono ?_; rintro e wa ⟨rfl, hba⟩; (first | (have BN : Below W.heap.size W wa := BL.trans (hba.mono BL.size); clear BL; have BL := BN; clear BN) | (have BL : Below W.heap.size W wa := (Below.refl _ W).drew.trans hba)); clear hba; have ⟨hca, hfa⟩ := bcell BL; have hza := bsize BL)
                try (refine hK _ _ ?_; clear hK K)
                refine wpAnyIn_ready (rs := [9]) (by kernel_rfl) (by simp) ?_
                refine AllReadyIn.cons rfl (fun K hK => ?_) ?_
                · go_simp
                  gi_wp2_with (refine ⟨trivial, ?_⟩; gi_at_call 106; refine (callsIn_wide.2 (without_any _ _ _)).mono ?_; rintro e wa ⟨rfl, hba⟩; (first | (have BN : Below W.heap.size W wa := BL.trans (hba.mono BL.size); clear BL; have BL := BN; clear BN) | (have BL : Below W.heap.size W wa := (Below.refl _ W).drew.trans hba)); clear hba; have ⟨hca, hfa⟩ := bcell BL; have hza := bsize BL)
                  try (refine hK _ _ ?_; clear hK K)
                  refine wpAnyIn_ready (rs := [10]) (by kernel_rfl) (by simp) ?_
                  refine AllReadyIn.cons rfl (fun K hK => ?_) ?_
                  · go_simp
                    try (refine hK _ _ ?_; clear hK K)
                    refine wpAnyIn_done (by kernel_rfl) ?_ _
                    gi_wp2
                    dsimp only [NoPanic]
                    refine ⟨((keeps_below BL).trans (((((KeepsOthers.setCell _ _ _).trans (KeepsOthers.setCell _ _ _)).trans (KeepsOthers.setCell _ _ _)).trans (KeepsOthers.setCell _ _ _)))).from _, ((((BL.mono HBB.out.size).setCell hw0 _).setCell hw0 _).setCell hw0 _).setCell hw0 _, ⟨?_, ?_, ?_⟩, ((((HBB.out.trans (BL.mono HBB.out.size)).setCell hw0 _).setCell hw0 _).setCell hw0 _).setCell hw0 _⟩
                    · rw [natsOf_snoc, lessF_snoc]
                      exact RowIn.set4 (H6.out.below BL H6.out.lt).1 (diff_lt _ H6.out.2)
                    · exact row_other (row_other (row_other (row_other (HZ0.out.below BL HZ0.out.lt) (by omega) _ _) (by omega) _ _) (by omega) _ _) (by omega) _ _
                    · exact boxed_other (boxed_other (boxed_other (boxed_other ((BL.block _ HXB.out.lt).trans HXB.out) (by omega) _ _) (by omega) _ _) (by omega) _ _) (by omega) _ _
                  exact AllReadyIn.nil
                exact AllReadyIn.nil
              exact AllReadyIn.nil
            exact AllReadyIn.nil
          exact AllReadyIn.nil
        refine AllReadyIn.cons rfl (fun K hK => ?_) ?_
        · go_simp
          try (refine hK _ _ ?_; clear hK K)
          refine wpAnyIn_ready (rs := [0, 7]) (by kernel_rfl) (by simp) ?_
          refine AllReadyIn.cons rfl (fun K hK => ?_) ?_
          · go_simp
            try (refine hK _ _ ?_; clear hK K)
            refine wpAnyIn_ready (rs := [7]) (by kernel_rfl) (by simp) ?_
            refine AllReadyIn.cons rfl (fun K hK => ?_) ?_
            · go_simp
              gi_wp2_with (refine ⟨trivial, ?_⟩; gi_at_call 107; refine (callsIn_wide.2 (rowOf_any _ k _ rfl (by omega))).mono ?_; rintro e wb ⟨rfl, hbb⟩; (first | (have BN : Below W.heap.size W wb := BL.trans (hbb.mono BL.size); clear BL; have BL := BN; clear BN) | (have BL : Below W.heap.size W wb := (Below.refl _ W).drew.trans hbb)); clear hbb; have ⟨hcb, hfb⟩ := bcell BL; have hzb := bsize BL)
              try (refine hK _ _ ?_; clear hK K)
              refine wpAnyIn_ready (rs := [8]) (by kernel_rfl) (by simp) ?_
              refine AllReadyIn.cons rfl (fun K hK => ?_) ?_
              · go_simp
                gi_wp2_with (refine ⟨trivial, ?_⟩; gi_at_call 106; refine (callsIn_wide.2 (without_any _ _ _)).mono ?_; rintro e wa ⟨rfl, hba⟩; (first | (have BN : Below W.heap.size W wa := BL.trans (hba.mono BL.size); clear BL; have BL := BN; clear BN) | (have BL : Below W.heap.size W wa := (Below.refl _ W).drew.trans hba)); clear hba; have ⟨hca, hfa⟩ := bcell BL; have hza := bsize BL)
                try (refine hK _ _ ?_; clear hK K)
                refine wpAnyIn_ready (rs := [9]) (by kernel_rfl) (by simp) ?_
                refine AllReadyIn.cons rfl (fun K hK => ?_) ?_
                · go_simp
                  gi_wp2_with (refine ⟨trivial, ?_⟩; gi_at_call 106; refine (callsIn_wide.2 (without_any _ _ _)).mono ?_; rintro e wa ⟨rfl, hba⟩; (first | (have BN : Below W.heap.size W wa := BL.trans (hba.mono BL.size); clear BL; have BL := BN; clear BN) | (have BL : Below W.heap.size W wa := (Below.refl _ W).drew.trans hba)); clear hba; have ⟨hca, hfa⟩ := bcell BL; have hza := bsize BL)
                  try (refine hK _ _ ?_; clear hK K)
                  refine wpAnyIn_ready (rs := [10]) (by kernel_rfl) (by simp) ?_
                  refine AllReadyIn.cons rfl (fun K hK => ?_) ?_
                  · go_simp
                    try (refine hK _ _ ?_; clear hK K)
                    refine wpAnyIn_done (by kernel_rfl) ?_ _
                    gi_wp2
                    dsimp only [NoPanic]
                    refine ⟨((keeps_below BL).trans (((((KeepsOthers.setCell _ _ _).trans (KeepsOthers.setCell _ _ _)).trans (KeepsOthers.setCell _ _ _)).trans (KeepsOthers.setCell _ _ _)))).from _, ((((BL.mono HBB.out.size).setCell hw0 _).setCell hw0 _).setCell hw0 _).setCell hw0 _, ⟨?_, ?_, ?_⟩, ((((HBB.out.trans (BL.mono HBB.out.size)).setCell hw0 _).setCell hw0 _).setCell hw0 _).setCell hw0 _⟩
                    · rw [natsOf_snoc, lessF_snoc]
                      exact RowIn.set4 (H6.out.below BL H6.out.lt).1 (diff_lt _ H6.out.2)
                    · exact row_other (row_other (row_other (row_other (HZ0.out.below BL HZ0.out.lt) (by omega) _ _) (by omega) _ _) (by omega) _ _) (by omega) _ _
                    · exact boxed_other (boxed_other (boxed_other (boxed_other ((BL.block _ HXB.out.lt).trans HXB.out) (by omega) _ _) (by omega) _ _) (by omega) _ _) (by omega) _ _
                  exact AllReadyIn.nil
                exact AllReadyIn.nil
              exact AllReadyIn.nil
            exact AllReadyIn.nil
          refine AllReadyIn.cons rfl (fun K hK => ?_) ?_
          · go_simp
            gi_wp2_with (refine ⟨trivial, ?_⟩; gi_at_call 107; refine (callsIn_wide.2 (rowOf_any _ k _ rfl (by omega))).mono ?_; rintro e wb ⟨rfl, hbb⟩; (first | (have BN : Below W.heap.size W wb := BL.trans (hbb.mono BL.size); clear BL; have BL := BN; clear BN) | (have BL : Below W.heap.size W wb := (Below.refl _ W).drew.trans hbb)); clear hbb; have ⟨hcb, hfb⟩ := bcell BL; have hzb := bsize BL)
            try (refine hK _ _ ?_; clear hK K)
            refine wpAnyIn_ready (rs := [0, 8]) (by kernel_rfl) (by simp) ?_
            refine AllReadyIn.cons rfl (fun K hK => ?_) ?_
            · go_simp
              try (refine hK _ _ ?_; clear hK K)
              refine wpAnyIn_ready (rs := [8]) (by kernel_rfl) (by simp) ?_
              refine AllReadyIn.cons rfl (fun K hK => ?_) ?_
              · go_simp
                gi_wp2_with (refine ⟨trivial, ?_⟩; gi_at_call 106; refine (callsIn_wide.2 (without_any _ _ _)).mono ?_; rintro e wa ⟨rfl, hba⟩; (first | (have BN : Below W.heap.size W wa := BL.trans (hba.mono BL.size); clear BL; have BL := BN; clear BN) | (have BL : Below W.heap.size W wa := (Below.refl _ W).drew.trans hba)); clear hba; have ⟨hca, hfa⟩ := bcell BL; have hza := bsize BL)
                try (refine hK _ _ ?_; clear hK K)
                refine wpAnyIn_ready (rs := [9]) (by kernel_rfl) (by simp) ?_
                refine AllReadyIn.cons rfl (fun K hK => ?_) ?_
                · go_simp
                  gi_wp2_with (refine ⟨trivial, ?_⟩; gi_at_call 106; refine (callsIn_wide.2 (without_any _ _ _)).mono ?_; rintro e wa ⟨rfl, hba⟩; (first | (have BN : Below W.heap.size W wa := BL.trans (hba.mono BL.size); clear BL; have BL := BN; clear BN) | (have BL : Below W.heap.size W wa := (Below.refl _ W).drew.trans hba)); clear hba; have ⟨hca, hfa⟩ := bcell BL; have hza := bsize BL)
                  try (refine hK _ _ ?_; clear hK K)
                  refine wpAnyIn_ready (rs := [10]) (by kernel_rfl) (by simp) ?_
                  refine AllReadyIn.cons rfl (fun K hK => ?_) ?_
                  · go_simp
                    try (refine hK _ _ ?_; clear hK K)
                    refine wpAnyIn_done (by kernel_rfl) ?_ _
                    gi_wp2
                    dsimp only [NoPanic]
                    refine ⟨((keeps_below BL).trans (((((KeepsOthers.setCell _ _ _).trans (KeepsOthers.setCell _ _ _)).trans (KeepsOthers.setCell _ _ _)).trans (KeepsOthers.setCell _ _ _)))).from _, ((((BL.mono HBB.out.size).setCell hw0 _).setCell hw0 _).setCell hw0 _).setCell hw0 _, ⟨?_, ?_, ?_⟩, ((((HBB.out.trans (BL.mono HBB.out.size)).setCell hw0 _).setCell hw0 _).setCell hw0 _).setCell hw0 _⟩
                    · rw [natsOf_snoc, lessF_snoc]
                      exact RowIn.set4 (H6.out.below BL H6.out.lt).1 (diff_lt _ H6.out.2)
                    · exact row_other (row_other (row_other (row_other (HZ0.out.below BL HZ0.out.lt) (by omega) _ _) (by omega) _ _) (by omega) _ _) (by omega) _ _
                    · exact boxed_other (boxed_other (boxed_other (boxed_other ((BL.block _ HXB.out.lt).trans HXB.out) (by omega) _ _) (by omega) _ _) (by omega) _ _) (by omega) _ _
                  exact AllReadyIn.nil
                exact AllReadyIn.nil
              exact AllReadyIn.nil
            refine AllReadyIn.cons rfl (fun K hK => ?_) ?_
            · go_simp
              gi_wp2_with (refine ⟨trivial, ?_⟩; gi_at_call 106; refine (callsIn_wide.2 (without_any _ _ _)).mono ?_; rintro e wa ⟨rfl, hba⟩; (first | (have BN : Below W.heap.size W wa := BL.trans (hba.mono BL.size); clear BL; have BL := BN; clear BN) | (have BL : Below W.heap.size W wa := (Below.refl _ W).drew.trans hba)); clear hba; have ⟨hca, hfa⟩ := bcell BL; have hza := bsize BL)
              try (refine hK _ _ ?_; clear hK K)
              refine wpAnyIn_ready (rs := [0]) (by kernel_rfl) (by simp) ?_
              refine AllReadyIn.cons rfl (fun K hK => ?_) ?_
              · go_simp
                try (refine hK _ _ ?_; clear hK K)
                refine wpAnyIn_ready (rs := [9]) (by kernel_rfl) (by simp) ?_
                refine AllReadyIn.cons rfl (fun K hK => ?_) ?_
                · go_simp
                  gi_wp2_with (refine ⟨trivial, ?_⟩; gi_at_call 106; refine (callsIn_wide.2 (without_any _ _ _)).mono ?_; rintro e wa ⟨rfl, hba⟩; (first | (have BN : Below W.heap.size W wa := BL.trans (hba.mono BL.size); clear BL; have BL := BN; clear BN) | (have BL : Below W.heap.size W wa := (Below.refl _ W).drew.trans hba)); clear hba; have ⟨hca, hfa⟩ := bcell BL; have hza := bsize BL)
                  try (refine hK _ _ ?_; clear hK K)
                  refine wpAnyIn_ready (rs := [10]) (by kernel_rfl) (by simp) ?_
                  refine AllReadyIn.cons rfl (fun K hK => ?_) ?_
                  · go_simp
                    try (refine hK _ _ ?_; clear hK K)
                    refine wpAnyIn_done (by kernel_rfl) ?_ _
                    gi_wp2
                    dsimp only [NoPanic]
                    refine ⟨((keeps_below BL).trans (((((KeepsOthers.setCell _ _ _).trans (KeepsOthers.setCell _ _ _)).trans (KeepsOthers.setCell _ _ _)).trans (KeepsOthers.setCell _ _ _)))).from _, ((((BL.mono HBB.out.size).setCell hw0 _).setCell hw0 _).setCell hw0 _).setCell hw0 _, ⟨?_, ?_, ?_⟩, ((((HBB.out.trans (BL.mono HBB.out.size)).setCell hw0 _).setCell hw0 _).setCell hw0 _).setCell hw0 _⟩
                    · rw [natsOf_snoc, lessF_snoc]
                      exact RowIn.set4 (H6.out.below BL H6.out.lt).1 (diff_lt _ H6.out.2)
                    · exact row_other (row_other (row_other (row_other (HZ0.out.below BL HZ0.out.lt) (by omega) _ _) (by omega) _ _) (by omega) _ _) (by omega) _ _
                    · exact boxed_other (boxed_other (boxed_other (boxed_other ((BL.block _ HXB.out.lt).trans HXB.out) (by omega) _ _) (by omega) _ _) (by omega) _ _) (by omega) _ _
                  exact AllReadyIn.nil
                exact AllReadyIn.nil
              exact AllReadyIn.nil
            exact AllReadyIn.nil
          exact AllReadyIn.nil
        refine AllReadyIn.cons rfl (fun K hK => ?_) ?_
        · go_simp
          gi_wp2_with (refine ⟨trivial, ?_⟩; gi_at_call 107; refine (callsIn_wide.2 (rowOf_any _ k _ rfl (by omega))).mono ?_; rintro e wb ⟨rfl, hbb⟩; (first | (have BN : Below W.heap.size W wb := BL.trans (hbb.mono BL.size); clear BL; have BL := BN; clear BN) | (have BL : Below W.heap.size W wb := (Below.refl _ W).drew.trans hbb)); clear hbb; have ⟨hcb, hfb⟩ := bcell BL; have hzb := bsize BL)
          try (refine hK _ _ ?_; clear hK K)
          refine wpAnyIn_ready (rs := [0, 5]) (by kernel_rfl) (by simp) ?_
          refine AllReadyIn.cons rfl (fun K hK => ?_) ?_
          · go_simp
            try (refine hK _ _ ?_; clear hK K)
            refine wpAnyIn_ready (rs := [5]) (by kernel_rfl) (by simp) ?_
            refine AllReadyIn.cons rfl (fun K hK => ?_) ?_
            · go_simp
              try (refine hK _ _ ?_; clear hK K)
              refine wpAnyIn_ready (rs := [8]) (by kernel_rfl) (by simp) ?_
              refine AllReadyIn.cons rfl (fun K hK => ?_) ?_
              · go_simp
                gi_wp2_with (refine ⟨trivial, ?_⟩; gi_at_call 106; refine (callsIn_wide.2 (without_any _ _ _)).mono ?_; rintro e wa ⟨rfl, hba⟩; (first | (have BN : Below W.heap.size W wa := BL.trans (hba.mono BL.size); clear BL; have BL := BN; clear BN) | (have BL : Below W.heap.size W wa := (Below.refl _ W).drew.trans hba)); clear hba; have ⟨hca, hfa⟩ := bcell BL; have hza := bsize BL)
                try (refine hK _ _ ?_; clear hK K)
                refine wpAnyIn_ready (rs := [9]) (by kernel_rfl) (by simp) ?_
                refine AllReadyIn.cons rfl (fun K hK => ?_) ?_
                · go_simp
                  gi_wp2_with (refine ⟨trivial, ?_⟩; gi_at_call 106; refine (callsIn_wide.2 (without_any _ _ _)).mono ?_; rintro e wa ⟨rfl, hba⟩; (first | (have BN : Below W.heap.size W wa := BL.trans (hba.mono BL.size); clear BL; have BL := BN; clear BN) | (have BL : Below W.heap.size W wa := (Below.refl _ W).drew.trans hba)); clear hba; have ⟨hca, hfa⟩ := bcell BL; have hza := bsize BL)
                  try (refine hK _ _ ?_; clear hK K)
                  refine wpAnyIn_ready (rs := [10]) (by kernel_rfl) (by simp) ?_
                  refine AllReadyIn.cons rfl (fun K hK => ?_) ?_
                  · go_simp
                    try (refine hK _ _ ?_; clear hK K)
                    refine wpAnyIn_done (by kernel_rfl) ?_ _
                    gi_wp2
                    dsimp only [NoPanic]
                    refine ⟨((keeps_below BL).trans (((((KeepsOthers.setCell _ _ _).trans (KeepsOthers.setCell _ _ _)).trans (KeepsOthers.setCell _ _ _)).trans (KeepsOthers.setCell _ _ _)))).from _, ((((BL.mono HBB.out.size).setCell hw0 _).setCell hw0 _).setCell hw0 _).setCell hw0 _, ⟨?_, ?_, ?_⟩, ((((HBB.out.trans (BL.mono HBB.out.size)).setCell hw0 _).setCell hw0 _).setCell hw0 _).setCell hw0 _⟩
                    · rw [natsOf_snoc, lessF_snoc]
                      exact RowIn.set4 (H6.out.below BL H6.out.lt).1 (diff_lt _ H6.out.2)
                    · exact row_other (row_other (row_other (row_other (HZ0.out.below BL HZ0.out.lt) (by omega) _ _) (by omega) _ _) (by omega) _ _) (by omega) _ _
                    · exact boxed_other (boxed_other (boxed_other (boxed_other ((BL.block _ HXB.out.lt).trans HXB.out) (by omega) _ _) (by omega) _ _) (by omega) _ _) (by omega) _ _
                  exact AllReadyIn.nil
                exact AllReadyIn.nil
              exact AllReadyIn.nil
            exact AllReadyIn.nil
          refine AllReadyIn.cons rfl (fun K hK => ?_) ?_
          · go_simp
            try (refine hK _ _ ?_; clear hK K)
            refine wpAnyIn_ready (rs := [0, 8]) (by kernel_rfl) (by simp) ?_
            refine AllReadyIn.cons rfl (fun K hK => ?_) ?_
            · go_simp
              try (refine hK _ _ ?_; clear hK K)
              refine wpAnyIn_ready (rs := [8]) (by kernel_rfl) (by simp) ?_
              refine AllReadyIn.cons rfl (fun K hK => ?_) ?_
              · go_simp
                gi_wp2_with (refine ⟨trivial, ?_⟩; gi_at_call 106; refine (callsIn_wide.2 (without_any _ _ _)).mono ?_; rintro e wa ⟨rfl, hba⟩; (first | (have BN : Below W.heap.size W wa := BL.trans (hba.mono BL.size); clear BL; have BL := BN; clear BN) | (have BL : Below W.heap.size W wa := (Below.refl _ W).drew.trans hba)); clear hba; have ⟨hca, hfa⟩ := bcell BL; have hza := bsize BL)
                try (refine hK _ _ ?_; clear hK K)
                refine wpAnyIn_ready (rs := [9]) (by kernel_rfl) (by simp) ?_
                refine AllReadyIn.cons rfl (fun K hK => ?_) ?_
                · go_simp
                  gi_wp2_with (refine ⟨trivial, ?_⟩; gi_at_call 106; refine (callsIn_wide.2 (without_any _ _ _)).mono ?_; rintro e wa ⟨rfl, hba⟩; (first | (have BN : Below W.heap.size W wa := BL.trans (hba.mono BL.size); clear BL; have BL := BN; clear BN) | (have BL : Below W.heap.size W wa := (Below.refl _ W).drew.trans hba)); clear hba; have ⟨hca, hfa⟩ := bcell BL; have hza := bsize BL)
                  try (refine hK _ _ ?_; clear hK K)
                  refine wpAnyIn_ready (rs := [10]) (by kernel_rfl) (by simp) ?_
                  refine AllReadyIn.cons rfl (fun K hK => ?_) ?_
                  · go_simp
                    try (refine hK _ _ ?_; clear hK K)
                    refine wpAnyIn_done (by kernel_rfl) ?_ _
                    gi_wp2
                    dsimp only [NoPanic]
                    refine ⟨((keeps_below BL).trans (((((KeepsOthers.setCell _ _ _).trans (KeepsOthers.setCell _ _ _)).trans (KeepsOthers.setCell _ _ _)).trans (KeepsOthers.setCell _ _ _)))).from _, ((((BL.mono HBB.out.size).setCell hw0 _).setCell hw0 _).setCell hw0 _).setCell hw0 _, ⟨?_, ?_, ?_⟩, ((((HBB.out.trans (BL.mono HBB.out.size)).setCell hw0 _).setCell hw0 _).setCell hw0 _).setCell hw0 _⟩
                    · rw [natsOf_snoc, lessF_snoc]
                      exact RowIn.set4 (H6.out.below BL H6.out.lt).1 (diff_lt _ H6.out.2)
                    · exact row_other (row_other (row_other (row_other (HZ0.out.below BL HZ0.out.lt) (by omega) _ _) (by omega) _ _) (by omega) _ _) (by omega) _ _
                    · exact boxed_other (boxed_other (boxed_other (boxed_other ((BL.block _ HXB.out.lt).trans HXB.out) (by omega) _ _) (by omega) _ _) (by omega) _ _) (by omega) _ _
                  exact AllReadyIn.nil
                exact AllReadyIn.nil
              exact AllReadyIn.nil
            refine AllReadyIn.cons rfl (fun K hK => ?_) ?_
            · go_simp
              gi_wp2_with (refine ⟨trivial, ?_⟩; gi_at_call 106; refine (callsIn_wide.2 (without_any _ _ _)).mono ?_; rintro e wa ⟨rfl, hba⟩; (first | (have BN : Below W.heap.size W wa := BL.trans (hba.mono BL.size); clear BL; have BL := BN; clear BN) | (have BL : Below W.heap.size W wa := (Below.refl _ W).drew.trans hba)); clear hba; have ⟨hca, hfa⟩ := bcell BL; have hza := bsize BL)
              try (refine hK _ _ ?_; clear hK K)
              refine wpAnyIn_ready (rs := [0]) (by kernel_rfl) (by simp) ?_
              refine AllReadyIn.cons rfl (fun K hK => ?_) ?_
              · go_simp
                try (refine hK _ _ ?_; clear hK K)
                refine wpAnyIn_ready (rs := [9]) (by kernel_rfl) (by simp) ?_
                refine AllReadyIn.cons rfl (fun K hK => ?_) ?_
                · go_simp
                  gi_wp2_with (refine ⟨trivial, ?_⟩; gi_at_call 106; refine (callsIn_wide.2 (without_any _ _ _)).mono ?_; rintro e wa ⟨rfl, hba⟩; (first | (have BN : Below W.heap.size W wa := BL.trans (hba.mono BL.size); clear BL; have BL := BN; clear BN) | (have BL : Below W.heap.size W wa := (Below.refl _ W).drew.trans hba)); clear hba; have ⟨hca, hfa⟩ := bcell BL; have hza := bsize BL)
                  try (refine hK _ _ ?_; clear hK K)
                  refine wpAnyIn_ready (rs := [10]) (by kernel_rfl) (by simp) ?_
                  refine AllReadyIn.cons rfl (fun K hK => ?_) ?_
                  · go_simp
                    try (refine hK _ _ ?_; clear hK K)
                    refine wpAnyIn_done (by kernel_rfl) ?_ _
                    gi_wp2
                    dsimp only [NoPanic]
                    refine ⟨((keeps_below BL).trans (((((KeepsOthers.setCell _ _ _).trans (KeepsOthers.setCell _ _ _)).trans (KeepsOthers.setCell _ _ _)).trans (KeepsOthers.setCell _ _ _)))).from _, ((((BL.mono HBB.out.size).setCell hw0 _).setCell hw0 _).setCell hw0 _).setCell hw0 _, ⟨?_, ?_, ?_⟩, ((((HBB.out.trans (BL.mono HBB.out.size)).setCell hw0 _).setCell hw0 _).setCell hw0 _).setCell hw0 _⟩
                    · rw [natsOf_snoc, lessF_snoc]
                      exact RowIn.set4 (H6.out.below BL H6.out.lt).1 (diff_lt _ H6.out.2)
                    · exact row_other (row_other (row_other (row_other (HZ0.out.below BL HZ0.out.lt) (by omega) _ _) (by omega) _ _) (by omega) _ _) (by omega) _ _
                    · exact boxed_other (boxed_other (boxed_other (boxed_other ((BL.block _ HXB.out.lt).trans HXB.out) (by omega) _ _) (by omega) _ _) (by omega) _ _) (by omega) _ _
                  exact AllReadyIn.nil
                exact AllReadyIn.nil
              exact AllReadyIn.nil
            exact AllReadyIn.nil
          exact AllReadyIn.nil
        exact AllReadyIn.nil
      refine AllReadyIn.cons rfl (fun K hK => ?_) ?_
      · go_simp
        gi_wp2_with (refine ⟨trivial, ?_⟩; gi_at_call 107; refine (callsIn_wide.2 (rowOf_any _ k _ rfl (by omega))).mono ?_; rintro e wb ⟨rfl, hbb⟩; (first | (have BN : Below W.heap.size W wb := BL.trans (hbb.mono BL.size); clear BL; have BL := BN; clear BN) | (have BL : Below W.heap.size W wb := (Below.refl _ W).drew.trans hbb)); clear hbb; have ⟨hcb, hfb⟩ := bcell BL; have hzb := bsize BL)
        try (refine hK _ _ ?_; clear hK K)
        refine wpAnyIn_ready (rs := [0, 1]) (by kernel_rfl) (by simp) ?_
        refine AllReadyIn.cons rfl (fun K hK => ?_) ?_
        · go_simp
          try (refine hK _ _ ?_; clear hK K)
          refine wpAnyIn_ready (rs := [1]) (by kernel_rfl) (by simp) ?_
          refine AllReadyIn.cons rfl (fun K hK => ?_) ?_
          · go_simp
            try (refine hK _ _ ?_; clear hK K)
            refine wpAnyIn_take (i := 3) (v := .pointer (some ⟨b, 0, none⟩)) rfl rfl (by kernel_rfl) (by kernel_rfl) (by kernel_rfl) (fun _ _ _ h => h) ⟨Or.inl ⟨by rfl, (by intro w; go_simp)⟩, fun _ => rfl⟩ ?_
            refine wpAnyIn_take (i := 4) (v := .pointer (some ⟨b, k * 4, none⟩)) rfl rfl (by kernel_rfl) (by kernel_rfl) (by kernel_rfl) (fun _ _ _ h => h) ⟨Or.inl ⟨by rfl, (by intro w; go_simp)⟩, fun _ => rfl⟩ ?_
            refine wpAnyIn_ready (rs := [5]) (by kernel_rfl) (by simp) ?_
            refine AllReadyIn.cons rfl (fun K hK => ?_) ?_
            · go_simp
              try (refine hK _ _ ?_; clear hK K)
              refine wpAnyIn_ready (rs := [8]) (by kernel_rfl) (by simp) ?_
              refine AllReadyIn.cons rfl (fun K hK => ?_) ?_
              · go_simp
                gi_wp2_with (refine ⟨trivial, ?_⟩; gi_at_call 106; refine (callsIn_wide.2 (without_any _ _ _)).mono ?_; rintro e wa ⟨rfl, hba⟩; (first | (have BN : Below W.heap.size W wa := BL.trans (hba.mono BL.size); clear BL; have BL := BN; clear BN) | (have BL : Below W.heap.size W wa := (Below.refl _ W).drew.trans hba)); clear hba; have ⟨hca, hfa⟩ := bcell BL; have hza := bsize BL)
                try (refine hK _ _ ?_; clear hK K)
                refine wpAnyIn_ready (rs := [9]) (by kernel_rfl) (by simp) ?_
                refine AllReadyIn.cons rfl (fun K hK => ?_) ?_
                · go_simp
                  gi_wp2_with (refine ⟨trivial, ?_⟩; gi_at_call 106; refine (callsIn_wide.2 (without_any _ _ _)).mono ?_; rintro e wa ⟨rfl, hba⟩; (first | (have BN : Below W.heap.size W wa := BL.trans (hba.mono BL.size); clear BL; have BL := BN; clear BN) | (have BL : Below W.heap.size W wa := (Below.refl _ W).drew.trans hba)); clear hba; have ⟨hca, hfa⟩ := bcell BL; have hza := bsize BL)
                  try (refine hK _ _ ?_; clear hK K)
                  refine wpAnyIn_ready (rs := [10]) (by kernel_rfl) (by simp) ?_
                  refine AllReadyIn.cons rfl (fun K hK => ?_) ?_
                  · go_simp
                    try (refine hK _ _ ?_; clear hK K)
                    refine wpAnyIn_done (by kernel_rfl) ?_ _
                    gi_wp2
                    dsimp only [NoPanic]
                    refine ⟨((keeps_below BL).trans (((((KeepsOthers.setCell _ _ _).trans (KeepsOthers.setCell _ _ _)).trans (KeepsOthers.setCell _ _ _)).trans (KeepsOthers.setCell _ _ _)))).from _, ((((BL.mono HBB.out.size).setCell hw0 _).setCell hw0 _).setCell hw0 _).setCell hw0 _, ⟨?_, ?_, ?_⟩, ((((HBB.out.trans (BL.mono HBB.out.size)).setCell hw0 _).setCell hw0 _).setCell hw0 _).setCell hw0 _⟩
                    · rw [natsOf_snoc, lessF_snoc]
                      exact RowIn.set4 (H6.out.below BL H6.out.lt).1 (diff_lt _ H6.out.2)
                    · exact row_other (row_other (row_other (row_other (HZ0.out.below BL HZ0.out.lt) (by omega) _ _) (by omega) _ _) (by omega) _ _) (by omega) _ _
                    · exact boxed_other (boxed_other (boxed_other (boxed_other ((BL.block _ HXB.out.lt).trans HXB.out) (by omega) _ _) (by omega) _ _) (by omega) _ _) (by omega) _ _
                  exact AllReadyIn.nil
                exact AllReadyIn.nil
              exact AllReadyIn.nil
            exact AllReadyIn.nil
          exact AllReadyIn.nil
        refine AllReadyIn.cons rfl (fun K hK => ?_) ?_
        · go_simp
          try (refine hK _ _ ?_; clear hK K)
          refine wpAnyIn_take (i := 3) (v := .pointer (some ⟨b, 0, none⟩)) rfl rfl (by kernel_rfl) (by kernel_rfl) (by kernel_rfl) (fun _ _ _ h => h) ⟨Or.inl ⟨by rfl, (by intro w; go_simp)⟩, fun _ => rfl⟩ ?_
          refine wpAnyIn_take (i := 4) (v := .pointer (some ⟨b, k * 4, none⟩)) rfl rfl (by kernel_rfl) (by kernel_rfl) (by kernel_rfl) (fun _ _ _ h => h) ⟨Or.inl ⟨by rfl, (by intro w; go_simp)⟩, fun _ => rfl⟩ ?_
          refine wpAnyIn_ready (rs := [0, 5]) (by kernel_rfl) (by simp) ?_
          refine AllReadyIn.cons rfl (fun K hK => ?_) ?_
          · go_simp
            try (refine hK _ _ ?_; clear hK K)
            refine wpAnyIn_ready (rs := [5]) (by kernel_rfl) (by simp) ?_
            refine AllReadyIn.cons rfl (fun K hK => ?_) ?_
            · go_simp
              try (refine hK _ _ ?_; clear hK K)
              refine wpAnyIn_ready (rs := [8]) (by kernel_rfl) (by simp) ?_
              refine AllReadyIn.cons rfl (fun K hK => ?_) ?_
              · go_simp
                gi_wp2_with (refine ⟨trivial, ?_⟩; gi_at_call 106; refine (callsIn_wide.2 (without_any _ _ _)).mono ?_; rintro e wa ⟨rfl, hba⟩; (first | (have BN : Below W.heap.size W wa := BL.trans (hba.mono BL.size); clear BL; have BL := BN; clear BN) | (have BL : Below W.heap.size W wa := (Below.refl _ W).drew.trans hba)); clear hba; have ⟨hca, hfa⟩ := bcell BL; have hza := bsize BL)
                try (refine hK _ _ ?_; clear hK K)
                refine wpAnyIn_ready (rs := [9]) (by kernel_rfl) (by simp) ?_
                refine AllReadyIn.cons rfl (fun K hK => ?_) ?_
                · go_simp
                  gi_wp2_with (refine ⟨trivial, ?_⟩; gi_at_call 106; refine (callsIn_wide.2 (without_any _ _ _)).mono ?_; rintro e wa ⟨rfl, hba⟩; (first | (have BN : Below W.heap.size W wa := BL.trans (hba.mono BL.size); clear BL; have BL := BN; clear BN) | (have BL : Below W.heap.size W wa := (Below.refl _ W).drew.trans hba)); clear hba; have ⟨hca, hfa⟩ := bcell BL; have hza := bsize BL)
                  try (refine hK _ _ ?_; clear hK K)
                  refine wpAnyIn_ready (rs := [10]) (by kernel_rfl) (by simp) ?_
                  refine AllReadyIn.cons rfl (fun K hK => ?_) ?_
                  · go_simp
                    try (refine hK _ _ ?_; clear hK K)
                    refine wpAnyIn_done (by kernel_rfl) ?_ _
                    gi_wp2
                    dsimp only [NoPanic]
                    refine ⟨((keeps_below BL).trans (((((KeepsOthers.setCell _ _ _).trans (KeepsOthers.setCell _ _ _)).trans (KeepsOthers.setCell _ _ _)).trans (KeepsOthers.setCell _ _ _)))).from _, ((((BL.mono HBB.out.size).setCell hw0 _).setCell hw0 _).setCell hw0 _).setCell hw0 _, ⟨?_, ?_, ?_⟩, ((((HBB.out.trans (BL.mono HBB.out.size)).setCell hw0 _).setCell hw0 _).setCell hw0 _).setCell hw0 _⟩
                    · rw [natsOf_snoc, lessF_snoc]
                      exact RowIn.set4 (H6.out.below BL H6.out.lt).1 (diff_lt _ H6.out.2)
                    · exact row_other (row_other (row_other (row_other (HZ0.out.below BL HZ0.out.lt) (by omega) _ _) (by omega) _ _) (by omega) _ _) (by omega) _ _
                    · exact boxed_other (boxed_other (boxed_other (boxed_other ((BL.block _ HXB.out.lt).trans HXB.out) (by omega) _ _) (by omega) _ _) (by omega) _ _) (by omega) _ _
                  exact AllReadyIn.nil
                exact AllReadyIn.nil
              exact AllReadyIn.nil
            exact AllReadyIn.nil
          refine AllReadyIn.cons rfl (fun K hK => ?_) ?_
          · go_simp
            try (refine hK _ _ ?_; clear hK K)
            refine wpAnyIn_ready (rs := [0, 8]) (by kernel_rfl) (by simp) ?_
            refine AllReadyIn.cons rfl (fun K hK => ?_) ?_
            · go_simp
              try (refine hK _ _ ?_; clear hK K)
              refine wpAnyIn_ready (rs := [8]) (by kernel_rfl) (by simp) ?_
              refine AllReadyIn.cons rfl (fun K hK => ?_) ?_
              · go_simp
                gi_wp2_with (refine ⟨trivial, ?_⟩; gi_at_call 106; refine (callsIn_wide.2 (without_any _ _ _)).mono ?_; rintro e wa ⟨rfl, hba⟩; (first | (have BN : Below W.heap.size W wa := BL.trans (hba.mono BL.size); clear BL; have BL := BN; clear BN) | (have BL : Below W.heap.size W wa := (Below.refl _ W).drew.trans hba)); clear hba; have ⟨hca, hfa⟩ := bcell BL; have hza := bsize BL)
                try (refine hK _ _ ?_; clear hK K)
                refine wpAnyIn_ready (rs := [9]) (by kernel_rfl) (by simp) ?_
                refine AllReadyIn.cons rfl (fun K hK => ?_) ?_
                · go_simp
                  gi_wp2_with (refine ⟨trivial, ?_⟩; gi_at_call 106; refine (callsIn_wide.2 (without_any _ _ _)).mono ?_; rintro e wa ⟨rfl, hba⟩; (first | (have BN : Below W.heap.size W wa := BL.trans (hba.mono BL.size); clear BL; have BL := BN; clear BN) | (have BL : Below W.heap.size W wa := (Below.refl _ W).drew.trans hba)); clear hba; have ⟨hca, hfa⟩ := bcell BL; have hza := bsize BL)
                  try (refine hK _ _ ?_; clear hK K)
                  refine wpAnyIn_ready (rs := [10]) (by kernel_rfl) (by simp) ?_
                  refine AllReadyIn.cons rfl (fun K hK => ?_) ?_
                  · go_simp
                    try (refine hK _ _ ?_; clear hK K)
                    refine wpAnyIn_done (by kernel_rfl) ?_ _
                    gi_wp2
                    dsimp only [NoPanic]
                    refine ⟨((keeps_below BL).trans (((((KeepsOthers.setCell _ _ _).trans (KeepsOthers.setCell _ _ _)).trans (KeepsOthers.setCell _ _ _)).trans (KeepsOthers.setCell _ _ _)))).from _, ((((BL.mono HBB.out.size).setCell hw0 _).setCell hw0 _).setCell hw0 _).setCell hw0 _, ⟨?_, ?_, ?_⟩, ((((HBB.out.trans (BL.mono HBB.out.size)).setCell hw0 _).setCell hw0 _).setCell hw0 _).setCell hw0 _⟩
                    · rw [natsOf_snoc, lessF_snoc]
                      exact RowIn.set4 (H6.out.below BL H6.out.lt).1 (diff_lt _ H6.out.2)
                    · exact row_other (row_other (row_other (row_other (HZ0.out.below BL HZ0.out.lt) (by omega) _ _) (by omega) _ _) (by omega) _ _) (by omega) _ _
                    · exact boxed_other (boxed_other (boxed_other (boxed_other ((BL.block _ HXB.out.lt).trans HXB.out) (by omega) _ _) (by omega) _ _) (by omega) _ _) (by omega) _ _
                  exact AllReadyIn.nil
                exact AllReadyIn.nil
              exact AllReadyIn.nil
            refine AllReadyIn.cons rfl (fun K hK => ?_) ?_
            · go_simp
              gi_wp2_with (refine ⟨trivial, ?_⟩; gi_at_call 106; refine (callsIn_wide.2 (without_any _ _ _)).mono ?_; rintro e wa ⟨rfl, hba⟩; (first | (have BN : Below W.heap.size W wa := BL.trans (hba.mono BL.size); clear BL; have BL := BN; clear BN) | (have BL : Below W.heap.size W wa := (Below.refl _ W).drew.trans hba)); clear hba; have ⟨hca, hfa⟩ := bcell BL; have hza := bsize BL)
              try (refine hK _ _ ?_; clear hK K)
              refine wpAnyIn_ready (rs := [0]) (by kernel_rfl) (by simp) ?_
              refine AllReadyIn.cons rfl (fun K hK => ?_) ?_
              · go_simp
                try (refine hK _ _ ?_; clear hK K)
                refine wpAnyIn_ready (rs := [9]) (by kernel_rfl) (by simp) ?_
                refine AllReadyIn.cons rfl (fun K hK => ?_) ?_
                · go_simp
                  gi_wp2_with (refine ⟨trivial, ?_⟩; gi_at_call 106; refine (callsIn_wide.2 (without_any _ _ _)).mono ?_; rintro e wa ⟨rfl, hba⟩; (first | (have BN : Below W.heap.size W wa := BL.trans (hba.mono BL.size); clear BL; have BL := BN; clear BN) | (have BL : Below W.heap.size W wa := (Below.refl _ W).drew.trans hba)); clear hba; have ⟨hca, hfa⟩ := bcell BL; have hza := bsize BL)
                  try (refine hK _ _ ?_; clear hK K)
                  refine wpAnyIn_ready (rs := [10]) (by kernel_rfl) (by simp) ?_
                  refine AllReadyIn.cons rfl (fun K hK => ?_) ?_
                  · go_simp
                    try (refine hK _ _ ?_; clear hK K)
                    refine wpAnyIn_done (by kernel_rfl) ?_ _
                    gi_wp2
                    dsimp only [NoPanic]
                    refine ⟨((keeps_below BL).trans (((((KeepsOthers.setCell _ _ _).trans (KeepsOthers.setCell _ _ _)).trans (KeepsOthers.setCell _ _ _)).trans (KeepsOthers.setCell _ _ _)))).from _, ((((BL.mono HBB.out.size).setCell hw0 _).setCell hw0 _).setCell hw0 _).setCell hw0 _, ⟨?_, ?_, ?_⟩, ((((HBB.out.trans (BL.mono HBB.out.size)).setCell hw0 _).setCell hw0 _).setCell hw0 _).setCell hw0 _⟩
                    · rw [natsOf_snoc, lessF_snoc]
                      exact RowIn.set4 (H6.out.below BL H6.out.lt).1 (diff_lt _ H6.out.2)
                    · exact row_other (row_other (row_other (row_other (HZ0.out.below BL HZ0.out.lt) (by omega) _ _) (by omega) _ _) (by omega) _ _) (by omega) _ _
                    · exact boxed_other (boxed_other (boxed_other (boxed_other ((BL.block _ HXB.out.lt).trans HXB.out) (by omega) _ _) (by omega) _ _) (by omega) _ _) (by omega) _ _
                  exact AllReadyIn.nil
                exact AllReadyIn.nil
              exact AllReadyIn.nil
            exact AllReadyIn.nil
          exact AllReadyIn.nil
        exact AllReadyIn.nil
      exact AllReadyIn.nil
    case done =>
      rintro D ys W hD rfl ⟨⟨h6, hz0, hbx⟩, hB⟩ hK
      rw [natsOf_all] at h6
      have HBB := Lib.hid hB
      obtain ⟨s0, s1, s2, s3⟩ := h6.cells
      obtain ⟨z0, z1, z2, z3⟩ := hz0.cells
      have hfz := hz0.frozen
      have hfin := RowIn.set4 hz0.1 h6.2
      have HFIN := Lib.hid hfin
      have HKK := Lib.hid hK
      clear hfin h6 hz0 hbx hB hK
      gi_wp2
      have hK' := ((((KeepsOthers.setCell W ⟨w.heap.size + 1, 0, none⟩ (.int .u64 ((word (lessF g (elems (aboveF g i)) (aboveF g i)) 0 : Nat) : Int))).trans (KeepsOthers.setCell _ ⟨w.heap.size + 1, 1, none⟩ (.int .u64 ((word (lessF g (elems (aboveF g i)) (aboveF g i)) 1 : Nat) : Int)))).trans (KeepsOthers.setCell _ ⟨w.heap.size + 1, 2, none⟩ (.int .u64 ((word (lessF g (elems (aboveF g i)) (aboveF g i)) 2 : Nat) : Int)))).trans (KeepsOthers.setCell _ ⟨w.heap.size + 1, 3, none⟩ (.int .u64 ((word (lessF g (elems (aboveF g i)) (aboveF g i)) 3 : Nat) : Int)))).same D _ HKK.out rfl
      have HB5 := (((HBB.out.setCell (p := ⟨w.heap.size + 1, 0, none⟩) (Nat.le_succ _) (.int .u64 ((word (lessF g (elems (aboveF g i)) (aboveF g i)) 0 : Nat) : Int))).setCell (p := ⟨w.heap.size + 1, 1, none⟩) (Nat.le_succ _) (.int .u64 ((word (lessF g (elems (aboveF g i)) (aboveF g i)) 1 : Nat) : Int))).setCell (p := ⟨w.heap.size + 1, 2, none⟩) (Nat.le_succ _) (.int .u64 ((word (lessF g (elems (aboveF g i)) (aboveF g i)) 2 : Nat) : Int))).setCell (p := ⟨w.heap.size + 1, 3, none⟩) (Nat.le_succ _) (.int .u64 ((word (lessF g (elems (aboveF g i)) (aboveF g i)) 3 : Nat) : Int))
      refine leaves_marks (n₀ := w.heap.size) (K := fun W' => RowIn W' (w.heap.size + 1) (coversF g i) ∧ Below w.heap.size w W') (fun W' D' h h1 h2 => ⟨h.1.kept (grownBy_putObj' _ D' (.deferred none)) (fun r e => by cases e; exact ⟨_, h2, rfl⟩), h.2.trans (belowK_b (w := w) (Nat.le_refl _) W' D' _ _ h1 h2 rfl rfl)⟩) (fun W' h => ⟨rowV (coversF g i), by obtain ⟨k0, k1, k2, k3⟩ := h.1.cells; simp [results, Tryd.f81, go_sem, k0, k1, k2, k3, rowV], rfl, h.2⟩) [D] _ (MarksAt.cons (MarksAt.nil _ _) (fun _ h => by cases h) (by omega) hK') ⟨HFIN.out, HB5⟩
    case stop =>
      rintro D c pre W _ _ h _
      exact h.elim
end Go.Proofs.YtjlemkmpmjdjaaaDoor


