/- The program's closed: rows that are made larger until nothing is added. -/
import Derived.Test.YtjlemkmpmjdjaaaDoorClosPk
import Derived.Test.YtjlemkmpmjdjaaaDoorPa13
import Derived.Test.YtjlemkmpmjdjaaaDoorWideRk
import Derived.Test.YtjlemkmpmjdjaaaDoorPa20
import Derived.Test.YtjlemkmpmjdjaaaDoorPa1
namespace Go.Proofs.YtjlemkmpmjdjaaaDoor
open Go.RowKit Go.Deep Go.Shelf
attribute [local go_sem] Oper.semAt_some

/-- What closed answers. -/
def ClosedP (E : Nat → Nat → Prop) (n : Nat) (w : World) (e : Ending) (w' : World) : Prop :=
  (∃ g, ClI E n g ∧ stepG g = g ∧ e = .returned (.agg (gridCells g))) ∧ Below w.heap.size w w'
open Classical in
/-- The grid in a block. -/
noncomputable def gridIn (W : World) (b : Nat) : Nat → Nat := if h : ∃ g, GridAt W b g then Classical.choose h else fun _ => 0
theorem cells_rows {g h : Nat → Nat} (hg : ∀ i, g i < 2 ^ 256) (hh : ∀ i, h i < 2 ^ 256) (e : gridCells g = gridCells h) {i : Nat} (hi : i < 200) : g i = h i := by
  refine of_words (hg i) (hh i) fun j hj => ?_
  have h1 := gridCells_at g i j hi hj
  have h2 := gridCells_at h i j hi hj
  rw [e, h2] at h1
  simp only [Option.some.injEq, Value.int.injEq, true_and] at h1
  omega
theorem popG_congr {g h : Nat → Nat} : ∀ n, n ≤ 200 → (∀ i, i < 200 → g i = h i) → popG g n = popG h n
  | 0, _, _ => rfl
  | n + 1, hn, e => by
    unfold popG
    rw [popG_congr n (by omega) e, e n (by omega)]
theorem gridIn_pop {W : World} {b n : Nat} {g : Nat → Nat} (h : GridAt W b g) (hn : n ≤ 200) : popG (gridIn W b) n = popG g n := by
  have hex : ∃ g, GridAt W b g := ⟨g, h⟩
  unfold gridIn
  rw [dif_pos hex]
  have h2 := Classical.choose_spec hex
  refine popG_congr n hn fun i hi => cells_rows h2.2 h.2 ?_ hi
  have e := h2.1.symm.trans h.1
  simp only [Option.some.injEq, Obj.cells.injEq] at e
  exact e.1

set_option maxRecDepth 100000 in
set_option maxHeartbeats 8000000 in
theorem closed_any {E : Nat → Nat → Prop} {n : Nat} {g : Nat → Nat} (w : World) (hc : ClI E n g) (hn : n ≤ 200) (hT : Tab w) :
    Calls Tryd.prog 86 #[.agg (gridCells g)] w (ClosedP E n w) := by
  have htab : 0 < w.heap.size := cell_lt (hT 0 (by omega))
  have hz := (zero_of_info zeroGrid).1
  have hug := Tryd.underlying60
  have HC := Lib.hid hc
  have HT := Lib.hid hT
  clear hc hT
  refine (callsIn_wide (n := 8)).1 ?_
  refine callsIn_of_wp_marks Tryd.func86 rfl trivial (wpIn_mono (Q := NoPanic (bodyPostM Fence.wide 8 Tryd.prog Tryd.f86 (ClosedP E n w))) ?_ NoPanic.le) rfl
  simp only [Tryd.ntmps86, List.size_toArray, List.length_cons, List.length_nil, Nat.reduceAdd, Nat.reduceSub, Array.replicate_succ, Array.replicate_zero, List.push_toArray, List.append_toArray, List.nil_append, List.cons_append]
  have s1 : (w.alloc (.cells (gridCells g) 60)).heap.size = w.heap.size + 1 := World.size_alloc _ _
  have b2 : Below w.heap.size w ((w.alloc (.cells (gridCells g) 60)).alloc (.cells (gridCells fun _ => 0) 60)) := ((Below.refl _ w).alloc (Nat.le_refl _) _).alloc (by rw [s1]; omega) _
  have g0 : GridAt (w.alloc (.cells (gridCells g) 60)) w.heap.size g := ⟨heap_alloc_new _ _, HC.out.lt⟩
  have G0 := Lib.hid (g0.below ((Below.refl _ (w.alloc (.cells (gridCells g) 60))).alloc (Nat.le_refl _) (.cells (gridCells fun _ => 0) 60)) g0.lt)
  have g1 : GridAt ((w.alloc (.cells (gridCells g) 60)).alloc (.cells (gridCells fun _ => 0) 60)) (w.heap.size + 1) (fun _ => 0) := by rw [← s1]; exact ⟨heap_alloc_new _ _, fun _ => Nat.two_pow_pos 256⟩
  have G1 := Lib.hid g1
  have B2 := Lib.hid b2
  clear s1 b2 g0 g1
  gi_wp2
  refine wpIn_loop (fun a' wr => ∃ (gt : Nat → Nat) (Ds : List Nat) (u0 u3 u4 u5 u6 u7 u8 u9 u10 u11 u12 u13 u14 u15 u16 u17 u18 u19 u20 u21 u22 u23 u24 u25 u26 u27 u28 u29 u30 : Value), (ClI E n gt ∧ GridAt wr w.heap.size gt ∧ GridAt wr (w.heap.size + 1) (fun _ => 0) ∧ MarksAt w.heap.size Ds wr ∧ Below w.heap.size w wr) ∧
    a' = { tmps := #[u0, .pointer (some ⟨w.heap.size, 0, none⟩), .pointer (some ⟨w.heap.size + 1, 0, none⟩), u3, u4, u5, u6, u7, u8, u9, u10, u11, u12, u13, u14, u15, u16, u17, u18, u19, u20, u21, u22, u23, u24, u25, u26, u27, u28, u29, u30], defers := marksOf Ds })
    (fun _ wr => n * 256 - popG (gridIn wr w.heap.size) n) ?atStart ?round
  case atStart =>
    refine ⟨g, [], ?_⟩
    (repeat apply Exists.intro)
    refine ⟨?rel, ?frame⟩
    case frame => rfl
    case rel => exact ⟨HC.out, G0.out, G1.out, MarksAt.nil _ _, B2.out⟩
  case round =>
    rintro _ wr ⟨gt, Ds, u0, u3, u4, u5, u6, u7, u8, u9, u10, u11, u12, u13, u14, u15, u16, u17, u18, u19, u20, u21, u22, u23, u24, u25, u26, u27, u28, u29, u30, ⟨hc, hg, hr, hm, hb⟩, rfl⟩
    have HC2 := Lib.hid hc
    have HG := Lib.hid hg
    have HR := Lib.hid hr
    have HM := Lib.hid hm
    have HB := Lib.hid hb
    have hNG : GridAt (newGrid gt wr) wr.heap.size gt := newGrid_at hc.lt wr
    have hNB := newGrid_below gt wr
    have hcall := size_any w.heap.size n gt (newGrid gt wr) (hg.below hNB hg.lt) hn (hc.gridN hn).some (hc.gridN hn).none
    have HN := Lib.hid hNG
    have HNB := Lib.hid hNB
    clear hc hr hm hb hNG hNB G0 G1 B2
    gi_wp2_with (first | (refine wpListIn_load_row rfl rfl 60 (.tmp 1) rfl w.heap.size rfl 60 (gridCells gt) (0, 0) _ hg.1 hug rfl (by rw [gridCells_size]; exact sizeGrid) ?_) | (refine wpListIn_store_row rfl rfl 60 (.tmp 3) (.tmp 6) rfl wr.heap.size (gridCells gt) rfl rfl 60 (gridCells fun _ => 0) (store_new wr).1 (by rw [gridCells_size]; exact sizeGrid) (by rw [gridCells_size, gridCells_size]) (gridCells_one _) ?_))
    -- INNER
    refine ⟨trivial, (callsIn_wide.2 hcall).mono ?_⟩
    clear hcall
    rintro e w2 ⟨rfl, hb2⟩
    have BR := Lib.hid (HNB.out.trans (hb2.mono HNB.out.size))
    have N2 : Hid (GridAt w2 wr.heap.size gt) := Lib.hid (HN.out.below hb2 HN.out.lt)
    have G2 := Lib.hid (hg.below BR.out hg.lt)
    have R2 := Lib.hid (HR.out.below BR.out HR.out.lt)
    have M2 := Lib.hid (HM.out.below BR.out)
    have W2 := Lib.hid (HB.out.trans (BR.out.mono HB.out.size))
    have hlr : w.heap.size + 1 < wr.heap.size := HR.out.lt
    have HGP := Lib.hid (gridIn_pop hg hn)
    clear hb2 hg HN HNB HG HR HM HB
    gi_wp2
    obtain ⟨V6, hV6⟩ : ∃ V : Value, V = .agg (gridCells gt) := ⟨_, rfl⟩
    rw [← hV6]
    clear hV6
    refine wpIn_loop (fun a' wq => ∃ (k : Nat) (Ds : List Nat) (x4 x5 x9 x10 x11 x12 x13 x14 x15 x16 x17 x18 x19 x20 x21 x22 x23 x24 x25 x26 x27 x28 x29 x30 : Value), (k ≤ n ∧ GridAt wq wr.heap.size (nextG gt k []) ∧ GridAt wq w.heap.size gt ∧ GridAt wq (w.heap.size + 1) (fun _ => 0) ∧ MarksAt w.heap.size Ds wq ∧ Below w.heap.size w wq) ∧
      a' = { tmps := #[u0, .pointer (some ⟨w.heap.size, 0, none⟩), .pointer (some ⟨w.heap.size + 1, 0, none⟩), .pointer (some ⟨wr.heap.size, 0, none⟩), x4, x5, V6, .int .i64 (n : Int), .int .i64 (k : Int), x9, x10, x11, x12, x13, x14, x15, x16, x17, x18, x19, x20, x21, x22, x23, x24, x25, x26, x27, x28, x29, x30], defers := marksOf Ds })
      (fun a' _ => n - (intOf (a'.tmps.getD 8 undef)).toNat) ?atStart2 ?round2
    case atStart2 =>
      refine ⟨0, Ds, ?_⟩
      (repeat apply Exists.intro)
      refine ⟨?rel, ?frame⟩
      case frame => rfl
      case rel => exact ⟨Nat.zero_le _, by rw [nextG_start]; exact N2.out, G2.out, R2.out, M2.out, W2.out⟩
    case round2 =>
      rintro _ wq ⟨k, Ds, x4, x5, x9, x10, x11, x12, x13, x14, x15, x16, x17, x18, x19, x20, x21, x22, x23, x24, x25, x26, x27, x28, x29, x30, ⟨hk, hx, hg, hr, hm, hb⟩, rfl⟩
      have HX := Lib.hid hx
      have HG := Lib.hid hg
      have HR := Lib.hid hr
      have HM := Lib.hid hm
      have HB := Lib.hid hb
      clear hr hm hb N2 G2 R2 M2 W2 BR
      by_cases hlt : k < n
      · have hk0 : (0 : Int) ≤ (k : Int) := by omega
        have hk1 : (k : Int) < 200 := by omega
        have hknz : (k : Int) < (n : Int) := by omega
        obtain ⟨c0, c1, c2, c3⟩ := hg.row k (by omega)
        replace c0 := cell_alloc_any c0
        replace c1 := cell_alloc_any c1
        replace c2 := cell_alloc_any c2
        replace c3 := cell_alloc_any c3
        have hmx : Tryd.prog.follows .mixedOrders = true := by kernel_rfl
        clear hx hg
        gi_wp2
        refine ⟨trivial, (callsIn_wide.2 (elements_any (gt k) _)).mono ?_⟩
        rintro e w3 ⟨rfl, rfl⟩
        gi_wp2
        have hB4 : Below wq.heap.size wq ((wq.alloc (.cells #[.int .i64 (k : Int)] 3)).alloc (.cells #[.int .u64 ((word (gt k) 0 : Nat) : Int), .int .u64 ((word (gt k) 1 : Nat) : Int), .int .u64 ((word (gt k) 2 : Nat) : Int), .int .u64 ((word (gt k) 3 : Nat) : Int)] 58)) := ((Below.refl _ wq).alloc (Nat.le_refl _) _).alloc (by simp) _
        have p4 : Boxed ((wq.alloc (.cells #[.int .i64 (k : Int)] 3)).alloc (.cells #[.int .u64 ((word (gt k) 0 : Nat) : Int), .int .u64 ((word (gt k) 1 : Nat) : Int), .int .u64 ((word (gt k) 2 : Nat) : Int), .int .u64 ((word (gt k) 3 : Nat) : Int)] 58)) wq.heap.size 3 (.int .i64 (k : Int)) := (Boxed.new wq 3 _).alloc _
        have r4 : RowIn ((wq.alloc (.cells #[.int .i64 (k : Int)] 3)).alloc (.cells #[.int .u64 ((word (gt k) 0 : Nat) : Int), .int .u64 ((word (gt k) 1 : Nat) : Int), .int .u64 ((word (gt k) 2 : Nat) : Int), .int .u64 ((word (gt k) 3 : Nat) : Int)] 58)) (wq.heap.size + 1) (gt k) := by
          have h := RowIn.alloc (wq.alloc (.cells #[.int .i64 (k : Int)] 3)) (HC2.out.lt k)
          rw [World.size_alloc] at h
          exact h
        have hz4 : ((wq.alloc (.cells #[.int .i64 (k : Int)] 3)).alloc (.cells #[.int .u64 ((word (gt k) 0 : Nat) : Int), .int .u64 ((word (gt k) 1 : Nat) : Int), .int .u64 ((word (gt k) 2 : Nat) : Int), .int .u64 ((word (gt k) 3 : Nat) : Int)] 58)).heap.size = wq.heap.size + 2 := by simp
        revert hB4 p4 r4 hz4
        generalize ((wq.alloc (.cells #[.int .i64 (k : Int)] 3)).alloc (.cells #[.int .u64 ((word (gt k) 0 : Nat) : Int), .int .u64 ((word (gt k) 1 : Nat) : Int), .int .u64 ((word (gt k) 2 : Nat) : Int), .int .u64 ((word (gt k) 3 : Nat) : Int)] 58)) = w4
        intro hB4 p4 r4 hz4
        have hw0 := HB.out.size
        have hlq : wr.heap.size < wq.heap.size := HX.out.lt
        have M4 := HM.out.below hB4
        have mlt : ∀ D ∈ Ds, D < w4.heap.size := fun D hD => M4.lt hD
        have T4 : Tab w4 := (HT.out.below HB.out).below hB4
        have hBw : Below w.heap.size w w4 := HB.out.trans (hB4.mono hw0)
        have hlwx : w.heap.size + 1 < wq.heap.size := HR.out.lt
        refine wpIn_rangeFunc_ownG rfl (by omega) (gf := 125) (lb := #[.pointer (some ⟨wq.heap.size + 1, 0, none⟩)]) rfl trivial (enters_of Tryd.func125 (by kernel_rfl) rfl)
          (elements1_stops _ w.heap.size (wq.heap.size + 1) (gt k) w4 (by omega) (HC2.out.lt k) r4 (by omega) htab T4) belowK_t (belowK_b (by omega)) (Below.refl _ _) (fun _ => rfl)
          (fun pre W => (GridAt W wr.heap.size (nextG gt k (natsOf pre)) ∧ GridAt W w.heap.size gt ∧ GridAt W (w.heap.size + 1) (fun _ => 0) ∧ Boxed W wq.heap.size 3 (.int .i64 (k : Int))) ∧ MarksAt w.heap.size Ds W ∧ Below w.heap.size w W)
          (fun _ _ _ => False)
          (OwnFrom.and (Own.from (fun _ A B row hs hg hr => ⟨hs.1.kept hg hr, hs.2.1.kept hg hr, hs.2.2.1.kept hg hr, blk_kept hs.2.2.2 hg hr⟩) _) (OwnFrom.and (MarksAt.own mlt) (ownFrom_below (Nat.le_refl _) (by omega))))
          (fun _ _ _ _ _ hs _ _ => hs)
          ⟨⟨HX.out.below hB4 HX.out.lt, HG.out.below hB4 HG.out.lt, HR.out.below hB4 HR.out.lt, p4⟩, M4, hBw⟩
          (fun x => { tmps := #[u0, .pointer (some ⟨w.heap.size, 0, none⟩), .pointer (some ⟨w.heap.size + 1, 0, none⟩), .pointer (some ⟨wr.heap.size, 0, none⟩), .pointer (some ⟨wq.heap.size, 0, none⟩), .int .i64 ((x.1 : Nat) : Int), V6, .int .i64 (n : Int), .int .i64 (k : Int), .bool true, .int .i64 (k : Int), .int .i64 (k : Int), .pointer (some ⟨w.heap.size, k * 4, none⟩), rowV (gt k), .func (.func 125) #[] #[.pointer (some ⟨wq.heap.size + 1, 0, none⟩)], .int .i64 ((x.1 : Nat) : Int), x16, x17, x18, x19, x20, x21, x22, x23, x24, x25, x26, x27, x28, x29, x30], defers := [] }) ?assign ?body ?done ?stop
        case assign =>
          intro l x W K hK
          unfold encBt
          gi_wp2
          exact hK
        case body =>
          rintro l pre x W ⟨⟨h1, hg1, h0, hp⟩, hM, hB⟩ _
          obtain ⟨kk, hkm⟩ := x
          have hkk := HC2.out.elem hkm
          have hkk0 : (0 : Int) ≤ (kk : Int) := by omega
          have hkk1 : (kk : Int) < 200 := by omega
          gi_wp2
          have hcp := hp.cell
          obtain ⟨U, hU⟩ : ∃ U : Nat, U = gt kk := ⟨_, rfl⟩
          have hUl : U < 2 ^ 256 := by rw [hU]; exact HC2.out.lt kk
          obtain ⟨u0_, u1_, u2_, u3_⟩ := hg1.row kk (by omega)
          rw [← hU] at u0_ u1_ u2_ u3_
          obtain ⟨X, hX⟩ : ∃ X : Nat, X = nextG gt k (natsOf pre) k := ⟨_, rfl⟩
          have hXl : X < 2 ^ 256 := by rw [hX]; exact nextG_lt HC2.out.lt _ _ _
          have HXX := Lib.hid (show nextG gt k (natsOf pre ++ [kk]) = fun j => if j = k then X ||| U else nextG gt k (natsOf pre) j by rw [nextG_snoc, hX, hU])
          have hbl : w.heap.size ≤ W.heap.size := hB.size
          have SK := Lib.hid (fun W' (hb' : Below W.heap.size W W') => show W'.cell? ⟨wq.heap.size, 0, none⟩ = some (.int .i64 (k : Int)) ∧ W'.cell? ⟨w.heap.size, kk * 4, none⟩ = some (.int .u64 ((word U 0 : Nat) : Int)) ∧ W'.cell? ⟨w.heap.size, kk * 4 + 1, none⟩ = some (.int .u64 ((word U 1 : Nat) : Int)) ∧ W'.cell? ⟨w.heap.size, kk * 4 + 2, none⟩ = some (.int .u64 ((word U 2 : Nat) : Int)) ∧ W'.cell? ⟨w.heap.size, kk * 4 + 3, none⟩ = some (.int .u64 ((word U 3 : Nat) : Int)) from
            ⟨(hb'.cell (p := ⟨wq.heap.size, 0, none⟩) (cell_lt hcp)).trans hcp, (hb'.cell (p := ⟨w.heap.size, kk * 4, none⟩) (cell_lt u0_)).trans u0_, (hb'.cell (p := ⟨w.heap.size, kk * 4 + 1, none⟩) (cell_lt u1_)).trans u1_, (hb'.cell (p := ⟨w.heap.size, kk * 4 + 2, none⟩) (cell_lt u2_)).trans u2_, (hb'.cell (p := ⟨w.heap.size, kk * 4 + 3, none⟩) (cell_lt u3_)).trans u3_⟩)
          have H1 := Lib.hid h1
          have HG1 := Lib.hid hg1
          have H0 := Lib.hid h0
          have HPP := Lib.hid hp
          have HMM := Lib.hid hM
          have HBB := Lib.hid hB
          have hWX : wr.heap.size < W.heap.size := h1.lt
          have hWP : wq.heap.size < W.heap.size := hp.lt
          have t_ := (h1.below (below_drew W _) h1.lt).row k (by omega)
          rw [← hX] at t_
          obtain ⟨t0, t1, t2, t3⟩ := t_
          have HK0 := Lib.hid (And.intro hk0 hk1)
          clear h1 hg1 h0 hp hM hB hU hX hcp u0_ u1_ u2_ u3_
          refine held_round (S := fun W' : World => W'.cell? ⟨wq.heap.size, 0, none⟩ = some (.int .i64 (k : Int)) ∧ W'.cell? ⟨w.heap.size, kk * 4, none⟩ = some (.int .u64 ((word U 0 : Nat) : Int)) ∧ W'.cell? ⟨w.heap.size, kk * 4 + 1, none⟩ = some (.int .u64 ((word U 1 : Nat) : Int)) ∧ W'.cell? ⟨w.heap.size, kk * 4 + 2, none⟩ = some (.int .u64 ((word U 2 : Nat) : Int)) ∧ W'.cell? ⟨w.heap.size, kk * 4 + 3, none⟩ = some (.int .u64 ((word U 3 : Nat) : Int))) (by kernel_rfl) ?hlet (by kernel_rfl) (SK.out _ (below_drew W _)) (fun hHeld => ?_)
          case hlet => rintro ⟨a', w', h⟩; exact h
          refine' wpAnyH_take (i := 0) (oi := ?oor0) (v := ?vvr0) ?hir0 (by kernel_rfl) (by kernel_rfl) (by kernel_rfl) ?hqr0 (Or.inl ⟨?hwr0, ?hyr0⟩) hHeld ?restr0
          case hir0 => simp only [List.getElem?_toArray, List.getElem?_cons_zero]; rfl
          case hqr0 => exact fun _ _ _ h => h
          case hwr0 => rfl
          case hyr0 => intro w hSw; (try dsimp only at hSw); go_simp; try (with_reducible rfl)
          try simp only [Act.put, List.setIfInBounds_toArray, List.set_cons_zero, List.set_cons_succ]
          refine' wpAnyH_take (i := 1) (oi := ?oor1) (v := ?vvr1) ?hir1 (by kernel_rfl) (by kernel_rfl) (by kernel_rfl) ?hqr1 (Or.inl ⟨?hwr1, ?hyr1⟩) hHeld ?restr1
          case hir1 => simp only [List.getElem?_toArray, List.getElem?_cons_succ, List.getElem?_cons_zero]; rfl
          case hqr1 => exact fun _ _ _ h => h
          case hwr1 => rfl
          case hyr1 => intro w hSw; (try dsimp only at hSw); go_simp; try (with_reducible rfl)
          try simp only [Act.put, List.setIfInBounds_toArray, List.set_cons_zero, List.set_cons_succ]
          refine' wpAnyH_take (i := 2) (oi := ?oor2) (v := ?vvr2) ?hir2 (by kernel_rfl) (by kernel_rfl) (by kernel_rfl) ?hqr2 (Or.inl ⟨?hwr2, ?hyr2⟩) hHeld ?restr2
          case hir2 => simp only [List.getElem?_toArray, List.getElem?_cons_succ, List.getElem?_cons_zero]; rfl
          case hqr2 => exact fun _ _ _ h => h
          case hwr2 => rfl
          case hyr2 => intro w hSw; (try dsimp only at hSw); go_simp; try (with_reducible rfl)
          try simp only [Act.put, List.setIfInBounds_toArray, List.set_cons_zero, List.set_cons_succ]
          refine' wpAnyH_take (i := 4) (oi := ?oor4) (v := ?vvr4) ?hir4 (by kernel_rfl) (by kernel_rfl) (by kernel_rfl) ?hqr4 (Or.inl ⟨?hwr4, ?hyr4⟩) hHeld ?restr4
          case hir4 => simp only [List.getElem?_toArray, List.getElem?_cons_succ, List.getElem?_cons_zero]; rfl
          case hqr4 => exact fun _ _ _ h => h
          case hwr4 => rfl
          case hyr4 => intro w hSw; (try dsimp only at hSw); go_simp; try (with_reducible rfl)
          try simp only [Act.put, List.setIfInBounds_toArray, List.set_cons_zero, List.set_cons_succ]
          refine' wpAnyH_take (i := 5) (oi := ?oor5) (v := ?vvr5) ?hir5 (by kernel_rfl) (by kernel_rfl) (by kernel_rfl) ?hqr5 (Or.inl ⟨?hwr5, ?hyr5⟩) hHeld ?restr5
          case hir5 => simp only [List.getElem?_toArray, List.getElem?_cons_succ, List.getElem?_cons_zero]; rfl
          case hqr5 => exact fun _ _ _ h => h
          case hwr5 => rfl
          case hyr5 => intro w hSw; (try dsimp only at hSw); go_simp; try (with_reducible rfl)
          try simp only [Act.put, List.setIfInBounds_toArray, List.set_cons_zero, List.set_cons_succ]
          refine' wpAnyH_take (i := 6) (oi := ?oor6) (v := ?vvr6) ?hir6 (by kernel_rfl) (by kernel_rfl) (by kernel_rfl) ?hqr6 (Or.inl ⟨?hwr6, ?hyr6⟩) hHeld ?restr6
          case hir6 => simp only [List.getElem?_toArray, List.getElem?_cons_succ, List.getElem?_cons_zero]; rfl
          case hqr6 => exact fun _ _ _ h => h
          case hwr6 => rfl
          case hyr6 => intro w hSw; (try dsimp only at hSw); go_simp; try (with_reducible rfl)
          try simp only [Act.put, List.setIfInBounds_toArray, List.set_cons_zero, List.set_cons_succ]
          refine wpAnyH_ready (rs := [3]) (by kernel_rfl) (by simp) ?_
          refine' AllReadyH.cons (o := ?oor3) ?hir3 (fun K hK => ?restr3) AllReadyH.nil
          case hir3 => simp only [List.getElem?_toArray, List.getElem?_cons_succ, List.getElem?_cons_zero]; rfl
          go_simp
          clear t0 t1 t2 t3
          refine hK.out _ _ (by assumption) (fun hHeld => ?_)
          clear hK K
          try simp only [Act.put, List.setIfInBounds_toArray, List.set_cons_zero, List.set_cons_succ]
          refine wpAnyH_ready (rs := [7]) (by kernel_rfl) (by simp) ?_
          refine' AllReadyH.cons (o := ?oor7) ?hir7 (fun K hK => ?restr7) AllReadyH.nil
          case hir7 => simp only [List.getElem?_toArray, List.getElem?_cons_succ, List.getElem?_cons_zero]; rfl
          go_simp
          go_at_call 116
          refine (or_any X U _).mono ?_
          rintro e W5 ⟨rfl, hb5⟩
          have B5 := Lib.hid ((below_drew W _).trans hb5)
          have N5 := Lib.hid (H1.out.below B5.out H1.out.lt)
          have hfz := N5.out.frozen
          obtain ⟨t0, t1, t2, t3⟩ := N5.out.row k (by omega)
          clear hb5
          go_wp2_with fail
          refine hK.out _ _ (SK.out _ B5.out) (fun hHeld => ?_)
          clear hK K
          try simp only [Act.put, List.setIfInBounds_toArray, List.set_cons_zero, List.set_cons_succ]
          refine' wpAnyH_take (i := 8) (oi := ?oor8) (v := ?vvr8) ?hir8 (by kernel_rfl) (by kernel_rfl) (by kernel_rfl) ?hqr8 (Or.inl ⟨?hwr8, ?hyr8⟩) hHeld ?restr8
          case hir8 => simp only [List.getElem?_toArray, List.getElem?_cons_succ, List.getElem?_cons_zero]; rfl
          case hqr8 => exact fun _ _ _ h => h
          case hwr8 => rfl
          case hyr8 => intro w hSw; (try dsimp only at hSw); go_simp; try (with_reducible rfl)
          try simp only [Act.put, List.setIfInBounds_toArray, List.set_cons_zero, List.set_cons_succ]
          refine wpAnyH_ready (rs := [9]) (by kernel_rfl) (by simp) ?_
          refine' AllReadyH.cons (o := ?oor9) ?hir9 (fun K hK => ?restr9) AllReadyH.nil
          case hir9 => simp only [List.getElem?_toArray, List.getElem?_cons_succ, List.getElem?_cons_zero]; rfl
          go_simp
          have N6 := Lib.hid (N5.out.setRow4 (m := k) (X := X ||| U) (by omega) (Nat.or_lt_two_pow hXl hUl))
          have hb6 : Below wr.heap.size W5 ((((W5.setCell ⟨wr.heap.size, k * 4, none⟩ (.int .u64 ((word (X ||| U) 0 : Nat) : Int))).setCell ⟨wr.heap.size, k * 4 + 1, none⟩ (.int .u64 ((word (X ||| U) 1 : Nat) : Int))).setCell ⟨wr.heap.size, k * 4 + 2, none⟩ (.int .u64 ((word (X ||| U) 2 : Nat) : Int))).setCell ⟨wr.heap.size, k * 4 + 3, none⟩ (.int .u64 ((word (X ||| U) 3 : Nat) : Int))) := ((((Below.refl _ W5).setCell (p := ⟨wr.heap.size, k * 4, none⟩) (Nat.le_refl _) _).setCell (p := ⟨wr.heap.size, k * 4 + 1, none⟩) (Nat.le_refl _) _).setCell (p := ⟨wr.heap.size, k * 4 + 2, none⟩) (Nat.le_refl _) _).setCell (p := ⟨wr.heap.size, k * 4 + 3, none⟩) (Nat.le_refl _) _
          have B6 := Lib.hid ((B5.out.mono (Nat.le_of_lt hWX)).trans hb6)
          clear hb6
          refine hK.out _ _ (⟨cell_four (SK.out _ B5.out).1 (by omega), cell_four (SK.out _ B5.out).2.1 (by omega), cell_four (SK.out _ B5.out).2.2.1 (by omega), cell_four (SK.out _ B5.out).2.2.2.1 (by omega), cell_four (SK.out _ B5.out).2.2.2.2 (by omega)⟩) (fun hHeld => ?_)
          clear hK K
          try simp only [Act.put, List.setIfInBounds_toArray, List.set_cons_zero, List.set_cons_succ]
          refine wpAnyH_done (by kernel_rfl) ?_ _
          have hK6 : KeepsOthers W ((((W5.setCell ⟨wr.heap.size, k * 4, none⟩ (.int .u64 ((word (X ||| U) 0 : Nat) : Int))).setCell ⟨wr.heap.size, k * 4 + 1, none⟩ (.int .u64 ((word (X ||| U) 1 : Nat) : Int))).setCell ⟨wr.heap.size, k * 4 + 2, none⟩ (.int .u64 ((word (X ||| U) 2 : Nat) : Int))).setCell ⟨wr.heap.size, k * 4 + 3, none⟩ (.int .u64 ((word (X ||| U) 3 : Nat) : Int))) := (keeps_below B5.out).trans ((((KeepsOthers.setCell _ _ _).trans (KeepsOthers.setCell _ _ _)).trans (KeepsOthers.setCell _ _ _)).trans (KeepsOthers.setCell _ _ _))
          have hX6 : ∀ b, b ≠ wr.heap.size → ((((W5.setCell ⟨wr.heap.size, k * 4, none⟩ (.int .u64 ((word (X ||| U) 0 : Nat) : Int))).setCell ⟨wr.heap.size, k * 4 + 1, none⟩ (.int .u64 ((word (X ||| U) 1 : Nat) : Int))).setCell ⟨wr.heap.size, k * 4 + 2, none⟩ (.int .u64 ((word (X ||| U) 2 : Nat) : Int))).setCell ⟨wr.heap.size, k * 4 + 3, none⟩ (.int .u64 ((word (X ||| U) 3 : Nat) : Int))).heap[b]? = W5.heap[b]? := fun b hb => heap_four _ _ _ _ _ _ _ _ _ _ b hb
          have N6' := N6.out
          rw [← HXX.out] at N6'
          have HN6 := Lib.hid N6'
          have HK6 := Lib.hid hK6
          have HX6 := Lib.hid hX6
          clear hK6 hX6 N6' N6
          generalize ((((W5.setCell ⟨wr.heap.size, k * 4, none⟩ (.int .u64 ((word (X ||| U) 0 : Nat) : Int))).setCell ⟨wr.heap.size, k * 4 + 1, none⟩ (.int .u64 ((word (X ||| U) 1 : Nat) : Int))).setCell ⟨wr.heap.size, k * 4 + 2, none⟩ (.int .u64 ((word (X ||| U) 2 : Nat) : Int))).setCell ⟨wr.heap.size, k * 4 + 3, none⟩ (.int .u64 ((word (X ||| U) 3 : Nat) : Int))) = W6 at HN6 HK6 HX6 B6 ⊢
          gi_wp2
          refine ⟨HK6.out.from _, B6.out.mono (by omega), ⟨by rw [natsOf_snoc]; exact HN6.out, ⟨(HX6.out _ (by omega)).trans (HG1.out.below B5.out HG1.out.lt).1, HC2.out.lt⟩, ⟨(HX6.out _ (by omega)).trans (H0.out.below B5.out H0.out.lt).1, fun _ => Nat.two_pow_pos 256⟩, (HX6.out _ (by omega)).trans ((B5.out.block _ HPP.out.lt).trans HPP.out)⟩, HMM.out.keeps HK6.out, HBB.out.trans (B6.out.mono (by omega))⟩
        case done =>
          rintro D ys W hD rfl ⟨⟨h1, hg1, h0, hp⟩, hM, hB⟩ hK
          rw [natsOf_all, nextG_next] at h1
          have H1 := Lib.hid h1
          have HG1 := Lib.hid hg1
          have H0 := Lib.hid h0
          have HMM := Lib.hid (MarksAt.cons hM (fun E hE => Nat.lt_of_lt_of_le (mlt E hE) hD) (by omega) hK)
          have HBB := Lib.hid hB
          clear h1 hg1 h0 hp hM hB hK
          gi_wp2
          refine ⟨?_, ?measure⟩
          refine ⟨k + 1, D :: Ds, ?_⟩
          (repeat apply Exists.intro)
          refine ⟨?rel, ?frame⟩
          case frame => rw [show (((k + 1 : Nat)) : Int) = (k : Int) + 1 from by omega]; rfl
          case rel => exact ⟨by omega, H1.out, HG1.out, H0.out, HMM.out, HBB.out⟩
          case measure => simp [intOf]; omega
        case stop =>
          rintro D c pre W _ _ h _
          exact h.elim
      · obtain rfl : k = n := by omega
        have hknz : ¬ (k : Int) < (k : Int) := by omega
        rw [nextG_done HC2.out] at hx
        have hlq : wr.heap.size < wq.heap.size := HX.out.lt
        by_cases he : stepG gt = gt
        · rw [he] at hx
          have heq : ∀ W, (Op.equalIn 10000 60 (.agg (gridCells gt)) (.agg (gridCells gt))).run Tryd.prog W = .ok true W := fun W => by
            rw [run_eqGrid 9997 gt gt HC2.out.lt HC2.out.lt W, (grid_all HC2.out HC2.out hn).2 rfl]
          have hfin : GridAt (wq.setRow (w.heap.size + 1) (gridCells gt)) (w.heap.size + 1) gt := HR.out.setRow HC2.out.lt
          have HFIN := Lib.hid hfin
          have HBE := Lib.hid (below_setRow' HB.out (Nat.le_succ w.heap.size) (gridCells gt))
          have hR0 := HR.out
          have hme : MarksAt w.heap.size Ds (wq.setRow (w.heap.size + 1) (gridCells gt)) := ⟨HM.out.nodup, fun D hD => by
            obtain ⟨h1, h2⟩ := HM.out.at_ D hD
            refine ⟨h1, ?_⟩
            rw [setRow_other wq (w.heap.size + 1) D _ (fun e => by rw [e, hR0.1] at h2; cases h2)]
            exact h2⟩
          have HME := Lib.hid hme
          have HE := Lib.hid he
          clear hfin hme he
          gi_wp2_with (first | (refine wpListIn_load_row rfl rfl 60 (.tmp 3) rfl wr.heap.size rfl 60 (gridCells gt) (0, 0) _ hx.1 hug rfl (by rw [gridCells_size]; exact sizeGrid) ?_) | (refine wpListIn_load_row rfl rfl 60 (.tmp 1) rfl w.heap.size rfl 60 (gridCells gt) (0, 0) _ hg.1 hug rfl (by rw [gridCells_size]; exact sizeGrid) ?_) | (refine wpListIn_store_row rfl rfl 60 (.tmp 2) (.tmp 29) rfl (w.heap.size + 1) (gridCells gt) rfl rfl 60 (gridCells fun _ => 0) hR0.1 (by rw [gridCells_size]; exact sizeGrid) (by rw [gridCells_size, gridCells_size]) (gridCells_one _) ?_))
          refine leaves_marks (n₀ := w.heap.size) (K := fun W => Below w.heap.size w W ∧ GridAt W (w.heap.size + 1) gt) (fun W D h h1 h2 => ⟨h.1.trans (belowK_b (w := w) (Nat.le_refl _) W D _ _ h1 h2 rfl rfl), ⟨by rw [World.putObj_heap_other (fun e => by rw [← e, h.2.1] at h2; cases h2)]; exact h.2.1, h.2.2⟩⟩) (fun W h => ⟨.agg (gridCells gt), ?_, ⟨gt, HC2.out, HE.out, rfl⟩, h.1⟩) Ds _ HME.out ⟨HBE.out, HFIN.out⟩
          exact results_cell_row rfl _ W (w.heap.size + 1) 60 (gridCells gt) (0, 0) _ rfl h.2.1 hug rfl (by rw [gridCells_size]; exact sizeGrid)
        · have heq : ∀ W, (Op.equalIn 10000 60 (.agg (gridCells (stepG gt))) (.agg (gridCells gt))).run Tryd.prog W = .ok false W := fun W => by
            rw [run_eqGrid 9997 (stepG gt) gt HC2.out.step.lt HC2.out.lt W]
            cases hq : (List.range 200).all fun i => decide (stepG gt i = gt i) with
            | false => rfl
            | true => exact absurd ((grid_all HC2.out.step HC2.out hn).1 hq) he
          have hfin : GridAt (wq.setRow w.heap.size (gridCells (stepG gt))) w.heap.size (stepG gt) := HG.out.setRow HC2.out.step.lt
          have HFIN := Lib.hid hfin
          have HBE := Lib.hid (below_setRow' HB.out (Nat.le_refl w.heap.size) (gridCells (stepG gt)))
          have hG0 := HG.out
          have hme : MarksAt w.heap.size Ds (wq.setRow w.heap.size (gridCells (stepG gt))) := ⟨HM.out.nodup, fun D hD => by
            obtain ⟨h1, h2⟩ := HM.out.at_ D hD
            refine ⟨h1, ?_⟩
            rw [setRow_other wq w.heap.size D _ (fun e => by rw [e, hG0.1] at h2; cases h2)]
            exact h2⟩
          have HME := Lib.hid hme
          have HRE : Hid (GridAt (wq.setRow w.heap.size (gridCells (stepG gt))) (w.heap.size + 1) (fun _ => 0)) := Lib.hid ⟨by rw [setRow_other wq w.heap.size (w.heap.size + 1) _ (by omega)]; exact HR.out.1, HR.out.2⟩
          have HP := Lib.hid (pop_step HC2.out he)
          clear hfin hme he
          gi_wp2_with (first | (refine wpListIn_load_row rfl rfl 60 (.tmp 3) rfl wr.heap.size rfl 60 (gridCells (stepG gt)) (0, 0) _ hx.1 hug rfl (by rw [gridCells_size]; exact sizeGrid) ?_) | (refine wpListIn_load_row rfl rfl 60 (.tmp 1) rfl w.heap.size rfl 60 (gridCells gt) (0, 0) _ hg.1 hug rfl (by rw [gridCells_size]; exact sizeGrid) ?_) | (refine wpListIn_store_row rfl rfl 60 (.tmp 1) (.tmp 30) rfl w.heap.size (gridCells (stepG gt)) rfl rfl 60 (gridCells gt) hg.1 (by rw [gridCells_size]; exact sizeGrid) (by rw [gridCells_size, gridCells_size]) (gridCells_one _) ?_))
          refine ⟨?_, ?measure⟩
          refine ⟨stepG gt, Ds, ?_⟩
          (repeat apply Exists.intro)
          refine ⟨?rel, ?frame⟩
          case frame => rfl
          case rel => exact ⟨HC2.out.step, HFIN.out, HRE.out, HME.out, HBE.out⟩
          case measure =>
            have h1 := gridIn_pop HFIN.out hn
            have h2 := HGP.out
            have h3 := HP.out
            have h4 := popG_le (stepG gt) k
            rw [h1, h2]
            omega
end Go.Proofs.YtjlemkmpmjdjaaaDoor
