/- The program's OrderFrom. -/
import Derived.Test.YtjfbjfclcpcaiaaDoorPb21
import Derived.Test.YtjfbjfclcpcaiaaDoorPb23
import Derived.Test.YtjfbjfclcpcaiaaDoorPb11
import Derived.Test.YtjfbjfclcpcaiaaDoorPb13
namespace Go.Proofs.YtjfbjfclcpcaiaaDoor
open Go.RowKit Go.Deep Go.Shelf

/-- The bits that are laid: those of the rows below i, and of row i itself (if m is more than 0) its own and its first m - 1. -/
def LaidB (rows : Rows2) (i m : Nat) (G : Nat → Nat) : Prop :=
  ∀ q j, (G q).testBit j = true ↔ (q < i ∧ (j = q ∨ stepE rows q j)) ∨ (q = i ∧ 0 < m ∧ (j = i ∨ (j : Int) ∈ (rows.getD i []).take (m - 1)))
theorem LaidB.start (rows : Rows2) : LaidB rows 0 0 (fun _ => 0) := fun q j => by
  rw [Nat.zero_testBit]
  constructor
  · intro h; cases h
  · rintro (⟨h, _⟩ | ⟨_, h, _⟩)
    · omega
    · omega
theorem LaidB.own {rows : Rows2} {i : Nat} {G : Nat → Nat} (h : LaidB rows i 0 G) : LaidB rows i 1 (fun q => if q = i then put (G i) i else G q) := fun q j => by
  dsimp only
  by_cases e : q = i
  · subst e
    rw [if_pos rfl, testBit_put, Bool.or_eq_true, h q j, decide_eq_true_iff]
    constructor
    · rintro ((⟨h1, _⟩ | ⟨_, h1, _⟩) | h1)
      · omega
      · omega
      · exact .inr ⟨rfl, by omega, .inl h1.symm⟩
    · rintro (⟨h1, _⟩ | ⟨_, _, h1 | h1⟩)
      · omega
      · exact .inr h1.symm
      · simp at h1
  · rw [if_neg e, h q j]
    constructor
    · rintro (h1 | ⟨h1, _⟩)
      · exact .inl h1
      · exact absurd h1 e
    · rintro (h1 | ⟨h1, _⟩)
      · exact .inl h1
      · exact absurd h1 e
theorem LaidB.add {rows : Rows2} {i k x : Nat} {G : Nat → Nat} (h : LaidB rows i (k + 1) G) (hi : i < rows.length) (hk : k < rows[i].length) (hx : rows[i][k] = (x : Int)) : LaidB rows i (k + 1 + 1) (fun q => if q = i then put (G i) x else G q) := fun q j => by
  have ht : (rows.getD i []).take (k + 1 + 1 - 1) = (rows.getD i []).take (k + 1 - 1) ++ [(x : Int)] := by
    rw [getD_at [] hi, show k + 1 + 1 - 1 = k + 1 by omega, show k + 1 - 1 = k by omega, List.take_succ_eq_append_getElem hk, hx]
  dsimp only
  by_cases e : q = i
  · subst e
    rw [if_pos rfl, testBit_put, Bool.or_eq_true, h q j, decide_eq_true_iff, ht]
    constructor
    · rintro ((⟨h1, _⟩ | ⟨_, _, h1 | h1⟩) | h1)
      · omega
      · exact .inr ⟨rfl, by omega, .inl h1⟩
      · exact .inr ⟨rfl, by omega, .inr (List.mem_append_left _ h1)⟩
      · exact .inr ⟨rfl, by omega, .inr (List.mem_append_right _ (by rw [List.mem_singleton]; omega))⟩
    · rintro (⟨h1, _⟩ | ⟨_, _, h1 | h1⟩)
      · omega
      · exact .inl (.inr ⟨rfl, by omega, .inl h1⟩)
      · rcases List.mem_append.1 h1 with h1 | h1
        · exact .inl (.inr ⟨rfl, by omega, .inr h1⟩)
        · rw [List.mem_singleton] at h1
          exact .inr (by omega)
  · rw [if_neg e, h q j]
    constructor
    · rintro (h1 | ⟨h1, _⟩)
      · exact .inl h1
      · exact absurd h1 e
    · rintro (h1 | ⟨h1, _⟩)
      · exact .inl h1
      · exact absurd h1 e
theorem LaidB.next {rows : Rows2} {i : Nat} {G : Nat → Nat} (hi : i < rows.length) (h : LaidB rows i (rows[i].length + 1) G) : LaidB rows (i + 1) 0 G := fun q j => by
  have ht : (rows.getD i []).take (rows[i].length + 1 - 1) = rows[i] := by rw [getD_at [] hi, Nat.add_sub_cancel, List.take_length]
  rw [h q j, ht]
  constructor
  · rintro (⟨h1, h2⟩ | ⟨rfl, _, h1⟩)
    · exact .inl ⟨by omega, h2⟩
    · exact .inl ⟨by omega, h1.imp id fun h => (step_iff hi).2 h⟩
  · rintro (⟨h1, h2⟩ | ⟨_, h1, _⟩)
    · by_cases e : q = i
      · subst e
        exact .inr ⟨rfl, by omega, h2.imp id fun h => (step_iff hi).1 h⟩
      · exact .inl ⟨by omega, h2⟩
    · omega
theorem LaidB.done {rows : Rows2} {G : Nat → Nat} (h : LaidB rows rows.length 0 G) (hr : RangeP rows) (hG : ∀ q, G q < 2 ^ 256) : ClI (stepE rows) rows.length G :=
  ⟨hG, fun i hi => (h i i).2 (.inl ⟨hi, .inl rfl⟩), fun i j hi he => (h i j).2 (.inl ⟨hi, .inr he⟩), fun i j hb => by
    rcases (h i j).1 hb with ⟨h1, h2 | h2⟩ | ⟨_, h1, _⟩
    · subst h2; exact ⟨h1, h1, .refl⟩
    · exact ⟨h1, (step_lt hr h2).2, Rch.refl.step h2⟩
    · omega⟩
/-- Rows that are closed are those of what is reached. -/
theorem closed_grid {rows : Rows2} {g : Nat → Nat} (hr : RangeP rows) (hc : ClI (stepE rows) rows.length g) (hf : stepG g = g) : g = gridF (reachR rows) :=
  reach_grid hr (fun i hi j => hc.done (fun i _ => by rw [hf]) i j hi) fun i hi => hc.out hi

/-- While the grid is laid. -/
structure LaidF (w : World) (G : Nat → Nat) (W : World) : Prop where
  res : Boxed W w.heap.size 25 (.slice none 0 0)
  grid : GridAt W (w.heap.size + 1) G
  below : Below w.heap.size w W
theorem LaidF.step {w : World} {G : Nat → Nat} {W W' : World} (h : LaidF w G W) (hb : Below W.heap.size W W') : LaidF w G W' :=
  ⟨(hb.block _ h.res.lt).trans h.res, h.grid.below hb h.grid.lt, h.below.trans (hb.mono h.below.size)⟩
theorem LaidF.put {w : World} {G : Nat → Nat} {W : World} (h : LaidF w G W) {k i : Nat} (hk : k < 200) (hi : i < 200) (m : Nat) :
    LaidF w (fun q => if q = k then put (G k) i else G q) ((W.drewN m).setCell ⟨w.heap.size + 1, k * 4 + i / 64, none⟩ (.int .u64 ((word (G k) (i / 64) ||| 2 ^ (i % 64) : Nat) : Int))) := by
  have hW := h.step (below_drewN' W m _)
  refine ⟨(heap_setCell_other _ ⟨w.heap.size + 1, _, none⟩ w.heap.size _ (by show w.heap.size ≠ w.heap.size + 1; omega)).trans hW.res, h.grid.putAt hk (by omega) m, hW.below.setCell (p := ⟨w.heap.size + 1, _, none⟩) (Nat.le_succ _) _⟩

set_option maxRecDepth 100000 in
set_option maxHeartbeats 8000000 in
theorem implFrom_any (v : Value) (rows : Rows2) (w : World) (hv : RowsAt w v rows) (hT : Tab w) (hn : bulk rows ≤ 1048576) :
    Calls Tryd.prog 64 #[v] w (OrderP (fromL rows) (fromT rows) w) := by
  have hz := (zero_of_info zeroGrid).1
  have hug := Tryd.underlying83
  have hlen : rows.length ≤ 1048576 := by unfold bulk at hn; omega
  have hlr : ∀ i (hi : i < rows.length), rows[i].length ≤ 1048576 := fun i hi => by have := bulk_row hi; omega
  have hbx := Boxed.new w 25 (.slice none 0 0)
  have b1 := (Below.refl w.heap.size w).alloc (Nat.le_refl _) (.cells #[.slice none 0 0] 25)
  obtain ⟨A, C, rfl, hC, hm, hx⟩ := hv
  unfold maxLen at hm
  have HX := Lib.hid hx
  have HLR := Lib.hid hlr
  have HTT := Lib.hid hT
  have B1 := Lib.hid b1
  have BX := Lib.hid hbx
  clear hx hlr hT b1
  have hres := hbx.cell
  have hrf := hbx.frozen
  by_cases h0 : rows.length < 1
  · have HN := Lib.hid (from_zero h0)
    have hz0 : (rows.length : Int) < 1 := by omega
    clear hbx h0
    go_enter Tryd.func64, Tryd.ntmps64
    go_wp2
    refine bodyPost_ret (v := .tuple #[.agg #[.slice none 0 0], .bool false]) (by simp [results, Tryd.results64, go_sem]) rfl ?_
    exact fromP_no HN.out B1.out
  · by_cases h1 : 200 < rows.length
    · have HN := Lib.hid (from_no (rows := rows) fun h => by omega)
      have hz0 : ¬ (rows.length : Int) < 1 := by omega
      have hz1 : (200 : Int) < (rows.length : Int) := by omega
      clear hbx h0 h1
      go_enter Tryd.func64, Tryd.ntmps64
      go_wp2
      refine bodyPost_ret (v := .tuple #[.agg #[.slice none 0 0], .bool false]) (by simp [results, Tryd.results64, go_sem]) rfl ?_
      exact fromP_no HN.out B1.out
    · have hn1 : 1 ≤ rows.length := by omega
      have hn2 : rows.length ≤ 200 := by omega
      have hz0 : ¬ (rows.length : Int) < 1 := by omega
      have hz1 : ¬ (200 : Int) < (rows.length : Int) := by omega
      have s1 : (w.alloc (.cells #[.slice none 0 0] 25)).heap.size = w.heap.size + 1 := World.size_alloc _ _
      have L0 : Hid (LaidF w (fun _ => 0) ((w.alloc (.cells #[.slice none 0 0] 25)).alloc (.cells (gridCells fun _ => 0) 83))) := Lib.hid
        ⟨BX.out.alloc _, ⟨by rw [← s1]; exact heap_alloc_new _ _, fun _ => Nat.two_pow_pos 256⟩, B1.out.alloc (by rw [s1]; exact Nat.le_succ _) _⟩
      clear hbx h0 h1 s1 hres hrf
      go_enter Tryd.func64, Tryd.ntmps64
      go_wp2
      go_loopw [20] (fun iv wr => ∃ (i : Nat) (G : Nat → Nat), i ≤ rows.length ∧ iv = .int .i64 i ∧ (∀ j (hj : j < rows.length), j < i → ∀ x ∈ rows[j], 0 ≤ x ∧ x < rows.length) ∧ LaidB rows i 0 G ∧ LaidF w G wr) (fun iv _ => rows.length - (intOf iv).toNat)
      case atStart => exact ⟨0, _, Nat.zero_le _, rfl, fun _ _ h => absurd h (Nat.not_lt_zero _), LaidB.start rows, L0.out⟩
      case round =>
        obtain ⟨i, G, hi, rfl, hr, hbt, hl⟩ := hrel
        have HR := Lib.hid hr
        have HBT := Lib.hid hbt
        have HL := Lib.hid hl
        clear hr hbt hl L0
        by_cases hlt : i < rows.length
        · have hltz : (i : Int) < (rows.length : Int) := by omega
          obtain ⟨b0, o0, u, rfl, hc, hu⟩ := HX.out i hlt
          obtain ⟨Au, Cu, rfl, hCu, hmu, _, hy⟩ := hu
          unfold maxLen at hmu
          have hc0 : wr.cell? ⟨b0, o0 + i, none⟩ = some (.slice Au rows[i].length Cu) := (HL.out.below.cell (p := ⟨b0, o0 + i, none⟩) (cell_lt hc)).trans hc
          have HY := Lib.hid (fun W (h : Below w.heap.size w W) k (hk : k < rows[i].length) => show ∃ b o, Au = some ⟨b, o, none⟩ ∧ W.cell? ⟨b, o + k, none⟩ = some (.int .i64 rows[i][k]) by
            obtain ⟨b, o, e, h3⟩ := hy k hk
            exact ⟨b, o, e, (h.cell (p := ⟨b, o + k, none⟩) (cell_lt h3)).trans h3⟩)
          have hli := HLR.out i hlt
          have hi200 : i < 200 := by omega
          have hiz2 : (i : Int) < 200 := by omega
          have hiz0 : (0 : Int) ≤ (i : Int) := by omega
          have hadd := addTo_any (w.heap.size + 1) i i i G wr HL.out.grid hi200 hi200 rfl
          clear hy hc
          go_wp2_with (go_at_call 110; refine hadd.mono ?_; clear hadd; rintro e w' ⟨rfl, m, rfl⟩)
          have HL2 := Lib.hid (HL.out.put hi200 hi200 m)
          have HBT2 := Lib.hid HBT.out.own
          generalize (fun q => if q = i then put (G i) i else G q) = G1 at HL2 HBT2
          generalize (wr.drewN m).setCell ⟨w.heap.size + 1, i * 4 + i / 64, none⟩ (.int .u64 ((word (G i) (i / 64) ||| 2 ^ (i % 64) : Nat) : Int)) = wa at HL2 ⊢
          clear HL HBT hc0
          go_wp2
          go_loopw [31] (fun kv wq => ∃ (k : Nat) (G2 : Nat → Nat), k ≤ rows[i].length ∧ kv = .int .i64 k ∧ (∀ q (hq : q < rows[i].length), q < k → 0 ≤ rows[i][q] ∧ rows[i][q] < rows.length) ∧ LaidB rows i (k + 1) G2 ∧ LaidF w G2 wq) (fun kv _ => rows[i].length - (intOf kv).toNat)
          case atStart => exact ⟨0, _, Nat.zero_le _, rfl, fun _ _ h => absurd h (Nat.not_lt_zero _), HBT2.out, HL2.out⟩
          case round =>
            obtain ⟨k, G2, hk, rfl, hq, hbt, hl⟩ := hrel
            have HQ := Lib.hid hq
            have HB3 := Lib.hid hbt
            have HL3 := Lib.hid hl
            clear hq hbt hl HL2 HBT2
            by_cases hkl : k < rows[i].length
            · have hkz : (k : Int) < (rows[i].length : Int) := by omega
              obtain ⟨b1, o1, rfl, hcx⟩ := HY.out _ HL3.out.below k hkl
              by_cases hin : 0 ≤ rows[i][k] ∧ rows[i][k] ≤ (rows.length : Int) - 1
              · obtain ⟨x, hx⟩ : ∃ x : Nat, rows[i][k] = (x : Int) := ⟨rows[i][k].toNat, by omega⟩
                rw [hx] at hcx hin
                have HXE := Lib.hid hx
                have hx200 : x < 200 := by omega
                have hxn : ¬ (rows.length : Int) ≤ (x : Int) := by omega
                have hx0 : ¬ (x : Int) < 0 := by omega
                have hadd := addTo_any (w.heap.size + 1) i x x G2 wr HL3.out.grid hi200 hx200 rfl
                have HIN := Lib.hid hin
                clear hx hin
                go_wp2_with (go_at_call 110; refine hadd.mono ?_; clear hadd; rintro e w' ⟨rfl, m2, rfl⟩)
                go_roundw
                case rel =>
                  refine ⟨k + 1, _, by omega, by go_num, fun q hq hqk => ?_, HB3.out.add hlt hkl HXE.out, HL3.out.put hi200 hx200 m2⟩
                  by_cases e : q = k
                  · subst e; rw [HXE.out]; have := HIN.out; omega
                  · exact HQ.out q hq (by omega)
                case measure => simp [intOf]; omega
              · have HN := Lib.hid (from_no (rows := rows) fun h => range_not hlt hkl hin h.2)
                have hres := HL3.out.res.cell
                have hrf := HL3.out.res.frozen
                have hc9 := World.cell?_setCell_same' wr ⟨w.heap.size, 0, none⟩ (.slice none 0 0) (by rw [hres]; rfl)
                have hBF := Lib.hid (HL3.out.below.setCell (p := ⟨w.heap.size, 0, none⟩) (Nat.le_refl _) (.slice none 0 0))
                generalize rows[i][k] = x at hcx hin
                by_cases hx0 : x < 0
                · clear hin
                  go_wp2
                  refine bodyPost_ret (v := .tuple #[.agg #[.slice none 0 0], .bool false]) (by simp [results, Tryd.results64, go_sem, hc9]) rfl ?_
                  exact fromP_no HN.out hBF.out
                · have hxn : (rows.length : Int) ≤ x := by omega
                  clear hin
                  go_wp2
                  refine bodyPost_ret (v := .tuple #[.agg #[.slice none 0 0], .bool false]) (by simp [results, Tryd.results64, go_sem, hc9]) rfl ?_
                  exact fromP_no HN.out hBF.out
            · obtain rfl : k = rows[i].length := by omega
              have hkz : ¬ (rows[i].length : Int) < (rows[i].length : Int) := by omega
              go_wp2
              go_roundw
              case rel =>
                refine ⟨i + 1, G2, by omega, by go_num, fun j hj hji x hx => ?_, HB3.out.next hlt, HL3.out⟩
                by_cases e : j = i
                · subst e
                  obtain ⟨q, hq, rfl⟩ := List.getElem_of_mem hx
                  exact HQ.out q hq hq
                · exact HR.out j hj (by omega) x hx
              case measure => simp [intOf]; omega
        · obtain rfl : i = rows.length := by omega
          have hltz : ¬ (rows.length : Int) < (rows.length : Int) := by omega
          have HRG : Hid (RangeP rows) := Lib.hid (fun j hj x hx => HR.out j hj hj x hx)
          have hcl := HBT.out.done HRG.out HL.out.grid.2
          have hcall := closed_any wr hcl hn2 (HTT.out.below HL.out.below)
          have hg0 := HL.out.grid
          go_upto_region 17 with (first | (refine wpList_load_row rfl 83 (.tmp 4) rfl (w.heap.size + 1) rfl 83 (gridCells G) (0, 0) _ hg0.1 hug rfl (by rw [gridCells_size]; exact sizeGrid) ?_) | (go_at_call 111; refine hcall.mono ?_; clear hcall; rintro e w1 ⟨⟨g, hgc, hgf, rfl⟩, hb1⟩; have L1 := Lib.hid (HL.out.step hb1); have HGC := Lib.hid hgc; have HGE := Lib.hid (closed_grid HRG.out hgc hgf); have hg1 := L1.out.grid; clear hb1 hgc hgf) | (refine wpList_store_row rfl 83 (.tmp 4) (.tmp 51) rfl (w.heap.size + 1) (gridCells g) rfl rfl 83 (gridCells G) hg1.1 (by rw [gridCells_size]; exact sizeGrid) (by rw [gridCells_size, gridCells_size]) (gridCells_one _) ?_))
          have hrl := reachR_len rows
          have LS : Hid (LaidF w g (w1.setRow (w.heap.size + 1) (gridCells g))) := Lib.hid
            ⟨(setRow_other w1 (w.heap.size + 1) w.heap.size _ (by omega)).trans L1.out.res, L1.out.grid.setRow HGC.out.lt, below_setRow' L1.out.below (Nat.le_succ _) _⟩
          have hown : ∀ k, k < rows.length → (g k).testBit k = true := fun k hk => HGC.out.own k hk
          have hbits : ∀ k j, k < rows.length → (g k).testBit j = true → j < rows.length := fun k j _ hb => (HGC.out.sound k j hb).2.1
          have hlists : listsB (reachR rows) = true := by
            rw [listsB_all (reach_asc rows), hrl, decide_eq_true (show (1 : Int) ≤ rows.length by omega), decide_eq_true (show (rows.length : Int) ≤ 200 by omega)]
            rfl
          have GOOD := Lib.hid (fun (hc : ∀ i, i < rows.length → CovAll g i) => show validB (reachR rows) = true by
            have hge := HGE.out
            refine valid_of_cover hlists (reach_asc rows) (fun k hk => ?_) (fun k j hk hb => ?_) (fun i hi => ?_)
            · rw [← hge]; exact hown k (by omega)
            · rw [← hge] at hb; rw [hrl]; exact hbits k j (by omega) hb
            · rw [← hge]; exact hc i (by omega))
          have BAD := Lib.hid (fun (hc : ∃ i, i < rows.length ∧ BadBit g i) => show validB (reachR rows) = false by
            have hge := HGE.out
            obtain ⟨i, hi, hb⟩ := hc
            refine valid_of_bad (reach_asc rows) (fun k j hk hb => ?_) (show i < (reachR rows).length by omega) (by rw [← hge]; exact hb)
            rw [← hge] at hb; rw [hrl]; exact hbits k j (by omega) hb)
          have hcall := isOrder_any (w.heap.size + 1) rows.length g (w1.setRow (w.heap.size + 1) (gridCells g)) LS.out.grid (HTT.out.below LS.out.below) hn2 (fun _ => HGC.out.out (Nat.le_refl _)) hown hbits
          have HRL := Lib.hid hrl
          have HFY := Lib.hid (from_yes hn2 HRG.out)
          clear hrl hown hbits hlists hg0 hg1 hcl
          generalize w1.setRow (w.heap.size + 1) (gridCells g) = ws at LS hcall ⊢
          go_wp2_with (go_at_call 112; refine hcall.mono ?_; clear hcall; rintro e w2 ⟨⟨t, ht1, ht2, rfl⟩, hb2⟩; have L2 := Lib.hid (LS.out.step hb2); have HT1 := Lib.hid ht1; have HT2 := Lib.hid ht2; have hres := L2.out.res.cell; have hrf := L2.out.res.frozen; clear hb2 ht1 ht2; cases t)
          · have hvf := BAD.out (HT2.out trivial)
            have hN := HFY.out.trans hvf
            have hc9 := World.cell?_setCell_same' w2 ⟨w.heap.size, 0, none⟩ (.slice none 0 0) (by rw [hres]; rfl)
            refine bodyPost_ret (v := .tuple #[.agg #[.slice none 0 0], .bool false]) (by simp [results, Tryd.results64, go_sem, hc9]) rfl ?_
            exact fromP_no ⟨hN, fromL_false hN⟩ (L2.out.below.setCell (p := ⟨w.heap.size, 0, none⟩) (Nat.le_refl _) _)
          · have hvt := GOOD.out (HT1.out trivial)
            have HN := Lib.hid (HFY.out.trans hvt)
            have HOK := Lib.hid (ok_of_valid hvt)
            have hord := order_any (w.heap.size + 1) rows.length g w2 L2.out.grid (HTT.out.below L2.out.below) (HGC.out.gridN hn2)
            clear hvt
            refine hord.mono ?_
            clear hord
            rintro e w3 ⟨u3, rfl, ho, hb3⟩
            obtain ⟨a3, C3, rfl⟩ := ho.form
            have L3 := Lib.hid (L2.out.step hb3)
            have hres3 := L3.out.res.cell
            have hrf3 := L3.out.res.frozen
            have hlt2 := L2.out.res.lt
            have HO : Hid (OwnR 3 42 w3 (.slice a3 rows.length C3) rows.length (fun a => bRow (rchB rows) a rows.length) (w.heap.size + 1) w3.heap.size) := Lib.hid ((ho.wider hlt2 (Nat.le_refl _)).congr fun q hq => by
              have h1 : q < (reachR rows).length := by rw [HRL.out]; exact hq
              have h2 := HOK.out.elems h1
              have h3 : (reachR rows)[q] = bRow (rchB rows) q rows.length := madeL_at (B := rchB rows) h1
              rw [← h3, h2, HGE.out]
              rfl)
            clear ho hb3 hres hrf
            go_wp2
            have hc9 := World.cell?_setCell_same' w3 ⟨w.heap.size, 0, none⟩ (.slice a3 rows.length C3) (by rw [hres3]; rfl)
            refine bodyPost_ret (v := .tuple #[.agg #[.slice a3 rows.length C3], .bool true]) (by simp [results, Tryd.results64, go_sem, hc9]) rfl ?_
            exact fromP_yes HN.out L3.out.below rfl HO.out
end Go.Proofs.YtjfbjfclcpcaiaaDoor


