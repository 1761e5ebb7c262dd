/- The program's rows of an order (ascendsBelow, isOrder, gridOf), and its OrderValid. -/
import Derived.Test.YtkomghohdhengaaDoorPc8
import Derived.Test.YtkomghohdhengaaDoorPc7
import Derived.Test.YtkomghohdhengaaDoorPc2
import Derived.Deep.WholeRow
import Derived.Deep.RegionHeld3
namespace Go.Proofs.YtkomghohdhengaaDoor
open Go.RowKit Go.Deep

theorem ascFrom_cons (last n : Int) (l : List Int) (k : Nat) (hk : k < l.length) : ascFrom last n (l.drop k) = (decide (last < l[k]) && decide (l[k] < n) && ascFrom l[k] n (l.drop (k + 1))) := by
  rw [List.drop_eq_getElem_cons hk]
  rfl

set_option maxHeartbeats 1000000 in
theorem ascends_any (v : Value) (xs : List Int) (n : Nat) (w : World) (hv : IntsAt w v xs) (_hn : n ≤ 1048576) :
    Calls Tryd.prog 137 #[v, .int .i64 n] w fun e w' => e = .returned (.bool (ascB n xs)) ∧ w = w' := by
  obtain ⟨a, C, rfl, hC, hm, _, hx⟩ := hv
  unfold maxLen at hm
  have HX := Lib.hid hx
  clear hx
  go_enter Tryd.func137, Tryd.ntmps137
  go_wp2
  go_loop [5, 10] (fun lv kv => ∃ (k : Nat) (last : Int), k ≤ xs.length ∧ kv = .int .i64 k ∧ lv = .int .i64 last ∧ ascB n xs = ascFrom last n (xs.drop k)) (fun _ kv => xs.length - (intOf kv).toNat)
  case atStart => exact ⟨0, -1, Nat.zero_le _, rfl, rfl, rfl⟩
  case round =>
    obtain ⟨k, last, hk, rfl, rfl, ha⟩ := hrel
    have HA := Lib.hid ha
    clear ha
    by_cases hlt : k < xs.length
    · obtain ⟨b, o, rfl, hc⟩ := HX.out k hlt
      have hcons := ascFrom_cons last n xs k hlt
      have HC := Lib.hid hcons
      clear hcons
      by_cases h1 : last < xs[k]
      · by_cases h2 : xs[k] < n
        · have e : ascB n xs = ascFrom xs[k] n (xs.drop (k + 1)) := by rw [HA.out, HC.out, decide_eq_true h1, decide_eq_true h2]; rfl
          have HE := Lib.hid e
          clear e
          go_wp2
          go_round
          case rel => exact ⟨k + 1, xs[k], by omega, by go_num, rfl, HE.out⟩
          case measure => simp [intOf]; omega
        · have e : ascB n xs = false := by rw [HA.out, HC.out, decide_eq_false h2]; simp
          have HE := Lib.hid e
          clear e
          go_wp2
          go_ret
          exact ⟨by rw [HE.out]; rfl, rfl⟩
      · have e : ascB n xs = false := by rw [HA.out, HC.out, decide_eq_false h1]; simp
        have HE := Lib.hid e
        clear e
        go_wp2
        go_ret
        exact ⟨by rw [HE.out]; rfl, rfl⟩
    · obtain rfl : k = xs.length := by omega
      have e : ascB n xs = true := by rw [HA.out, List.drop_length]; rfl
      have HE := Lib.hid e
      clear e
      go_wp2
      go_ret
      exact ⟨by rw [HE.out]; rfl, rfl⟩

/-- What gridOf answers. -/
def GridPost (rows : Rows2) (w : World) (e : Ending) (w' : World) : Prop :=
  (∃ g : Nat → Nat, (∀ i, g i < 2 ^ 256) ∧ (validB rows = true → g = gridF rows) ∧ e = .returned (.tuple #[.agg (gridCells g), .bool (validB rows)])) ∧ Below w.heap.size w w'
theorem GridPost.no {rows : Rows2} {w w' : World} (h : validB rows = false) (hb : Below w.heap.size w w') : GridPost rows w (.returned (.tuple #[.agg (gridCells fun _ => 0), .bool false])) w' :=
  ⟨⟨fun _ => 0, fun _ => Nat.two_pow_pos 256, fun h2 => (by rw [h] at h2; cases h2), by rw [h]⟩, hb⟩

theorem GridPost.yes {rows : Rows2} {w w' : World} {v : Value} (hv : v = .tuple #[.agg (gridCells (gridF rows)), .bool (validB rows)]) (hg : ∀ i, gridF rows i < 2 ^ 256) (hb : Below w.heap.size w w') : GridPost rows w (.returned v) w' :=
  ⟨⟨gridF rows, hg, fun _ => rfl, by rw [hv]⟩, hb⟩

/-- What holds while the grid is laid. -/
structure Laid (w : World) (v : Value) (g : Nat → Nat) (W : World) : Prop where
  cell : W.cell? ⟨w.heap.size, 0, none⟩ = some v
  res : GridAt W (w.heap.size + 1) (fun _ => 0)
  grid : GridAt W (w.heap.size + 2) g
  below : Below w.heap.size w W

theorem Laid.step {w : World} {v : Value} {g : Nat → Nat} {W W' : World} (h : Laid w v g W) (hb : Below W.heap.size W W') : Laid w v g W' :=
  ⟨by rw [hb.cell (p := ⟨w.heap.size, 0, none⟩) (cell_lt h.cell)]; exact h.cell, h.res.below hb h.res.lt, h.grid.below hb h.grid.lt, h.below.trans (hb.mono h.below.size)⟩

theorem Laid.start (w : World) (v : Value) (t : TypeId) : Laid w v (fun _ => 0) (((w.alloc (.cells #[v] t)).alloc (.cells (gridCells fun _ => 0) 93)).alloc (.cells (gridCells fun _ => 0) 93)) := by
  have z : ∀ i : Nat, (fun _ : Nat => (0 : Nat)) i < 2 ^ 256 := fun _ => Nat.two_pow_pos 256
  have s1 : (w.alloc (.cells #[v] t)).heap.size = w.heap.size + 1 := World.size_alloc _ _
  have s2 : ((w.alloc (.cells #[v] t)).alloc (.cells (gridCells fun _ => 0) 93)).heap.size = w.heap.size + 2 := by rw [World.size_alloc, s1]
  have g1 : GridAt ((w.alloc (.cells #[v] t)).alloc (.cells (gridCells fun _ => 0) 93)) (w.heap.size + 1) (fun _ => 0) := ⟨by rw [← s1]; exact heap_alloc_new _ _, z⟩
  have c0 : (w.alloc (.cells #[v] t)).cell? ⟨w.heap.size, 0, none⟩ = some v := (World.rowIs_alloc w #[v] t (fun _ => v) (fun i hi => by simp at hi; subst hi; rfl)).cell (by simp)
  refine ⟨cell_alloc_any (cell_alloc_any c0 _) _, g1.below ((Below.refl _ _).alloc (Nat.le_refl _) _) g1.lt, ⟨by rw [← s2]; exact heap_alloc_new _ _, z⟩, (((Below.refl _ w).alloc (Nat.le_refl _) _).alloc (by rw [s1]; omega) _).alloc (by rw [s2]; omega) _⟩

/-- One number more in row i. -/
theorem Laid.put {w : World} {v : Value} {rows : Rows2} {i k kn : Nat} {W : World} (h : Laid w v (gpart rows i k) W) (hi : i < rows.length) (hi2 : i < 200) (hk : k < rows[i].length) (hkn : rows[i][k] = (kn : Int)) (hlt : kn < 200)
    (hg' : ∀ i', gpart rows i (k + 1) i' < 2 ^ 256) (m : Nat) :
    Laid w v (gpart rows i (k + 1)) ((W.drewN m).setCell ⟨w.heap.size + 2, i * 4 + kn / 64, none⟩ (.int .u64 ((word (gpart rows i k i) (kn / 64) ||| 2 ^ (kn % 64) : Nat) : Int))) := by
  have hW : Laid w v (gpart rows i k) (W.drewN m) := h.step (below_drewN' _ _ _)
  have hset := hW.grid.set (g' := gpart rows i (k + 1)) i (kn / 64) hi2 (by omega) (word (gpart rows i k i) (kn / 64) ||| 2 ^ (kn % 64)) hg' (fun i' j' _ _ => by
    rw [gpart_step hi hk, hkn, Int.toNat_natCast]
    by_cases e : i' = i
    · subst e
      rw [if_pos rfl, word_put]
      by_cases e2 : kn / 64 = j'
      · subst e2; rw [if_pos rfl, if_pos ⟨rfl, rfl⟩]
      · rw [if_neg e2, if_neg (fun h => e2 h.2.symm)]
    · rw [if_neg e, if_neg (fun h => e h.1)])
  rw [Nat.mul_comm] at hset
  refine ⟨?_, hW.res.setOther (by show w.heap.size + 1 ≠ w.heap.size + 2; omega) _, hset, hW.below.setCell (p := ⟨w.heap.size + 2, _, none⟩) (by show w.heap.size ≤ w.heap.size + 2; omega) _⟩
  rw [World.cell?_of_block (w := W.drewN m) (heap_setCell_other _ ⟨w.heap.size + 2, _, none⟩ w.heap.size _ (by show w.heap.size ≠ w.heap.size + 2; omega))]
  exact hW.cell

theorem gridRange {W : World} {b : Nat} {g : Nat → Nat} (h : GridAt W b g) : W.rangeAt b 0 (gridCells g).toList := fun j v hv => by
  rw [Nat.zero_add, cell_of_row W b _ _ _ _ h.1]
  simpa using hv
theorem gridThere {W : World} {b : Nat} {g : Nat → Nat} (h : GridAt W b g) : W.there b 0 800 := fun j hj => by
  refine ⟨?_, h.frozen _⟩
  rw [Nat.zero_add, cell_of_row W b _ _ _ _ h.1, Array.getElem?_eq_getElem (by rw [gridCells_size]; exact hj)]
  rfl
theorem below_cells {B b : Nat} {a : World} (hb : B ≤ b) : ∀ (vs : List Value) (o : Nat) (W : World), Below B a W → Below B a (W.setCells b o vs)
  | [], _, _, h => h
  | v :: r, o, _, h => below_cells hb r (o + 1) _ (h.setCell (p := ⟨b, o, none⟩) hb v)


set_option maxRecDepth 100000 in
set_option maxHeartbeats 4000000 in
theorem gridOf_any (v : Value) (rows : Rows2) (w : World) (hv : RowsAt w v rows) (hT : Tab w) (hn : bulk rows ≤ 1048576) :
    Calls Tryd.prog 82 #[.agg #[v]] w (GridPost rows w) := by
  have hz := (zero_of_info zeroGrid).1
  have hbuild := fun (w : World) => run_build (P := Tryd.prog) w 93 #[] _ builtGrid
  have hlen : rows.length ≤ 1048576 := by unfold bulk at hn; omega
  obtain ⟨A, C, rfl, hC, hm, hx⟩ := hv
  unfold maxLen at hm
  have hlt0 : (w.alloc (.cells #[.slice A rows.length C] 25)).heap.size = w.heap.size + 1 := World.size_alloc _ _
  have hG1 : GridAt ((w.alloc (.cells #[.slice A rows.length C] 25)).alloc (.cells (gridCells fun _ => 0) 93)) (w.heap.size + 1) (fun _ => 0) :=
    ⟨by rw [← hlt0]; exact heap_alloc_new _ _, fun _ => Nat.two_pow_pos 256⟩
  have hB1 : Below w.heap.size w ((w.alloc (.cells #[.slice A rows.length C] 25)).alloc (.cells (gridCells fun _ => 0) 93)) := ((Below.refl _ w).alloc (Nat.le_refl _) _).alloc (by simp) _
  have HG1 := Lib.hid hG1
  have HB1 := Lib.hid hB1
  clear hG1 hB1 hlt0
  by_cases h0 : rows.length < 1 ∨ 200 < rows.length
  · have hv0 : validB rows = false := valid_no_lists (by
      cases h : listsB rows with
      | false => rfl
      | true => have := lists_len h; omega)
    have HV := Lib.hid hv0
    clear hv0 hx
    by_cases h1 : rows.length < 1
    · go_enter Tryd.func82, Tryd.ntmps82
      go_wp2_with (refine wpList_store_row rfl 93 (.tmp 2) (.tmp 19) rfl (w.heap.size + 1) (gridCells fun _ => 0) rfl rfl 93 (gridCells fun _ => 0) HG1.out.1 (by rw [gridCells_size]; exact sizeGrid) rfl (gridCells_one _) ?_)
      have hld := loadVarGrid (HG1.out.setRow (g' := fun _ => 0) (fun _ => Nat.two_pow_pos 256))
      refine bodyPost_ret (v := .tuple #[.agg (gridCells fun _ => 0), .bool false]) (by simp [results, Tryd.results82, asAddr, hld]) rfl ?_
      exact GridPost.no HV.out (below_setRow' HB1.out (Nat.le_succ _) _)
    · go_enter Tryd.func82, Tryd.ntmps82
      go_wp2_with (refine wpList_store_row rfl 93 (.tmp 2) (.tmp 19) rfl (w.heap.size + 1) (gridCells fun _ => 0) rfl rfl 93 (gridCells fun _ => 0) HG1.out.1 (by rw [gridCells_size]; exact sizeGrid) rfl (gridCells_one _) ?_)
      have hld := loadVarGrid (HG1.out.setRow (g' := fun _ => 0) (fun _ => Nat.two_pow_pos 256))
      refine bodyPost_ret (v := .tuple #[.agg (gridCells fun _ => 0), .bool false]) (by simp [results, Tryd.results82, asAddr, hld]) rfl ?_
      exact GridPost.no HV.out (below_setRow' HB1.out (Nat.le_succ _) _)
  · have hn1 : 1 ≤ rows.length := by omega
    have hn2 : rows.length ≤ 200 := by omega
    have hL0 := Laid.start w (.slice A rows.length C) 25
    have HL0 := Lib.hid hL0
    have HX := Lib.hid hx
    have HTT := Lib.hid hT
    clear hL0 hx h0 HG1 HB1 hT
    go_enter Tryd.func82, Tryd.ntmps82
    go_wp2
    go_loopw [23] (fun iv wr => ∃ i : Nat, i ≤ rows.length ∧ iv = .int .i64 i ∧ (∀ j (hj : j < rows.length), j < i → ascB rows.length rows[j] = true ∧ upB rows j j = true) ∧ Laid w (.slice A rows.length C) (gpart rows i 0) wr) (fun iv _ => rows.length - (intOf iv).toNat)
    case atStart =>
      refine ⟨0, Nat.zero_le _, rfl, fun _ _ h => absurd h (Nat.not_lt_zero _), ?_⟩
      have e : gpart rows 0 0 = fun _ => 0 := funext (gpart_zero rows)
      rw [e]
      exact HL0.out
    case round =>
      obtain ⟨i, hi, rfl, hd, hL⟩ := hrel
      have HD := Lib.hid hd
      have HL := Lib.hid hL
      have hcell := hL.cell
      clear hd hL HL0
      by_cases hlt : i < rows.length
      · obtain ⟨b0, o0, u, rfl, hc, hu⟩ := HX.out i hlt
        replace hc : wr.cell? ⟨b0, o0 + i, none⟩ = some u := by rw [HL.out.below.cell (p := ⟨b0, o0 + i, none⟩) (cell_lt hc)]; exact hc
        have HU0 := Lib.hid hu
        replace hu := hu.below HL.out.below
        have hca := ascends_any u rows[i] rows.length wr hu hlen
        obtain ⟨A1, C1, rfl, hC1, hm1, _, _⟩ := hu
        unfold maxLen at hm1
        have hli : rows[i].length ≤ 1048576 := by have := bulk_row hlt; omega
        cases hasc : ascB rows.length rows[i] with
        | false =>
          rw [hasc] at hca
          have HV := Lib.hid (valid_no_lists (listsB_no hlt hasc))
          clear hasc
          go_wp2_with (first | (go_at_call 137; refine hca.mono ?_; clear hca; rintro e w' ⟨rfl, rfl⟩) | (refine wpList_store_row rfl 93 (.tmp 2) (.tmp 34) rfl (w.heap.size + 1) (gridCells fun _ => 0) rfl rfl 93 (gridCells fun _ => 0) HL.out.res.1 (by rw [gridCells_size]; exact sizeGrid) rfl (gridCells_one _) ?_))
          have hld := loadVarGrid (HL.out.res.setRow (g' := fun _ => 0) (fun _ => Nat.two_pow_pos 256))
          refine bodyPost_ret (v := .tuple #[.agg (gridCells fun _ => 0), .bool false]) (by simp [results, Tryd.results82, asAddr, hld]) rfl ?_
          exact GridPost.no HV.out (below_setRow' HL.out.below (Nat.le_succ _) _)
        | true =>
          rw [hasc] at hca
          have HA := Lib.hid hasc
          clear hasc
          go_wp2_with (go_at_call 137; refine hca.mono ?_; clear hca; rintro e w' ⟨rfl, rfl⟩)
          have HLa := HL
          clear HL hcell hc
          have hglt : ∀ k i', gpart rows i k i' < 2 ^ 256 := fun k i' => gpart_lt (fun j hj hji x hx => by
            have hb : ascB rows.length rows[j] = true := by
              by_cases e : j = i
              · subst e; exact HA.out
              · exact (HD.out j hj (by omega)).1
            have := ((ascB_iff _ _).1 hb).2 x hx; omega) i'
          have HGLT := Lib.hid hglt
          clear hglt
          have hi2 : i < 200 := by omega
          have hI0 : (0 : Int) ≤ (i : Int) := by omega
          have hI1 : (i : Int) < 200 := by omega
          go_loopw [37] (fun kv wr => ∃ k : Nat, k ≤ rows[i].length ∧ kv = .int .i64 k ∧ Laid w (.slice (some ⟨b0, o0, none⟩) rows.length C) (gpart rows i k) wr) (fun kv _ => rows[i].length - (intOf kv).toNat)
          case atStart => exact ⟨0, Nat.zero_le _, rfl, HLa.out⟩
          case round =>
            obtain ⟨k, hk, rfl, hL⟩ := hrel
            have HL := Lib.hid hL
            have hcell := hL.cell
            by_cases hkl : k < rows[i].length
            · obtain ⟨_, _, e1, _, _, _, hy⟩ := HU0.out
              cases e1
              obtain ⟨b1, o1, rfl, hc1⟩ := hy k hkl
              replace hc1 : wr.cell? ⟨b1, o1 + k, none⟩ = some (.int .i64 rows[i][k]) := by rw [hL.below.cell (p := ⟨b1, o1 + k, none⟩) (cell_lt hc1)]; exact hc1
              have hrange := ((ascB_iff _ _).1 HA.out).2 _ (List.getElem_mem hkl)
              obtain ⟨kn, hkn⟩ : ∃ kn : Nat, rows[i][k] = (kn : Int) := ⟨rows[i][k].toNat, by omega⟩
              rw [hkn] at hc1 hrange
              have hkl2 : kn < 200 := by omega
              have hw := hL.grid.cell i (kn / 64) hi2 (by omega)
              rw [Nat.mul_comm] at hw
              have hadd := add_any (w.heap.size + 2) (i * 4) kn kn (word (gpart rows i k i) (kn / 64)) wr rfl (by omega) (word_lt _ _) hw (hL.grid.frozen _)
              have HKN := Lib.hid hkn
              clear hkn hrange hw hL hy
              go_wp2_with (go_at_call 119; refine hadd.mono ?_; clear hadd; rintro e w' ⟨rfl, m, rfl⟩)
              go_roundw
              case rel => exact ⟨k + 1, by omega, by go_num, HL.out.put hlt hi2 hkl HKN.out hkl2 (HGLT.out _) m⟩
              case measure => simp [intOf]; omega
            · obtain rfl : k = rows[i].length := by omega
              obtain ⟨g0, g1, g2, g3⟩ := hL.grid.row i hi2
              have hrow : gpart rows i rows[i].length i = gridF rows i := by
                unfold gpart gridF
                rw [if_neg (by omega), if_pos rfl, getD_at [] hlt, List.take_length]
              rw [hrow] at g0 g1 g2 g3
              have hbit : (gridF rows i).testBit i = upB rows i i := by
                rw [grid_bit hlt HA.out]
                unfold upB
                rw [getD_at [] hlt]
              have hcall := fun W => has_any (gridF rows i) i i W rfl (by omega)
              cases hown : upB rows i i with
              | false =>
                rw [hbit, hown] at hcall
                have HV := Lib.hid (valid_no_own hlt hown)
                clear hbit hown hrow hL
                go_wp2_with (first | (go_at_call 89; refine (hcall _).mono ?_; clear hcall; rintro e w1 ⟨rfl, hb1⟩; have HR1 := Lib.hid (HL.out.step hb1); clear hb1) | (refine wpList_store_row rfl 93 (.tmp 2) (.tmp 52) rfl (w.heap.size + 1) (gridCells fun _ => 0) rfl rfl 93 (gridCells fun _ => 0) HR1.out.res.1 (by rw [gridCells_size]; exact sizeGrid) rfl (gridCells_one _) ?_))
                have hld := loadVarGrid (HR1.out.res.setRow (g' := fun _ => 0) (fun _ => Nat.two_pow_pos 256))
                refine bodyPost_ret (v := .tuple #[.agg (gridCells fun _ => 0), .bool false]) (by simp [results, Tryd.results82, asAddr, hld]) rfl ?_
                exact GridPost.no HV.out (below_setRow' HR1.out.below (Nat.le_succ _) _)
              | true =>
                rw [hbit, hown] at hcall
                have HOW := Lib.hid hown
                clear hbit hown hrow hL
                go_wp2_with (go_at_call 89; refine (hcall _).mono ?_; clear hcall; rintro e w1 ⟨rfl, hb1⟩; have HR1 := Lib.hid (HL.out.step hb1); clear hb1)
                go_roundw
                case rel =>
                  refine ⟨i + 1, by omega, by go_num, fun j hj hlt' => ?_, ?_⟩
                  · by_cases e : j = i
                    · subst e; exact ⟨HA.out, HOW.out⟩
                    · exact HD.out j hj (by omega)
                  · rw [← gpart_next, getD_at [] hlt]; exact HR1.out
                case measure => simp [intOf]; omega
      · obtain rfl : i = rows.length := by omega
        have hL := HL.out
        rw [gpart_done] at hL
        have hasc : ∀ j (hj : j < rows.length), ascB rows.length rows[j] = true := fun j hj => (HD.out j hj hj).1
        have hlist : listsB rows = true := by
          rw [listsB_all hasc, decide_eq_true (show (1 : Int) ≤ rows.length by omega), decide_eq_true (show (rows.length : Int) ≤ 200 by omega)]
          rfl
        have hown : ∀ j, j < rows.length → (gridF rows j).testBit j = true := fun j hj => by
          rw [grid_bit hj (hasc j hj)]
          exact decide_eq_true ((upB_iff hj).1 (HD.out j hj hj).2)
        have hbits : ∀ j m, j < rows.length → (gridF rows j).testBit m = true → m < rows.length := fun j m hj hm => by
          rw [grid_bit hj (hasc j hj)] at hm
          have := ((ascB_iff _ _).1 (hasc j hj)).2 _ (of_decide_eq_true hm)
          omega
        have hLd : Laid w (.slice A rows.length C) (gridF rows) wr.drew := hL.step ((Below.refl _ wr).drew)
        have hcall := isOrder_any (w.heap.size + 2) rows.length (gridF rows) wr.drew hLd.grid ((HTT.out.below hL.below).below (Below.refl _ wr).drew) hn2 (fun _ => gridF_out rows (Nat.le_refl _)) hown hbits
        have HCALL := Lib.hid hcall
        have HGOOD := Lib.hid (fun h => valid_of_cover hlist hasc hown hbits h)
        have HBAD := Lib.hid (show (∃ j, j < rows.length ∧ BadBit (gridF rows) j) → validB rows = false from fun ⟨j, hj, h⟩ => valid_of_bad hasc hbits hj h)
        have HLD := Lib.hid hLd
        have hS1 := And.intro (gridRange hLd.grid) (gridThere hLd.res)
        clear hL hasc hlist hown hbits hLd hcall HL HD
        obtain ⟨cs, hcs⟩ : ∃ cs : List Value, cs = (gridCells (gridF rows)).toList := ⟨_, rfl⟩
        have hlc : cs.length = 800 := by rw [hcs, Array.length_toList, gridCells_size]
        have hic : (Tryd.prog.info? 93).map (·.size) = some cs.length := by rw [hlc]; exact sizeGrid
        have hug := Tryd.underlying93
        have hone : ∀ v ∈ cs, v.oneCell' = true := by
          have h := gridCells_one (gridF rows)
          rw [Array.all_eq_true_iff_forall_mem] at h
          intro v hv
          rw [hcs] at hv
          exact h v (by simpa using hv)
        rw [← hcs] at hS1
        have HCS := Lib.hid hcs
        have hKEEP : ∀ W, Laid w (.slice A rows.length C) (gridF rows) W → W.rangeAt (w.heap.size + 2) 0 cs ∧ W.there (w.heap.size + 1) 0 800 := fun W h => by
          rw [hcs]; exact ⟨gridRange h.grid, gridThere h.res⟩
        have HKEEP := Lib.hid hKEEP
        clear hKEEP hcs
        go_wp2
        go_region_held3 (fun w' => w'.rangeAt (w.heap.size + 2) 0 cs ∧ w'.there (w.heap.size + 1) 0 800) (first | exact hS2 | exact hS1 | exact ⟨World.rangeAt_setCells_apart hS2.1 _ _ _ (.inl (by omega)), World.there_setCells hS2.2 _ _ _⟩ | go_keep_ranges)
          (first | (go_at_call 121; refine HCALL.out.mono ?_; clear HCALL; rintro e w2 ⟨⟨t, ht1, ht2, rfl⟩, hb2⟩; have HT1 := Lib.hid ht1; have HT2 := Lib.hid ht2; have HL2 := Lib.hid (HLD.out.step hb2); have hS2 := HKEEP.out _ HL2.out; clear ht1 ht2 hb2))
        go_wp2
        have hld := run_loadVar_mid (P := Tryd.prog) (w2.setCells (w.heap.size + 1) 0 cs) (w.heap.size + 1) 0 93 cs _ (World.rangeAt_setCells_same w2 (w.heap.size + 1) 0 cs (by rw [hlc]; exact hS2.2)) hug rfl hic
        refine bodyPost_ret (v := .tuple #[.agg cs.toArray, .bool t]) (by simp [results, Tryd.results82, asAddr, hld]) rfl ?_
        have ht : t = validB rows := by
          cases t with
          | false => exact (HBAD.out (HT2.out rfl)).symm
          | true => exact (HGOOD.out (HT1.out rfl)).symm
        have hb3 := below_cells (Nat.le_succ w.heap.size) cs 0 w2 HL2.out.below
        have hbound := HLD.out.grid.2
        have hval : Value.tuple #[.agg cs.toArray, .bool t] = .tuple #[.agg (gridCells (gridF rows)), .bool (validB rows)] := by
          rw [ht, HCS.out, Array.toArray_toList]
        exact GridPost.yes hval hbound hb3

end Go.Proofs.YtkomghohdhengaaDoor


