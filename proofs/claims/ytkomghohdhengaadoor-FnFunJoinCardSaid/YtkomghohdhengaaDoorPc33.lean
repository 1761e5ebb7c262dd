/- The model's DomainProduct. -/
import Derived.Test.YtkomghohdhengaaDoorPc23
import Derived.Test.YtkomghohdhengaaDoorPc30
import Derived.StillTactics
namespace Go.Proofs.YtkomghohdhengaaDoor
open Go.RowKit Go.Deep

/-- The cells of a list, as what is appended. -/
theorem IntsAt.news {W : World} {a : Addr} {n C : Nat} {xs : List Int} (h : IntsAt W (.slice (some a) n C) xs) : ∀ j u, (cellsI xs)[j]? = some u → W.cell? (a.add j) = some u := by
  intro j u hu
  obtain ⟨a', C', e, _, _, _, hx⟩ := h
  rw [List.getElem?_map] at hu
  have hj : j < xs.length := by
    rcases Nat.lt_or_ge j xs.length with h | h
    · exact h
    · rw [List.getElem?_eq_none h] at hu
      simp at hu
  rw [List.getElem?_eq_getElem hj] at hu
  obtain rfl : Value.int .i64 xs[j] = u := by simpa using hu
  obtain ⟨b, o, e2, hc⟩ := hx j hj
  injection e with e3 _ _
  rw [e2] at e3
  injection e3 with e3
  subst e3
  have hadd : (⟨b, o, Option.none⟩ : Addr).add j = ⟨b, o + j, Option.none⟩ := by unfold Addr.add; split <;> simp_all
  rw [hadd]
  exact hc
theorem OwnI.addr {t : TypeId} {W : World} {v : Value} {xs : List Int} {lo hi : Nat} (h : OwnI t W v xs lo hi) (hx : 0 < xs.length) : ∃ g C, v = .slice (some ⟨g, 0, Option.none⟩) xs.length C := by
  obtain ⟨_, ⟨rfl, rfl⟩ | ⟨g, C, f, rfl, _⟩⟩ := h
  · exact absurd hx (Nat.lt_irrefl _)
  · exact ⟨g, C, rfl⟩

set_option maxRecDepth 100000 in
set_option maxHeartbeats 8000000 in
theorem l2Product_any (v v' : Value) (rows rows' : Rows2) (w : World) (hv : RowsAt w v rows) (hv' : RowsAt w v' rows') (hok : Ok rows) (hok' : Ok rows') (hl : rows.length * rows'.length ≤ 200) :
    Calls Tryd.prog 110 #[.agg #[v], .agg #[v']] w (OrdNew (rows.length * rows'.length) (prodR rows rows') w) := by
  have h0 := TwoR.start w hv hv'
  have HV := Lib.hid (fun W (h : Below w.heap.size w W) => hv.below h)
  have HV' := Lib.hid (fun W (h : Below w.heap.size w W) => hv'.below h)
  have hlen := hok.len
  have hlen' := hok'.len
  have s2 : (((w.alloc (.cells #[v] 25)).alloc (.cells #[v'] 25)).alloc (.cells #[.slice none 0 0] 25)).heap.size = w.heap.size + 3 := by rw [World.size_alloc, World.size_alloc, World.size_alloc]
  obtain ⟨A, C, rfl, hC, hm, hx⟩ := hv
  obtain ⟨A', C', rfl, hC', hm', hx'⟩ := hv'
  unfold maxLen at hm hm'
  obtain ⟨b0, o0, _, rfl, _, _⟩ := hx 0 (by omega)
  obtain ⟨b0', o0', _, rfl, _, _⟩ := hx' 0 (by omega)
  generalize hw0 : (((w.alloc (.cells #[.slice (some ⟨b0, o0, none⟩) rows.length C] 25)).alloc (.cells #[.slice (some ⟨b0', o0', none⟩) rows'.length C'] 25)).alloc (.cells #[.slice none 0 0] 25)) = w0 at h0 s2
  obtain ⟨i0, hi0, hz0, hz1, hz2⟩ := info_parts infoInt
  obtain ⟨j0, hj0, hy0, hy1, hy2⟩ := info_parts infoInts
  have H0 := Lib.hid h0
  have HOK := Lib.hid hok
  have HOK' := Lib.hid hok'
  have S2 := Lib.hid s2
  have HBW := Lib.hid (fun W (h : Below w0.heap.size w0 W) => h0.below.trans (h.mono (by rw [s2]; omega)))
  have hN := Out.empty w0 (prodR rows rows')
  rw [s2] at hN
  have hNP : rows.length * rows'.length ≤ 1048576 := by omega
  have hwN : IntKind.i64.wrap ((rows.length : Int) * (rows'.length : Int)) = ((rows.length * rows'.length : Nat) : Int) := by rw [← Int.natCast_mul]; exact IntWalk.i64_in _ (by omega)
  have hcA := h0.c0
  have hcA' := h0.c1
  clear h0 hok hok' hx hx'
  go_enter Tryd.func110, Tryd.ntmps110
  go_upto_region 3 with fail
  clear hw0 hcA hcA'
  generalize ((w0.alloc (.cells #[] 26)).alloc (.cells #[.slice (some ⟨w.heap.size + 3, 0, none⟩) 0 0] 25)) = wq at hN ⊢
  generalize w.heap.size + 3 + 1 = Z at hN ⊢
  have HST := Lib.hid hN
  have hn0 : 0 < rows'.length := by omega
  have hz : ¬ rows'.length = 0 := by omega
  have HNN := Lib.hid (rfl : rows.length * rows'.length = rows.length * rows'.length)
  clear hN
  go_wp2
  go_loopw [7] (fun av wx => ∃ (a : Nat) (u : Value), a ≤ rows.length * rows'.length ∧ av = .int .i64 a ∧ Out w0 Z u a (prodR rows rows') wx) (fun av _ => rows.length * rows'.length - (intOf av).toNat)
  case atStart => exact ⟨0, _, Nat.zero_le _, rfl, HST.out⟩
  case round =>
    obtain ⟨wo, hwo⟩ : ∃ wo : World, wo = wr := ⟨_, rfl⟩
    subst hwo
    obtain ⟨a, u, ha, rfl, ho⟩ := hrel
    have HK := Lib.hid ho
    obtain ⟨au, Cu, rfl⟩ := ho.own.form
    have hcell := (ho.below.cell (p := ⟨w.heap.size, 0, none⟩) (cell_lt H0.out.c0)).trans H0.out.c0
    have hcell' := (ho.below.cell (p := ⟨w.heap.size + 1, 0, none⟩) (cell_lt H0.out.c1)).trans H0.out.c1
    have hb0 := ho.below.size
    have hZ2 := ho.out.lt
    clear HST
    by_cases hlt : a < rows.length * rows'.length
    · have hltz : (a : Int) < ((rows.length * rows'.length : Nat) : Int) := by omega
      have hqa : a / rows'.length < rows.length := Nat.div_lt_of_lt_mul (by rw [Nat.mul_comm]; exact hlt)
      have hra : a % rows'.length < rows'.length := Nat.mod_lt _ hn0
      have d1 : (a : Int).tdiv (rows'.length : Int) = ((a / rows'.length : Nat) : Int) := (Int.ofNat_tdiv a rows'.length).symm
      have d3 : (a : Int) / (rows'.length : Int) = ((a / rows'.length : Nat) : Int) := (Int.natCast_ediv a rows'.length).symm
      have m1 : (a : Int).tmod (rows'.length : Int) = ((a % rows'.length : Nat) : Int) := (Int.ofNat_tmod a rows'.length).symm
      have m3 : (a : Int) % (rows'.length : Int) = ((a % rows'.length : Nat) : Int) := (Int.natCast_emod a rows'.length).symm
      have HCS := Lib.hid (fun i (hi : i < (rowsF rows (a / rows'.length)).length) => catP_succ (rows := rows) (rows' := rows') (q := a) hi)
      have HCL := Lib.hid (fun i (hi : i ≤ (rowsF rows (a / rows'.length)).length) => catP_len (rows := rows) (rows' := rows') (q := a) i hi)
      have HCR := Lib.hid (fun i => catP_range HOK.out HOK'.out (i := i) hlt)
      have HPR := Lib.hid (show prodR rows rows' a = catP rows rows' a (rowsF rows (a / rows'.length)).length from rfl)
      have e1 := rowsF_lt hqa
      have e2 := rowsF_lt hra
      rw [e1] at HCS HCL HPR
      rw [e2] at HCS HCL
      have hran := (HOK.out.asc _ hqa).2
      have hran' := (HOK'.out.asc _ hra).2
      have hll := (HOK.out.elems hqa)
      obtain ⟨A1, C1, hC1, hm1, hc, hyy⟩ := (HV.out wo (HBW.out _ ho.below)).row hqa
      have HR1 := Lib.hid (show ∀ W, Below wo.heap.size wo W → IntsAt W (.slice A1 rows[a / rows'.length].length C1) rows[a / rows'.length] from fun W hW => IntsAt.below ⟨A1, C1, rfl, hC1, hm1, fun x hx => by have := hran x hx; exact wf_int (by omega) (by omega), hyy⟩ hW)
      obtain ⟨A2, C2, hC2, hm2, hc2, hyy2⟩ := (HV'.out wo (HBW.out _ ho.below)).row hra
      have HR2 := Lib.hid (show ∀ W, Below wo.heap.size wo W → IntsAt W (.slice A2 rows'[a % rows'.length].length C2) rows'[a % rows'.length] from fun W hW => IntsAt.below ⟨A2, C2, rfl, hC2, hm2, fun x hx => by have := hran' x hx; exact wf_int (by omega) (by omega), hyy2⟩ hW)
      have HC2 := Lib.hid hc2
      have HCE := Lib.hid hcell'
      have hrl : rows[a / rows'.length].length ≤ 256 := by rw [hll, List.length_map]; exact elems_length_le _
      have hrl' : rows'[a % rows'.length].length ≤ 256 := by rw [HOK'.out.elems hra, List.length_map]; exact elems_length_le _
      have hrp : 0 < rows'[a % rows'.length].length := by rw [HOK'.out.elems hra, List.length_map]; exact List.length_pos_of_mem ((mem_elems (HOK'.out.lt _)).2 (HOK'.out.own _ hra))
      clear ho hyy hyy2 hc2 hcell' hll
      generalize rows[a / rows'.length] = X at *
      generalize rows'[a % rows'.length] = Y at *
      generalize a / rows'.length = qa at *
      generalize a % rows'.length = ra at *
      have hwq : IntKind.i64.wrap (qa : Int) = (qa : Int) := IntWalk.i64_in _ (by omega)
      have HO := Lib.hid (World.ownsRow_made (e := 3) (size := 1) wo #[] 0 (base := wo.heap.size) (Nat.le_refl _) (Nat.zero_le _) (by simp))
      have HBA := Lib.hid ((Below.refl wo.heap.size wo).alloc (Nat.le_refl _) (.cells #[] 3))
      have hqz : (qa : Int) < (rows.length : Int) := by omega
      have hrz : (ra : Int) < (rows'.length : Int) := by omega
      clear e1 e2
      go_upto_region 7 with fail
      have hca := cell_alloc_any hcell (.cells #[] 3)
      have hcb := cell_alloc_any hc (.cells #[] 3)
      generalize wo.alloc (.cells #[] 3) = wa at HO HBA hca hcb ⊢
      go_still (by kernel_rfl)
      clear hca hcb hc hcell
      go_wp2
      go_loopw [8, 10] (fun rv iv wx => ∃ i : Nat, i ≤ X.length ∧ iv = .int .i64 i ∧ wx.ownsRow wo.heap.size 3 1 rv (catP rows rows' a i).length (cellsI (catP rows rows' a i)) ∧ Below wo.heap.size wo wx) (fun _ iv _ => X.length - (intOf iv).toNat)
      case atStart => exact ⟨0, Nat.zero_le _, rfl, by unfold catP; simpa using owns_below HO.out (below_drew wa _), HBA.out.trans (below_drew _ _)⟩
      case round =>
        obtain ⟨i, hi, rfl, hown, hB⟩ := hrel
        have HOWN := Lib.hid hown
        have HB := Lib.hid hB
        have hcE := (hB.cell (p := ⟨w.heap.size + 1, 0, none⟩) (cell_lt HCE.out)).trans HCE.out
        have hcl : (catP rows rows' a i).length ≤ 65536 := by
          rw [HCL.out i hi]
          exact Nat.mul_le_mul (show i ≤ 256 by omega) hrl'
        have hbz := hB.size
        by_cases hli : i < X.length
        · have hliz : (i : Int) < (X.length : Int) := by omega
          have hc2 := (hB.cell (p := ⟨b0', o0' + ra, none⟩) (cell_lt HC2.out)).trans HC2.out
          obtain ⟨b1, o1, rfl, hcx⟩ := (HR1.out wr hB).get hli
          have hrj := hran _ (List.getElem_mem hli)
          obtain ⟨j, hj⟩ : ∃ j : Nat, X[i] = (j : Int) := ⟨X[i].toNat, by omega⟩
          rw [hj] at hcx hrj
          have hjn : j * rows'.length ≤ 200 * 200 := Nat.mul_le_mul (by omega) (by omega)
          have hjc : ((j * rows'.length : Nat) : Int) = (j : Int) * (rows'.length : Int) := Int.natCast_mul _ _
          have hwx : IntKind.i64.wrap ((j : Int) * (rows'.length : Int)) = (j : Int) * (rows'.length : Int) := IntWalk.i64_in _ (by omega)
          have HMV := Lib.hid (l2Moved_any _ Y ((j : Int) * (rows'.length : Int)) wr.drew (HR2.out _ (hB.trans (below_drew wr _))) (by omega) (fun y hy => by have := hran' y hy; omega))
          have hml : (movedN Y ((j : Int) * (rows'.length : Int)) Y.length).length = Y.length := movedN_length (Nat.le_refl _)
          have HS1 := Lib.hid (HCS.out i hli)
          rw [hj] at HS1
          have HJ := Lib.hid hjc
          clear hown hB hj hjc
          go_upto_region 11 with fail
          go_region_law (first | (go_simp; go_at_call 152; refine HMV.out.mono ?_; clear HMV; rintro e w2 ⟨v', rfl, hv', hb2⟩; obtain ⟨g2, C9, rfl⟩ := hv'.addr (by rw [hml]; exact hrp); rw [hml] at hv'; have HNW := Lib.hid (hv'.at.news); have HB2 := Lib.hid ((below_drew wr _).trans hb2); have HW2 := Lib.hid (owns_below HOWN.out HB2.out); have hz22 : wr.heap.size ≤ w2.heap.size := hb2.size; clear hv' hb2) | (refine step_append_lies _ (by rfl) _ _ 26 (by rfl) wo.heap.size 3 i0 (.int .i64 0) 1 8 Tryd.underlying26 hi0 hz0 hz1 hz2 rfl (by decide) u8 (catP rows rows' a i).length (cellsI (catP rows rows' a i)) (by rfl) HW2.out ⟨g2, 0, none⟩ Y.length C9 (cellsI (movedN Y ((j : Int) * (rows'.length : Int)) Y.length)) (by rfl) (by rw [List.length_map, hml, Nat.mul_one]) HNW.out (by intro u hu; obtain ⟨z, _, rfl⟩ := List.mem_map.1 hu; rfl) hrp (by unfold maxLen; omega) (by omega) (by omega) w2.heap.size rfl ?_; intro g' cap' w3 hown3 hgrow hat hlt'))
          all_goals
            go_wp2
            go_roundw
            case rel =>
              refine ⟨i + 1, by omega, by go_num, ?_, ((HB.out.trans (HB2.out.mono hbz)).grown ⟨hgrow.os, hgrow.tape, hgrow.output, hgrow.size, hgrow.block⟩ (Nat.le_trans hbz hz22) (fun b e => (HW2.out.lt b e).1))⟩
              rw [HS1.out, List.length_append, hml, show ∀ P Q : List Int, cellsI (P ++ Q) = cellsI P ++ cellsI Q from fun P Q => by simp]
              exact hown3
            case measure => simp [intOf]; omega
        · obtain rfl : i = X.length := by omega
          have hliz : ¬ ((X.length : Int) < (X.length : Int)) := by omega
          have hoi : OwnI 3 wr u8 (catP rows rows' a X.length) wo.heap.size wr.heap.size := OwnI.of_owns HOWN.out (fun x hx => by have := HCR.out _ x hx; exact wf_int this.1 this.2) (fun b hb => (HOWN.out.lt b hb).2)
          obtain ⟨ar, Cr, rfl⟩ := hoi.form
          have HOI := Lib.hid hoi
          have HKx := Lib.hid (HK.out.step hB)
          obtain ⟨f, hf0, hf1, hf2⟩ := HK.out.own.owns
          have HF0 := Lib.hid hf0
          have HF1 := Lib.hid hf1
          have HF2 := Lib.hid hf2
          have HW0 := Lib.hid (owns_below hf0 hB)
          have hout2 := HKx.out.out.cell
          have hout3 := cell_alloc_any hout2
          have hw0 := HKx.out.below.size
          clear hown hB hoi hf0 hf1 hf2 hcE
          go_wp2_with (at_builtin; refine wpList_append_lies _ rfl _ _ 23 rfl w0.heap.size 26 j0 (.slice none 0 0) 1 24 Tryd.underlying23 hj0 hy0 hy1 hy2 rfl (by decide) (.slice au a Cu) a ((List.range a).map f) (by rfl) (HW0.out.alloc _) ⟨wr.heap.size, 0, none⟩ 1 1 [.slice ar (catP rows rows' a X.length).length Cr] (by rfl) rfl (World.news_of_block (heap_alloc_new wr _)) (by simp [Value.oneCell']) (by omega) (by unfold maxLen; omega) (by omega) (by simp; omega) (wr.heap.size + 1) (by simp) ?_; intro g' cap' w3 hown3 hgrow hat hlt'; have hfar := HKx.out.far HW0.out hgrow; have hc3 := hfar.cell; have hf3 := hfar.frozen; clear hfar)
          go_roundw
          case rel =>
            refine ⟨a + 1, _, by omega, by go_num, (HK.out.pushed HF0.out HF1.out HF2.out HB.out HOI.out hown3 ⟨hgrow.os, hgrow.tape, hgrow.output, hgrow.size, hgrow.block⟩).congr fun j hj => ?_⟩
            by_cases e : j = a
            · subst e; rw [if_pos rfl, HPR.out]
            · rw [if_neg e]
          case measure => simp [intOf]; omega
    · obtain rfl : a = rows.length * rows'.length := by omega
      have hltz : ¬ (((rows.length * rows'.length : Nat) : Int) < ((rows.length * rows'.length : Nat) : Int)) := by omega
      have hres := (ho.below.block _ (by rw [S2.out]; omega)).trans H0.out.res
      have hout := ho.out.cell
      have hrc := Boxed.cell hres
      have hrf := Boxed.frozen hres
      have hc9 := World.cell?_setCell_same' wo ⟨w.heap.size + 2, 0, none⟩ (.slice au (rows.length * rows'.length) Cu) (by rw [hrc]; rfl)
      clear ho hres
      go_wp2
      refine bodyPost_ret (v := .agg #[.slice au (rows.length * rows'.length) Cu]) (by simp [results, Tryd.results110, go_sem, hc9]) rfl ?_
      refine ⟨_, rfl, ?_, (HBW.out _ HK.out.below).setCell (p := ⟨w.heap.size + 2, 0, none⟩) (by show w.heap.size ≤ w.heap.size + 2; omega) _⟩
      rw [size_setCell]
      exact (HK.out.own.kept fun b hb _ => Below.heap_setCell _ _ _ b (show b ≠ w.heap.size + 2 by have := S2.out; omega)).wider (by rw [S2.out]; omega) (Nat.le_refl _)

set_option maxRecDepth 100000 in
set_option maxHeartbeats 8000000 in
theorem specProd_any (v v' : Value) (rows rows' : Rows2) (w : World) (hv : RowsAt w v rows) (hv' : RowsAt w v' rows') (hn : bulk rows ≤ 1048576) (hn' : bulk rows' ≤ 1048576) :
    Calls Tryd.prog 101 #[.agg #[v], .agg #[v']] w (OrderP (prodL rows rows') (prodOk rows rows') w) := by
  have h0 := TwoR.start w hv hv'
  have hd1 := specDom_any _ rows _ h0.r0 hn
  have hc0 := h0.c0
  obtain ⟨A, C, rfl, _⟩ := hv
  obtain ⟨A', C', rfl, _⟩ := hv'
  have H0 := Lib.hid h0
  clear h0
  cases h1 : domB rows with
  | false =>
    rw [h1] at hd1
    have HE := Lib.hid (show prodOk rows rows' = false by unfold prodOk; rw [h1]; rfl)
    go_enter Tryd.func101, Tryd.ntmps101
    go_wp2_with (go_at_call 109; refine hd1.mono ?_; clear hd1; rintro e w1 ⟨rfl, hb1⟩; have H1 := Lib.hid (H0.out.step hb1); have hres := H1.out.res.cell; have hfr := H1.out.res.frozen; clear hb1 hc0)
    have hc9 := World.cell?_setCell_same' w1 ⟨w.heap.size + 2, 0, none⟩ (.slice none 0 0) (by rw [hres]; rfl)
    refine bodyPost_ret (v := .tuple #[.agg #[.slice none 0 0], .bool false]) (by simp [results, Tryd.results101, go_sem, hc9]) rfl ?_
    exact orderP_no (prodL_no HE.out) HE.out H1.out.below (by omega) _
  | true =>
    rw [h1] at hd1
    cases h2 : domB rows' with
    | false =>
      have HE := Lib.hid (show prodOk rows rows' = false by unfold prodOk; rw [h1, h2]; rfl)
      go_enter Tryd.func101, Tryd.ntmps101
      go_wp2_with (first | (go_at_call 109; refine hd1.mono ?_; clear hd1; rintro e w1 ⟨rfl, hb1⟩; have H1 := Lib.hid (H0.out.step hb1); have hc1 := H1.out.c1; have hd2 := specDom_any _ rows' _ H1.out.r1 hn'; rw [h2] at hd2; clear hb1 hc0) | (go_at_call 109; refine hd2.mono ?_; clear hd2; rintro e w2 ⟨rfl, hb2⟩; have H2 := Lib.hid (H1.out.step hb2); have hres := H2.out.res.cell; have hfr := H2.out.res.frozen; clear hb2 hc1))
      have hc9 := World.cell?_setCell_same' w2 ⟨w.heap.size + 2, 0, none⟩ (.slice none 0 0) (by rw [hres]; rfl)
      refine bodyPost_ret (v := .tuple #[.agg #[.slice none 0 0], .bool false]) (by simp [results, Tryd.results101, go_sem, hc9]) rfl ?_
      exact orderP_no (prodL_no HE.out) HE.out H2.out.below (by omega) _
    | true =>
      have hok := ok_of_valid (show validB rows = true by have h := h1; unfold domB at h; rw [Bool.and_eq_true] at h; exact h.1)
      have hok' := ok_of_valid (show validB rows' = true by have h := h2; unfold domB at h; rw [Bool.and_eq_true] at h; exact h.1)
      have hl1 := hok.len
      have hl2 := hok'.len
      have hnn : rows.length * rows'.length ≤ 200 * 200 := Nat.mul_le_mul (by omega) (by omega)
      have hcc : ((rows.length * rows'.length : Nat) : Int) = (rows.length : Int) * (rows'.length : Int) := Int.natCast_mul _ _
      have wB : IntKind.i64.wrap ((rows.length : Int) * (rows'.length : Int)) = (rows.length : Int) * (rows'.length : Int) := IntWalk.i64_in _ (by omega)
      by_cases hl : rows.length * rows'.length ≤ 200
      · have hlz : ¬ ((200 : Int) < (rows.length : Int) * (rows'.length : Int)) := by omega
        have HE := Lib.hid (show prodOk rows rows' = true by unfold prodOk; rw [h1, h2, decide_eq_true hl]; rfl)
        have HC := Lib.hid (fun W u u' a b => l2Product_any u u' rows rows' W a b hok hok' hl)
        have HRR := Lib.hid (fun q (hq : q < rows.length * rows'.length) => prodR_row hok hok' hq)
        have HCC := Lib.hid hcc
        clear hok hok' hcc
        go_enter Tryd.func101, Tryd.ntmps101
        go_wp2_with (first | (go_at_call 109; refine hd1.mono ?_; clear hd1; rintro e w1 ⟨rfl, hb1⟩; have H1 := Lib.hid (H0.out.step hb1); have hc1 := H1.out.c1; have hd2 := specDom_any _ rows' _ H1.out.r1 hn'; rw [h2] at hd2; clear hb1 hc0) | (go_at_call 109; refine hd2.mono ?_; clear hd2; rintro e w2 ⟨rfl, hb2⟩; have H2 := Lib.hid (H1.out.step hb2); have hc2 := H2.out.c0; have hc3 := H2.out.c1; clear hb2 hc1) | (go_at_call 110; refine (HC.out _ _ _ H2.out.r0 H2.out.r1).mono ?_; rintro e w3 ⟨u, rfl, hu, hb3⟩; obtain ⟨a3, C3, rfl⟩ := hu.form; have HU := Lib.hid hu; have H3 := Lib.hid (H2.out.step hb3); have hres := H3.out.res.cell; have hfr := H3.out.res.frozen; clear hu hb3))
        have hc9 := World.cell?_setCell_same' w3 ⟨w.heap.size + 2, 0, none⟩ (.slice a3 (rows.length * rows'.length) C3) (by rw [hres]; rfl)
        have hw2 : w.heap.size + 2 < w2.heap.size := H2.out.res.lt
        refine bodyPost_ret (v := .tuple #[.agg #[.slice a3 (rows.length * rows'.length) C3], .bool true]) (by simp [results, Tryd.results101, go_sem, hc9]) rfl ?_
        obtain ⟨e1, e2⟩ := prodL_yes HE.out
        refine ⟨_, by rw [HE.out], ?_, H3.out.below.setCell (p := ⟨w.heap.size + 2, 0, none⟩) (by show w.heap.size ≤ w.heap.size + 2; omega) _⟩
        rw [e1, size_setCell]
        exact ((HU.out.kept fun b hb _ => Below.heap_setCell _ _ _ b (show b ≠ w.heap.size + 2 by omega)).wider (by omega) (Nat.le_refl _)).congr fun q hq => (HRR.out q hq).trans (e2 q hq).symm
      · have hlz : (200 : Int) < (rows.length : Int) * (rows'.length : Int) := by omega
        have HE := Lib.hid (show prodOk rows rows' = false by unfold prodOk; rw [decide_eq_false hl, Bool.and_false])
        have HCC := Lib.hid hcc
        clear hok hok' hcc
        go_enter Tryd.func101, Tryd.ntmps101
        go_wp2_with (first | (go_at_call 109; refine hd1.mono ?_; clear hd1; rintro e w1 ⟨rfl, hb1⟩; have H1 := Lib.hid (H0.out.step hb1); have hc1 := H1.out.c1; have hd2 := specDom_any _ rows' _ H1.out.r1 hn'; rw [h2] at hd2; clear hb1 hc0) | (go_at_call 109; refine hd2.mono ?_; clear hd2; rintro e w2 ⟨rfl, hb2⟩; have H2 := Lib.hid (H1.out.step hb2); have hc2 := H2.out.c0; have hc3 := H2.out.c1; have hres := H2.out.res.cell; have hfr := H2.out.res.frozen; clear hb2 hc1))
        have hc9 := World.cell?_setCell_same' w2 ⟨w.heap.size + 2, 0, none⟩ (.slice none 0 0) (by rw [hres]; rfl)
        refine bodyPost_ret (v := .tuple #[.agg #[.slice none 0 0], .bool false]) (by simp [results, Tryd.results101, go_sem, hc9]) rfl ?_
        exact orderP_no (prodL_no HE.out) HE.out H2.out.below (by omega) _

theorem prod_bulk (rows rows' : Rows2) : bulk (prodL rows rows') ≤ 1048576 := by
  cases h : prodOk rows rows' with
  | false => rw [prodL_no h]; simp [bulk]
  | true =>
    have hl : rows.length * rows'.length ≤ 200 := by
      unfold prodOk at h
      rw [Bool.and_eq_true, decide_eq_true_iff] at h
      exact h.2
    have hb := lens_small (rows := prodL rows rows') (n := 200) (m := 200) (by rw [(prodL_yes h).1]; omega) (fun r hr => by
      unfold prodL at hr
      rw [if_pos h] at hr
      obtain ⟨q, _, rfl⟩ := List.mem_map.1 hr
      exact Nat.le_trans (bRow_len _ _ _) (by omega))
    omega
end Go.Proofs.YtkomghohdhengaaDoor


