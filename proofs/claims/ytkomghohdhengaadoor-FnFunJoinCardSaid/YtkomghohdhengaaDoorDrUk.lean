/- A list of numbers drawn for a function (l91Fun): some list, no longer than the first order, of numbers that are not great. -/
import Derived.Test.YtkomghohdhengaaDoorDrKk
import Derived.Test.YtkomghohdhengaaDoorPc19
import Derived.Lib.QuietBelow
namespace Go.Proofs.YtkomghohdhengaaDoor
open Go.RowKit Go.Deep Go.Shelf

/-- A list of at most 200 numbers, drawn. -/
def IntsE (K r : Nat) (v : Value) (p : Nat) (w : World) (e : Ending) (w' : World) : Prop :=
  ∃ (xs : List Int) (u : Value) (q : Nat), e = .returned u ∧ q ≤ p + K ∧ Dr r v w q w' ∧ OwnI 3 w' u xs w.heap.size w'.heap.size ∧ xs.length ≤ 200 ∧ ∀ x ∈ xs, 0 ≤ x ∧ x ≤ 1000
/-- While it is drawn: the reader, and the two orders in their variables. -/
structure DrU (r : Nat) (v : Value) (w : World) (vd ve : Value) (q : Nat) (W : World) : Prop where
  dr : Dr r v w q W
  c0 : Boxed W w.heap.size 25 vd
  c1 : Boxed W (w.heap.size + 1) 25 ve
theorem DrU.step {r q : Nat} {v vd ve : Value} {w W W' : World} (h : DrU r v w vd ve q W) (hb : Below W.heap.size W W') : DrU r v w vd ve q W' := ⟨h.dr.step hb, (hb.block _ h.c0.lt).trans h.c0, (hb.block _ h.c1.lt).trans h.c1⟩
theorem DrU.pick {r q q' : Nat} {v vd ve : Value} {w W W' : World} (h : DrU r v w vd ve q W) (h2 : Dr r v W q' W') : DrU r v w vd ve q' W' := ⟨h.dr.trans h2, h.dr.boxed h2 h.c0 (Nat.le_refl _), h.dr.boxed h2 h.c1 (Nat.le_succ _)⟩
theorem DrU.low {r q : Nat} {v vd ve : Value} {w W : World} (h : DrU r v w vd ve q W) : w.heap.size + 2 ≤ W.heap.size := h.c1.lt
/-- An append to what is new. -/
theorem DrU.far {r q : Nat} {v vd ve : Value} {w W w3 : World} {o : Obj} {ub : Option Nat} (h : DrU r v w vd ve q W) (hgrow : (W.alloc o).grownBy w3 ub) (hub : ∀ b, ub = some b → w.heap.size + 2 ≤ b) : DrU r v w vd ve q w3 := by
  have hl := h.low
  have hk : ∀ b, b < w.heap.size + 2 → w3.heap[b]? = W.heap[b]? := fun b hb => (hgrow.block b (by rw [World.size_alloc]; omega) (fun e => by have := hub b e.symm; omega)).trans (((Below.refl W.heap.size W).alloc (Nat.le_refl _) o).block b (by omega))
  exact ⟨h.dr.far hgrow fun b e => by have := hub b e; omega, (hk _ (by omega)).trans h.c0, (hk _ (by omega)).trans h.c1⟩
theorem owns_ints {W : World} {lo : Nat} {v : Value} {xs : List Int} (h : W.ownsRow lo 3 1 v xs.length (cellsI xs)) (hx : ∀ x ∈ xs, 0 ≤ x ∧ x ≤ 1000) : OwnI 3 W v xs lo W.heap.size :=
  OwnI.of_owns h (fun y hy => by have := hx y hy; exact wf_int (by omega) (by omega)) fun b hb => (h.lt b hb).2
theorem Dr.ownI2 {r q q' : Nat} {v : Value} {w W W' : World} {t : TypeId} {u : Value} {xs : List Int} {lo : Nat} (_ : Dr r v w q W) (h2 : Dr r v W q' W') (ho : OwnI t W u xs lo W.heap.size) (hl : r < lo) : OwnI t W' u xs lo W'.heap.size :=
  (ho.kept fun b e => h2.turned.above b (by have := (ho.block b e).1; omega) (ho.block b e).2.1).wider (Nat.le_refl _) h2.size
theorem Dr.owns2 {r q q' : Nat} {v : Value} {w W W' : World} {lo n : Nat} {t : TypeId} {u : Value} {xs : List Value} (_ : Dr r v w q W) (h2 : Dr r v W q' W') (ho : W.ownsRow lo t 1 u n xs) (hr : r < lo) : W'.ownsRow lo t 1 u n xs := h2.owns ho hr
/-- A store at a list's first place. -/
theorem OwnI.set0 {t : TypeId} {W : World} {v : Value} {xs : List Int} {lo hi : Nat} {k : Int} (h : OwnI t W v xs lo hi) (hx : 0 < xs.length) (hk : (Lit.int .i64 k).wf = true) :
    ∃ g C x0, v = .slice (some ⟨g, 0, none⟩) xs.length C ∧ lo ≤ g ∧ g < hi ∧ W.cell? ⟨g, 0, none⟩ = some x0 ∧ W.frozen? ⟨g, 0, none⟩ = false ∧ OwnI t (W.setCell ⟨g, 0, none⟩ (.int .i64 k)) v (xs.set 0 k) lo hi := by
  obtain ⟨hw, ⟨rfl, rfl⟩ | ⟨g, C, f, rfl, h1, h2, h3, h4, h5, h6⟩⟩ := h
  · exact absurd hx (Nat.lt_irrefl _)
  · refine ⟨g, C, f 0, rfl, h3, h4, h5.cell (by omega), h5.frozen 0, fun x hx' => ?_, .inr ⟨g, C, _, by rw [List.length_set], by rw [List.length_set]; exact h1, h2, h3, h4, h5.set 0 _, fun i hi => ?_⟩⟩
    · rcases List.mem_or_eq_of_mem_set hx' with h7 | h7
      · exact hw x h7
      · rw [h7]; exact hk
    · by_cases e : i = 0
      · subst e
        simp
      · rw [if_neg e, List.getElem_set_ne (by omega)]
        exact h6 i (by rw [List.length_set] at hi; exact hi)

set_option maxRecDepth 100000 in
set_option maxHeartbeats 16000000 in
theorem l91Fun_any (r : Nat) (v : Value) (p : Nat) (vd ve : Value) (rows rows' : Rows2) (w : World) (hr : RdAt r v p w) (hp : p < 1099511000000) (hn : bulk rows ≤ 1048576) (hn' : bulk rows' ≤ 1048576)
    (hvd : ∀ W q, Dr r v w q W → RowsAt W vd rows) (hve : ∀ W q, Dr r v w q W → RowsAt W ve rows') :
    Calls Tryd.prog 72 #[.pointer (some ⟨r, 0, none⟩), .agg #[vd], .agg #[ve]] w (IntsE 202 r v p w) := by
  have b1 := (Below.refl w.heap.size w).alloc (Nat.le_refl _) (.cells #[vd] 25)
  have s1 : (w.alloc (.cells #[vd] 25)).heap.size = w.heap.size + 1 := World.size_alloc _ _
  have b2 := (Below.refl (w.alloc (.cells #[vd] 25)).heap.size (w.alloc (.cells #[vd] 25))).alloc (Nat.le_refl _) (.cells #[ve] 25)
  have x1 := Boxed.new (w.alloc (.cells #[vd] 25)) 25 ve
  rw [s1] at x1
  have h0 : DrU r v w vd ve p ((w.alloc (.cells #[vd] 25)).alloc (.cells #[ve] 25)) :=
    ⟨((Dr.start hr).step b1).step b2, (b2.block _ (Boxed.new w 25 vd).lt).trans (Boxed.new w _ _), x1⟩
  have HP := Lib.hid (fun W q (n : Int) (h : RdAt r v q W) (hq : q < 1099511627776) => pick_any r v q n W h hq)
  have HD := Lib.hid (fun W q (h : Dr r v w q W) => specDom_any vd rows W (hvd W q h) hn)
  have HD' := Lib.hid (fun W q (h : Dr r v w q W) => specDom_any ve rows' W (hve W q h) hn')
  have HVD := Lib.hid hvd
  have HVE := Lib.hid hve
  obtain ⟨A, C, evd, _⟩ := hvd w p (Dr.start hr)
  obtain ⟨A', C', eve, _⟩ := hve w p (Dr.start hr)
  subst evd eve
  have HMADE := Lib.hid (fun wo : World => World.ownsRow_made (e := 3) (size := 1) wo #[] 0 (base := wo.heap.size) (Nat.le_refl _) (Nat.zero_le _) (by simp))
  obtain ⟨i0, hi0, hz0, hz1, hz2⟩ := info_parts infoInt
  have HN := Lib.hid hn
  have HN' := Lib.hid hn'
  have H0 := Lib.hid h0
  clear hr hvd hve b1 s1 b2 x1 h0 hn hn'
  go_enter Tryd.func72, Tryd.ntmps72
  go_upto_region 1 with fail
  generalize (w.alloc (.cells #[.slice A rows.length C] 25)).alloc (.cells #[.slice A' rows'.length C'] 25) = W0 at H0 ⊢
  have HM0 := Lib.hid (HMADE.out W0)
  have H1 := Lib.hid (H0.out.step ((Below.refl W0.heap.size W0).alloc (Nat.le_refl _) (.cells #[] 3)))
  have HZ0 := Lib.hid H0.out.low
  go_upto_region 2 with fail
  generalize hB0 : W0.heap.size = B0 at HM0 HZ0 ⊢
  generalize W0.alloc (.cells #[] 3) = W1 at HM0 H1 ⊢
  clear hB0 H0 W0
  have hc0 := H1.out.c0.cell
  have hc1 := H1.out.c1.cell
  have hcd := HD.out W1 p H1.out.dr
  cases hdm : domB rows with
  | false =>
    rw [hdm] at hcd
    go_wp2_with (go_at_call 109; refine hcd.mono ?_; clear hcd; rintro e w2 ⟨rfl, hb⟩; have H2 := Lib.hid (H1.out.step hb); have HO2 := Lib.hid (owns_below HM0.out hb); clear hb)
    go_ret
    exact ⟨[], _, p, rfl, by omega, H2.out.dr, (owns_ints HO2.out (fun _ h => by cases h)).wider (by have := HZ0.out; omega) (Nat.le_refl _), Nat.zero_le _, fun _ h => by cases h⟩
  | true =>
    rw [hdm] at hcd
    have hok := (domB_iff.1 hdm).1
    have hcd' := fun W h => HD'.out W p h
    cases hdm' : domB rows' with
    | false =>
      simp only [hdm'] at hcd'
      go_wp2_with (first | (go_at_call 109; refine hcd.mono ?_; clear hcd; rintro e w2 ⟨rfl, hb⟩; have H2 := Lib.hid (H1.out.step hb); have HO2 := Lib.hid (owns_below HM0.out hb); have hc2 := H2.out.c1.cell; clear hb) | (go_at_call 109; refine (hcd' w2 H2.out.dr).mono ?_; clear hcd'; rintro e w3 ⟨rfl, hb⟩; have H3 := Lib.hid (H2.out.step hb); have HO3 := Lib.hid (owns_below HO2.out hb); clear hb))
      go_ret
      exact ⟨[], _, p, rfl, by omega, H3.out.dr, (owns_ints HO3.out (fun _ h => by cases h)).wider (by have := HZ0.out; omega) (Nat.le_refl _), Nat.zero_le _, fun _ h => by cases h⟩
    | true =>
      simp only [hdm'] at hcd'
      have hok' := (domB_iff.1 hdm').1
      have hl1 := hok.len.2
      have hl2 := hok'.len.2
      have hl3 := hok.len.1
      have HLE := Lib.hid (fun W q (h : Dr r v w q W) (a b : Nat) (ha : a < rows.length) => l1Le_any _ rows (a : Int) a (b : Int) W (HVD.out W q h) ha rfl (hok.asc a ha).1 HN.out)
      have HLE' := Lib.hid (fun W q (h : Dr r v w q W) (a b : Nat) (ha : a < rows'.length) => l1Le_any _ rows' (a : Int) a (b : Int) W (HVE.out W q h) ha rfl (hok'.asc a ha).1 HN'.out)
      clear hdm hdm' hok hok' HD HD'
      go_wp2_with (first | (go_at_call 109; refine hcd.mono ?_; clear hcd; rintro e w2 ⟨rfl, hb⟩; have H2 := Lib.hid (H1.out.step hb); have HO2 := Lib.hid (owns_below HM0.out hb); have hc2 := H2.out.c1.cell; clear hb) | (go_at_call 109; refine (hcd' w2 H2.out.dr).mono ?_; clear hcd'; rintro e w3 ⟨rfl, hb⟩; have H3 := Lib.hid (H2.out.step hb); have HO3 := Lib.hid (owns_below HO2.out hb); clear hb))
      clear hc0 hc1 hc2
      go_loopw [7, 8] (fun lv iv wr => ∃ (i q : Nat) (xs : List Int), i ≤ rows.length ∧ iv = .int .i64 i ∧ q ≤ p + i ∧ xs.length = i ∧ (∀ x ∈ xs, 0 ≤ x ∧ x < rows'.length) ∧ DrU r v w (.slice A rows.length C) (.slice A' rows'.length C') q wr ∧ wr.ownsRow (w.heap.size + 2) 3 1 lv xs.length (cellsI xs)) (fun _ iv _ => rows.length - (intOf iv).toNat)
      case atStart => exact ⟨0, p, [], Nat.zero_le _, rfl, by omega, rfl, fun _ h => (by cases h), H3.out, owns_weaker HO3.out HZ0.out⟩
      case round =>
        obtain ⟨wo, hwo⟩ : ∃ wo : World, wo = wr := ⟨_, rfl⟩
        subst hwo
        obtain ⟨i, q, xs, hi, rfl, hq, hxl, hxr, hu, hown⟩ := hrel
        have HU := Lib.hid hu
        have HOW := Lib.hid hown
        have HX := Lib.hid hxr
        have HXL := Lib.hid hxl
        have HOI := Lib.hid (owns_ints hown (fun x hx => by have := hxr x hx; omega))
        have hc2 := hu.c0.cell
        have hc3 := hu.c1.cell
        obtain ⟨ax, Cx, rfl⟩ := owns_form hown
        have HZ := Lib.hid hu.low
        clear hu hown hxr hxl H1 H2 H3 HO2 HO3 HM0
        by_cases hlt : i < rows.length
        · have hltz : (i : Int) < (rows.length : Int) := by omega
          have HO := Lib.hid (HMADE.out wo)
          have HB := Lib.hid ((Below.refl wo.heap.size wo).alloc (Nat.le_refl _) (.cells #[] 3))
          have hrw : r < wo.heap.size := by have := HU.out.dr.rd.lt; omega
          go_wp2
          clear hc2 hc3
          go_loopw [9, 10] (fun cv jv wx => ∃ (j : Nat) (cs : List Int), j ≤ rows'.length ∧ jv = .int .i64 j ∧ cs.length ≤ j ∧ (∀ x ∈ cs, 0 ≤ x ∧ x < rows'.length) ∧ Below wo.heap.size wo wx ∧ wx.ownsRow wo.heap.size 3 1 cv cs.length (cellsI cs)) (fun _ jv _ => rows'.length - (intOf jv).toNat)
          case atStart => exact ⟨0, [], Nat.zero_le _, rfl, Nat.le_refl _, fun _ h => (by cases h), HB.out, HO.out⟩
          case round =>
            obtain ⟨wx, hwx⟩ : ∃ wx : World, wx = wr := ⟨_, rfl⟩
            subst hwx
            obtain ⟨j, cs, hj, rfl, hcl, hcr, hbx, hcown⟩ := hrel
            have HBX := Lib.hid hbx
            have HCO := Lib.hid hcown
            have HCR := Lib.hid hcr
            have DX := Lib.hid (HU.out.step hbx)
            have hc4 := DX.out.c1.cell
            obtain ⟨ac, Cc, rfl⟩ := owns_form hcown
            clear hbx hcown hcr HO HB
            by_cases hjl : j < rows'.length
            · have hjz : (j : Int) < (rows'.length : Int) := by omega
              go_wp2
              clear hc4
              go_loopw [11, 12] (fun fv kv wy => ∃ (k : Nat) (t : Bool), k ≤ i ∧ kv = .int .i64 k ∧ fv = .bool t ∧ Below wx.heap.size wx wy) (fun _ kv _ => i - (intOf kv).toNat)
              case atStart => exact ⟨0, true, Nat.zero_le _, rfl, rfl, Below.refl _ _⟩
              case round =>
                obtain ⟨k, t, hk, rfl, rfl, hby⟩ := hrel
                have HBY := Lib.hid hby
                have DY := Lib.hid (DX.out.step hby)
                clear hby
                by_cases hki : k < i
                · have hkz : (k : Int) < (i : Int) := by omega
                  have hkx : k < xs.length := by have := HXL.out; omega
                  have hkx2 : (k : Int) < (xs.length : Int) := by omega
                  obtain ⟨bx, ox, rfl, hcx⟩ := HOI.out.at.get hkx
                  have hxk := HX.out _ (List.getElem_mem hkx)
                  obtain ⟨lk, hlk⟩ : ∃ lk : Nat, xs[k] = (lk : Int) := ⟨xs[k].toNat, by omega⟩
                  rw [hlk] at hcx hxk
                  have hlkl : lk < rows'.length := by omega
                  have hcy : wr.cell? ⟨bx, ox + k, none⟩ = some (.int .i64 (lk : Int)) := by
                    rw [(HBX.out.trans (HBY.out.mono HBX.out.size)).cell (p := ⟨bx, ox + k, none⟩) (cell_lt hcx)]
                    exact hcx
                  have hd1 := fun d os => (DY.out.step (below_regrown wr d os)).dr
                  have hcl1 := fun d os => Calls.regrown_of (d := d) (os := os) (HLE.out _ _ (hd1 d os) k i (by omega))
                  have hcl2 := fun d os => Calls.regrown_of (d := d) (os := os) (HLE'.out _ _ (hd1 d os) lk j hlkl)
                  have hcl3 := fun d os => Calls.regrown_of (d := d) (os := os) (HLE.out _ _ (hd1 d os) i k hlt)
                  have hcl4 := fun d os => Calls.regrown_of (d := d) (os := os) (HLE'.out _ _ (hd1 d os) j lk hjl)
                  have hq0 := fun d os => cell_regrown DY.out.c0.cell d os
                  have hq1 := fun d os => cell_regrown DY.out.c1.cell d os
                  have hq2 := fun d os => cell_regrown hcy d os
                  clear hd1 hcy hcx hlk hxk
                  obtain ⟨t1, ht1⟩ : ∃ t1, upB rows k (i : Int) = t1 := ⟨_, rfl⟩
                  simp only [ht1] at hcl1
                  clear ht1
                  obtain ⟨t2, ht2⟩ : ∃ t2, upB rows' lk (j : Int) = t2 := ⟨_, rfl⟩
                  simp only [ht2] at hcl2
                  clear ht2
                  obtain ⟨t3, ht3⟩ : ∃ t3, upB rows i (k : Int) = t3 := ⟨_, rfl⟩
                  simp only [ht3] at hcl3
                  clear ht3
                  obtain ⟨t4, ht4⟩ : ∃ t4, upB rows' j (lk : Int) = t4 := ⟨_, rfl⟩
                  simp only [ht4] at hcl4
                  clear ht4
                  cases t <;> cases t1 <;> cases t2 <;> cases t3 <;> cases t4
                  all_goals
                    go_wp2
                    refine wp_region_quiet_below (by kernel_rfl) (by kernel_rfl) ?_
                    repeat (first | rw [Bool.not_true] | rw [Bool.not_false] | go_big_quiet_step (first | (go_at_call_of 98 (#[Value.agg #[Value.slice A rows.length C], Value.int .i64 (k : Int), Value.int .i64 (i : Int)]); exact hcl1 _ _) | (go_at_call_of 98 (#[Value.agg #[Value.slice A' rows'.length C'], Value.int .i64 (lk : Int), Value.int .i64 (j : Int)]); exact hcl2 _ _) | (go_at_call_of 98 (#[Value.agg #[Value.slice A rows.length C], Value.int .i64 (i : Int), Value.int .i64 (k : Int)]); exact hcl3 _ _) | (go_at_call_of 98 (#[Value.agg #[Value.slice A' rows'.length C'], Value.int .i64 (j : Int), Value.int .i64 (lk : Int)]); exact hcl4 _ _)))
                    refine wpQuiet_nil ?_
                    intro _ hw'
                    obtain ⟨⟨dq, osq⟩, hw''⟩ := hw'
                    subst hw''
                    clear hcl1 hcl2 hcl3 hcl4 hq0 hq1 hq2
                    go_wp2
                    go_roundw
                    case rel => exact ⟨k + 1, _, by omega, by go_num, rfl, HBY.out.trans ((below_regrown wr dq osq).mono HBY.out.size)⟩
                    case measure => simp [intOf]; omega
                · have hkz : ¬ (k : Int) < (i : Int) := by omega
                  have HCY := Lib.hid (owns_below HCO.out HBY.out)
                  have HBZ := Lib.hid (HBX.out.trans (HBY.out.mono HBX.out.size))
                  cases t with
                  | false =>
                    go_wp2
                    go_roundw
                    case rel => exact ⟨j + 1, cs, by omega, by go_num, by omega, HCR.out, HBZ.out, HCY.out⟩
                    case measure => simp [intOf]; omega
                  | true =>
                    go_wp2_with (at_builtin; refine wpList_append_own _ rfl _ _ 26 rfl wo.heap.size 3 i0 (.int .i64 0) 1 8 Tryd.underlying26 hi0 hz0 hz1 hz2 rfl (by decide) _ _ _ rfl (HCY.out.alloc _) ⟨wr.heap.size, 0, none⟩ 1 1 [.int .i64 (j : Int)] rfl rfl (cell_one_new _ _ _) (by simp [Value.oneCell']) (by unfold maxLen; omega) (by omega) (by simp; have := HBZ.out.size; omega) ?_; intro v' w3 hown' hgrow _)
                    go_roundw
                    case rel =>
                      refine ⟨j + 1, cs ++ [(j : Int)], by omega, by go_num, by rw [List.length_append, List.length_singleton]; omega, fun x hx => ?_, ?_, ?_⟩
                      · rcases List.mem_append.1 hx with hx | hx
                        · exact HCR.out x hx
                        · rw [List.mem_singleton] at hx; omega
                      · have hal := (Below.refl wr.heap.size wr).alloc (Nat.le_refl _) (.cells #[.int .i64 (j : Int)] 3)
                        exact HBZ.out.trans ((hal.mono HBZ.out.size).trans ⟨hgrow.os, hgrow.tape, hgrow.output, hgrow.size, fun b hb => hgrow.block b (by have := HBZ.out.size; rw [World.size_alloc]; omega) (fun e => by have := (HCY.out.lt b e.symm).1; omega)⟩)
                      · rw [List.length_append, show cellsI (cs ++ [(j : Int)]) = cellsI cs ++ [.int .i64 (j : Int)] by simp]
                        exact hown'
                    case measure => simp [intOf]; omega
            · have hjz : ¬ (j : Int) < (rows'.length : Int) := by omega
              have HOX := Lib.hid (owns_below HOW.out HBX.out)
              have HCI := Lib.hid (owns_ints HCO.out (fun x hx => by have := HCR.out x hx; omega))
              by_cases hc0 : cs.length = 0
              · have hcz : ((cs.length : Int) == 0) = true := by rw [hc0]; rfl
                go_wp2
                go_ret
                exact ⟨xs, _, q, rfl, by omega, DX.out.dr, (owns_ints HOX.out (fun x hx => by have := HX.out x hx; omega)).wider (by omega) (Nat.le_refl _), by have := HXL.out; omega, fun x hx => by have := HX.out x hx; omega⟩
              · have hcz : ((cs.length : Int) == 0) = false := by rw [beq_eq_false_iff_ne]; omega
                have hc1z : (1 : Int) ≤ (cs.length : Int) := by omega
                clear hc0
                have hpk := HP.out wx q cs.length DX.out.dr.rd (by omega)
                go_wp2_with (first | (go_at_call 118; (refine hpk.mono ?_); (clear hpk); (rintro e w2 ⟨⟨k, rfl, hk, _⟩, hd2⟩); (have hk2 := hk hc1z); (have H3 := Lib.hid (DX.out.pick hd2)); (have HO3 := Lib.hid (DX.out.dr.owns2 hd2 HOX.out (by have := HU.out.dr.old; omega))); (have hcs : k < cs.length := by omega); (obtain ⟨bc, oc, e5, hcc⟩ := ((DX.out.dr.ownI2 hd2 HCI.out (by omega)).at.get hcs)); (subst e5); (have hcv := HCR.out _ (List.getElem_mem hcs)); (have hz3 := H3.out.low); (clear hd2 hk)) | (at_builtin; refine wpList_append_own _ rfl _ _ 26 rfl (w.heap.size + 2) 3 i0 (.int .i64 0) 1 8 Tryd.underlying26 hi0 hz0 hz1 hz2 rfl (by decide) _ _ _ rfl (HO3.out.alloc _) ⟨w2.heap.size, 0, none⟩ 1 1 [.int .i64 cs[k]] rfl rfl (cell_one_new _ _ _) (by simp [Value.oneCell']) (by unfold maxLen; have := HXL.out; omega) (by have := HXL.out; omega) (by simp; omega) ?_; intro v' w3 hown' hgrow _))
                go_roundw
                case rel =>
                  refine ⟨i + 1, q + 1, xs ++ [cs[k]], by omega, by go_num, by omega, by rw [List.length_append, List.length_singleton, HXL.out], fun x hx => ?_, H3.out.far hgrow (fun b e => (HO3.out.lt b e).1), ?_⟩
                  · rcases List.mem_append.1 hx with hx | hx
                    · exact HX.out x hx
                    · rw [List.mem_singleton] at hx; rw [hx]; exact hcv
                  · rw [List.length_append, show cellsI (xs ++ [cs[k]]) = cellsI xs ++ [.int .i64 cs[k]] by simp]
                    exact hown'
                case measure => simp [intOf]; omega
        · obtain rfl : i = rows.length := by omega
          have hltz : ¬ (rows.length : Int) < (rows.length : Int) := by omega
          have hpk := HP.out wo q 20 HU.out.dr.rd (by omega)
          clear hc3
          have hpk2 := fun W h => HP.out W (q + 1) ((rows'.length + 1 : Nat) : Int) h (by omega)
          simp only [show (((rows'.length + 1 : Nat) : Int)) = (rows'.length : Int) + 1 from rfl] at hpk2
          have hx0 : 0 < xs.length := by have := HXL.out; omega
          have hx1 : (0 : Int) < (xs.length : Int) := by omega
          have hw1 : IntKind.i64.wrap ((rows'.length : Int) + 1) = (rows'.length : Int) + 1 := IntWalk.i64_in _ (by omega)
          go_wp2_with (first | (go_at_call 118; refine hpk.mono ?_; clear hpk; rintro e w2 ⟨⟨k, rfl, _, _⟩, hd2⟩; have H3 := Lib.hid (HU.out.pick hd2); have HI3 := Lib.hid ((HU.out.dr.ownI hd2 HOI.out (by omega) (Nat.le_refl _)).wider (Nat.le_refl _) hd2.size); have hc4 := H3.out.c1.cell; clear hd2; cases hkb : ((k : Int) == 0)) | (go_at_call 118; refine (hpk2 w2 H3.out.dr.rd).mono ?_; clear hpk2; rintro e w3 ⟨⟨k2, rfl, hk2, _⟩, hd3⟩; have hk3 := hk2 (by omega); have H4 := Lib.hid (H3.out.pick hd3); have hz4 := H3.out.low; obtain ⟨g, Cg, x0, eg, hg1, hg2, hgc, hgf, hgo⟩ := ((H3.out.dr.ownI hd3 HI3.out (by omega) (Nat.le_refl _)).wider (Nat.le_refl _) hd3.size).set0 (k := (k2 : Int)) hx0 (wf_int (by omega) (by omega)); have HGO := Lib.hid hgo; cases eg; have hst := H4.out.dr.setNew (b := g) (by omega) 0 (.int .i64 (k2 : Int)); have HST := Lib.hid hst; clear hst hd3 hk2 hgo))
          · go_ret
            exact ⟨xs, _, q + 1, rfl, by omega, H3.out.dr, HI3.out.wider (by omega) (Nat.le_refl _), by have := HXL.out; omega, fun x hx => by have := HX.out x hx; omega⟩
          · go_ret
            refine ⟨xs.set 0 (k2 : Int), _, q + 1 + 1, rfl, by omega, HST.out, ?_, by rw [List.length_set]; have := HXL.out; omega, fun x hx => ?_⟩
            · rw [size_setCell]
              exact HGO.out.wider (by omega) (Nat.le_refl _)
            · rcases List.mem_or_eq_of_mem_set hx with h7 | h7
              · have := HX.out x h7; omega
              · rw [h7]; omega
end Go.Proofs.YtkomghohdhengaaDoor
