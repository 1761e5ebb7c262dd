/- The walks of rowsOf and built at sum. -/
import Derived.Test.YtjfbjfclcpcaiaaDoorPb23
import Derived.Test.YtjfbjfclcpcaiaaDoorPb20
import Derived.Test.YtjfbjfclcpcaiaaDoorPb8
import Derived.Test.YtjfbjfclcpcaiaaDoorPb13
import Derived.Deep.RegionLaw
import Derived.Deep.AppendLies
import Derived.Test.YtjfbjfclcpcaiaaDoorPb16
import Derived.Test.YtjfbjfclcpcaiaaDoorPb21
import Derived.Test.YtjfbjfclcpcaiaaDoorPb1
import Derived.Sort.QuietIn
import Derived.Laws.MakeOwn
namespace Go.Proofs.YtjfbjfclcpcaiaaDoor
open Go.RowKit Go.Deep Go.Shelf

set_option maxRecDepth 100000 in
set_option maxHeartbeats 4000000 in
theorem sumRows_no (p p' n n' : Nat) (g g' : Nat → Nat) (N : Nat) (w : World) (hg : GridAt w p g) (hg' : GridAt w p' g') (hn : GridN g n) (hn' : GridN g' n') (hN : N = 1 + n + n') (hN2 : 200 < N) :
    Calls Tryd.prog 118 #[.iface 94 (.agg #[.iface 69 (.pointer (some ⟨p, 0, none⟩)), .iface 69 (.pointer (some ⟨p', 0, none⟩))])] w (RowsNo w) := by
  have hcall := fun W (hk : (fun W => GridAt W p g ∧ GridAt W p' g') W) => sumSize_any p p' n n' g g' W hk.1 hk.2 hn hn'
  have hc1 := hcall _ ⟨hg, hg'⟩
  rw [← hN] at hc1
  have hmS := run_sum_size
  have hN3 : (200 : Int) < (N : Int) := by omega
  clear hg hg' hn hn' hN hcall
  go_enter Tryd.func118, Tryd.ntmps118
  go_wp2_with (go_at_call 162; refine hc1.mono ?_; clear hc1; rintro e w1 ⟨rfl, hb1⟩; have HB1 := Lib.hid hb1; clear hb1)
  go_ret2
  exact ⟨rfl, HB1.out⟩
theorem sumBuilt_no (p p' n n' : Nat) (g g' : Nat → Nat) (N : Nat) (w : World) (hg : GridAt w p g) (hg' : GridAt w p' g') (hn : GridN g n) (hn' : GridN g' n') (hN : N = 1 + n + n') (hN2 : 200 < N) :
    Calls Tryd.prog 69 #[.iface 94 (.agg #[.iface 69 (.pointer (some ⟨p, 0, none⟩)), .iface 69 (.pointer (some ⟨p', 0, none⟩))])] w (RowsG 0 (fun _ => []) false w) :=
  built_no _ w fun W hB => sumRows_no p p' n n' g g' N W (hg.below hB hg.lt) (hg'.below hB hg'.lt) hn hn' hN hN2

set_option maxRecDepth 100000 in
set_option maxHeartbeats 4000000 in
theorem sumRows_yes (p p' n n' : Nat) (g g' : Nat → Nat) (N : Nat) (w : World) (hg : GridAt w p g) (hg' : GridAt w p' g') (hn : GridN g n) (hn' : GridN g' n') (hN : N = 1 + n + n') (hN2 : N ≤ 200) :
    Calls Tryd.prog 118 #[.iface 94 (.agg #[.iface 69 (.pointer (some ⟨p, 0, none⟩)), .iface 69 (.pointer (some ⟨p', 0, none⟩))])] w (RowsYes (madeG (sumB g g' n) N) w) := by
  have hK : Stays w (fun W => GridAt W p g ∧ GridAt W p' g') := Stays.grids hg.lt hg'.lt
  have hcall0 := fun W (hk : (fun W => GridAt W p g ∧ GridAt W p' g') W) => sumSize_any p p' n n' g g' W hk.1 hk.2 hn hn'
  have hk0 : (fun W => GridAt W p g ∧ GridAt W p' g') w := ⟨hg, hg'⟩
  have hcall := hcall0 _ hk0
  rw [← hN] at hcall
  have HBC := Lib.hid (fun (a b : Nat) (ha : a < N) (hb : b < N) W (hk : (fun W => GridAt W p g ∧ GridAt W p' g') W) => sumBelow_any p p' n n' g g' a b W hk.1 hk.2 hn hn' (by rw [← hN]; exact ha) (by rw [← hN]; exact hb))
  have hmS := run_sum_size
  have hmB := run_sum_below
  have hN3 : ¬ ((200 : Int) < (N : Int)) := by omega
  have hz := (zero_of_info zeroGrid).1
  have HK0 := Lib.hid hk0
  have HKK := Lib.hid hK
  clear hg hg' hn hn' hN hcall0 hk0 hK
  go_enter Tryd.func118, Tryd.ntmps118
  go_wp2_with (go_at_call 162; refine hcall.mono ?_; clear hcall; rintro e w1 ⟨rfl, hb1⟩; have HK1 := Lib.hid (HKK.out _ _ hb1 HK0.out); have HB1 := Lib.hid hb1; clear hb1)
  have bA := (Below.refl w1.heap.size w1).alloc (Nat.le_refl _) (.cells (gridCells fun _ => 0) 83)
  have HST := Lib.hid (show RwG w (fun W => GridAt W p g ∧ GridAt W p' g') w1.heap.size (bG (sumB g g' n) N 0 0) (w1.alloc (.cells (gridCells fun _ => 0) 83)) from
    ⟨HKK.out _ _ (bA.mono HB1.out.size) HK1.out, by rw [bG_start]; exact store_new w1, HB1.out.size, HB1.out.trans (bA.mono HB1.out.size)⟩)
  clear bA hz
  go_loopw [6, 13] (fun _ av wr => ∃ a : Nat, a ≤ N ∧ av = .int .i64 a ∧ RwG w (fun W => GridAt W p g ∧ GridAt W p' g') w1.heap.size (bG (sumB g g' n) N a 0) wr) (fun _ av _ => N - (intOf av).toNat)
  case atStart => exact ⟨0, Nat.zero_le _, rfl, HST.out⟩
  case round =>
    obtain ⟨a, ha, rfl, ht⟩ := hrel
    have HT := Lib.hid ht
    clear HST ht
    by_cases hal : a < N
    · go_wp2
      go_loopw [7, 17] (fun _ bv wr => ∃ b : Nat, b ≤ N ∧ bv = .int .i64 b ∧ RwG w (fun W => GridAt W p g ∧ GridAt W p' g') w1.heap.size (bG (sumB g g' n) N a b) wr) (fun _ bv _ => N - (intOf bv).toNat)
      case atStart => exact ⟨0, Nat.zero_le _, rfl, HT.out⟩
      case round =>
        obtain ⟨b, hb, rfl, ht⟩ := hrel
        have HK := Lib.hid ht
        clear ht HT
        by_cases hbl : b < N
        · have hcall := HBC.out a b hal hbl wr HK.out.kept
          cases hbit : (sumB g g' n) a b with
          | false =>
            rw [hbit] at hcall
            have HE := Lib.hid (bG_no (N := N) hbit)
            clear hbit
            go_wp2_with (go_at_call 161; refine hcall.mono ?_; clear hcall; rintro e w2 ⟨rfl, hb2⟩; have H2 := Lib.hid (HK.out.step HKK.out hb2); clear hb2)
            go_roundw
            case rel => exact ⟨b + 1, by omega, by go_num, by rw [HE.out]; exact H2.out⟩
            case measure => simp [intOf]; omega
          | true =>
            rw [hbit] at hcall
            have HE := Lib.hid (bG_yes (N := N) hbit)
            have ha200 : a < 200 := by omega
            have hb200 : b < 200 := by omega
            have ha0 : (0 : Int) ≤ (a : Int) := by omega
            have ha1 : (a : Int) < 200 := by omega
            clear hbit
            go_wp2_with (first | (go_at_call 161; refine hcall.mono ?_; clear hcall; rintro e w2 ⟨rfl, hb2⟩; have H2 := Lib.hid (HK.out.step HKK.out hb2); have hadd := addTo_any w1.heap.size a b (b : Int) _ w2 H2.out.grid ha200 hb200 rfl; clear hb2) | (go_at_call 110; refine hadd.mono ?_; clear hadd; rintro e w3 ⟨rfl, m, rfl⟩))
            go_roundw
            case rel => exact ⟨b + 1, by omega, by go_num, by rw [HE.out]; exact H2.out.put HKK.out ha200 hb200 m⟩
            case measure => simp [intOf]; omega
        · obtain rfl : b = N := by omega
          go_wp2
          go_roundw
          case rel => exact ⟨a + 1, by omega, by go_num, by rw [← bG_next]; exact HK.out⟩
          case measure => simp [intOf]; omega
    · obtain rfl : a = N := by omega
      go_wp2
      go_ret2
      exact ⟨⟨w1.heap.size, rfl, HT.out.own, HT.out.grid⟩, HT.out.below⟩
theorem sumBuilt_yes (p p' n n' : Nat) (g g' : Nat → Nat) (N : Nat) (w : World) (hg : GridAt w p g) (hg' : GridAt w p' g') (hn : GridN g n) (hn' : GridN g' n') (hN : N = 1 + n + n') (hN2 : N ≤ 200) (hT : Tab w) (hrf : ∀ q, q < N → (sumB g g' n) q q = true) :
    Calls Tryd.prog 69 #[.iface 94 (.agg #[.iface 69 (.pointer (some ⟨p, 0, none⟩)), .iface 69 (.pointer (some ⟨p', 0, none⟩))])] w (RowsG N (fun q => bRow (sumB g g' n) q N) true w) :=
  built_yes _ (sumB g g' n) N w hT hN2 hrf fun W hB => sumRows_yes p p' n n' g g' N W (hg.below hB hg.lt) (hg'.below hB hg'.lt) hn hn' hN hN2
end Go.Proofs.YtjfbjfclcpcaiaaDoor

/- The program's DomainSum. -/
namespace Go.Proofs.YtjfbjfclcpcaiaaDoor
open Go.RowKit Go.Deep Go.Shelf

/-- What domainOf answers: a pointer, and whether there is one. -/
def DomP (rows : Rows2) (w : World) (e : Ending) (w' : World) : Prop :=
  (∃ q, e = .returned (.tuple #[.pointer q, .bool (domB rows)]) ∧ (domB rows = true → ∃ p, q = some ⟨p, 0, none⟩ ∧ GridAt w' p (gridF rows))) ∧ Below w.heap.size w w'
theorem domainOf_any (v : Value) (rows : Rows2) (w : World) (hv : RowsAt w v rows) (hT : Tab w) (hn : bulk rows ≤ 1048576) :
    Calls Tryd.prog 68 #[.agg #[v]] w (DomP rows w) := by
  cases h : domB rows with
  | false =>
    refine (domainOf_no v rows w hv hT hn h).mono fun e w' hp => ?_
    obtain ⟨rfl, hb⟩ := hp
    exact ⟨⟨_, by rw [h], fun h' => by rw [h] at h'; cases h'⟩, hb⟩
  | true =>
    refine (domainOf_yes v rows w hv hT hn h).mono fun e w' hp => ?_
    obtain ⟨⟨p, rfl, _, hg⟩, hb⟩ := hp
    exact ⟨⟨_, by rw [h], fun _ => ⟨p, rfl, hg⟩⟩, hb⟩

/-- Two orders in their variables, and the result's. -/
structure TwoR (w : World) (v v' : Value) (rows rows' : Rows2) (W : World) : Prop where
  r0 : RowsAt W v rows
  r1 : RowsAt W v' rows'
  c0 : W.cell? ⟨w.heap.size, 0, none⟩ = some v
  c1 : W.cell? ⟨w.heap.size + 1, 0, none⟩ = some v'
  res : Boxed W (w.heap.size + 2) 25 (.slice none 0 0)
  below : Below w.heap.size w W
theorem TwoR.step {w : World} {v v' : Value} {rows rows' : Rows2} {W W' : World} (h : TwoR w v v' rows rows' W) (hb : Below W.heap.size W W') : TwoR w v v' rows rows' W' :=
  ⟨h.r0.below hb, h.r1.below hb, (hb.cell (p := ⟨w.heap.size, 0, none⟩) (cell_lt h.c0)).trans h.c0, (hb.cell (p := ⟨w.heap.size + 1, 0, none⟩) (cell_lt h.c1)).trans h.c1, (hb.block _ h.res.lt).trans h.res, h.below.trans (hb.mono h.below.size)⟩
theorem TwoR.start (w : World) {v v' : Value} {rows rows' : Rows2} (hv : RowsAt w v rows) (hv' : RowsAt w v' rows') :
    TwoR w v v' rows rows' (((w.alloc (.cells #[v] 25)).alloc (.cells #[v'] 25)).alloc (.cells #[.slice none 0 0] 25)) := by
  have s1 : (w.alloc (.cells #[v] 25)).heap.size = w.heap.size + 1 := World.size_alloc _ _
  have s2 : ((w.alloc (.cells #[v] 25)).alloc (.cells #[v'] 25)).heap.size = w.heap.size + 2 := by rw [World.size_alloc, s1]
  have b1 := ((Below.refl w.heap.size w).alloc (Nat.le_refl _) (.cells #[v] 25)).alloc (by rw [s1]; omega) (.cells #[v'] 25)
  have b2 := b1.alloc (by rw [s2]; omega) (.cells #[.slice none 0 0] 25)
  have x0 := ((Boxed.new w 25 v).alloc (.cells #[v'] 25)).alloc (.cells #[.slice none 0 0] 25)
  have x1 := (Boxed.new (w.alloc (.cells #[v] 25)) 25 v').alloc (.cells #[.slice none 0 0] 25)
  have x2 := Boxed.new ((w.alloc (.cells #[v] 25)).alloc (.cells #[v'] 25)) 25 (.slice none 0 0)
  rw [s1] at x1
  rw [s2] at x2
  exact ⟨hv.below b2, hv'.below b2, x0.cell, x1.cell, x2, b2⟩

theorem sum_refl {rows rows' : Rows2} (hok : Ok rows) (hok' : Ok rows') : ∀ q, q < 1 + rows.length + rows'.length → sumB (gridF rows) (gridF rows') rows.length q q = true := fun q hq => by
  unfold sumB
  by_cases h0 : q = 0
  · rw [if_pos h0]
  · rw [if_neg h0, if_neg h0]
    by_cases h1 : q ≤ rows.length
    · rw [if_pos h1, if_pos h1]
      exact hok.own (q - 1) (by omega)
    · rw [if_neg h1, if_neg h1]
      exact hok'.own (q - 1 - rows.length) (by omega)
/-- What DomainSum answers. -/
noncomputable def sumOk (rows rows' : Rows2) : Bool := domB rows && domB rows' && decide (1 + rows.length + rows'.length ≤ 200)
noncomputable def sumRow (rows rows' : Rows2) (q : Nat) : List Int := bRow (sumB (gridF rows) (gridF rows') rows.length) q (1 + rows.length + rows'.length)
noncomputable def sumL (rows rows' : Rows2) : Rows2 := if sumOk rows rows' = true then (List.range (1 + rows.length + rows'.length)).map (sumRow rows rows') else []
theorem sumL_yes {rows rows' : Rows2} (h : sumOk rows rows' = true) : (sumL rows rows').length = 1 + rows.length + rows'.length ∧ ∀ q, q < 1 + rows.length + rows'.length → rowsF (sumL rows rows') q = sumRow rows rows' q := by
  unfold sumL
  rw [if_pos h]
  refine ⟨by simp, fun q hq => ?_⟩
  rw [rowsF_lt (by simpa using hq)]
  simp
theorem sumL_no {rows rows' : Rows2} (h : sumOk rows rows' = false) : sumL rows rows' = [] := by unfold sumL; rw [if_neg (by rw [h]; simp)]
/-- No order. -/
theorem orderP_no {xs : Rows2} {t : Bool} {w W : World} {b : Nat} (hx : xs = []) (ht : t = false) (hb : Below w.heap.size w W) (hl : w.heap.size ≤ b) (u : Value) : OrderP xs t w (.returned (.tuple #[.agg #[.slice none 0 0], .bool false])) (W.setCell ⟨b, 0, none⟩ u) := by
  subst hx ht
  exact ⟨_, rfl, OwnR.nil _ _ _ _ _ _, hb.setCell (p := ⟨b, 0, none⟩) hl _⟩

set_option maxRecDepth 100000 in
set_option maxHeartbeats 8000000 in
theorem implSum_any (v v' : Value) (rows rows' : Rows2) (w : World) (hv : RowsAt w v rows) (hv' : RowsAt w v' rows') (hT : Tab w) (hn : bulk rows ≤ 1048576) (hn' : bulk rows' ≤ 1048576) :
    Calls Tryd.prog 29 #[.agg #[v], .agg #[v']] w (OrderP (sumL rows rows') (sumOk rows rows') w) := by
  have h0 := TwoR.start w hv hv'
  have T0 := Lib.hid (hT.below h0.below)
  have hd1 := domainOf_any _ rows _ h0.r0 T0.out hn
  have hc0 := h0.c0
  obtain ⟨A, C, rfl, _⟩ := hv
  obtain ⟨A', C', rfl, _⟩ := hv'
  have H0 := Lib.hid h0
  have HTA := Lib.hid (fun W (h : Below w.heap.size w W) => hT.below h)
  clear h0 hT
  cases h1 : domB rows with
  | false =>
    have HE := Lib.hid (show sumOk rows rows' = false by unfold sumOk; rw [h1]; rfl)
    go_enter Tryd.func29, Tryd.ntmps29
    go_wp2_with (first | (go_at_call 68; refine hd1.mono ?_; clear hd1; rintro e w1 ⟨⟨q, rfl, _⟩, hb1⟩; rw [h1]; have H1 := Lib.hid (H0.out.step hb1); have hc1 := H1.out.c1; have hd2 := domainOf_any _ rows' _ H1.out.r1 (T0.out.below hb1) hn'; clear hb1 hc0) | (go_at_call 68; refine hd2.mono ?_; clear hd2; rintro e w2 ⟨⟨q', rfl, _⟩, hb2⟩; have H2 := Lib.hid (H1.out.step hb2); have hres := H2.out.res.cell; have hfr := H2.out.res.frozen; clear hb2 hc1))
    have hc9 := World.cell?_setCell_same' w2 ⟨w.heap.size + 2, 0, none⟩ (.slice none 0 0) (by rw [hres]; rfl)
    refine bodyPost_ret (v := .tuple #[.agg #[.slice none 0 0], .bool false]) (by simp [results, Tryd.results29, go_sem, hc9]) rfl ?_
    exact orderP_no (sumL_no HE.out) HE.out H2.out.below (by omega) _
  | true =>
    cases h2 : domB rows' with
    | false =>
      have HE := Lib.hid (show sumOk rows rows' = false by unfold sumOk; rw [h1, h2]; rfl)
      go_enter Tryd.func29, Tryd.ntmps29
      go_wp2_with (first | (go_at_call 68; refine hd1.mono ?_; clear hd1; rintro e w1 ⟨⟨q, rfl, _⟩, hb1⟩; rw [h1]; have H1 := Lib.hid (H0.out.step hb1); have hc1 := H1.out.c1; have hd2 := domainOf_any _ rows' _ H1.out.r1 (T0.out.below hb1) hn'; clear hb1 hc0) | (go_at_call 68; refine hd2.mono ?_; clear hd2; rintro e w2 ⟨⟨q', rfl, _⟩, hb2⟩; rw [h2]; have H2 := Lib.hid (H1.out.step hb2); have hres := H2.out.res.cell; have hfr := H2.out.res.frozen; clear hb2 hc1))
      have hc9 := World.cell?_setCell_same' w2 ⟨w.heap.size + 2, 0, none⟩ (.slice none 0 0) (by rw [hres]; rfl)
      refine bodyPost_ret (v := .tuple #[.agg #[.slice none 0 0], .bool false]) (by simp [results, Tryd.results29, go_sem, hc9]) rfl ?_
      exact orderP_no (sumL_no HE.out) HE.out H2.out.below (by omega) _
    | true =>
      have hok := ok_of_valid (show validB rows = true by have h := h1; unfold domB at h; rw [Bool.and_eq_true] at h; exact h.1)
      have hok' := ok_of_valid (show validB rows' = true by have h := h2; unfold domB at h; rw [Bool.and_eq_true] at h; exact h.1)
      have hbuilt : ∃ N R t, (∀ p p' W, GridAt W p (gridF rows) → GridAt W p' (gridF rows') → Tab W → Calls Tryd.prog 69 #[.iface 94 (.agg #[.iface 69 (.pointer (some ⟨p, 0, none⟩)), .iface 69 (.pointer (some ⟨p', 0, none⟩))])] W (RowsG N R t W)) ∧ sumOk rows rows' = t ∧ (sumL rows rows').length = N ∧ ∀ q, q < N → R q = rowsF (sumL rows rows') q := by
        by_cases hl : 1 + rows.length + rows'.length ≤ 200
        · have hE : sumOk rows rows' = true := by unfold sumOk; rw [h1, h2, decide_eq_true hl]; rfl
          obtain ⟨e1, e2⟩ := sumL_yes hE
          exact ⟨1 + rows.length + rows'.length, _, true, fun p p' W hg hg' hTW => sumBuilt_yes p p' rows.length rows'.length (gridF rows) (gridF rows') _ W hg hg' hok.gridN hok'.gridN rfl hl hTW (sum_refl hok hok'), hE, e1, fun q hq => (e2 q hq).symm⟩
        · have hE : sumOk rows rows' = false := by unfold sumOk; rw [decide_eq_false hl, Bool.and_false]
          exact ⟨0, _, false, fun p p' W hg hg' _ => sumBuilt_no p p' rows.length rows'.length (gridF rows) (gridF rows') _ W hg hg' hok.gridN hok'.gridN rfl (by omega), hE, by rw [sumL_no hE]; rfl, fun q hq => absurd hq (Nat.not_lt_zero _)⟩
      obtain ⟨N, R, t, hC, hE, e1, e2⟩ := hbuilt
      have HC := Lib.hid hC
      have HE := Lib.hid hE
      have HL := Lib.hid e1
      have HR := Lib.hid e2
      clear hok hok' hC hE e1 e2
      go_enter Tryd.func29, Tryd.ntmps29
      go_wp2_with (first | (go_at_call 68; refine hd1.mono ?_; clear hd1; rintro e w1 ⟨⟨q, rfl, hq⟩, hb1⟩; obtain ⟨p, rfl, hg⟩ := hq h1; rw [h1]; have G1 := Lib.hid hg; have H1 := Lib.hid (H0.out.step hb1); have hc1 := H1.out.c1; have hd2 := domainOf_any _ rows' _ H1.out.r1 (T0.out.below hb1) hn'; clear hb1 hc0 hg hq) | (go_at_call 68; refine hd2.mono ?_; clear hd2; rintro e w2 ⟨⟨q', rfl, hq'⟩, hb2⟩; obtain ⟨p', rfl, hg'⟩ := hq' h2; rw [h2]; have G2 := Lib.hid (G1.out.below hb2 G1.out.lt); have G2' := Lib.hid hg'; have H2 := Lib.hid (H1.out.step hb2); clear hb2 hc1 hg' hq') | (go_at_call 69; refine (HC.out p p' _ G2.out G2'.out (HTA.out _ H2.out.below)).mono ?_; rintro e w3 ⟨u, rfl, hu, hb3⟩; obtain ⟨a3, C3, rfl⟩ := hu.form; have HU := Lib.hid hu; have H3 := Lib.hid (H2.out.step hb3); have hres := H3.out.res.cell; have hfr := H3.out.res.frozen; clear hu hb3))
      have hc9 := World.cell?_setCell_same' w3 ⟨w.heap.size + 2, 0, none⟩ (.slice a3 N C3) (by rw [hres]; rfl)
      have hw2 : w.heap.size + 2 < w2.heap.size := H2.out.res.lt
      refine bodyPost_ret (v := .tuple #[.agg #[.slice a3 N C3], .bool t]) (by simp [results, Tryd.results29, go_sem, hc9]) rfl ?_
      refine ⟨_, by rw [HE.out], ?_, H3.out.below.setCell (p := ⟨w.heap.size + 2, 0, none⟩) (by show w.heap.size ≤ w.heap.size + 2; omega) _⟩
      rw [HL.out, size_setCell]
      exact ((HU.out.kept fun b hb _ => Below.heap_setCell _ _ _ b (show b ≠ w.heap.size + 2 by omega)).wider (by omega) (Nat.le_refl _)).congr fun q hq => HR.out q hq
end Go.Proofs.YtjfbjfclcpcaiaaDoor

/- The program's DomainProduct. -/
namespace Go.Proofs.YtjfbjfclcpcaiaaDoor
open Go.RowKit Go.Deep Go.Shelf

theorem prod_refl {rows rows' : Rows2} (hok : Ok rows) (hok' : Ok rows') : ∀ q, q < rows.length * rows'.length → prodB (gridF rows) (gridF rows') rows'.length q q = true := fun q hq => by
  have h0 : 0 < rows'.length := Nat.pos_of_ne_zero fun e => by rw [e, Nat.mul_zero] at hq; omega
  unfold prodB
  rw [hok.own _ ((Nat.div_lt_iff_lt_mul h0).2 hq), hok'.own _ (Nat.mod_lt _ h0)]
  rfl

/-- What DomainProduct answers. -/
noncomputable def prodOk (rows rows' : Rows2) : Bool := domB rows && domB rows' && decide (rows.length * rows'.length ≤ 200)
noncomputable def prodRow (rows rows' : Rows2) (q : Nat) : List Int := bRow (prodB (gridF rows) (gridF rows') rows'.length) q (rows.length * rows'.length)
noncomputable def prodL (rows rows' : Rows2) : Rows2 := if prodOk rows rows' = true then (List.range (rows.length * rows'.length)).map (prodRow rows rows') else []
theorem prodL_yes {rows rows' : Rows2} (h : prodOk rows rows' = true) : (prodL rows rows').length = rows.length * rows'.length ∧ ∀ q, q < rows.length * rows'.length → rowsF (prodL rows rows') q = prodRow rows rows' q := by
  unfold prodL
  rw [if_pos h]
  refine ⟨by simp, fun q hq => ?_⟩
  rw [rowsF_lt (by simpa using hq)]
  simp
theorem prodL_no {rows rows' : Rows2} (h : prodOk rows rows' = false) : prodL rows rows' = [] := by unfold prodL; rw [if_neg (by rw [h]; simp)]
set_option maxRecDepth 100000 in
set_option maxHeartbeats 8000000 in
theorem implProd_any (v v' : Value) (rows rows' : Rows2) (w : World) (hv : RowsAt w v rows) (hv' : RowsAt w v' rows') (hT : Tab w) (hn : bulk rows ≤ 1048576) (hn' : bulk rows' ≤ 1048576) :
    Calls Tryd.prog 25 #[.agg #[v], .agg #[v']] w (OrderP (prodL rows rows') (prodOk rows rows') w) := by
  have h0 := TwoR.start w hv hv'
  have T0 := Lib.hid (hT.below h0.below)
  have hd1 := domainOf_any _ rows _ h0.r0 T0.out hn
  have hc0 := h0.c0
  obtain ⟨A, C, rfl, _⟩ := hv
  obtain ⟨A', C', rfl, _⟩ := hv'
  have H0 := Lib.hid h0
  have HTA := Lib.hid (fun W (h : Below w.heap.size w W) => hT.below h)
  clear h0 hT
  cases h1 : domB rows with
  | false =>
    have HE := Lib.hid (show prodOk rows rows' = false by unfold prodOk; rw [h1]; rfl)
    go_enter Tryd.func25, Tryd.ntmps25
    go_wp2_with (first | (go_at_call 68; refine hd1.mono ?_; clear hd1; rintro e w1 ⟨⟨q, rfl, _⟩, hb1⟩; rw [h1]; have H1 := Lib.hid (H0.out.step hb1); have hc1 := H1.out.c1; have hd2 := domainOf_any _ rows' _ H1.out.r1 (T0.out.below hb1) hn'; clear hb1 hc0) | (go_at_call 68; refine hd2.mono ?_; clear hd2; rintro e w2 ⟨⟨q', rfl, _⟩, hb2⟩; have H2 := Lib.hid (H1.out.step hb2); have hres := H2.out.res.cell; have hfr := H2.out.res.frozen; clear hb2 hc1))
    have hc9 := World.cell?_setCell_same' w2 ⟨w.heap.size + 2, 0, none⟩ (.slice none 0 0) (by rw [hres]; rfl)
    refine bodyPost_ret (v := .tuple #[.agg #[.slice none 0 0], .bool false]) (by simp [results, Tryd.results25, go_sem, hc9]) rfl ?_
    exact orderP_no (prodL_no HE.out) HE.out H2.out.below (by omega) _
  | true =>
    cases h2 : domB rows' with
    | false =>
      have HE := Lib.hid (show prodOk rows rows' = false by unfold prodOk; rw [h1, h2]; rfl)
      go_enter Tryd.func25, Tryd.ntmps25
      go_wp2_with (first | (go_at_call 68; refine hd1.mono ?_; clear hd1; rintro e w1 ⟨⟨q, rfl, _⟩, hb1⟩; rw [h1]; have H1 := Lib.hid (H0.out.step hb1); have hc1 := H1.out.c1; have hd2 := domainOf_any _ rows' _ H1.out.r1 (T0.out.below hb1) hn'; clear hb1 hc0) | (go_at_call 68; refine hd2.mono ?_; clear hd2; rintro e w2 ⟨⟨q', rfl, _⟩, hb2⟩; rw [h2]; have H2 := Lib.hid (H1.out.step hb2); have hres := H2.out.res.cell; have hfr := H2.out.res.frozen; clear hb2 hc1))
      have hc9 := World.cell?_setCell_same' w2 ⟨w.heap.size + 2, 0, none⟩ (.slice none 0 0) (by rw [hres]; rfl)
      refine bodyPost_ret (v := .tuple #[.agg #[.slice none 0 0], .bool false]) (by simp [results, Tryd.results25, go_sem, hc9]) rfl ?_
      exact orderP_no (prodL_no HE.out) HE.out H2.out.below (by omega) _
    | true =>
      have hok := ok_of_valid (show validB rows = true by have h := h1; unfold domB at h; rw [Bool.and_eq_true] at h; exact h.1)
      have hok' := ok_of_valid (show validB rows' = true by have h := h2; unfold domB at h; rw [Bool.and_eq_true] at h; exact h.1)
      have hbuilt : ∃ N R t, (∀ p p' W, GridAt W p (gridF rows) → GridAt W p' (gridF rows') → Tab W → Calls Tryd.prog 69 #[.iface 91 (.agg #[.iface 69 (.pointer (some ⟨p, 0, none⟩)), .iface 69 (.pointer (some ⟨p', 0, none⟩))])] W (RowsG N R t W)) ∧ prodOk rows rows' = t ∧ (prodL rows rows').length = N ∧ ∀ q, q < N → R q = rowsF (prodL rows rows') q := by
        by_cases hl : rows.length * rows'.length ≤ 200
        · have hE : prodOk rows rows' = true := by unfold prodOk; rw [h1, h2, decide_eq_true hl]; rfl
          obtain ⟨e1, e2⟩ := prodL_yes hE
          exact ⟨rows.length * rows'.length, _, true, fun p p' W hg hg' hTW => prodBuilt_yes p p' rows.length rows'.length (gridF rows) (gridF rows') _ W hg hg' hok.gridN hok'.gridN rfl hl hTW (prod_refl hok hok'), hE, e1, fun q hq => (e2 q hq).symm⟩
        · have hE : prodOk rows rows' = false := by unfold prodOk; rw [decide_eq_false hl, Bool.and_false]
          exact ⟨0, _, false, fun p p' W hg hg' _ => prodBuilt_no p p' rows.length rows'.length (gridF rows) (gridF rows') _ W hg hg' hok.gridN hok'.gridN rfl (by omega), hE, by rw [prodL_no hE]; rfl, fun q hq => absurd hq (Nat.not_lt_zero _)⟩
      obtain ⟨N, R, t, hC, hE, e1, e2⟩ := hbuilt
      have HC := Lib.hid hC
      have HE := Lib.hid hE
      have HL := Lib.hid e1
      have HR := Lib.hid e2
      clear hok hok' hC hE e1 e2
      go_enter Tryd.func25, Tryd.ntmps25
      go_wp2_with (first | (go_at_call 68; refine hd1.mono ?_; clear hd1; rintro e w1 ⟨⟨q, rfl, hq⟩, hb1⟩; obtain ⟨p, rfl, hg⟩ := hq h1; rw [h1]; have G1 := Lib.hid hg; have H1 := Lib.hid (H0.out.step hb1); have hc1 := H1.out.c1; have hd2 := domainOf_any _ rows' _ H1.out.r1 (T0.out.below hb1) hn'; clear hb1 hc0 hg hq) | (go_at_call 68; refine hd2.mono ?_; clear hd2; rintro e w2 ⟨⟨q', rfl, hq'⟩, hb2⟩; obtain ⟨p', rfl, hg'⟩ := hq' h2; rw [h2]; have G2 := Lib.hid (G1.out.below hb2 G1.out.lt); have G2' := Lib.hid hg'; have H2 := Lib.hid (H1.out.step hb2); clear hb2 hc1 hg' hq') | (go_at_call 69; refine (HC.out p p' _ G2.out G2'.out (HTA.out _ H2.out.below)).mono ?_; rintro e w3 ⟨u, rfl, hu, hb3⟩; obtain ⟨a3, C3, rfl⟩ := hu.form; have HU := Lib.hid hu; have H3 := Lib.hid (H2.out.step hb3); have hres := H3.out.res.cell; have hfr := H3.out.res.frozen; clear hu hb3))
      have hc9 := World.cell?_setCell_same' w3 ⟨w.heap.size + 2, 0, none⟩ (.slice a3 N C3) (by rw [hres]; rfl)
      have hw2 : w.heap.size + 2 < w2.heap.size := H2.out.res.lt
      refine bodyPost_ret (v := .tuple #[.agg #[.slice a3 N C3], .bool t]) (by simp [results, Tryd.results25, go_sem, hc9]) rfl ?_
      refine ⟨_, by rw [HE.out], ?_, H3.out.below.setCell (p := ⟨w.heap.size + 2, 0, none⟩) (by show w.heap.size ≤ w.heap.size + 2; omega) _⟩
      rw [HL.out, size_setCell]
      exact ((HU.out.kept fun b hb _ => Below.heap_setCell _ _ _ b (show b ≠ w.heap.size + 2 by omega)).wider (by omega) (Nat.le_refl _)).congr fun q hq => HR.out q hq
end Go.Proofs.YtjfbjfclcpcaiaaDoor

/- The rows of a product, in the model's words and in the program's. -/
namespace Go.Proofs.YtjfbjfclcpcaiaaDoor
open Go.RowKit Go.Deep

theorem flat_filterR {α β : Type} (G : α → Bool) (f : α → List β) : ∀ xs : List α, (xs.filter G).flatMap f = xs.flatMap fun j => if G j = true then f j else []
  | [] => rfl
  | x :: xs => by
    rw [List.filter_cons]
    cases h : G x with
    | true => rw [if_pos rfl, List.flatMap_cons, List.flatMap_cons, flat_filterR G f xs, if_pos h]
    | false => rw [if_neg (by simp), List.flatMap_cons, flat_filterR G f xs, if_neg (by rw [h]; simp), List.nil_append]
theorem range_flat {n' : Nat} (hn : 0 < n') (G H : Nat → Bool) : ∀ m, (List.range (m * n')).filter (fun k => G (k / n') && H (k % n')) = (List.range m).flatMap fun j => if G j = true then ((List.range n').filter H).map (fun r => j * n' + r) else []
  | 0 => by simp
  | m + 1 => by
    rw [Nat.succ_mul, List.range_add, List.filter_append, range_flat hn G H m, List.range_succ, List.flatMap_append]
    congr 1
    rw [List.flatMap_cons, List.flatMap_nil, List.append_nil, List.filter_map]
    have h : ∀ r ∈ List.range n', ((fun k => G (k / n') && H (k % n')) ∘ fun x => m * n' + x) r = (G m && H r) := fun r hr => by
      rw [List.mem_range] at hr
      show (G ((m * n' + r) / n') && H ((m * n' + r) % n')) = _
      rw [Nat.add_comm, Nat.add_mul_div_right _ _ hn, Nat.add_mul_mod_self_right, Nat.div_eq_of_lt hr, Nat.mod_eq_of_lt hr, Nat.zero_add]
    rw [List.filter_congr h]
    cases hG : G m with
    | true => simp
    | false => simp

/-- Row q of the product when i elements of the first one's row have been looked at. -/
def catP (rows rows' : Rows2) (q i : Nat) : List Int := ((rowsF rows (q / rows'.length)).take i).flatMap fun x => movedN (rowsF rows' (q % rows'.length)) (x * (rows'.length : Int)) (rowsF rows' (q % rows'.length)).length
def prodR (rows rows' : Rows2) (q : Nat) : List Int := catP rows rows' q (rowsF rows (q / rows'.length)).length
theorem elems_row {rows : Rows2} (h : Ok rows) {i : Nat} (hi : i < rows.length) : rowsF rows i = ((List.range rows.length).filter fun k => (gridF rows i).testBit k).map fun k : Nat => (k : Int) := by
  rw [rowsF_lt hi, h.elems hi]
  congr 1
  unfold elems
  exact filter_short (fun k hk => (h.bit_lt hk).2) (by have := h.len.2; omega)
theorem prodR_row {rows rows' : Rows2} (h : Ok rows) (h' : Ok rows') {q : Nat} (hq : q < rows.length * rows'.length) : prodR rows rows' q = prodRow rows rows' q := by
  have hn := h'.len.1
  have hqa : q / rows'.length < rows.length := Nat.div_lt_of_lt_mul (by rw [Nat.mul_comm]; exact hq)
  have hra : q % rows'.length < rows'.length := Nat.mod_lt _ (by omega)
  unfold prodR catP prodRow bRow prodB movedN
  rw [List.take_length, List.take_length, elems_row h hqa, elems_row h' hra, List.flatMap_map, flat_filterR, range_flat (by omega) (fun k => (gridF rows (q / rows'.length)).testBit k) (fun k => (gridF rows' (q % rows'.length)).testBit k), List.map_flatMap]
  congr 1
  funext j
  by_cases hb : (gridF rows (q / rows'.length)).testBit j = true
  · rw [if_pos hb, if_pos hb, List.map_map, List.map_map]
    apply List.map_congr_left
    intro r _
    show (r : Int) + (j : Int) * (rows'.length : Int) = ((j * rows'.length + r : Nat) : Int)
    rw [Int.natCast_add, Int.natCast_mul, Int.add_comm]
  · rw [if_neg hb, if_neg hb]
    rfl
theorem catP_succ {rows rows' : Rows2} {q i : Nat} (hi : i < (rowsF rows (q / rows'.length)).length) : catP rows rows' q (i + 1) = catP rows rows' q i ++ movedN (rowsF rows' (q % rows'.length)) ((rowsF rows (q / rows'.length))[i] * (rows'.length : Int)) (rowsF rows' (q % rows'.length)).length := by
  unfold catP
  rw [List.take_succ_eq_append_getElem hi, List.flatMap_append]
  simp
theorem catP_len {rows rows' : Rows2} {q : Nat} : ∀ i, i ≤ (rowsF rows (q / rows'.length)).length → (catP rows rows' q i).length = i * (rowsF rows' (q % rows'.length)).length
  | 0, _ => by unfold catP; simp
  | i + 1, h => by
    rw [catP_succ h, List.length_append, catP_len i (by omega), movedN_length (Nat.le_refl _), Nat.succ_mul]
theorem catP_range {rows rows' : Rows2} (h : Ok rows) (h' : Ok rows') {q i : Nat} (hq : q < rows.length * rows'.length) : ∀ x ∈ catP rows rows' q i, 0 ≤ x ∧ x ≤ 1048576 := by
  intro x hx
  have hn := h'.len
  have hqa : q / rows'.length < rows.length := Nat.div_lt_of_lt_mul (by rw [Nat.mul_comm]; exact hq)
  have hra : q % rows'.length < rows'.length := Nat.mod_lt _ (by omega)
  unfold catP at hx
  obtain ⟨y, hy, hxy⟩ := List.mem_flatMap.1 hx
  have hy2 := List.mem_of_mem_take hy
  rw [rowsF_lt hqa] at hy2
  have ry := (h.asc _ hqa).2 y hy2
  unfold movedN at hxy
  rw [List.take_length] at hxy
  obtain ⟨z, hz, rfl⟩ := List.mem_map.1 hxy
  rw [rowsF_lt hra] at hz
  have rz := (h'.asc _ hra).2 z hz
  have hl := h.len.2
  have h1 := Int.mul_nonneg ry.1 (show (0 : Int) ≤ (rows'.length : Int) by omega)
  have h2 : y * (rows'.length : Int) ≤ 200 * 200 := Int.mul_le_mul (by omega) (by omega) (by omega) (by omega)
  omega
end Go.Proofs.YtjfbjfclcpcaiaaDoor

/- The product of two domains is a domain; monotone functions to it. Plain facts: no function is walked here. -/
namespace Go.Proofs.YtjfbjfclcpcaiaaDoor
open Go.RowKit Go.Deep

theorem prodL_made {rows rows' : Rows2} (h : prodOk rows rows' = true) : prodL rows rows' = madeL (prodB (gridF rows) (gridF rows') rows'.length) (rows.length * rows'.length) := by
  unfold prodL
  rw [if_pos h]
  rfl
theorem pair_parts {n' x y : Nat} (hy : y < n') : (x * n' + y) / n' = x ∧ (x * n' + y) % n' = y := by
  constructor
  · rw [Nat.add_comm, Nat.add_mul_div_right _ _ (by omega), Nat.div_eq_of_lt hy, Nat.zero_add]
  · rw [Nat.add_comm, Nat.add_mul_mod_self_right, Nat.mod_eq_of_lt hy]
theorem pair_lt {n n' x y : Nat} (hx : x < n) (hy : y < n') : x * n' + y < n * n' := by
  have := Nat.mul_le_mul_right n' (show x + 1 ≤ n from hx)
  rw [Nat.succ_mul] at this
  omega
theorem pair_eq {n' a b : Nat} (h1 : a / n' = b / n') (h2 : a % n' = b % n') : a = b := by
  rw [← Nat.div_add_mod a n', ← Nat.div_add_mod b n', h1, h2]

theorem prod_dom {rows rows' : Rows2} (h : prodOk rows rows' = true) : domB (prodL rows rows') = true := by
  have h' := h
  unfold prodOk at h'
  rw [Bool.and_eq_true, Bool.and_eq_true, decide_eq_true_iff] at h'
  obtain ⟨⟨hd, hd'⟩, hl⟩ := h'
  obtain ⟨ok, ⟨m, hm, hme⟩, hj⟩ := domB_iff.1 hd
  obtain ⟨ok', ⟨m', hm', hme'⟩, hj'⟩ := domB_iff.1 hd'
  rw [prodL_made h]
  have n1 := ok.len
  have n2 := ok'.len
  have hq : ∀ a, a < rows.length * rows'.length → a / rows'.length < rows.length := fun a ha => Nat.div_lt_of_lt_mul (by rw [Nat.mul_comm]; exact ha)
  have hr : ∀ a, a % rows'.length < rows'.length := fun a => Nat.mod_lt _ (by omega)
  have hand : ∀ p q r s : Bool, ((p && q) && (r && s)) = ((p && r) && (q && s)) := by decide
  refine made_dom (Nat.mul_pos n1.1 n2.1) hl (fun a ha => ?_) (fun a b ha hb hab hne => ?_) (fun a b c ha hb hc hab hbc => ?_) ⟨m * rows'.length + m', pair_lt hm hm', fun k hk => ?_⟩ (fun a b ha hb hc => ?_)
  · unfold prodB
    rw [ok.own _ (hq a ha), ok'.own _ (hr a)]
    rfl
  · unfold prodB at hab ⊢
    rw [Bool.and_eq_true] at hab
    by_cases e : b / rows'.length = a / rows'.length
    · rw [ok'.anti _ _ (hr a) hab.2 (fun e2 => hne (pair_eq e e2)), Bool.and_false]
    · rw [ok.anti _ _ (hq a ha) hab.1 e, Bool.false_and]
  · unfold prodB at hab hbc ⊢
    rw [Bool.and_eq_true] at hab hbc
    rw [ok.trans _ _ (hq a ha) hab.1 _ hbc.1, ok'.trans _ _ (hr a) hab.2 _ hbc.2]
    rfl
  · unfold prodB
    obtain ⟨e1, e2⟩ := pair_parts (x := m) hm'
    rw [e1, e2, hme, hme', testBit_allF, testBit_allF, decide_eq_true (hq k hk), decide_eq_true (hr k)]
    rfl
  · obtain ⟨c, hcl, h1, h2⟩ := hc
    unfold prodB at h1 h2
    rw [Bool.and_eq_true] at h1 h2
    have hne1 : gridF rows (a / rows'.length) &&& gridF rows (b / rows'.length) ≠ 0 := fun e => by
      have := congrArg (fun n => n.testBit (c / rows'.length)) e
      simp only [Nat.testBit_and, h1.1, h2.1, Nat.zero_testBit] at this
      cases this
    have hne2 : gridF rows' (a % rows'.length) &&& gridF rows' (b % rows'.length) ≠ 0 := fun e => by
      have := congrArg (fun n => n.testBit (c % rows'.length)) e
      simp only [Nat.testBit_and, h1.2, h2.2, Nat.zero_testBit] at this
      cases this
    obtain ⟨c1, hc1, e1⟩ := hj _ _ (hq a ha) (hq b hb) hne1
    obtain ⟨c2, hc2, e2⟩ := hj' _ _ (hr a) (hr b) hne2
    refine ⟨c1 * rows'.length + c2, pair_lt hc1 hc2, fun k _ => ?_⟩
    unfold prodB
    obtain ⟨p1, p2⟩ := pair_parts (x := c1) hc2
    rw [p1, p2, e1, e2, Nat.testBit_and, Nat.testBit_and, hand]

/-- The list f is a monotone function of n elements with the relation F to N elements with the relation B. -/
def MonoQ (F B : Nat → Nat → Bool) (n N : Nat) (f : List Int) : Prop :=
  f.length = n ∧ (∀ x ∈ f, outN N x = false) ∧ ∀ a b : Nat, a < n → b < n → F a b = true → B (f.getD a 0).toNat (f.getD b 0).toNat = true
theorem mono_made {rows : Rows2} {B : Nat → Nat → Bool} {N : Nat} (h : Ok rows) (f : List Int) : monoI rows (madeL B N) f = true ↔ MonoQ (bitB (gridF rows)) B rows.length N f := by
  classical
  unfold monoI
  rw [decide_eq_true_iff]
  have e : ∀ x : Int, outN N x = false ↔ (0 ≤ x ∧ x < (N : Int)) := fun x => by
    unfold outN
    rw [Bool.or_eq_false_iff, decide_eq_false_iff_not, decide_eq_false_iff_not]
    omega
  have hup : ∀ a b : Nat, a < N → b < N → (upB (madeL B N) a (b : Int) = true ↔ B a b = true) := fun a b ha hb => by
    unfold upB
    rw [getD_at [] (by rw [madeL_len]; exact ha), madeL_at, decide_eq_true_iff, bRow_mem]
    constructor
    · rintro ⟨k, _, h2, e3⟩
      obtain rfl : b = k := by omega
      exact h2
    · intro h2
      exact ⟨b, hb, h2, rfl⟩
  unfold Mono MonoQ bitB
  rw [madeL_len]
  constructor
  · rintro ⟨h1, h2, h3⟩
    refine ⟨h1, fun x hx => (e x).2 (h2 x hx), fun a b ha hb hab => ?_⟩
    have h4 := h3 a b ha hb (by rw [h.up ha]; exact hab)
    have hfa := h2 _ (getD_lt 0 (h1 ▸ ha) ▸ List.getElem_mem (h1 ▸ ha))
    have hfb := h2 _ (getD_lt 0 (h1 ▸ hb) ▸ List.getElem_mem (h1 ▸ hb))
    rw [← Int.toNat_of_nonneg hfb.1, hup _ _ (by omega) (by omega)] at h4
    exact h4
  · rintro ⟨h1, h2, h3⟩
    refine ⟨h1, fun x hx => (e x).1 (h2 x hx), fun a b ha hb hab => ?_⟩
    have h4 := h3 a b ha hb (by rw [← h.up ha]; exact hab)
    have ma : f.getD a 0 ∈ f := getD_lt 0 (h1 ▸ ha) ▸ List.getElem_mem (h1 ▸ ha)
    have mb : f.getD b 0 ∈ f := getD_lt 0 (h1 ▸ hb) ▸ List.getElem_mem (h1 ▸ hb)
    have hfa := (e _).1 (h2 _ ma)
    have hfb := (e _).1 (h2 _ mb)
    rw [← Int.toNat_of_nonneg hfb.1, hup _ _ (by omega) (by omega)]
    exact h4
end Go.Proofs.YtjfbjfclcpcaiaaDoor

/- The model's order of some elements (l2Within). -/
namespace Go.Proofs.YtjfbjfclcpcaiaaDoor
open Go.RowKit Go.Deep

theorem infoBool : (Tryd.prog.info? 4).map (fun i => (i.zero, i.size, i.bytes)) = some (some (.bool false), 1, 1) := by kernel_rfl

/-- Is the a-th of some elements below the b-th? -/
def cutB (rows : Rows2) (xs : List Int) (a b : Nat) : Bool := upB rows (xs.getD a 0).toNat (xs.getD b 0)

theorem IntsAt.get2 {W : World} {A : Option Addr} {C : Nat} {xs : List Int} (h : IntsAt W (.slice A xs.length C) xs) {i j : Nat} (hi : i < xs.length) (hj : j < xs.length) :
    ∃ b o, A = some ⟨b, o, none⟩ ∧ W.cell? ⟨b, o + i, none⟩ = some (.int .i64 xs[i]) ∧ W.cell? ⟨b, o + j, none⟩ = some (.int .i64 xs[j]) := by
  obtain ⟨b1, o1, e1, h1⟩ := h.get hi
  obtain ⟨b2, o2, e2, h2⟩ := h.get hj
  rw [e1] at e2
  cases e2
  exact ⟨b1, o1, e1, h1, h2⟩

set_option maxRecDepth 100000 in
set_option maxHeartbeats 4000000 in
theorem l2Within_any (v vk : Value) (rows : Rows2) (xs : List Int) (w : World) (hv : RowsAt w v rows) (hk : IntsAt w vk xs) (hok : Ok rows) (hx : ∀ x ∈ xs, 0 ≤ x ∧ x < rows.length) (hl : xs.length ≤ 200) :
    Calls Tryd.prog 87 #[.agg #[v], vk] w (OrdNew xs.length (fun a => bRow (cutB rows xs) a xs.length) w) := by
  have s1 : (w.alloc (.cells #[v] 25)).heap.size = w.heap.size + 1 := World.size_alloc _ _
  have b2 := ((Below.refl w.heap.size w).alloc (Nat.le_refl _) (.cells #[v] 25)).alloc (by rw [s1]; omega) (.cells #[.slice none 0 0] 25)
  have hbA := (Boxed.new w 25 v).alloc (.cells #[.slice none 0 0] 25)
  have hbR := Boxed.new (w.alloc (.cells #[v] 25)) 25 (.slice none 0 0)
  have s2 : ((w.alloc (.cells #[v] 25)).alloc (.cells #[.slice none 0 0] 25)).heap.size = w.heap.size + 2 := by rw [World.size_alloc, s1]
  rw [s1] at hbR
  have HV := Lib.hid (fun W (h : Below w.heap.size w W) => hv.below h)
  have HX := Lib.hid (fun W (h : Below w.heap.size w W) => hk.below h)
  have HXR := Lib.hid hx
  have hbk := hok.bulk
  obtain ⟨A, C, rfl, hC, hm, _⟩ := hv
  obtain ⟨Ax, Cx, rfl, hCx, hmx, _⟩ := hk
  unfold maxLen at hm hmx
  generalize hw0 : ((w.alloc (.cells #[.slice A rows.length C] 25)).alloc (.cells #[.slice none 0 0] 25)) = w0 at b2 hbA hbR s2
  obtain ⟨i0, hi0, hz0, hz1, hz2⟩ := info_parts infoInt
  obtain ⟨j0, hj0, hy0, hy1, hy2⟩ := info_parts infoInts
  have hN := Out.empty w0 (fun a => bRow (cutB rows xs) a xs.length)
  rw [s2] at hN
  have B2 := Lib.hid b2
  have BA := Lib.hid hbA
  have BR := Lib.hid hbR
  have HOK := Lib.hid hok
  have S2 := Lib.hid s2
  have hmk := run_make_row' (P := Tryd.prog) 142 4 (.bool false) 1 Tryd.underlying142 infoBool rfl .i64 .i64 xs.length (by omega) (by omega)
  clear b2 hbA hbR hok hx s1
  go_enter Tryd.func87, Tryd.ntmps87
  go_upto_region 2 with fail
  clear hw0 s2
  generalize ((w0.alloc (.cells #[] 42)).alloc (.cells #[.slice (some ⟨w.heap.size + 2, 0, none⟩) 0 0] 25)) = wq at hN ⊢
  generalize w.heap.size + 2 + 1 = Z at hN ⊢
  have HST := Lib.hid hN
  clear hN
  go_wp2
  go_loopw [6] (fun av wx => ∃ (a : Nat) (u : Value), a ≤ xs.length ∧ av = .int .i64 a ∧ Out w0 Z u a (fun a => bRow (cutB rows xs) a xs.length) wx) (fun av _ => xs.length - (intOf av).toNat)
  case atStart => exact ⟨0, _, Nat.zero_le _, rfl, HST.out⟩
  case round =>
    obtain ⟨wo, hwo⟩ : ∃ wo : World, wo = wr := ⟨_, rfl⟩
    subst hwo
    obtain ⟨a, u, ha, rfl, ho⟩ := hrel
    have HK := Lib.hid ho
    obtain ⟨au, Cu, rfl⟩ := ho.own.form
    clear HST
    by_cases hlt : a < xs.length
    · have hltz : (a : Int) < (xs.length : Int) := by omega
      have HRW := Lib.hid (World.rowIs_made wo (.bool false) xs.length 4)
      have HBB := Lib.hid ((Below.refl wo.heap.size wo).alloc (Nat.le_refl _) (.cells (madeCells #[.bool false] xs.length) 4))
      clear ho
      go_upto_region 6 with fail
      generalize wo.alloc (.cells (madeCells #[.bool false] xs.length) 4) = wa at HRW HBB ⊢
      go_wp2
      go_loopw [8] (fun bv wx => ∃ b : Nat, b ≤ xs.length ∧ bv = .int .i64 b ∧ wx.rowIs wo.heap.size 4 xs.length (fun i => if i < b then .bool (cutB rows xs a i) else .bool false) ∧ Below wo.heap.size wo wx) (fun bv _ => xs.length - (intOf bv).toNat)
      case atStart => exact ⟨0, Nat.zero_le _, rfl, HRW.out.congr (fun i _ => by rw [if_neg (Nat.not_lt_zero i)]), HBB.out⟩
      case round =>
        obtain ⟨b, hb, rfl, hr, hB⟩ := hrel
        have HR := Lib.hid hr
        have HB := Lib.hid hB
        clear HRW HBB hB
        by_cases hbl : b < xs.length
        · have hbz : (b : Int) < (xs.length : Int) := by omega
          have hc := hr.cell hbl
          have hfz := hr.frozen b
          have hLz := hr.lt
          rw [if_neg (Nat.lt_irrefl b)] at hc
          have HOX := Lib.hid (HK.out.step HB.out)
          have HBW := Lib.hid (B2.out.trans (HOX.out.below.mono (by rw [S2.out]; omega)))
          have hcell := (HOX.out.below.cell (p := ⟨w.heap.size, 0, none⟩) (cell_lt BA.out.cell)).trans BA.out.cell
          obtain ⟨b1, o1, rfl, hxa, hxb⟩ := (HX.out wr HBW.out).get2 hlt hbl
          have hra := HXR.out _ (List.getElem_mem hlt)
          have hrb := HXR.out _ (List.getElem_mem hbl)
          obtain ⟨ka, hka⟩ : ∃ ka : Nat, xs[a] = (ka : Int) := ⟨xs[a].toNat, by omega⟩
          have hkl : ka < rows.length := by omega
          have HA := Lib.hid (show cutB rows xs a b = upB rows ka xs[b] by unfold cutB; rw [getD_lt 0 hlt, getD_lt 0 hbl, hka, Int.toNat_natCast])
          rw [hka] at hxa
          have hcE := l1Le_any (.slice A rows.length C) rows (ka : Int) ka xs[b] wr.drew ((HV.out wr HBW.out).below (below_drew wr _)) hkl rfl (HOK.out.asc ka hkl).1 hbk
          generalize hq : upB rows ka xs[b] = q at hcE
          have HQ := Lib.hid hq
          clear hr hka hra hrb hq
          go_upto_region 9 with fail
          go_region_law (go_simp; go_at_call 86; refine hcE.mono ?_; clear hcE; rintro e w3 ⟨rfl, hb3⟩; have HB3 := Lib.hid ((below_drew wr _).trans hb3); have hc3 : w3.cell? ⟨wo.heap.size, b, none⟩ = some (.bool false) := (HB3.out.cell (p := ⟨wo.heap.size, b, none⟩) hLz).trans hc; have hf3 : w3.frozen? ⟨wo.heap.size, b, none⟩ = false := (HB3.out.frozen (p := ⟨wo.heap.size, b, none⟩) hLz).trans hfz; clear hb3)
          all_goals
            go_wp2
            go_roundw
            case rel =>
              refine ⟨b + 1, by omega, by go_num, ((HR.out.of_block (HB3.out.block _ hLz)).set b (.bool q)).congr (fun i hi => ?_), (HB.out.trans (HB3.out.mono HB.out.size)).setCell (p := ⟨wo.heap.size, b, none⟩) (Nat.le_refl _) _⟩
              by_cases e : i = b
              · subst e; rw [if_pos (Nat.lt_succ_self i), HA.out, HQ.out]; simp
              · by_cases e2 : i < b
                · simp [e, e2, show i < b + 1 by omega]
                · simp [e, e2, show ¬ i < b + 1 by omega]
            case measure => simp [intOf]; omega
        · obtain rfl : b = xs.length := by omega
          have hbz : ¬ ((xs.length : Int) < (xs.length : Int)) := by omega
          have HOX := Lib.hid (HK.out.step HB.out)
          have hout := HOX.out.out.cell
          have hZ2 := HOX.out.out.lt
          have hb0 := HOX.out.below.size
          have HRO := Lib.hid (l2Row_any wo.heap.size xs.length xs.length (cutB rows xs a) wr.drew (by omega) (fun i hi => by have := HR.out.cell hi; rw [if_pos hi] at this; exact this))
          obtain ⟨f, hf0, hf1, hf2⟩ := HOX.out.own.owns
          have HF0 := Lib.hid hf0
          have HF1 := Lib.hid hf1
          have HF2 := Lib.hid hf2
          clear hf0 hf1 hf2 hr
          go_upto_region 10 with fail
          go_region_law (first | (go_simp; go_at_call 129; refine HRO.out.mono ?_; clear HRO; rintro e w2 ⟨v', rfl, hv', hb2⟩; obtain ⟨a2, C2, rfl⟩ := hv'.form; have HV2 := Lib.hid hv'; have HB2 := Lib.hid ((below_drew wr _).trans hb2); have HK2 := Lib.hid (HOX.out.step HB2.out); have HW0 := Lib.hid (owns_below HF0.out HB2.out); have hout2 := HK2.out.out.cell; have hout3 := cell_alloc_any hout2; have hz22 : wr.heap.size ≤ w2.heap.size := hb2.size; clear hv' hb2) | (refine step_append_lies _ (by rfl) _ _ 23 (by rfl) w0.heap.size 42 j0 (.slice none 0 0) 1 24 Tryd.underlying23 hj0 hy0 hy1 hy2 rfl (by decide) (.slice au a Cu) a ((List.range a).map f) (by rfl) (HW0.out.alloc _) ⟨w2.heap.size, 0, none⟩ 1 1 [.slice a2 (keptN (cutB rows xs a) xs.length).length C2] (by rfl) rfl (World.news_of_block (heap_alloc_new w2 _)) (by simp [Value.oneCell']) (by omega) (by unfold maxLen; omega) (by omega) (by simp; omega) (w2.heap.size + 1) (by simp) ?_; intro g' cap' w3 hown hgrow hat hlt'; have hfar := HK2.out.far HW0.out hgrow; have hc3 := hfar.cell; have hf3 := hfar.frozen; clear hfar))
          all_goals
            go_wp2
            go_roundw
            case rel =>
              refine ⟨a + 1, _, by omega, by go_num, (HOX.out.pushed HF0.out HF1.out HF2.out HB2.out HV2.out hown ⟨hgrow.os, hgrow.tape, hgrow.output, hgrow.size, hgrow.block⟩).congr fun j hj => ?_⟩
              by_cases e : j = a
              · subst e; rw [if_pos rfl]; rfl
              · rw [if_neg e]
            case measure => simp [intOf]; omega
    · obtain rfl : a = xs.length := by omega
      have hres := (ho.below.block _ (by rw [S2.out]; omega)).trans BR.out
      have hrc := Boxed.cell hres
      have hrf := Boxed.frozen hres
      have hout := ho.out.cell
      have hc9 := World.cell?_setCell_same' wo ⟨w.heap.size + 1, 0, none⟩ (.slice au xs.length Cu) (by rw [hrc]; rfl)
      clear ho hres
      go_wp2
      refine bodyPost_ret (v := .agg #[.slice au xs.length Cu]) (by simp [results, Tryd.results87, go_sem, hc9]) rfl ?_
      refine ⟨_, rfl, ?_, (B2.out.trans (HK.out.below.mono (by rw [S2.out]; omega))).setCell (p := ⟨w.heap.size + 1, 0, none⟩) (Nat.le_succ _) _⟩
      rw [size_setCell]
      exact (HK.out.own.kept fun b hb _ => Below.heap_setCell _ _ _ b (show b ≠ w.heap.size + 1 by have := S2.out; omega)).wider (by rw [S2.out]; omega) (Nat.le_refl _)
end Go.Proofs.YtjfbjfclcpcaiaaDoor

/- The program's domain of some elements of a domain, unbuilt: how many elements it has, and what is below what. -/
namespace Go.Proofs.YtjfbjfclcpcaiaaDoor
open Go.RowKit Go.Deep Go.Shelf

theorem run_cut_size (m : Nat) (v v' : Value) (w : World) : (Go.method (m + 1) 100 (.agg #[v, v']) "loop.example/scottdomains/impl.size").run Tryd.prog w = .ok (164, .agg #[v, v']) w := by kernel_rfl
theorem run_cut_below (m : Nat) (v v' : Value) (w : World) : (Go.method (m + 1) 100 (.agg #[v, v']) "loop.example/scottdomains/impl.below").run Tryd.prog w = .ok (163, .agg #[v, v']) w := by kernel_rfl

theorem cutSize_any (p : Nat) (ve : Value) (xs : List Int) (w : World) (hv : IntsAt w ve xs) :
    Calls Tryd.prog 164 #[.agg #[gridV p, ve]] w (SaysI ((xs.length : Nat) : Int) w) := by
  have b0 := (Below.refl w.heap.size w).alloc (Nat.le_refl _) (.cells #[gridV p, ve] 100)
  obtain ⟨hc, hc'⟩ := fresh2 w (gridV p) ve 100
  obtain ⟨A, C, rfl, _⟩ := hv
  have HB := Lib.hid b0
  clear b0
  go_enter Tryd.func164, Tryd.ntmps164
  go_wp2
  go_ret
  exact ⟨rfl, HB.out⟩

/-- Is the a-th of some elements of a grid below the b-th? -/
def cutG (g : Nat → Nat) (xs : List Int) (a b : Nat) : Bool := (g (xs.getD a 0).toNat).testBit (xs.getD b 0).toNat

set_option maxRecDepth 100000 in
set_option maxHeartbeats 4000000 in
theorem cutBelow_any (p : Nat) (g : Nat → Nat) (ve : Value) (xs : List Int) (a b : Nat) (w : World) (hg : GridAt w p g) (hv : IntsAt w ve xs) (hx : ∀ x ∈ xs, 0 ≤ x ∧ x < 200) (ha : a < xs.length) (hb : b < xs.length) :
    Calls Tryd.prog 163 #[.agg #[gridV p, ve], .int .i64 (a : Int), .int .i64 (b : Int)] w (SaysN (cutG g xs a b) w) := by
  have b0 := (Below.refl w.heap.size w).alloc (Nat.le_refl _) (.cells #[gridV p, ve] 100)
  have hs : w.heap.size ≤ (w.alloc (.cells #[gridV p, ve] 100)).heap.size := b0.size
  obtain ⟨hc, hc'⟩ := fresh2 w (gridV p) ve 100
  have hv1 := hv.below b0
  obtain ⟨A, C, rfl, hC, hm, _⟩ := hv
  unfold maxLen at hm
  obtain ⟨b1, o1, rfl, hxa, hxb⟩ := hv1.get2 ha hb
  have hra := hx _ (List.getElem_mem ha)
  have hrb := hx _ (List.getElem_mem hb)
  obtain ⟨ka, hka⟩ : ∃ ka : Nat, xs[a] = (ka : Int) := ⟨xs[a].toNat, by omega⟩
  obtain ⟨kb, hkb⟩ : ∃ kb : Nat, xs[b] = (kb : Int) := ⟨xs[b].toNat, by omega⟩
  rw [hka] at hxa
  rw [hkb] at hxb
  have HE := Lib.hid (show cutG g xs a b = (g ka).testBit kb by unfold cutG; rw [getD_lt 0 ha, getD_lt 0 hb, hka, hkb, Int.toNat_natCast, Int.toNat_natCast])
  have hy := fun d os => Calls.regrown_of (d := d) (os := os) (gbelow_any p g (ka : Int) (kb : Int) ka kb _ ((hg.below b0 hg.lt).below (below_regrown _ d os) (hg.below b0 hg.lt).lt) rfl (by omega) rfl (by omega))
  have hk0 := fun d os => cell_regrown hc d os
  have hk1 := fun d os => cell_regrown hc' d os
  have hk2 := fun d os => cell_regrown hxa d os
  have hk3 := fun d os => cell_regrown hxb d os
  have hmB := run_below
  have hmN := fun b w => run_nilAhead 266 b w
  have haz : (a : Int) < (xs.length : Int) := by omega
  have hbz : (b : Int) < (xs.length : Int) := by omega
  generalize (g ka).testBit kb = t at hy HE
  have HB := Lib.hid b0
  have HS := Lib.hid hs
  clear b0 hs hg hv1 hx hka hkb hra hrb hc hc' hxa hxb
  go_enter Tryd.func163, Tryd.ntmps163
  go_upto_region 1 with fail
  refine wp_region_quiet_below (by kernel_rfl) (by kernel_rfl) ?_
  repeat (go_big_quiet_step (first | (go_at_call 132; exact hy _ _)))
  refine wpQuiet_nil ?_
  intro _ hw'
  obtain ⟨⟨dq, osq⟩, hw''⟩ := hw'
  subst hw''
  clear hy hk0 hk1 hk2 hk3
  go_wp2
  go_ret
  exact ⟨by rw [HE.out]; rfl, HB.out.trans ((below_regrown _ dq osq).mono HS.out)⟩
end Go.Proofs.YtjfbjfclcpcaiaaDoor

/- The walks of rowsOf and built at cut. -/
namespace Go.Proofs.YtjfbjfclcpcaiaaDoor
open Go.RowKit Go.Deep Go.Shelf

set_option maxRecDepth 100000 in
set_option maxHeartbeats 4000000 in
theorem cutRows_yes (p : Nat) (g : Nat → Nat) (ve : Value) (xs : List Int) (N : Nat) (w : World) (hg : GridAt w p g) (hv : IntsAt w ve xs) (hx : ∀ x ∈ xs, 0 ≤ x ∧ x < 200) (hN : N = xs.length) (hN2 : N ≤ 200) :
    Calls Tryd.prog 118 #[.iface 100 (.agg #[.iface 69 (.pointer (some ⟨p, 0, none⟩)), ve])] w (RowsYes (madeG (cutG g xs) N) w) := by
  have hK : Stays w (fun W => Below w.heap.size w W) := fun _ _ hb hk => hk.trans hb
  have hcall0 := fun W (hk : (fun W => Below w.heap.size w W) W) => cutSize_any p ve xs W (hv.below hk)
  have hk0 : (fun W => Below w.heap.size w W) w := (Below.refl _ _)
  have hcall := hcall0 _ hk0
  rw [← hN] at hcall
  have HBC := Lib.hid (fun (a b : Nat) (ha : a < N) (hb : b < N) W (hk : (fun W => Below w.heap.size w W) W) => cutBelow_any p g ve xs a b W (hg.below hk hg.lt) (hv.below hk) hx (by rw [← hN]; exact ha) (by rw [← hN]; exact hb))
  have hmS := run_cut_size
  have hmB := run_cut_below
  have hN3 : ¬ ((200 : Int) < (N : Int)) := by omega
  have hz := (zero_of_info zeroGrid).1
  have HK0 := Lib.hid hk0
  have HKK := Lib.hid hK
  clear hg hv hx hN hcall0 hk0 hK
  go_enter Tryd.func118, Tryd.ntmps118
  go_wp2_with (go_at_call 164; refine hcall.mono ?_; clear hcall; rintro e w1 ⟨rfl, hb1⟩; have HK1 := Lib.hid (HKK.out _ _ hb1 HK0.out); have HB1 := Lib.hid hb1; clear hb1)
  have bA := (Below.refl w1.heap.size w1).alloc (Nat.le_refl _) (.cells (gridCells fun _ => 0) 83)
  have HST := Lib.hid (show RwG w (fun W => Below w.heap.size w W) w1.heap.size (bG (cutG g xs) N 0 0) (w1.alloc (.cells (gridCells fun _ => 0) 83)) from
    ⟨HKK.out _ _ (bA.mono HB1.out.size) HK1.out, by rw [bG_start]; exact store_new w1, HB1.out.size, HB1.out.trans (bA.mono HB1.out.size)⟩)
  clear bA hz
  go_loopw [6, 13] (fun _ av wr => ∃ a : Nat, a ≤ N ∧ av = .int .i64 a ∧ RwG w (fun W => Below w.heap.size w W) w1.heap.size (bG (cutG g xs) N a 0) wr) (fun _ av _ => N - (intOf av).toNat)
  case atStart => exact ⟨0, Nat.zero_le _, rfl, HST.out⟩
  case round =>
    obtain ⟨a, ha, rfl, ht⟩ := hrel
    have HT := Lib.hid ht
    clear HST ht
    by_cases hal : a < N
    · go_wp2
      go_loopw [7, 17] (fun _ bv wr => ∃ b : Nat, b ≤ N ∧ bv = .int .i64 b ∧ RwG w (fun W => Below w.heap.size w W) w1.heap.size (bG (cutG g xs) N a b) wr) (fun _ bv _ => N - (intOf bv).toNat)
      case atStart => exact ⟨0, Nat.zero_le _, rfl, HT.out⟩
      case round =>
        obtain ⟨b, hb, rfl, ht⟩ := hrel
        have HK := Lib.hid ht
        clear ht HT
        by_cases hbl : b < N
        · have hcall := HBC.out a b hal hbl wr HK.out.kept
          cases hbit : (cutG g xs) a b with
          | false =>
            rw [hbit] at hcall
            have HE := Lib.hid (bG_no (N := N) hbit)
            clear hbit
            go_wp2_with (go_at_call 163; refine hcall.mono ?_; clear hcall; rintro e w2 ⟨rfl, hb2⟩; have H2 := Lib.hid (HK.out.step HKK.out hb2); clear hb2)
            go_roundw
            case rel => exact ⟨b + 1, by omega, by go_num, by rw [HE.out]; exact H2.out⟩
            case measure => simp [intOf]; omega
          | true =>
            rw [hbit] at hcall
            have HE := Lib.hid (bG_yes (N := N) hbit)
            have ha200 : a < 200 := by omega
            have hb200 : b < 200 := by omega
            have ha0 : (0 : Int) ≤ (a : Int) := by omega
            have ha1 : (a : Int) < 200 := by omega
            clear hbit
            go_wp2_with (first | (go_at_call 163; refine hcall.mono ?_; clear hcall; rintro e w2 ⟨rfl, hb2⟩; have H2 := Lib.hid (HK.out.step HKK.out hb2); have hadd := addTo_any w1.heap.size a b (b : Int) _ w2 H2.out.grid ha200 hb200 rfl; clear hb2) | (go_at_call 110; refine hadd.mono ?_; clear hadd; rintro e w3 ⟨rfl, m, rfl⟩))
            go_roundw
            case rel => exact ⟨b + 1, by omega, by go_num, by rw [HE.out]; exact H2.out.put HKK.out ha200 hb200 m⟩
            case measure => simp [intOf]; omega
        · obtain rfl : b = N := by omega
          go_wp2
          go_roundw
          case rel => exact ⟨a + 1, by omega, by go_num, by rw [← bG_next]; exact HK.out⟩
          case measure => simp [intOf]; omega
    · obtain rfl : a = N := by omega
      go_wp2
      go_ret2
      exact ⟨⟨w1.heap.size, rfl, HT.out.own, HT.out.grid⟩, HT.out.below⟩
theorem cutBuilt_yes (p : Nat) (g : Nat → Nat) (ve : Value) (xs : List Int) (N : Nat) (w : World) (hg : GridAt w p g) (hv : IntsAt w ve xs) (hx : ∀ x ∈ xs, 0 ≤ x ∧ x < 200) (hN : N = xs.length) (hN2 : N ≤ 200) (hT : Tab w) (hrf : ∀ q, q < N → (cutG g xs) q q = true) :
    Calls Tryd.prog 69 #[.iface 100 (.agg #[.iface 69 (.pointer (some ⟨p, 0, none⟩)), ve])] w (RowsG N (fun q => bRow (cutG g xs) q N) true w) :=
  built_yes _ (cutG g xs) N w hT hN2 hrf fun W hB => cutRows_yes p g ve xs N W (hg.below hB hg.lt) (hv.below hB) hx hN hN2
end Go.Proofs.YtjfbjfclcpcaiaaDoor

/- The elements below an element: what DomainCut answers. Plain facts: no function is walked here. -/
namespace Go.Proofs.YtjfbjfclcpcaiaaDoor
open Go.RowKit Go.Deep

noncomputable def cutOk (rows : Rows2) (top : Int) : Bool := domB rows && decide (0 ≤ top ∧ top < rows.length)
/-- All elements below an element. -/
def cutK (rows : Rows2) (top : Int) : List Int := keptN (fun i => upB rows i top) rows.length
noncomputable def cutL (rows : Rows2) (top : Int) : Rows2 := if cutOk rows top = true then madeL (cutB rows (cutK rows top)) (cutK rows top).length else []
theorem cutL_yes {rows : Rows2} {top : Int} (h : cutOk rows top = true) : (cutL rows top).length = (cutK rows top).length ∧ ∀ q, q < (cutK rows top).length → rowsF (cutL rows top) q = bRow (cutB rows (cutK rows top)) q (cutK rows top).length := by
  unfold cutL
  rw [if_pos h, madeL_len]
  refine ⟨rfl, fun q hq => ?_⟩
  rw [rowsF_lt (by rw [madeL_len]; exact hq), madeL_at]
theorem cutL_no {rows : Rows2} {top : Int} (h : cutOk rows top = false) : cutL rows top = [] := by unfold cutL; rw [if_neg (by rw [h]; simp)]
theorem bRow_congr {B B' : Nat → Nat → Bool} {a N : Nat} (h : ∀ k, k < N → B a k = B' a k) : bRow B a N = bRow B' a N := by
  unfold bRow
  rw [List.filter_congr fun k hk => h k (List.mem_range.1 hk)]
theorem cutK_elems {rows : Rows2} (h : Ok rows) {t : Nat} (ht : t < rows.length) : intsOf (elems (gridF (backRows rows) t)) = cutK rows (t : Int) := by
  have hb : t < (backRows rows).length := by rw [backRows_len]; exact ht
  have e := h.back.elems hb
  rw [backRows_at] at e
  unfold intsOf cutK keptN
  rw [← e]
  unfold backRow
  rw [List.filter_congr fun k hk => (h.up (List.mem_range.1 hk) t).symm]
theorem cutK_range (rows : Rows2) (top : Int) : ∀ x ∈ cutK rows top, 0 ≤ x ∧ x < rows.length := fun x hx => keptN_range x hx
theorem cutK_le (rows : Rows2) (top : Int) : (cutK rows top).length ≤ rows.length := keptN_le _ _

theorem cut_bulk (rows : Rows2) (top : Int) : bulk (cutL rows top) ≤ 1048576 := by
  cases h : cutOk rows top with
  | false => rw [cutL_no h]; simp [bulk]
  | true =>
    unfold cutL
    rw [if_pos h]
    unfold cutOk at h
    rw [Bool.and_eq_true] at h
    have := (domB_iff.1 h.1).1.len
    exact made_small (Nat.le_trans (cutK_le _ _) this.2)
end Go.Proofs.YtjfbjfclcpcaiaaDoor

/- The program's DomainCut. -/
namespace Go.Proofs.YtjfbjfclcpcaiaaDoor
open Go.RowKit Go.Deep Go.Shelf

/-- An order in its variable, and the result's. -/
structure OneR (w : World) (v : Value) (rows : Rows2) (W : World) : Prop where
  r0 : RowsAt W v rows
  c0 : W.cell? ⟨w.heap.size, 0, none⟩ = some v
  res : Boxed W (w.heap.size + 1) 25 (.slice none 0 0)
  below : Below w.heap.size w W
theorem OneR.step {w : World} {v : Value} {rows : Rows2} {W W' : World} (h : OneR w v rows W) (hb : Below W.heap.size W W') : OneR w v rows W' :=
  ⟨h.r0.below hb, (hb.cell (p := ⟨w.heap.size, 0, none⟩) (cell_lt h.c0)).trans h.c0, (hb.block _ h.res.lt).trans h.res, h.below.trans (hb.mono h.below.size)⟩
theorem OneR.start (w : World) {v : Value} {rows : Rows2} (hv : RowsAt w v rows) : OneR w v rows ((w.alloc (.cells #[v] 25)).alloc (.cells #[.slice none 0 0] 25)) := by
  have s1 : (w.alloc (.cells #[v] 25)).heap.size = w.heap.size + 1 := World.size_alloc _ _
  have b1 := ((Below.refl w.heap.size w).alloc (Nat.le_refl _) (.cells #[v] 25)).alloc (by rw [s1]; omega) (.cells #[.slice none 0 0] 25)
  have x0 := (Boxed.new w 25 v).alloc (.cells #[.slice none 0 0] 25)
  have x1 := Boxed.new (w.alloc (.cells #[v] 25)) 25 (.slice none 0 0)
  rw [s1] at x1
  exact ⟨hv.below b1, x0.cell, x1, b1⟩

set_option maxRecDepth 100000 in
set_option maxHeartbeats 8000000 in
theorem implCut_any (v : Value) (rows : Rows2) (top : Int) (w : World) (hv : RowsAt w v rows) (hT : Tab w) (hn : bulk rows ≤ 1048576) :
    Calls Tryd.prog 33 #[.agg #[v], .int .i64 top] w (OrderP (cutL rows top) (cutOk rows top) w) := by
  have h0 := OneR.start w hv
  have T0 := Lib.hid (hT.below h0.below)
  have hd1 := domainOf_any _ rows _ h0.r0 T0.out hn
  have hc0 := h0.c0
  obtain ⟨A, C, rfl, _⟩ := hv
  have H0 := Lib.hid h0
  have HTA := Lib.hid (fun W (h : Below w.heap.size w W) => hT.below h)
  clear h0 hT
  cases h1 : domB rows with
  | false =>
    have HE := Lib.hid (show cutOk rows top = false by unfold cutOk; rw [h1]; rfl)
    go_enter Tryd.func33, Tryd.ntmps33
    go_wp2_with (first | (go_at_call 68; refine hd1.mono ?_; clear hd1; rintro e w1 ⟨⟨q, rfl, _⟩, hb1⟩; rw [h1]; have H1 := Lib.hid (H0.out.step hb1); have hres := H1.out.res.cell; have hfr := H1.out.res.frozen; clear hb1 hc0))
    have hc9 := World.cell?_setCell_same' w1 ⟨w.heap.size + 1, 0, none⟩ (.slice none 0 0) (by rw [hres]; rfl)
    refine bodyPost_ret (v := .tuple #[.agg #[.slice none 0 0], .bool false]) (by simp [results, Tryd.results33, go_sem, hc9]) rfl ?_
    exact orderP_no (cutL_no HE.out) HE.out H1.out.below (by omega) _
  | true =>
    by_cases hel : 0 ≤ top ∧ top < rows.length
    · obtain ⟨t, rfl⟩ : ∃ t : Nat, top = (t : Int) := ⟨top.toNat, by omega⟩
      have htl : t < rows.length := by omega
      have hE : cutOk rows (t : Int) = true := by unfold cutOk; rw [h1, decide_eq_true hel]; rfl
      have hok := (domB_iff.1 h1).1
      have HE := Lib.hid hE
      have HL := Lib.hid (cutL_yes hE)
      have hn200 := hok.len.2
      have hel2 : decide (0 ≤ (t : Int) ∧ (t : Int) < rows.length) = true := decide_eq_true hel
      have HEL := Lib.hid (fun i (_ : i < rows.length) k (hk : k ∈ elems (gridF rows i)) => hok.lt200 ((mem_elems (hok.lt i)).1 hk))
      have HN := Lib.hid hok.gridN
      have HBN := Lib.hid (backN_rows hok)
      have HLT := Lib.hid hok.back.lt
      have HCK := Lib.hid (cutK_elems hok htl)
      have HBC := Lib.hid (fun a (ha : a < (cutK rows (t : Int)).length) => bRow_congr (B := cutG (gridF rows) (cutK rows (t : Int))) (B' := cutB rows (cutK rows (t : Int))) (a := a) (N := (cutK rows (t : Int)).length) (fun k hk => by
        have r1 := cutK_range rows t _ (List.getElem_mem ha)
        have r2 := cutK_range rows t _ (List.getElem_mem hk)
        unfold cutG cutB
        rw [getD_lt 0 ha, getD_lt 0 hk, ← hok.up (by omega), Int.toNat_of_nonneg r2.1]))
      have HRF := Lib.hid (show ∀ q, q < (cutK rows (t : Int)).length → cutG (gridF rows) (cutK rows (t : Int)) q q = true from fun q hq => by
        have r1 := cutK_range rows t _ (List.getElem_mem hq)
        unfold cutG
        rw [getD_lt 0 hq]
        exact hok.own _ (by omega))
      have hi0 : (0 : Int) ≤ (t : Int) := by omega
      have hi1 : (t : Int) < 200 := by omega
      have ht2 : t < 200 := by omega
      have hz := (zero_of_info zeroGrid).1
      clear hE hok
      go_enter Tryd.func33, Tryd.ntmps33
      go_wp2_with (first | (go_at_call 68; refine hd1.mono ?_; clear hd1; rintro e w1 ⟨⟨q, rfl, hq⟩, hb1⟩; obtain ⟨p, rfl, hg⟩ := hq h1; rw [h1]; have G1 := Lib.hid hg; have H1 := Lib.hid (H0.out.step hb1); have T1 := Lib.hid (T0.out.below hb1); have hc1 := H1.out.c0; clear hb1 hc0 hg hq) | (go_at_call 74; refine (isElement_any _ rows (t : Int) _ H1.out.r0).mono ?_; rintro e w2 ⟨rfl, hb2⟩; rw [hel2]; have H2 := Lib.hid (H1.out.step hb2); have T2 := Lib.hid (T1.out.below hb2); have G2 := Lib.hid (G1.out.below hb2 G1.out.lt); clear hb2 hc1))
      refine (back_any p rows.length (gridF rows) _ G2.out T2.out HN.out HEL.out).mono ?_
      rintro e w5 ⟨rfl, hb5⟩
      rw [HBN.out]
      obtain ⟨w6, hw6⟩ : ∃ w6, w6 = newGrid (gridF (backRows rows)) w5 := ⟨_, rfl⟩
      have hb6 : Below w5.heap.size w5 w6 := by rw [hw6]; exact newGrid_below _ w5
      have H6 := Lib.hid ((H2.out.step hb5).step hb6)
      have T6 := Lib.hid ((T2.out.below hb5).below hb6)
      have G6 := Lib.hid (((G2.out.below hb5 G2.out.lt).below hb6 (Nat.lt_of_lt_of_le G2.out.lt hb5.size)))
      have R6 := Lib.hid (show GridAt w6 w5.heap.size (gridF (backRows rows)) by rw [hw6]; exact newGrid_at HLT.out w5)
      clear hb5 hb6
      go_upto_region 5 with (refine wpList_store_row rfl 83 (.tmp 8) (.tmp 24) rfl w5.heap.size (gridCells (gridF (backRows rows))) rfl rfl 83 (gridCells fun _ => 0) (store_new w5).1 (by rw [gridCells_size]; exact sizeGrid) (by rw [gridCells_size, gridCells_size]) (gridCells_one _) ?_)
      rw [show ((w5.alloc (.cells (gridCells fun _ => 0) 83)).setRow w5.heap.size (gridCells (gridF (backRows rows)))) = w6 from hw6.symm]
      clear hw6
      generalize w5.heap.size = p5 at R6 ⊢
      obtain ⟨c0, c1, c2, c3⟩ := R6.out.row t ht2
      go_wp2_with (go_at_call 84; refine (list_any (gridF (backRows rows) t) _ (HLT.out t) T6.out).mono ?_; rintro e w7 ⟨ve, rfl, hv7, hb7⟩; rw [HCK.out] at hv7; obtain ⟨a7, C7, rfl⟩ := hv7.form; have V7 := Lib.hid hv7.at; have G7 := Lib.hid (G6.out.below hb7 G6.out.lt); have H7 := Lib.hid (H6.out.step hb7); clear hv7 hb7)
      refine (cutBuilt_yes p (gridF rows) (.slice a7 (cutK rows (t : Int)).length C7) (cutK rows (t : Int)) (cutK rows (t : Int)).length w7 G7.out V7.out (fun x hx => by have := cutK_range rows t x hx; omega) rfl (Nat.le_trans (cutK_le _ _) hn200) (HTA.out _ H7.out.below) HRF.out).mono ?_
      rintro e w8 ⟨u, rfl, hu, hb8⟩
      obtain ⟨a8, C8, rfl⟩ := hu.form
      have HU := Lib.hid hu
      have H8 := Lib.hid (H7.out.step hb8)
      have hres := H8.out.res.cell
      have hfr := H8.out.res.frozen
      clear hu hb8
      go_wp2
      have hc9 := World.cell?_setCell_same' w8 ⟨w.heap.size + 1, 0, none⟩ (.slice a8 (cutK rows (t : Int)).length C8) (by rw [hres]; rfl)
      have hw2 : w.heap.size + 1 < w7.heap.size := H7.out.res.lt
      refine bodyPost_ret (v := .tuple #[.agg #[.slice a8 (cutK rows (t : Int)).length C8], .bool true]) (by simp [results, Tryd.results33, go_sem, hc9]) rfl ?_
      refine ⟨_, by rw [HE.out], ?_, H8.out.below.setCell (p := ⟨w.heap.size + 1, 0, none⟩) (by show w.heap.size ≤ w.heap.size + 1; omega) _⟩
      rw [HL.out.1, size_setCell]
      exact ((HU.out.kept fun b hb _ => Below.heap_setCell _ _ _ b (show b ≠ w.heap.size + 1 by omega)).wider (by omega) (Nat.le_refl _)).congr fun q hq => (HBC.out q hq).trans (HL.out.2 q hq).symm
    · have HE := Lib.hid (show cutOk rows top = false by unfold cutOk; rw [decide_eq_false hel, Bool.and_false])
      have hel2 : decide (0 ≤ top ∧ top < rows.length) = false := decide_eq_false hel
      go_enter Tryd.func33, Tryd.ntmps33
      go_wp2_with (first | (go_at_call 68; refine hd1.mono ?_; clear hd1; rintro e w1 ⟨⟨q, rfl, _⟩, hb1⟩; rw [h1]; have H1 := Lib.hid (H0.out.step hb1); have hc1 := H1.out.c0; clear hb1 hc0) | (go_at_call 74; refine (isElement_any _ rows top _ H1.out.r0).mono ?_; rintro e w2 ⟨rfl, hb2⟩; rw [hel2]; have H2 := Lib.hid (H1.out.step hb2); have hres := H2.out.res.cell; have hfr := H2.out.res.frozen; clear hb2 hc1))
      have hc9 := World.cell?_setCell_same' w2 ⟨w.heap.size + 1, 0, none⟩ (.slice none 0 0) (by rw [hres]; rfl)
      refine bodyPost_ret (v := .tuple #[.agg #[.slice none 0 0], .bool false]) (by simp [results, Tryd.results33, go_sem, hc9]) rfl ?_
      exact orderP_no (cutL_no HE.out) HE.out H2.out.below (by omega) _
end Go.Proofs.YtjfbjfclcpcaiaaDoor

/- The model's DomainCut. -/
namespace Go.Proofs.YtjfbjfclcpcaiaaDoor
open Go.RowKit Go.Deep

set_option maxRecDepth 100000 in
set_option maxHeartbeats 8000000 in
theorem specCut_any (v : Value) (rows : Rows2) (top : Int) (w : World) (hv : RowsAt w v rows) (hn : bulk rows ≤ 1048576) :
    Calls Tryd.prog 34 #[.agg #[v], .int .i64 top] w (OrderP (cutL rows top) (cutOk rows top) w) := by
  have h0 := OneR.start w hv
  have HV := Lib.hid (fun W (h : Below w.heap.size w W) => hv.below h)
  have hd1 := specDom_any _ rows _ h0.r0 hn
  have hc0 := h0.c0
  have hlen : rows.length ≤ 1048576 := by unfold bulk at hn; omega
  have hs1 := i64_sub1 rows.length hlen
  obtain ⟨A, C, rfl, hC, hm, _⟩ := hv
  unfold maxLen at hm
  have H0 := Lib.hid h0
  clear h0
  cases h1 : domB rows with
  | false =>
    rw [h1] at hd1
    have HE := Lib.hid (show cutOk rows top = false by unfold cutOk; rw [h1]; rfl)
    clear h1
    go_enter Tryd.func34, Tryd.ntmps34
    go_wp2_with (go_at_call 70; refine hd1.mono ?_; clear hd1; rintro e w1 ⟨rfl, hb1⟩; have H1 := Lib.hid (H0.out.step hb1); have hres := H1.out.res.cell; have hfr := H1.out.res.frozen; clear hb1 hc0)
    have hc9 := World.cell?_setCell_same' w1 ⟨w.heap.size + 1, 0, none⟩ (.slice none 0 0) (by rw [hres]; rfl)
    refine bodyPost_ret (v := .tuple #[.agg #[.slice none 0 0], .bool false]) (by simp [results, Tryd.results34, go_sem, hc9]) rfl ?_
    exact orderP_no (cutL_no HE.out) HE.out H1.out.below (by omega) _
  | true =>
    rw [h1] at hd1
    by_cases hel : 0 ≤ top ∧ top < rows.length
    · obtain ⟨t, rfl⟩ : ∃ t : Nat, top = (t : Int) := ⟨top.toNat, by omega⟩
      have hE : cutOk rows (t : Int) = true := by unfold cutOk; rw [h1, decide_eq_true hel]; rfl
      have hok := (domB_iff.1 h1).1
      have HE := Lib.hid hE
      have HL := Lib.hid (cutL_yes hE)
      have HOK := Lib.hid hok
      have hn200 := hok.len.2
      obtain ⟨i0, hi0, hz0, hz1, hz2⟩ := info_parts infoInt
      obtain ⟨K, hK⟩ : ∃ K : Nat → Bool, K = fun i => upB rows i (t : Int) := ⟨_, rfl⟩
      have HK := Lib.hid (show cutK rows (t : Int) = keptN K rows.length by rw [hK]; rfl)
      have HKI := Lib.hid (fun i => show K i = upB rows i (t : Int) by rw [hK])
      have hinL := l6In_yes
      clear hE hok h1 hK
      go_enter Tryd.func34, Tryd.ntmps34
      go_wp2_with (first | (go_at_call 70; refine hd1.mono ?_; clear hd1; rintro e w1 ⟨rfl, hb1⟩; have H1 := Lib.hid (H0.out.step hb1); have hc1 := H1.out.c0; clear hb1 hc0) | (go_at_call 85; refine (l6In_yes _ _ _ _ (by omega) (by omega)).mono ?_; rintro e w2 ⟨rfl, hw2⟩; obtain rfl : w1 = w2 := by first | exact hw2 | exact hw2.symm))
      have hz9 : w.heap.size + 1 < w1.heap.size := H1.out.res.lt
      have HO := Lib.hid (World.ownsRow_made (e := 3) (size := 1) w1 #[] 0 (base := w.heap.size + 2) (by omega) (Nat.zero_le _) (by simp))
      have HB1 := Lib.hid ((Below.refl (w.heap.size + 2) w1).alloc (by omega) (.cells #[] 3))
      have HROWS := Lib.hid (fun W (hb : Below (w.heap.size + 2) w1 W) => HV.out W (H1.out.below.trans (hb.mono (by omega))))
      clear hc1 hinL
      go_loopw [6, 7] (fun ov iv wr => ∃ i : Nat, i ≤ rows.length ∧ iv = .int .i64 i ∧ wr.ownsRow (w.heap.size + 2) 3 1 ov (keptN K i).length (cellsI (keptN K i)) ∧ Below (w.heap.size + 2) w1 wr) (fun _ iv _ => rows.length - (intOf iv).toNat)
      case atStart => exact ⟨0, Nat.zero_le _, rfl, HO.out, HB1.out⟩
      case round =>
        obtain ⟨i, hi, rfl, hown, hB⟩ := hrel
        have HOWN := Lib.hid hown
        have HB := Lib.hid hB
        have hcl := keptN_le K i
        have hcell : wr.cell? ⟨w.heap.size, 0, none⟩ = some (.slice A rows.length C) := (hB.cell (p := ⟨w.heap.size, 0, none⟩) (by show w.heap.size < w.heap.size + 2; omega)).trans H1.out.c0
        have hbz := hB.size
        clear hown hB HO HB1
        by_cases hlt : i < rows.length
        · have hltz : (i : Int) < (rows.length : Int) := by omega
          have hcE := l1Le_any (.slice A rows.length C) rows (i : Int) i (t : Int) wr (HROWS.out wr HB.out) hlt rfl (HOK.out.asc i hlt).1 hn
          rw [← HKI.out i] at hcE
          cases hq : K i with
          | true =>
            rw [hq] at hcE
            have HS := Lib.hid (show keptN K (i + 1) = keptN K i ++ [(i : Int)] by rw [keptN_succ, if_pos hq])
            clear hq
            go_wp2_with (first | (go_at_call 86; refine hcE.mono ?_; clear hcE; rintro e w3 ⟨rfl, hb3⟩; have HB3 := Lib.hid (HB.out.trans (hb3.mono (by omega))); have HOW3 := Lib.hid (owns_below HOWN.out hb3); have hbz3 := HB3.out.size; clear hb3) | (at_builtin; refine wpList_append_own _ rfl _ _ 42 rfl (w.heap.size + 2) 3 i0 (.int .i64 0) 1 8 Tryd.underlying42 hi0 hz0 hz1 hz2 rfl (by decide) _ _ _ rfl (HOW3.out.alloc _) ⟨w3.heap.size, 0, none⟩ 1 1 [.int .i64 (i : Int)] rfl rfl (cell_one_new _ _ _) (by simp [Value.oneCell']) (by unfold maxLen; omega) (by omega) (by simp; omega) ?_; intro v' w4 hown' hgrow _))
            go_roundw
            case rel =>
              refine ⟨i + 1, by omega, by go_num, ?_, (HB3.out.alloc (by omega) _).grown hgrow (by rw [World.size_alloc]; omega) (fun b e => (HOW3.out.lt b e).1)⟩
              rw [HS.out, List.length_append, show cellsI (keptN K i ++ [(i : Int)]) = cellsI (keptN K i) ++ [.int .i64 (i : Int)] by simp]
              exact hown'
            case measure => simp [intOf]; omega
          | false =>
            rw [hq] at hcE
            have HS := Lib.hid (show keptN K (i + 1) = keptN K i by rw [keptN_succ, if_neg (by rw [hq]; simp)])
            clear hq
            go_wp2_with (go_at_call 86; refine hcE.mono ?_; clear hcE; rintro e w3 ⟨rfl, hb3⟩; have HB3 := Lib.hid (HB.out.trans (hb3.mono (by omega))); have HOW3 := Lib.hid (owns_below HOWN.out hb3); clear hb3)
            go_roundw
            case rel => exact ⟨i + 1, by omega, by go_num, by rw [HS.out]; exact HOW3.out, HB3.out⟩
            case measure => simp [intOf]; omega
        · obtain rfl : i = rows.length := by omega
          have hltz : ¬ ((rows.length : Int) < (rows.length : Int)) := by omega
          have hown : OwnI 3 wr u6 (keptN K rows.length) (w.heap.size + 2) wr.heap.size := OwnI.of_owns HOWN.out (fun y hy => by have := keptN_range y hy; exact wf_int (by omega) (by omega)) (fun b hb => (HOWN.out.lt b hb).2)
          have hwi := l2Within_any (.slice A rows.length C) u6 rows (keptN K rows.length) wr (HROWS.out wr HB.out) hown.at HOK.out (fun x hx => keptN_range x hx) (by omega)
          have BX : Hid (Boxed wr (w.heap.size + 1) 25 (.slice none 0 0)) := Lib.hid ((HB.out.block _ (by omega)).trans H1.out.res)
          clear hown
          go_wp2_with (go_at_call 87; refine hwi.mono ?_; clear hwi; rintro e w3 ⟨u, rfl, hu, hb3⟩; obtain ⟨a3, C3, rfl⟩ := hu.form; have HU := Lib.hid hu; have BX3 : Hid (Boxed w3 (w.heap.size + 1) 25 (.slice none 0 0)) := Lib.hid ((hb3.block _ BX.out.lt).trans BX.out); have HB3 := Lib.hid ((H1.out.below.trans (HB.out.mono (by omega))).trans (hb3.mono (by have := H1.out.below.size; omega))); have hres := BX3.out.cell; have hfr := BX3.out.frozen; clear hu hb3)
          have hc9 := World.cell?_setCell_same' w3 ⟨w.heap.size + 1, 0, none⟩ (.slice a3 (keptN K rows.length).length C3) (by rw [hres]; rfl)
          refine bodyPost_ret (v := .tuple #[.agg #[.slice a3 (keptN K rows.length).length C3], .bool true]) (by simp [results, Tryd.results34, go_sem, hc9]) rfl ?_
          refine ⟨_, by rw [HE.out], ?_, HB3.out.setCell (p := ⟨w.heap.size + 1, 0, none⟩) (by show w.heap.size ≤ w.heap.size + 1; omega) _⟩
          rw [HL.out.1, HK.out, size_setCell]
          exact ((HU.out.kept fun b hb _ => Below.heap_setCell _ _ _ b (show b ≠ w.heap.size + 1 by omega)).wider (by omega) (Nat.le_refl _)).congr fun q hq => by rw [HL.out.2 q (by rw [HK.out]; exact hq), HK.out]
    · have HE := Lib.hid (show cutOk rows top = false by unfold cutOk; rw [decide_eq_false hel, Bool.and_false])
      clear h1
      go_enter Tryd.func34, Tryd.ntmps34
      go_wp2_with (first | (go_at_call 70; refine hd1.mono ?_; clear hd1; rintro e w1 ⟨rfl, hb1⟩; have H1 := Lib.hid (H0.out.step hb1); have hc1 := H1.out.c0; have hres := H1.out.res.cell; have hfr := H1.out.res.frozen; clear hb1 hc0) | (go_at_call 85; refine (l6In_no _ _ _ _ (fun h => hel ⟨h.1, by omega⟩)).mono ?_; rintro e w2 ⟨rfl, hw2⟩; obtain rfl : w1 = w2 := by first | exact hw2 | exact hw2.symm))
      have hc9 := World.cell?_setCell_same' w1 ⟨w.heap.size + 1, 0, none⟩ (.slice none 0 0) (by rw [hres]; rfl)
      refine bodyPost_ret (v := .tuple #[.agg #[.slice none 0 0], .bool false]) (by simp [results, Tryd.results34, go_sem, hc9]) rfl ?_
      exact orderP_no (cutL_no HE.out) HE.out H1.out.below (by omega) _
end Go.Proofs.YtjfbjfclcpcaiaaDoor

/- The program's funTypeOf: two domains, and lists that are monotone functions between them. -/
namespace Go.Proofs.YtjfbjfclcpcaiaaDoor
open Go.RowKit Go.Deep Go.Shelf

/-- Two domains, and monotone functions between them. -/
noncomputable def ftB (rows rows' : Rows2) (fs : List (List Int)) : Bool := domB rows && domB rows' && fs.all fun f => monoI rows rows' f
theorem ftB_one (rows rows' : Rows2) (f : List Int) : ftB rows rows' [f] = monoB rows rows' f := by unfold ftB monoB; simp
theorem ftB_no {rows rows' : Rows2} {fs : List (List Int)} {i : Nat} (hi : i < fs.length) (h : monoI rows rows' fs[i] = false) : ftB rows rows' fs = false := by
  unfold ftB
  rw [Bool.and_eq_false_iff]
  right
  rw [List.all_eq_false]
  exact ⟨_, List.getElem_mem hi, by rw [h]; simp⟩
theorem ftB_yes {rows rows' : Rows2} {fs : List (List Int)} (h1 : domB rows = true) (h2 : domB rows' = true) (h : ∀ i (hi : i < fs.length), monoI rows rows' fs[i] = true) : ftB rows rows' fs = true := by
  unfold ftB
  rw [h1, h2, Bool.true_and, Bool.true_and, List.all_eq_true]
  intro x hx
  obtain ⟨i, hi, rfl⟩ := List.getElem_of_mem hx
  exact h i hi

/-- What funTypeOf answers. -/
def FtP (t : Bool) (rows rows' : Rows2) (w : World) (e : Ending) (w' : World) : Prop :=
  (∃ q q' : Option Addr, e = .returned (.tuple #[.agg #[.pointer q, .pointer q'], .bool t]) ∧
    (t = true → ∃ p p' : Nat, q = some ⟨p, 0, none⟩ ∧ q' = some ⟨p', 0, none⟩ ∧ w.heap.size ≤ p ∧ w.heap.size ≤ p' ∧ GridAt w' p (gridF rows) ∧ GridAt w' p' (gridF rows'))) ∧ Below w.heap.size w w'
theorem FtP.no {t : Bool} {rows rows' : Rows2} {w w' : World} (ht : t = false) (hb : Below w.heap.size w w') : FtP t rows rows' w (.returned (.tuple #[.agg #[.pointer none, .pointer none], .bool false])) w' :=
  ⟨⟨none, none, by rw [ht], fun h => (by rw [ht] at h; cases h)⟩, hb⟩

/-- The variable of the result, as it begins. -/
def Zero2 (r : Nat) (W : World) : Prop := W.heap[r]? = some (.cells #[.pointer none, .pointer none] 106 (0, 0))
theorem Zero2.lt {r : Nat} {W : World} (h : Zero2 r W) : r < W.heap.size := by
  obtain ⟨hlt, _⟩ := Array.getElem?_eq_some_iff.1 h
  exact hlt
theorem Zero2.below {r : Nat} {W W' : World} (h : Zero2 r W) (hb : Below W.heap.size W W') : Zero2 r W' := by
  unfold Zero2
  rw [hb.block r h.lt]
  exact h
theorem Zero2.cells {r : Nat} {W : World} (h : Zero2 r W) : W.cell? ⟨r, 0, none⟩ = some (.pointer none) ∧ W.cell? ⟨r, 1, none⟩ = some (.pointer none) ∧ ∀ o, W.frozen? ⟨r, o, none⟩ = false :=
  ⟨by rw [cell_of_row W r _ _ _ _ h]; rfl, by rw [cell_of_row W r _ _ _ _ h]; rfl, fun o => frozen_of_row W r o _ _ h⟩

/-- While funTypeOf runs. -/
structure Ft (w : World) (v v' vl : Value) (rows rows' fs : Rows2) (W : World) : Prop where
  two : Two w v v' rows rows' W
  zero : Zero2 (w.heap.size + 2) W
  lists : RowsAt W vl fs
  tab : Tab W
theorem Ft.step {w : World} {v v' vl : Value} {rows rows' fs : Rows2} {W W' : World} (h : Ft w v v' vl rows rows' fs W) (hb : Below W.heap.size W W') : Ft w v v' vl rows rows' fs W' :=
  ⟨h.two.step hb, h.zero.below hb, h.lists.below hb, h.tab.below hb⟩
theorem Ft.start (w : World) {v v' vl : Value} {rows rows' fs : Rows2} (hv : RowsAt w v rows) (hv' : RowsAt w v' rows') (hl : RowsAt w vl fs) (hT : Tab w) :
    Ft w v v' vl rows rows' fs (((w.alloc (.cells #[v] 25)).alloc (.cells #[v'] 25)).alloc (.cells #[.pointer none, .pointer none] 106)) := by
  have h2 := Two.start w 25 25 hv hv'
  have s2 : ((w.alloc (.cells #[v] 25)).alloc (.cells #[v'] 25)).heap.size = w.heap.size + 2 := by rw [World.size_alloc, World.size_alloc]
  have b3 := (Below.refl ((w.alloc (.cells #[v] 25)).alloc (.cells #[v'] 25)).heap.size ((w.alloc (.cells #[v] 25)).alloc (.cells #[v'] 25))).alloc (Nat.le_refl _) (.cells #[.pointer none, .pointer none] 106)
  refine ⟨h2.step b3, ?_, (hl.below h2.below).below b3, (hT.below h2.below).below b3⟩
  have h := heap_alloc_new ((w.alloc (.cells #[v] 25)).alloc (.cells #[v'] 25)) (.cells #[.pointer none, .pointer none] 106)
  rw [s2] at h
  exact h

set_option maxRecDepth 100000 in
set_option maxHeartbeats 4000000 in
theorem funTypeOf_any (v v' vl : Value) (rows rows' fs : Rows2) (w : World) (hv : RowsAt w v rows) (hv' : RowsAt w v' rows') (hl : RowsAt w vl fs) (hT : Tab w) (hn : bulk rows ≤ 1048576) (hn' : bulk rows' ≤ 1048576) :
    Calls Tryd.prog 90 #[.agg #[v], .agg #[v'], vl] w (FtP (ftB rows rows' fs) rows rows' w) := by
  have hF := Ft.start w hv hv' hl hT
  obtain ⟨A, C, rfl, _⟩ := hv
  obtain ⟨A', C', rfl, _⟩ := hv'
  obtain ⟨Al, Cl, rfl, hCl, hml, _⟩ := hl
  unfold maxLen at hml
  have H0 := Lib.hid hF
  have hc0 := hF.two.c0
  clear hF hT
  cases h1 : domB rows with
  | false =>
    have hd := domainOf_no _ rows _ H0.out.two.r0 H0.out.tab hn h1
    have HE := Lib.hid (show ftB rows rows' fs = false by unfold ftB; rw [h1]; rfl)
    go_enter Tryd.func90, Tryd.ntmps90
    cases h2 : domB rows' with
    | false =>
      go_wp2_with (first | (go_at_call 68; refine hd.mono ?_; clear hd; rintro e w1 ⟨rfl, hb1⟩; have H1 := Lib.hid (H0.out.step hb1); have hc1 := H1.out.two.c1; have hd2 := domainOf_no _ rows' _ H1.out.two.r1 H1.out.tab hn' h2; clear hb1) | (go_at_call 68; refine hd2.mono ?_; clear hd2; rintro e w2 ⟨rfl, hb2⟩; have H2 := Lib.hid (H1.out.step hb2); obtain ⟨z0, z1, z2⟩ := H2.out.zero.cells; clear hb2))
      refine bodyPost_ret (v := .tuple #[.agg #[.pointer none, .pointer none], .bool false]) (by simp [results, Tryd.results90, go_sem, z0, z1]) rfl ?_
      exact FtP.no HE.out (H2.out.two.below.setCell (by show w.heap.size ≤ w.heap.size + 2; omega) _ |>.setCell (by show w.heap.size ≤ w.heap.size + 2; omega) _)
    | true =>
      go_wp2_with (first | (go_at_call 68; refine hd.mono ?_; clear hd; rintro e w1 ⟨rfl, hb1⟩; have H1 := Lib.hid (H0.out.step hb1); have hc1 := H1.out.two.c1; have hd2 := domainOf_yes _ rows' _ H1.out.two.r1 H1.out.tab hn' h2; clear hb1) | (go_at_call 68; refine hd2.mono ?_; clear hd2; rintro e w2 ⟨⟨p, rfl, _⟩, hb2⟩; have H2 := Lib.hid (H1.out.step hb2); obtain ⟨z0, z1, z2⟩ := H2.out.zero.cells; clear hb2))
      refine bodyPost_ret (v := .tuple #[.agg #[.pointer none, .pointer none], .bool false]) (by simp [results, Tryd.results90, go_sem, z0, z1]) rfl ?_
      exact FtP.no HE.out (H2.out.two.below.setCell (by show w.heap.size ≤ w.heap.size + 2; omega) _ |>.setCell (by show w.heap.size ≤ w.heap.size + 2; omega) _)
  | true =>
    have hd := domainOf_yes _ rows _ H0.out.two.r0 H0.out.tab hn h1
    cases h2 : domB rows' with
    | false =>
      have HE := Lib.hid (show ftB rows rows' fs = false by unfold ftB; rw [h1, h2]; rfl)
      go_enter Tryd.func90, Tryd.ntmps90
      go_wp2_with (first | (go_at_call 68; refine hd.mono ?_; clear hd; rintro e w1 ⟨⟨p, rfl, _⟩, hb1⟩; have H1 := Lib.hid (H0.out.step hb1); have hc1 := H1.out.two.c1; have hd2 := domainOf_no _ rows' _ H1.out.two.r1 H1.out.tab hn' h2; clear hb1) | (go_at_call 68; refine hd2.mono ?_; clear hd2; rintro e w2 ⟨rfl, hb2⟩; have H2 := Lib.hid (H1.out.step hb2); obtain ⟨z0, z1, z2⟩ := H2.out.zero.cells; clear hb2))
      refine bodyPost_ret (v := .tuple #[.agg #[.pointer none, .pointer none], .bool false]) (by simp [results, Tryd.results90, go_sem, z0, z1]) rfl ?_
      exact FtP.no HE.out (H2.out.two.below.setCell (by show w.heap.size ≤ w.heap.size + 2; omega) _ |>.setCell (by show w.heap.size ≤ w.heap.size + 2; omega) _)
    | true =>
      have hok := ok_of_valid (show validB rows = true by unfold domB at h1; rw [Bool.and_eq_true] at h1; exact h1.1)
      have hok' := ok_of_valid (show validB rows' = true by unfold domB at h2; rw [Bool.and_eq_true] at h2; exact h2.1)
      have HMONO := Lib.hid (fun p p' vf f W hg hg' hf => isMonotone_any p p' rows.length rows'.length (gridF rows) (gridF rows') vf f W hg hg' hok.gridN hok'.gridN hf (monoI rows rows' f) (mono_grid hok hok' f))
      have HY := Lib.hid (fun h => ftB_yes (fs := fs) h1 h2 h)
      have hsz : (((w.alloc (.cells #[.slice A rows.length C] 25)).alloc (.cells #[.slice A' rows'.length C'] 25)).alloc (.cells #[.pointer none, .pointer none] 106)).heap.size = w.heap.size + 3 := by rw [World.size_alloc, World.size_alloc, World.size_alloc]
      have HSZ := Lib.hid hsz
      clear hok hok' hsz
      go_enter Tryd.func90, Tryd.ntmps90
      go_wp2_with (first | (go_at_call 68; refine hd.mono ?_; clear hd; rintro e w1 ⟨⟨p, rfl, hp, hg⟩, hb1⟩; have H1 := Lib.hid (H0.out.step hb1); have hc1 := H1.out.two.c1; have hd2 := domainOf_yes _ rows' _ H1.out.two.r1 H1.out.tab hn' h2; have HP := Lib.hid (show w.heap.size + 3 ≤ p by rw [← HSZ.out]; exact hp); have HP1 := Lib.hid (Nat.le_trans (Nat.le_of_eq HSZ.out.symm) hb1.size); have HG := Lib.hid hg; clear hb1 hp hg) | (go_at_call 68; refine hd2.mono ?_; clear hd2; rintro e w2 ⟨⟨p', rfl, hp', hg'⟩, hb2⟩; have H2 := Lib.hid (H1.out.step hb2); have HP' := Lib.hid (Nat.le_trans HP1.out hp'); have HG2 := Lib.hid (HG.out.below hb2 HG.out.lt); have HG' := Lib.hid hg'; clear hb2 hp' hg'))
      go_loopw [13, 33] (fun _ kv wr => ∃ k : Nat, k ≤ fs.length ∧ kv = .int .i64 k ∧ (∀ i (hi : i < fs.length), i < k → monoI rows rows' fs[i] = true) ∧ GridAt wr p (gridF rows) ∧ GridAt wr p' (gridF rows') ∧ Ft w (.slice A rows.length C) (.slice A' rows'.length C') (.slice Al fs.length Cl) rows rows' fs wr) (fun _ kv _ => fs.length - (intOf kv).toNat)
      case atStart => exact ⟨0, Nat.zero_le _, rfl, fun _ _ h => absurd h (Nat.not_lt_zero _), HG2.out, HG'.out, H2.out⟩
      case round =>
        obtain ⟨k, hk, rfl, hall, hg, hg', hh⟩ := hrel
        have HA := Lib.hid hall
        have HGk := Lib.hid hg
        have HGk' := Lib.hid hg'
        have HK := Lib.hid hh
        clear hall hg hg'
        by_cases hlt : k < fs.length
        · obtain ⟨_, _, e0, _, _, hx⟩ := hh.lists
          cases e0
          obtain ⟨b0, o0, u, rfl, hcu, hu⟩ := hx k hlt
          clear hh hx
          have hcall := HMONO.out p p' u fs[k] wr HGk.out HGk'.out hu
          obtain ⟨Au, Cu, rfl, _⟩ := hu
          cases hm : monoI rows rows' fs[k] with
          | true =>
            rw [hm] at hcall
            have HM := Lib.hid hm
            clear hm
            go_wp2_with (go_at_call 103; refine hcall.mono ?_; clear hcall; rintro e w3 ⟨rfl, hb3⟩; have H3 := Lib.hid (HK.out.step hb3); have HG3 := Lib.hid (HGk.out.below hb3 HGk.out.lt); have HG3' := Lib.hid (HGk'.out.below hb3 HGk'.out.lt); clear hb3)
            go_roundw
            case rel =>
              refine ⟨k + 1, by omega, by go_num, fun i hi hlt' => ?_, HG3.out, HG3'.out, H3.out⟩
              by_cases e : i = k
              · subst e; exact HM.out
              · exact HA.out i hi (by omega)
            case measure => simp [intOf]; omega
          | false =>
            rw [hm] at hcall
            have HE := Lib.hid (ftB_no hlt hm)
            clear hm
            go_wp2_with (go_at_call 103; refine hcall.mono ?_; clear hcall; rintro e w3 ⟨rfl, hb3⟩; have H3 := Lib.hid (HK.out.step hb3); obtain ⟨z0, z1, z2⟩ := H3.out.zero.cells; clear hb3)
            refine bodyPost_ret (v := .tuple #[.agg #[.pointer none, .pointer none], .bool false]) (by simp [results, Tryd.results90, go_sem, z0, z1]) rfl ?_
            exact FtP.no HE.out (H3.out.two.below.setCell (by show w.heap.size ≤ w.heap.size + 2; omega) _ |>.setCell (by show w.heap.size ≤ w.heap.size + 2; omega) _)
        · obtain rfl : k = fs.length := by omega
          have HE := Lib.hid (HY.out fun i hi => HA.out i hi hi)
          obtain ⟨z0, z1, z2⟩ := HK.out.zero.cells
          clear hh
          go_wp2
          refine bodyPost_ret (v := .tuple #[.agg #[.pointer (some ⟨p, 0, none⟩), .pointer (some ⟨p', 0, none⟩)], .bool true]) (by simp [results, Tryd.results90, go_sem, z0, z1]) rfl ?_
          refine ⟨⟨_, _, by rw [HE.out], fun _ => ⟨p, p', rfl, rfl, by have := HP.out; omega, by have := HP'.out; omega, ?_, ?_⟩⟩, (HK.out.two.below.setCell (by show w.heap.size ≤ w.heap.size + 2; omega) _ |>.setCell (by show w.heap.size ≤ w.heap.size + 2; omega) _)⟩
          · exact (HGk.out.setOther (by have := HP.out; show p ≠ w.heap.size + 2; omega) _).setOther (by have := HP.out; show p ≠ w.heap.size + 2; omega) _
          · exact (HGk'.out.setOther (by have := HP'.out; show p' ≠ w.heap.size + 2; omega) _).setOther (by have := HP'.out; show p' ≠ w.heap.size + 2; omega) _
end Go.Proofs.YtjfbjfclcpcaiaaDoor

/- The program's FunMonotone. -/
namespace Go.Proofs.YtjfbjfclcpcaiaaDoor
open Go.RowKit Go.Deep Go.Shelf

theorem rows_one {w : World} {vf : Value} {f : List Int} (hf : IntsAt w vf f) : RowsAt (w.alloc (.cells #[vf] 42)) (.slice (some ⟨w.heap.size, 0, none⟩) 1 1) [f] := by
  refine ⟨some ⟨w.heap.size, 0, none⟩, 1, rfl, Nat.le_refl _, by unfold maxLen; omega, fun i hi => ?_⟩
  obtain rfl : i = 0 := by simpa using hi
  exact ⟨w.heap.size, 0, vf, rfl, (World.rowIs_alloc w #[vf] 42 (fun _ => vf) (fun i hi => by simp at hi; subst hi; rfl)).cell (i := 0) (by simp), hf.below ((Below.refl _ w).alloc (Nat.le_refl _) _)⟩
theorem rows_two {w : World} {vf vg : Value} {f g : List Int} (hf : IntsAt w vf f) (hg : IntsAt w vg g) : RowsAt (w.alloc (.cells #[vf, vg] 42)) (.slice (some ⟨w.heap.size, 0, none⟩) 2 2) [f, g] := by
  have hr := World.rowIs_alloc w #[vf, vg] 42 (fun i => if i = 0 then vf else vg) (fun i hi => by
    have hi' : i < 2 := by simpa using hi
    obtain rfl | rfl : i = 0 ∨ i = 1 := by omega
    · rfl
    · rfl)
  refine ⟨some ⟨w.heap.size, 0, none⟩, 2, rfl, Nat.le_refl _, by unfold maxLen; omega, fun i hi => ?_⟩
  have hi' : i < 2 := by simpa using hi
  have hc := hr.cell (i := i) (by simpa using hi')
  obtain rfl | rfl : i = 0 ∨ i = 1 := by omega
  · exact ⟨w.heap.size, 0, vf, rfl, by simp, hf.below ((Below.refl _ w).alloc (Nat.le_refl _) _)⟩
  · exact ⟨w.heap.size, 0, vg, rfl, by simp, hg.below ((Below.refl _ w).alloc (Nat.le_refl _) _)⟩

set_option maxRecDepth 100000 in
set_option maxHeartbeats 4000000 in
theorem implMono_any (v v' vf : Value) (rows rows' : Rows2) (f : List Int) (w : World) (hv : RowsAt w v rows) (hv' : RowsAt w v' rows') (hf : IntsAt w vf f) (hT : Tab w) (hn : bulk rows ≤ 1048576) (hn' : bulk rows' ≤ 1048576) :
    Calls Tryd.prog 37 #[.agg #[v], .agg #[v'], vf] w (SaysN (monoB rows rows' f) w) := by
  have h0 := TwoF.start w 25 25 hv hv' hf
  have hl := rows_one h0.2
  have b1 := (Below.refl ((w.alloc (.cells #[v] 25)).alloc (.cells #[v'] 25)).heap.size ((w.alloc (.cells #[v] 25)).alloc (.cells #[v'] 25))).alloc (Nat.le_refl _) (.cells #[vf] 42)
  have h1 := h0.step b1
  have hT1 := (hT.below h0.1.below).below b1
  have hcall := funTypeOf_any v v' _ rows rows' [f] _ h1.1.r0 h1.1.r1 hl hT1 hn hn'
  have hs : ((w.alloc (.cells #[v] 25)).alloc (.cells #[v'] 25)).heap.size = w.heap.size + 2 := by rw [World.size_alloc, World.size_alloc]
  rw [ftB_one, hs] at hcall
  generalize monoB rows rows' f = t at hcall ⊢
  have hB := h1.1.below
  have hc0 := h0.1.c0
  have hc1 := h0.1.c1
  obtain ⟨A, C, rfl, _⟩ := hv
  obtain ⟨A', C', rfl, _⟩ := hv'
  obtain ⟨Af, Cf, rfl, _⟩ := hf
  have HB := Lib.hid hB
  clear h0 hl b1 h1 hT1 hs hB hT
  go_enter Tryd.func37, Tryd.ntmps37
  go_wp2_with (go_at_call 90; refine hcall.mono ?_; clear hcall; rintro e w1 ⟨⟨q, q', rfl, _⟩, hb1⟩; have H1 := Lib.hid (HB.out.trans (hb1.mono HB.out.size)); clear hb1)
  go_ret
  exact ⟨rfl, H1.out.alloc H1.out.size _⟩
end Go.Proofs.YtjfbjfclcpcaiaaDoor

/- The program's FunStrict. -/
namespace Go.Proofs.YtjfbjfclcpcaiaaDoor
open Go.RowKit Go.Deep Go.Shelf

/-- What funTypeOf answers where both are domains and the lists monotone functions. -/
def FtYes (rows rows' : Rows2) (w : World) (e : Ending) (w' : World) : Prop :=
  (∃ p p' : Nat, e = .returned (.tuple #[.agg #[.pointer (some ⟨p, 0, none⟩), .pointer (some ⟨p', 0, none⟩)], .bool true]) ∧ w.heap.size ≤ p ∧ w.heap.size ≤ p' ∧ GridAt w' p (gridF rows) ∧ GridAt w' p' (gridF rows')) ∧ Below w.heap.size w w'
theorem FtP.yes {rows rows' : Rows2} {w w' : World} {e : Ending} (h : FtP true rows rows' w e w') : FtYes rows rows' w e w' := by
  obtain ⟨⟨q, q', he, h⟩, hb⟩ := h
  obtain ⟨p, p', rfl, rfl, h1, h2, h3, h4⟩ := h rfl
  exact ⟨⟨p, p', he, h1, h2, h3, h4⟩, hb⟩
theorem monoB_ok {rows rows' : Rows2} {f : List Int} (h : monoB rows rows' f = true) : Ok rows ∧ Ok rows' ∧ Mono rows rows' f := by
  obtain ⟨h1, h2, h3⟩ := monoB_parts h
  unfold domB at h1 h2
  rw [Bool.and_eq_true] at h1 h2
  exact ⟨ok_of_valid h1.1, ok_of_valid h2.1, h3⟩
theorem leastG {rows : Rows2} (h : Ok rows) (b : Nat) (w : World) (hg : GridAt w b (gridF rows)) (hT : Tab w) :
    Calls Tryd.prog 78 #[.pointer (some ⟨b, 0, none⟩)] w (SaysI (leastI rows) w) := by
  rw [least_eq h]
  exact least_any b rows.length (gridF rows) w hg hT h.gridN

set_option maxRecDepth 100000 in
set_option maxHeartbeats 8000000 in
theorem implStrict_any (v v' vf : Value) (rows rows' : Rows2) (f : List Int) (w : World) (hv : RowsAt w v rows) (hv' : RowsAt w v' rows') (hf : IntsAt w vf f) (hT : Tab w) (hn : bulk rows ≤ 1048576) (hn' : bulk rows' ≤ 1048576) :
    Calls Tryd.prog 49 #[.agg #[v], .agg #[v'], vf] w (SaysN (strictB rows rows' f) w) := by
  have h0 := TwoF.start w 25 25 hv hv' hf
  have hl := rows_one h0.2
  have b1 := (Below.refl ((w.alloc (.cells #[v] 25)).alloc (.cells #[v'] 25)).heap.size ((w.alloc (.cells #[v] 25)).alloc (.cells #[v'] 25))).alloc (Nat.le_refl _) (.cells #[vf] 42)
  have h1 := h0.step b1
  have hT1 := (hT.below h0.1.below).below b1
  have hcall := funTypeOf_any v v' _ rows rows' [f] _ h1.1.r0 h1.1.r1 hl hT1 hn hn'
  have hs : ((w.alloc (.cells #[v] 25)).alloc (.cells #[v'] 25)).heap.size = w.heap.size + 2 := by rw [World.size_alloc, World.size_alloc]
  rw [ftB_one, hs] at hcall
  have hc0 := h0.1.c0
  have hc1 := h0.1.c1
  obtain ⟨A, C, rfl, _⟩ := hv
  obtain ⟨A', C', rfl, _⟩ := hv'
  obtain ⟨Af, Cf, rfl, _⟩ := hf
  have H1 := Lib.hid h1
  have T1 := Lib.hid hT1
  clear h0 hl b1 h1 hT1 hs hT
  cases hm : monoB rows rows' f with
  | false =>
    rw [hm] at hcall
    have HE := Lib.hid (show strictB rows rows' f = false by unfold strictB; rw [hm]; rfl)
    clear hm
    go_enter Tryd.func49, Tryd.ntmps49
    go_wp2_with (go_at_call 90; refine hcall.mono ?_; clear hcall; rintro e w1 ⟨⟨q, q', rfl, _⟩, hb1⟩; have H2 := Lib.hid ((H1.out.step hb1).step ((Below.refl _ w1).alloc (Nat.le_refl _) (.cells #[.pointer q, .pointer q'] 106))); clear hb1)
    refine wp_region_quiet_below (by kernel_rfl) (by kernel_rfl) ?_
    repeat (go_big_quiet_step (fail))
    refine wpQuiet_nil ?_
    intro _ hw'
    obtain ⟨⟨dq, osq⟩, hw''⟩ := hw'
    subst hw''
    go_wp2
    go_ret
    exact ⟨by rw [HE.out]; rfl, (H2.out.step (below_regrown _ dq osq)).1.below⟩
  | true =>
    rw [hm] at hcall
    obtain ⟨hok, hok', hmo⟩ := monoB_ok hm
    obtain ⟨hd, hd', _⟩ := monoB_parts hm
    obtain ⟨m, hml, hme⟩ := dom_least hd
    obtain ⟨m', _, hme'⟩ := dom_least hd'
    have hlf : m < f.length := by rw [hmo.1]; exact hml
    have hlf2 : (m : Int) < (f.length : Int) := by omega
    have hE : strictB rows rows' f = decide (f[m] = (m' : Int)) := by
      unfold strictB
      rw [hm, hme, hme', Int.toNat_natCast, getD_lt 0 hlf, Bool.true_and]
    have HL := Lib.hid (fun b W hg hT => leastG hok b W hg hT)
    have HL' := Lib.hid (fun b W hg hT => leastG hok' b W hg hT)
    simp only [hme] at HL
    simp only [hme'] at HL'
    clear hm hme hme' hd hd' hmo hok hok'
    have hcall2 := hcall.mono (fun e w' h => h.yes)
    clear hcall
    go_enter Tryd.func49, Tryd.ntmps49
    go_wp2_with (go_at_call 90; refine hcall2.mono ?_; clear hcall2; rintro e w1 ⟨⟨p, p', rfl, _, _, hg, hg'⟩, hb1⟩; have H2 := Lib.hid ((H1.out.step hb1).step ((Below.refl _ w1).alloc (Nat.le_refl _) (.cells #[.pointer (some ⟨p, 0, none⟩), .pointer (some ⟨p', 0, none⟩)] 106))); have T2 := Lib.hid ((T1.out.below hb1).below ((Below.refl _ w1).alloc (Nat.le_refl _) (.cells #[.pointer (some ⟨p, 0, none⟩), .pointer (some ⟨p', 0, none⟩)] 106))); have G2 := Lib.hid (hg.below ((Below.refl _ w1).alloc (Nat.le_refl _) (.cells #[.pointer (some ⟨p, 0, none⟩), .pointer (some ⟨p', 0, none⟩)] 106)) hg.lt); have G2' := Lib.hid (hg'.below ((Below.refl _ w1).alloc (Nat.le_refl _) (.cells #[.pointer (some ⟨p, 0, none⟩), .pointer (some ⟨p', 0, none⟩)] 106)) hg'.lt); clear hb1 hg hg')
    have hq0 : (w1.alloc (.cells #[.pointer (some ⟨p, 0, none⟩), .pointer (some ⟨p', 0, none⟩)] 106)).cell? ⟨w1.heap.size, 0, none⟩ = some (.pointer (some ⟨p, 0, none⟩)) := by
      rw [cell_of_row _ w1.heap.size 0 _ _ _ (heap_alloc_new _ _)]; rfl
    have hq1 : (w1.alloc (.cells #[.pointer (some ⟨p, 0, none⟩), .pointer (some ⟨p', 0, none⟩)] 106)).cell? ⟨w1.heap.size, 1, none⟩ = some (.pointer (some ⟨p', 0, none⟩)) := by
      rw [cell_of_row _ w1.heap.size 1 _ _ _ (heap_alloc_new _ _)]; rfl
    obtain ⟨W2, hW2⟩ : ∃ W2 : World, W2 = w1.alloc (.cells #[.pointer (some ⟨p, 0, none⟩), .pointer (some ⟨p', 0, none⟩)] 106) := ⟨_, rfl⟩
    rw [← hW2] at H2 T2 G2 G2' hq0 hq1 ⊢
    clear hW2 hc0 hc1
    have hc0 := fun d os => cell_regrown hq0 d os
    have hc1 := fun d os => cell_regrown hq1 d os
    obtain ⟨bf, o_f, rfl, hcf⟩ := H2.out.2.get hlf
    have hqf := fun d os => cell_regrown hcf d os
    have hcL := fun d os => Calls.regrown_of (d := d) (os := os) (HL.out p _ (G2.out.below (below_regrown W2 d os) G2.out.lt) (T2.out.below (below_regrown W2 d os)))
    have hcL' := fun d os => Calls.regrown_of (d := d) (os := os) (HL'.out p' _ (G2'.out.below (below_regrown W2 d os) G2'.out.lt) (T2.out.below (below_regrown W2 d os)))
    clear hq0 hq1 hcf
    by_cases he : f[m] = (m' : Int)
    · have hb : (f[m] == (m' : Int)) = true := by rw [beq_iff_eq]; exact he
      rw [decide_eq_true he] at hE
      have HE := Lib.hid hE
      clear hE he
      refine wp_region_quiet_below (by kernel_rfl) (by kernel_rfl) ?_
      repeat (go_big_quiet_step (first | (go_at_call_of 78 (Value.pointer (some ⟨p, 0, none⟩)); exact hcL _ _) | (go_at_call_of 78 (Value.pointer (some ⟨p', 0, none⟩)); exact hcL' _ _)))
      refine wpQuiet_nil ?_
      intro _ hw'
      obtain ⟨⟨dq, osq⟩, hw''⟩ := hw'
      subst hw''
      clear hcL hcL' hc0 hc1 hqf
      go_wp2
      go_ret
      exact ⟨by rw [HE.out]; simp_all, (H2.out.step (below_regrown W2 dq osq)).1.below⟩
    · have hb : (f[m] == (m' : Int)) = false := by rw [beq_eq_false_iff_ne]; exact he
      rw [decide_eq_false he] at hE
      have HE := Lib.hid hE
      clear hE he
      refine wp_region_quiet_below (by kernel_rfl) (by kernel_rfl) ?_
      repeat (go_big_quiet_step (first | (go_at_call_of 78 (Value.pointer (some ⟨p, 0, none⟩)); exact hcL _ _) | (go_at_call_of 78 (Value.pointer (some ⟨p', 0, none⟩)); exact hcL' _ _)))
      refine wpQuiet_nil ?_
      intro _ hw'
      obtain ⟨⟨dq, osq⟩, hw''⟩ := hw'
      subst hw''
      clear hcL hcL' hc0 hc1 hqf
      go_wp2
      go_ret
      exact ⟨by rw [HE.out]; simp_all, (H2.out.step (below_regrown W2 dq osq)).1.below⟩
end Go.Proofs.YtjfbjfclcpcaiaaDoor

/- The program's FunBelow. -/
namespace Go.Proofs.YtjfbjfclcpcaiaaDoor
open Go.RowKit Go.Deep Go.Shelf

theorem ftB_two (rows rows' : Rows2) (f g : List Int) : ftB rows rows' [f, g] = (monoB rows rows' f && monoB rows rows' g) := by
  unfold ftB monoB
  cases domB rows <;> cases domB rows' <;> simp

theorem two_new (W : World) (a b : Value) (t : TypeId) : (W.alloc (.cells #[a, b] t)).cell? ⟨W.heap.size, 0, none⟩ = some a ∧ (W.alloc (.cells #[a, b] t)).cell? ⟨W.heap.size, 1, none⟩ = some b :=
  ⟨by rw [cell_of_row _ W.heap.size 0 _ _ _ (heap_alloc_new _ _)]; rfl, by rw [cell_of_row _ W.heap.size 1 _ _ _ (heap_alloc_new _ _)]; rfl⟩

/-- While funDomain.below runs: its variable, the lists, the grid. -/
structure FB (w : World) (L p : Nat) (u v : Value) (g' : Nat → Nat) (f g : List Int) (W : World) : Prop where
  c0 : W.cell? ⟨w.heap.size, 0, none⟩ = some (.slice (some ⟨L, 0, none⟩) 2 2)
  c1 : W.cell? ⟨w.heap.size, 1, none⟩ = some (.iface 69 (.pointer (some ⟨p, 0, none⟩)))
  l0 : W.cell? ⟨L, 0, none⟩ = some u
  l1 : W.cell? ⟨L, 1, none⟩ = some v
  f : IntsAt W u f
  g : IntsAt W v g
  grid : GridAt W p g'
  below : Below w.heap.size w W
theorem FB.step {w : World} {L p : Nat} {u v : Value} {g' : Nat → Nat} {f g : List Int} {W W' : World} (h : FB w L p u v g' f g W) (hb : Below W.heap.size W W') : FB w L p u v g' f g W' :=
  ⟨by rw [hb.cell (p := ⟨w.heap.size, 0, none⟩) (cell_lt h.c0)]; exact h.c0, by rw [hb.cell (p := ⟨w.heap.size, 1, none⟩) (cell_lt h.c1)]; exact h.c1,
    by rw [hb.cell (p := ⟨L, 0, none⟩) (cell_lt h.l0)]; exact h.l0, by rw [hb.cell (p := ⟨L, 1, none⟩) (cell_lt h.l1)]; exact h.l1, h.f.below hb, h.g.below hb, h.grid.below hb h.grid.lt, h.below.trans (hb.mono h.below.size)⟩

set_option maxRecDepth 100000 in
set_option maxHeartbeats 8000000 in
theorem funDomBelow_any (L p : Nat) (u v : Value) (rows' : Rows2) (f g : List Int) (w : World) (hok : Ok rows') (h0 : w.cell? ⟨L, 0, none⟩ = some u) (h1 : w.cell? ⟨L, 1, none⟩ = some v) (hf : IntsAt w u f) (hg : IntsAt w v g)
    (hG : GridAt w p (gridF rows')) (hlen : f.length = g.length) (hrf : ∀ i (hi : i < f.length), 0 ≤ f[i] ∧ f[i] < rows'.length) (hrg : ∀ i (hi : i < g.length), 0 ≤ g[i] ∧ g[i] < rows'.length) :
    Calls Tryd.prog 92 #[.agg #[.slice (some ⟨L, 0, none⟩) 2 2, .iface 69 (.pointer (some ⟨p, 0, none⟩))], .int .i64 0, .int .i64 1] w (SaysN (underI rows' f g) w) := by
  have b1 := (Below.refl w.heap.size w).alloc (Nat.le_refl _) (.cells #[.slice (some ⟨L, 0, none⟩) 2 2, .iface 69 (.pointer (some ⟨p, 0, none⟩))] 110)
  have hB : FB w L p u v (gridF rows') f g (w.alloc (.cells #[.slice (some ⟨L, 0, none⟩) 2 2, .iface 69 (.pointer (some ⟨p, 0, none⟩))] 110)) :=
    ⟨by rw [cell_of_row _ w.heap.size 0 _ _ _ (heap_alloc_new _ _)]; rfl, by rw [cell_of_row _ w.heap.size 1 _ _ _ (heap_alloc_new _ _)]; rfl, by rw [b1.cell (p := ⟨L, 0, none⟩) (cell_lt h0)]; exact h0, by rw [b1.cell (p := ⟨L, 1, none⟩) (cell_lt h1)]; exact h1, hf.below b1, hg.below b1, hG.below b1 hG.lt, b1⟩
  have hmB := run_below
  have hle := hok.len.2
  have hbit : ∀ a b, a < rows'.length → (gridF rows' a).testBit b = upB rows' a b := fun a b ha => upB_grid hok ha
  obtain ⟨Af, Cf, rfl, hCf, hmf, _⟩ := hf
  obtain ⟨Ag, Cg, rfl, hCg, hmg, _⟩ := hg
  unfold maxLen at hmf hmg
  have HB := Lib.hid hB
  have HRF := Lib.hid hrf
  have HRG := Lib.hid hrg
  have HL := Lib.hid hlen
  have HBIT := Lib.hid hbit
  have hc0 := hB.c0
  have hl0 := hB.l0
  clear b1 hB hG h0 h1 hrf hrg hlen hok hbit
  go_enter Tryd.func92, Tryd.ntmps92
  go_wp2
  go_loopw [7, 8, 15] (fun _ _ kv wr => ∃ k : Nat, k ≤ f.length ∧ kv = .int .i64 k ∧ (∀ q, q < k → upB rows' (f.getD q 0).toNat (g.getD q 0) = true) ∧ FB w L p (.slice Af f.length Cf) (.slice Ag g.length Cg) (gridF rows') f g wr) (fun _ _ kv _ => f.length - (intOf kv).toNat)
  case atStart => exact ⟨0, Nat.zero_le _, rfl, fun _ h => absurd h (Nat.not_lt_zero _), HB.out⟩
  case round =>
    obtain ⟨k, hk, rfl, hp, hh⟩ := hrel
    have HP := Lib.hid hp
    have HK := Lib.hid hh
    clear hp hh hc0 hl0
    by_cases hlt : k < f.length
    · have hltg : k < g.length := by have := HL.out; omega
      obtain ⟨bf, o_f, rfl, hcf⟩ := HK.out.f.get hlt
      obtain ⟨bg, o_g, rfl, hcg⟩ := HK.out.g.get hltg
      have hrk := HRF.out k hlt
      have hrg := HRG.out k hltg
      obtain ⟨ka, hka⟩ : ∃ ka : Nat, f[k] = (ka : Int) := ⟨f[k].toNat, by omega⟩
      obtain ⟨kb, hkb⟩ : ∃ kb : Nat, g[k] = (kb : Int) := ⟨g[k].toNat, by omega⟩
      have e1 : f.getD k 0 = (ka : Int) := by rw [getD_lt 0 hlt, hka]
      have e2 : g.getD k 0 = (kb : Int) := by rw [getD_lt 0 hltg, hkb]
      have hup : upB rows' (f.getD k 0).toNat (g.getD k 0) = (gridF rows' ka).testBit kb := by rw [e1, e2, Int.toNat_natCast, HBIT.out ka kb (by omega)]
      have hka2 : ka < 200 := by omega
      have hkb2 : kb < 256 := by omega
      have hkg : (k : Int) < (g.length : Int) := by omega
      rw [hka] at hcf
      rw [hkb] at hcg
      clear hrk hrg hka hkb e1 e2
      go_wp2
      obtain ⟨W0, hW0⟩ : ∃ W0 : World, W0 = wr := ⟨_, rfl⟩
      have hq0 := fun d os => cell_regrown HK.out.c0 d os
      have hq1 := fun d os => cell_regrown HK.out.c1 d os
      have hq2 := fun d os => cell_regrown HK.out.l1 d os
      have hq3 := fun d os => cell_regrown hcg d os
      have hcall := fun d os => Calls.regrown_of (d := d) (os := os) (gbelow_any p (gridF rows') ka kb ka kb _ (HK.out.grid.below (below_regrown wr d os) HK.out.grid.lt) rfl hka2 rfl hkb2)
      clear hcf hcg
      cases hb : (gridF rows' ka).testBit kb with
      | true =>
        simp only [hb] at hcall
        rw [hb] at hup
        have HU := Lib.hid hup
        clear hup hb
        refine wp_region_quiet_below (by kernel_rfl) (by kernel_rfl) ?_
        repeat (go_big_quiet_step (first | (go_at_call 132; exact hcall _ _)))
        refine wpQuiet_nil ?_
        intro _ hw'
        obtain ⟨⟨dq, osq⟩, hw''⟩ := hw'
        subst hw''
        clear hcall hq0 hq1 hq2 hq3
        go_wp2
        go_roundw
        case rel =>
          refine ⟨k + 1, by omega, by go_num, fun q hq => ?_, HK.out.step (below_regrown wr dq osq)⟩
          by_cases e : q = k
          · subst e; exact HU.out
          · exact HP.out q (by omega)
        case measure => simp [intOf]; omega
      | false =>
        simp only [hb] at hcall
        rw [hb] at hup
        have HE := Lib.hid (underI_no hlt hup)
        clear hup hb
        refine wp_region_quiet_below (by kernel_rfl) (by kernel_rfl) ?_
        repeat (go_big_quiet_step (first | (go_at_call 132; exact hcall _ _)))
        refine wpQuiet_nil ?_
        intro _ hw'
        obtain ⟨⟨dq, osq⟩, hw''⟩ := hw'
        subst hw''
        clear hcall hq0 hq1 hq2 hq3
        go_wp2
        go_ret
        exact ⟨by rw [HE.out]; rfl, (HK.out.step (below_regrown wr dq osq)).below⟩
    · obtain rfl : k = f.length := by omega
      have HE := Lib.hid (underI_yes HP.out)
      go_wp2
      go_ret
      exact ⟨by rw [HE.out]; rfl, HK.out.below⟩

set_option maxRecDepth 100000 in
set_option maxHeartbeats 8000000 in
theorem implFunBelow_any (v v' vf vg : Value) (rows rows' : Rows2) (f g : List Int) (w : World) (hv : RowsAt w v rows) (hv' : RowsAt w v' rows') (hf : IntsAt w vf f) (hg : IntsAt w vg g) (hT : Tab w) (hn : bulk rows ≤ 1048576) (hn' : bulk rows' ≤ 1048576) :
    Calls Tryd.prog 39 #[.agg #[v], .agg #[v'], vf, vg] w (SaysN (fbelowB rows rows' f g) w) := by
  have h0 := TwoF.start w 25 25 hv hv' hf
  have hg0 := hg.below h0.1.below
  have hl := rows_two h0.2 hg0
  have b1 := (Below.refl ((w.alloc (.cells #[v] 25)).alloc (.cells #[v'] 25)).heap.size ((w.alloc (.cells #[v] 25)).alloc (.cells #[v'] 25))).alloc (Nat.le_refl _) (.cells #[vf, vg] 42)
  have h1 := h0.step b1
  have hg1 := hg0.below b1
  have hT1 := (hT.below h0.1.below).below b1
  have hcall := funTypeOf_any v v' _ rows rows' [f, g] _ h1.1.r0 h1.1.r1 hl hT1 hn hn'
  have hs : ((w.alloc (.cells #[v] 25)).alloc (.cells #[v'] 25)).heap.size = w.heap.size + 2 := by rw [World.size_alloc, World.size_alloc]
  rw [ftB_two, hs] at hcall
  have hc0 := h0.1.c0
  have hc1 := h0.1.c1
  obtain ⟨A, C, rfl, _⟩ := hv
  obtain ⟨A', C', rfl, _⟩ := hv'
  obtain ⟨Af, Cf, rfl, _⟩ := hf
  obtain ⟨Ag, Cg, rfl, _⟩ := hg
  have H1 := Lib.hid h1
  have G1 := Lib.hid hg1
  clear h0 hl b1 h1 hT1 hs hT hg0 hg1
  cases hm : monoB rows rows' f && monoB rows rows' g with
  | false =>
    rw [hm] at hcall
    have HE := Lib.hid (show fbelowB rows rows' f g = false by unfold fbelowB; rw [hm]; rfl)
    clear hm
    go_enter Tryd.func39, Tryd.ntmps39
    go_wp2_with (go_at_call 90; refine hcall.mono ?_; clear hcall; rintro e w1 ⟨⟨q, q', rfl, _⟩, hb1⟩; have H2 := Lib.hid ((H1.out.step hb1).step ((Below.refl _ w1).alloc (Nat.le_refl _) (.cells #[.pointer q, .pointer q'] 106))); clear hb1)
    go_ret
    exact ⟨by rw [HE.out]; rfl, H2.out.1.below⟩
  | true =>
    rw [hm] at hcall
    have hE : fbelowB rows rows' f g = underI rows' f g := by unfold fbelowB; rw [hm, Bool.true_and]
    rw [Bool.and_eq_true] at hm
    obtain ⟨hok, hok', hmo⟩ := monoB_ok hm.1
    obtain ⟨_, _, hmo2⟩ := monoB_ok hm.2
    have HFB := Lib.hid (fun L p u v W h0 h1 hf hg hG => funDomBelow_any L p u v rows' f g W hok' h0 h1 hf hg hG (by rw [hmo.1, hmo2.1]) (fun i hi => hmo.2.1 _ (List.getElem_mem hi)) (fun i hi => hmo2.2.1 _ (List.getElem_mem hi)))
    rw [hE]
    generalize underI rows' f g = t at HFB ⊢
    clear hm hmo hmo2 hok hok' hE
    have hcall2 := hcall.mono (fun e w' h => h.yes)
    clear hcall
    go_enter Tryd.func39, Tryd.ntmps39
    go_wp2_with (first | (go_at_call 90; refine hcall2.mono ?_; clear hcall2; rintro e w1 ⟨⟨p, p', rfl, _, _, hg, hg'⟩, hb1⟩; have B2 := Lib.hid (((Below.refl w1.heap.size w1).alloc (Nat.le_refl _) (.cells #[.pointer (some ⟨p, 0, none⟩), .pointer (some ⟨p', 0, none⟩)] 106)).alloc (by simp) (.cells #[.slice Af f.length Cf, .slice Ag g.length Cg] 42)); have H2 := Lib.hid ((H1.out.step hb1).step B2.out); have G2 := Lib.hid ((G1.out.below hb1).below B2.out); have GR2 := Lib.hid (hg'.below B2.out hg'.lt); obtain ⟨hl0, hl1⟩ := two_new (w1.alloc (.cells #[.pointer (some ⟨p, 0, none⟩), .pointer (some ⟨p', 0, none⟩)] 106)) (.slice Af f.length Cf) (.slice Ag g.length Cg) 42; rw [World.size_alloc] at hl0 hl1; have HL0 := Lib.hid hl0; have HL1 := Lib.hid hl1; clear hl0 hl1 hb1 hg hg') | (go_at_call 92; refine (HFB.out _ p' _ _ _ HL0.out HL1.out H2.out.2 G2.out GR2.out).mono ?_; rintro e w3 ⟨rfl, hb3⟩; have H3 := Lib.hid (H2.out.step hb3); clear hb3))
    go_ret
    exact ⟨by simp, H3.out.1.below⟩
end Go.Proofs.YtjfbjfclcpcaiaaDoor

/- The program's FunFix. -/
namespace Go.Proofs.YtjfbjfclcpcaiaaDoor
open Go.RowKit Go.Deep Go.Shelf
attribute [local go_sem] Oper.semAt_some

set_option maxRecDepth 100000 in
set_option maxHeartbeats 4000000 in
theorem implFix_no (v vf : Value) (rows : Rows2) (f : List Int) (w : World) (hv : RowsAt w v rows) (hf : IntsAt w vf f) (hT : Tab w) (hn : bulk rows ≤ 1048576) (hm : monoB rows rows f = false) :
    Calls Tryd.prog 46 #[.agg #[v], vf] w (FixP false rows f w) := by
  have h0 := HeldF.start w 25 hv hf
  have hl := rows_one h0.2
  have b0 := (Below.refl w.heap.size w).alloc (Nat.le_refl _) (.cells #[v] 25)
  have b1 := (Below.refl (w.alloc (.cells #[v] 25)).heap.size (w.alloc (.cells #[v] 25))).alloc (Nat.le_refl _) (.cells #[vf] 42)
  have h1 := h0.step b1
  have hT1 := (hT.below b0).below b1
  have hcall := funTypeOf_any v v _ rows rows [f] _ h1.1.2.1 h1.1.2.1 hl hT1 hn hn
  have hs : (w.alloc (.cells #[v] 25)).heap.size = w.heap.size + 1 := World.size_alloc _ _
  rw [ftB_one, hs, hm] at hcall
  have hc0 := h0.1.1
  have HB := Lib.hid h1.1.2.2.1
  obtain ⟨A, C, rfl, _⟩ := hv
  obtain ⟨Af, Cf, rfl, _⟩ := hf
  clear h0 hl b0 b1 h1 hT1 hs hT hm
  go_enter Tryd.func46, Tryd.ntmps46
  go_wp2_with (go_at_call 90; refine hcall.mono ?_; clear hcall; rintro e w1 ⟨⟨q, q', rfl, _⟩, hb1⟩; have H1 := Lib.hid (HB.out.trans (hb1.mono HB.out.size)); clear hb1)
  refine bodyPost_ret (v := .tuple #[.int .i64 0, .int .i64 0, .bool false]) (by simp [results, Tryd.results46, go_sem]) rfl ?_
  exact ⟨rfl, H1.out.alloc H1.out.size _⟩

set_option maxRecDepth 100000 in
set_option maxHeartbeats 8000000 in
theorem implFix_yes (v vf : Value) (rows : Rows2) (f : List Int) (w : World) (hv : RowsAt w v rows) (hf : IntsAt w vf f) (hT : Tab w) (hn : bulk rows ≤ 1048576) (hm : monoB rows rows f = true) :
    Calls Tryd.prog 46 #[.agg #[v], vf] w (FixP true rows f w) := by
  have h0 := HeldF.start w 25 hv hf
  have hl := rows_one h0.2
  have b0 := (Below.refl w.heap.size w).alloc (Nat.le_refl _) (.cells #[v] 25)
  have b1 := (Below.refl (w.alloc (.cells #[v] 25)).heap.size (w.alloc (.cells #[v] 25))).alloc (Nat.le_refl _) (.cells #[vf] 42)
  have h1 := h0.step b1
  have hT1 := (hT.below b0).below b1
  have hcall0 := funTypeOf_any v v _ rows rows [f] _ h1.1.2.1 h1.1.2.1 hl hT1 hn hn
  have hs : (w.alloc (.cells #[v] 25)).heap.size = w.heap.size + 1 := World.size_alloc _ _
  rw [ftB_one, hs, hm] at hcall0
  have hcall := hcall0.mono (fun e w' h => h.yes)
  have hc0 := h0.1.1
  have HB := Lib.hid h1.1.2.2.1
  have T1 := Lib.hid hT1
  have HF := Lib.hid (fun W (h : Below w.heap.size w W) => (by
    obtain ⟨a, C, e, h1, h2, h3, h4⟩ := hf
    exact ⟨a, C, e, h1, h2, h3, fun i hi => by
      obtain ⟨b, o, ea, hc⟩ := h4 i hi
      exact ⟨b, o, ea, (h.cell (p := ⟨b, o + i, none⟩) (cell_lt hc)).trans hc⟩⟩ : IntsAt W vf f))
  obtain ⟨hok, hmo, m, hml, hme⟩ := monoB_self hm
  have hstart := OnWay.start hok hmo hml hme
  have HL := Lib.hid (fun b W hg hT => leastG hok b W hg hT)
  simp only [hme] at HL
  have HE := Lib.hid (show fixRun rows f = runF f rows.length m ∧ fixX rows f = ((runF f rows.length m).getLastD m : Nat) by
    unfold fixX fixRun
    rw [hme, Int.toNat_natCast]
    exact ⟨rfl, rfl⟩)
  have HS := Lib.hid hstart
  have HOK := Lib.hid hok
  have HMO := Lib.hid hmo
  obtain ⟨A, C, rfl, _⟩ := hv
  obtain ⟨Af, Cf, rfl, _⟩ := hf
  clear h0 hl b0 b1 h1 hT1 hs hT hm hcall0 hok hmo hstart hme
  refine (callsIn_wide (n := 8)).1 ?_
  refine callsIn_of_wp_marks Tryd.func46 rfl trivial ?_ rfl
  simp only [Tryd.ntmps46, List.size_toArray, List.length_cons, List.length_nil, Nat.reduceAdd, Nat.reduceSub, Array.replicate_succ, Array.replicate_zero, List.push_toArray, List.append_toArray, List.nil_append, List.cons_append]
  gi_wp2
  refine ⟨trivial, (callsIn_wide.2 hcall).mono ?_⟩
  clear hcall
  rintro e w1 ⟨⟨p, p', rfl, _, _, hg, _⟩, hb1⟩
  have B2 := Lib.hid ((HB.out.trans (hb1.mono HB.out.size)).alloc (Nat.le_trans HB.out.size hb1.size) (.cells #[.pointer (some ⟨p, 0, none⟩), .pointer (some ⟨p', 0, none⟩)] 106))
  have T2 := Lib.hid ((T1.out.below hb1).below ((Below.refl _ w1).alloc (Nat.le_refl _) (.cells #[.pointer (some ⟨p, 0, none⟩), .pointer (some ⟨p', 0, none⟩)] 106)))
  have G2 := Lib.hid (hg.below ((Below.refl _ w1).alloc (Nat.le_refl _) (.cells #[.pointer (some ⟨p, 0, none⟩), .pointer (some ⟨p', 0, none⟩)] 106)) hg.lt)
  have hq0 : (w1.alloc (.cells #[.pointer (some ⟨p, 0, none⟩), .pointer (some ⟨p', 0, none⟩)] 106)).cell? ⟨w1.heap.size, 0, none⟩ = some (.pointer (some ⟨p, 0, none⟩)) := by
    rw [cell_of_row _ w1.heap.size 0 _ _ _ (heap_alloc_new _ _)]; rfl
  clear hb1 hg hc0
  gi_wp2
  refine ⟨trivial, (callsIn_wide.2 (HL.out p _ G2.out T2.out)).mono ?_⟩
  rintro e w3 ⟨rfl, hb3⟩
  have B3 := Lib.hid (B2.out.trans (hb3.mono B2.out.size))
  clear hb3 hq0
  gi_wp2
  refine ⟨trivial, (callsIn_wide.2 (changes_any Af f.length Cf (m : Int) _)).mono ?_⟩
  rintro e w5 ⟨rfl, rfl⟩
  gi_wp2
  have s1 : (w3.alloc (.cells #[.int .i64 (m : Int)] 3)).heap.size = w3.heap.size + 1 := World.size_alloc _ _
  have s2 : ((w3.alloc (.cells #[.int .i64 (m : Int)] 3)).alloc (.cells #[.int .i64 0] 3)).heap.size = w3.heap.size + 2 := by rw [World.size_alloc, s1]
  have s3 : (((w3.alloc (.cells #[.int .i64 (m : Int)] 3)).alloc (.cells #[.int .i64 0] 3)).alloc (.cells #[.slice Af f.length Cf] 112)).heap.size = w3.heap.size + 3 := by rw [World.size_alloc, s2]
  have hz4 : ((((w3.alloc (.cells #[.int .i64 (m : Int)] 3)).alloc (.cells #[.int .i64 0] 3)).alloc (.cells #[.slice Af f.length Cf] 112)).alloc (.cells #[.int .i64 (m : Int)] 3)).heap.size = w3.heap.size + 4 := by rw [World.size_alloc, s3]
  have hB4 : Below w3.heap.size w3 ((((w3.alloc (.cells #[.int .i64 (m : Int)] 3)).alloc (.cells #[.int .i64 0] 3)).alloc (.cells #[.slice Af f.length Cf] 112)).alloc (.cells #[.int .i64 (m : Int)] 3)) :=
    ((((Below.refl _ w3).alloc (Nat.le_refl _) _).alloc (by rw [s1]; omega) _).alloc (by rw [s2]; omega) _).alloc (by rw [s3]; omega) _
  have bx : Boxed ((((w3.alloc (.cells #[.int .i64 (m : Int)] 3)).alloc (.cells #[.int .i64 0] 3)).alloc (.cells #[.slice Af f.length Cf] 112)).alloc (.cells #[.int .i64 (m : Int)] 3)) w3.heap.size 3 (.int .i64 (m : Int)) :=
    (((Boxed.new w3 _ _).alloc _).alloc _).alloc _
  have bu := Boxed.new (w3.alloc (.cells #[.int .i64 (m : Int)] 3)) 3 (.int .i64 0)
  rw [s1] at bu
  replace bu := (bu.alloc (.cells #[.slice Af f.length Cf] 112)).alloc (.cells #[.int .i64 (m : Int)] 3)
  have bf := Boxed.new ((w3.alloc (.cells #[.int .i64 (m : Int)] 3)).alloc (.cells #[.int .i64 0] 3)) 112 (.slice Af f.length Cf)
  rw [s2] at bf
  replace bf := (bf.alloc (.cells #[.int .i64 (m : Int)] 3)).cell
  have bk := Boxed.new (((w3.alloc (.cells #[.int .i64 (m : Int)] 3)).alloc (.cells #[.int .i64 0] 3)).alloc (.cells #[.slice Af f.length Cf] 112)) 3 (.int .i64 (m : Int))
  rw [s3] at bk
  replace bk := bk.cell
  clear s1 s2 s3
  revert hB4 hz4 bx bu bf bk
  generalize ((((w3.alloc (.cells #[.int .i64 (m : Int)] 3)).alloc (.cells #[.int .i64 0] 3)).alloc (.cells #[.slice Af f.length Cf] 112)).alloc (.cells #[.int .i64 (m : Int)] 3)) = w4
  intro hz4 hB4 bx bu bf bk
  have hw3 := B3.out.size
  have hBw : Below w.heap.size w w4 := B3.out.trans (hB4.mono hw3)
  refine wpIn_rangeFunc_ownG rfl (by omega) (gf := 130) (lb := #[.pointer (some ⟨w3.heap.size + 3, 0, none⟩), .pointer (some ⟨w3.heap.size + 2, 0, none⟩)]) rfl trivial (enters_of Tryd.func130 (by kernel_rfl) rfl)
    (changes1_stops _ w.heap.size (w3.heap.size + 3) (w3.heap.size + 2) m Af Cf rows f w4 (by omega) bk bf (fun W h => HF.out W (hBw.trans h)) (by omega) HOK.out HMO.out HS.out)
    (fun h k => ⟨h.1.trans k.1, k.2.trans h.2⟩) (fun W l o o' hl ho hc hwk => ⟨belowK_b (n₀ := w.heap.size) (w := w4) (by omega) W l o o' hl ho hc hwk, World.putObj_heap_other (by omega)⟩) (Below.refl _ _) (fun _ => rfl)
    (fun pre W => (Boxed W w3.heap.size 3 (.int .i64 ((pre.getLastD m : Nat) : Int)) ∧ Boxed W (w3.heap.size + 1) 3 (.int .i64 (pre.length : Int))) ∧ Below w.heap.size w W)
    (fun _ _ _ => False)
    (OwnFrom.and (Own.from (fun _ A B row hs hg hr => ⟨blk_kept hs.1 hg hr, blk_kept hs.2 hg hr⟩) _) (ownFrom_below (Nat.le_refl _) (by omega)))
    (fun _ _ _ _ _ hs _ _ => hs)
    ⟨⟨bx, bu⟩, hBw⟩
    (fun x => { tmps := #[.agg #[.slice A rows.length C], .slice Af f.length Cf, .pointer (some ⟨w.heap.size, 0, none⟩), undef, .int .i64 0, .int .i64 0, .bool false, .pointer (some ⟨w1.heap.size, 0, none⟩), .bool true, .pointer (some ⟨w3.heap.size, 0, none⟩), .pointer (some ⟨w3.heap.size + 1, 0, none⟩), .int .i64 ((x : Nat) : Int), .tuple #[.agg #[.pointer (some ⟨p, 0, none⟩), .pointer (some ⟨p', 0, none⟩)], .bool true], .agg #[.slice A rows.length C], .agg #[.slice A rows.length C], .slice Af f.length Cf, .slice (some ⟨w.heap.size + 1, 0, none⟩) 1 1, .tuple #[.agg #[.pointer (some ⟨p, 0, none⟩), .pointer (some ⟨p', 0, none⟩)], .bool true], .agg #[.pointer (some ⟨p, 0, none⟩), .pointer (some ⟨p', 0, none⟩)], .bool true, .bool true, .bool false, .pointer (some ⟨w1.heap.size, 0, none⟩), .pointer (some ⟨p, 0, none⟩), .int .i64 (m : Int), .slice Af f.length Cf, .int .i64 (m : Int), .func (.func 130) #[] #[.pointer (some ⟨w3.heap.size + 3, 0, none⟩), .pointer (some ⟨w3.heap.size + 2, 0, none⟩)], .int .i64 ((x : Nat) : Int), undef, undef, undef, undef, undef], defers := [] }) ?assign ?body ?done ?stop
  case assign =>
    intro l x W K hK
    unfold encN
    gi_wp2
    exact hK
  case body =>
    rintro l pre x W ⟨⟨hfx, hus⟩, hB⟩ hlt
    dsimp only
    have hc1 := hfx.cell
    have hc2 := hus.cell
    have hf1 := hfx.frozen
    have hf2 := hus.frozen
    have hx1 := hfx.lt
    have hx2 := hus.lt
    have hmx : Tryd.prog.follows .mixedOrders = true := by kernel_rfl
    have hpl : pre.length < 200 := by
      have h1 := HOK.out.len.2
      have h2 : ∀ k y, (runF f k y).length ≤ k := fun k => by
        induction k with
        | zero => intro y; exact Nat.le_refl _
        | succ k ih =>
          intro y
          unfold runF
          split
          · exact Nat.zero_le _
          · rw [List.length_cons]
            have := ih (nextF f y)
            omega
      have := h2 rows.length m
      omega
    have hwr : IntKind.i64.wrap ((pre.length : Int) + 1) = (pre.length : Int) + 1 := IntWalk.i64_in _ (by omega)
    have HFX := Lib.hid hfx
    have HUS := Lib.hid hus
    have HBB := Lib.hid hB
    clear hfx hus hB hlt
    gi_wp2
    gi_region_with_o (fail)
    all_goals
      gi_wp2
      refine ⟨(((KeepsOthers.setCell W ⟨w3.heap.size, 0, none⟩ _).trans (KeepsOthers.setCell _ ⟨w3.heap.size + 1, 0, none⟩ _)).trans (keeps_below (below_drew _ _))).from _, ⟨?_, ?_⟩, ⟨?_, ?_⟩, ?_⟩
      · exact (((Below.refl w.heap.size W).setCell (p := ⟨w3.heap.size, 0, none⟩) hw3 _).setCell (p := ⟨w3.heap.size + 1, 0, none⟩) (by show w.heap.size ≤ w3.heap.size + 1; omega) _).trans (below_drew _ _)
      · exact (Below.heap_setCell _ ⟨w3.heap.size + 1, 0, none⟩ _ (w3.heap.size + 2) (by show w3.heap.size + 2 ≠ w3.heap.size + 1; omega)).trans (Below.heap_setCell _ ⟨w3.heap.size, 0, none⟩ _ (w3.heap.size + 2) (by show w3.heap.size + 2 ≠ w3.heap.size; omega))
      · have h := (HFX.out.set (.int .i64 (x : Int))).other (B' := w3.heap.size + 1) (by omega) (.int .i64 ((pre.length : Int) + 1))
        rw [show (pre ++ [x]).getLastD m = x by simp]
        exact h
      · have h := (HUS.out.other (B' := w3.heap.size) (by omega) (.int .i64 (x : Int))).set (.int .i64 ((pre.length : Int) + 1))
        rw [show (((pre ++ [x]).length : Nat) : Int) = (pre.length : Int) + 1 by rw [List.length_append]; rfl]
        exact h
      · exact ((HBB.out.setCell (p := ⟨w3.heap.size, 0, none⟩) hw3 _).setCell (p := ⟨w3.heap.size + 1, 0, none⟩) (by show w.heap.size ≤ w3.heap.size + 1; omega) _).trans (below_drew _ _)
  case done =>
    rintro D ys W hD rfl ⟨⟨hfx, hus⟩, hB⟩ hK
    have hc1 := hfx.cell
    have hc2 := hus.cell
    have HFX := Lib.hid hfx
    have HUS := Lib.hid hus
    have HBB := Lib.hid hB
    have HKK := Lib.hid hK
    clear hfx hus hB hK
    gi_wp2
    gi_quiet (fail)
    gi_wp2
    refine leaves_marks (n₀ := w.heap.size) (K := fun W' => Below w.heap.size w W') (fun W' D' h h1 h2 => h.trans (belowK_b (w := w) (Nat.le_refl _) W' D' _ _ h1 h2 rfl rfl)) (fun W' h => ⟨.tuple #[.int .i64 (((runF f rows.length m).getLastD m : Nat) : Int), .int .i64 ((runF f rows.length m).length : Int), .bool true], by simp [results, Tryd.f46, go_sem], ⟨by rw [if_pos rfl, if_pos rfl, HE.out.2, HE.out.1], h⟩⟩) [D] _ (MarksAt.cons (MarksAt.nil _ _) (fun _ h => by cases h) (by omega) HKK.out) (HBB.out.trans (below_drewN' _ _ _))
  case stop =>
    rintro D c pre W _ _ h _
    exact h.elim
end Go.Proofs.YtjfbjfclcpcaiaaDoor

/- The program's FunAfter. -/
namespace Go.Proofs.YtjfbjfclcpcaiaaDoor
open Go.RowKit Go.Deep Go.Shelf

set_option maxRecDepth 100000 in
set_option maxHeartbeats 4000000 in
theorem after_any (vf vg : Value) (f g : List Int) (w : World) (hf : IntsAt w vf f) (hg : IntsAt w vg g) (hfl : f.length ≤ 200) (hr : ∀ i (hi : i < f.length), 0 ≤ f[i] ∧ f[i] < g.length) (hwf : ∀ x ∈ g, (Lit.int .i64 x).wf = true) :
    Calls Tryd.prog 93 #[vg, vf] w (OwnQ (afterN f g f.length) w) := by
  have HFA := Lib.hid (fun W (h : Below w.heap.size w W) => (by
    obtain ⟨a, C, e, h1, h2, h3, h4⟩ := hf
    exact ⟨a, C, e, h1, h2, h3, fun i hi => by
      obtain ⟨b, o, ea, hc⟩ := h4 i hi
      exact ⟨b, o, ea, (h.cell (p := ⟨b, o + i, none⟩) (cell_lt hc)).trans hc⟩⟩ : IntsAt W vf f))
  have HGA := Lib.hid (fun W (h : Below w.heap.size w W) => (by
    obtain ⟨a, C, e, h1, h2, h3, h4⟩ := hg
    exact ⟨a, C, e, h1, h2, h3, fun i hi => by
      obtain ⟨b, o, ea, hc⟩ := h4 i hi
      exact ⟨b, o, ea, (h.cell (p := ⟨b, o + i, none⟩) (cell_lt hc)).trans hc⟩⟩ : IntsAt W vg g))
  have HRG := Lib.hid hr
  have HWF := Lib.hid hwf
  obtain ⟨Af, Cf, rfl, hCf, hmf, _⟩ := hf
  obtain ⟨Ag, Cg, rfl, hCg, hmg, _⟩ := hg
  unfold maxLen at hmf hmg
  have hmk := run_make_row' (P := Tryd.prog) 112 3 (.int .i64 0) 8 Tryd.underlying112 infoInt rfl .i64 .i64 f.length (by omega) (by omega)
  have HRW := Lib.hid (World.rowIs_made w (.int .i64 0) f.length 3)
  have HB0 := Lib.hid ((Below.refl w.heap.size w).alloc (Nat.le_refl _) (.cells (madeCells #[.int .i64 0] f.length) 3))
  clear hr hwf
  go_enter Tryd.func93, Tryd.ntmps93
  go_wp2
  clear hmk
  go_loopw [6, 7, 13] (fun _ _ kv wr => ∃ k : Nat, k ≤ f.length ∧ kv = .int .i64 k ∧ wr.rowIs w.heap.size 3 f.length (fun i => if i < k then .int .i64 (g.getD (f.getD i 0).toNat 0) else .int .i64 0) ∧ Below w.heap.size w wr) (fun _ _ kv _ => f.length - (intOf kv).toNat)
  case atStart => exact ⟨0, Nat.zero_le _, rfl, HRW.out.congr (fun i _ => by rw [if_neg (Nat.not_lt_zero i)]), HB0.out⟩
  case round =>
    obtain ⟨k, hk, rfl, hr, hB⟩ := hrel
    have HR := Lib.hid hr
    have HB := Lib.hid hB
    clear hB HRW HB0
    by_cases hlt : k < f.length
    · have hc := hr.cell hlt
      have hfz := hr.frozen k
      rw [if_neg (Nat.lt_irrefl k)] at hc
      have hkz : (k : Int) < (f.length : Int) := by omega
      obtain ⟨b1, o1, rfl, hcf⟩ := (HFA.out wr HB.out).get hlt
      have hr1 := HRG.out k hlt
      obtain ⟨j, hj⟩ : ∃ j : Nat, f[k] = (j : Int) := ⟨f[k].toNat, by omega⟩
      have hjl : j < g.length := by omega
      have hjl2 : (j : Int) < (g.length : Int) := by omega
      obtain ⟨b2, o2, rfl, hcg⟩ := (HGA.out wr HB.out).get hjl
      rw [hj] at hcf
      have HA := Lib.hid (show g.getD (f.getD k 0).toNat 0 = g[j] by rw [getD_lt 0 hlt, hj, Int.toNat_natCast, getD_lt 0 hjl])
      clear hr hr1 hj
      go_wp2
      go_roundw
      case rel =>
        refine ⟨k + 1, by omega, by go_num, (HR.out.set k (.int .i64 g[j])).congr (fun i hi => ?_), HB.out.setCell (p := ⟨w.heap.size, k, none⟩) (Nat.le_refl _) _⟩
        by_cases e : i = k
        · subst e; rw [if_pos (Nat.lt_succ_self i), HA.out]; simp
        · by_cases e2 : i < k
          · simp [e, e2, show i < k + 1 by omega]
          · simp [e, e2, show ¬ i < k + 1 by omega]
      case measure => simp [intOf]; omega
    · obtain rfl : k = f.length := by omega
      clear hr
      go_wp2
      go_ret
      have hl := afterN_length f g f.length
      refine ⟨_, rfl, ⟨?_, .inr ⟨w.heap.size, f.length, _, by rw [hl]; rfl, by rw [hl]; exact Nat.le_refl _, by unfold maxLen; omega, Nat.le_refl _, HR.out.lt, HR.out, fun i hi => ?_⟩⟩, HB.out⟩
      · intro y hy
        unfold afterN at hy
        obtain ⟨i, hi, rfl⟩ := List.mem_map.1 hy
        rw [List.mem_range] at hi
        have h3 := HRG.out i hi
        exact HWF.out _ (by rw [getD_lt 0 (show (f.getD i 0).toNat < g.length by rw [getD_lt 0 hi]; omega)]; exact List.getElem_mem _)
      · rw [hl] at hi
        simp [afterN, hi]

set_option maxRecDepth 100000 in
set_option maxHeartbeats 4000000 in
theorem implAfter_any (v v' v2 vf vg : Value) (rows rows' rows2 : Rows2) (f g : List Int) (w : World) (hv : RowsAt w v rows) (hv' : RowsAt w v' rows') (hv2 : RowsAt w v2 rows2) (hf : IntsAt w vf f) (hg : IntsAt w vg g) (hT : Tab w)
    (hn : bulk rows ≤ 1048576) (hn' : bulk rows' ≤ 1048576) (hn2 : bulk rows2 ≤ 1048576) :
    Calls Tryd.prog 41 #[.agg #[v], .agg #[v'], .agg #[v2], vf, vg] w (OwnB (afterL rows rows' rows2 f g) (afterOk rows rows' rows2 f g) w) := by
  have h0 := ThrL.start w 25 hv hv' hv2 hf hg
  have hT0 := hT.below h0.below
  have hd1 := implMono_any _ _ _ rows rows' f _ h0.thr.two.r0 h0.thr.two.r1 h0.f hT0 hn hn'
  obtain ⟨A, C, rfl, _⟩ := hv
  obtain ⟨A', C', rfl, _⟩ := hv'
  obtain ⟨A2, C2, rfl, _⟩ := hv2
  obtain ⟨Af, Cf, rfl, _⟩ := hf
  obtain ⟨Ag, Cg, rfl, _, _, hwf, _⟩ := hg
  have H0 := Lib.hid h0
  have T0 := Lib.hid hT0
  have HWF := Lib.hid hwf
  have hc0 := h0.thr.two.c0
  have hc1 := h0.thr.two.c1
  clear h0 hT0 hT hwf
  cases h1 : monoB rows rows' f with
  | false =>
    rw [h1] at hd1
    have HE := Lib.hid (show afterOk rows rows' rows2 f g = false by unfold afterOk; rw [h1]; rfl)
    go_enter Tryd.func41, Tryd.ntmps41
    go_wp2_with (go_at_call 37; refine hd1.mono ?_; clear hd1; rintro e w1 ⟨rfl, hb1⟩; have H1 := Lib.hid (H0.out.step hb1); clear hb1)
    go_ret2
    refine ⟨_, by rw [HE.out]; rfl, ?_, H1.out.below⟩
    unfold afterL
    rw [HE.out]
    exact OwnI.nil _ _ _ _
  | true =>
    rw [h1] at hd1
    cases h2 : monoB rows' rows2 g with
    | false =>
      have HE := Lib.hid (show afterOk rows rows' rows2 f g = false by unfold afterOk; rw [h1, h2]; rfl)
      go_enter Tryd.func41, Tryd.ntmps41
      go_wp2_with (first | (go_at_call 37; refine hd1.mono ?_; clear hd1; rintro e w1 ⟨rfl, hb1⟩; have H1 := Lib.hid (H0.out.step hb1); have hd2 := implMono_any _ _ _ rows' rows2 g _ H1.out.thr.two.r1 H1.out.thr.r2 H1.out.g (T0.out.below hb1) hn' hn2; rw [h2] at hd2; have he1 := H1.out.thr.two.c1; have he2 := H1.out.thr.c2; clear hb1) | (go_at_call 37; refine hd2.mono ?_; clear hd2; rintro e w2 ⟨rfl, hb2⟩; have H2 := Lib.hid (H1.out.step hb2); clear hb2))
      go_ret2
      refine ⟨_, by rw [HE.out]; rfl, ?_, H2.out.below⟩
      unfold afterL
      rw [HE.out]
      exact OwnI.nil _ _ _ _
    | true =>
      have HE := Lib.hid (show afterOk rows rows' rows2 f g = true by unfold afterOk; rw [h1, h2]; rfl)
      obtain ⟨hd, _, hm1⟩ := monoB_parts h1
      obtain ⟨_, _, hm2⟩ := monoB_parts h2
      have hl200 := (ok_of_valid (show validB rows = true by unfold domB at hd; rw [Bool.and_eq_true] at hd; exact hd.1)).len.2
      have HC := Lib.hid (fun W h h' => after_any (.slice Af f.length Cf) (.slice Ag g.length Cg) f g W h h' (by rw [hm1.1]; exact hl200) (fun i hi => by have := hm1.2.1 _ (List.getElem_mem hi); rw [hm2.1]; exact this) HWF.out)
      clear hd hm1 hm2 hl200
      go_enter Tryd.func41, Tryd.ntmps41
      go_wp2_with (first | (go_at_call 37; refine hd1.mono ?_; clear hd1; rintro e w1 ⟨rfl, hb1⟩; have H1 := Lib.hid (H0.out.step hb1); have hd2 := implMono_any _ _ _ rows' rows2 g _ H1.out.thr.two.r1 H1.out.thr.r2 H1.out.g (T0.out.below hb1) hn' hn2; rw [h2] at hd2; have he1 := H1.out.thr.two.c1; have he2 := H1.out.thr.c2; clear hb1) | (go_at_call 37; refine hd2.mono ?_; clear hd2; rintro e w2 ⟨rfl, hb2⟩; have H2 := Lib.hid (H1.out.step hb2); clear hb2) | (go_at_call 93; refine (HC.out _ H2.out.f H2.out.g).mono ?_; rintro e w3 ⟨u, rfl, hu, hb3⟩; have HU := Lib.hid hu; have B3 := Lib.hid hb3; clear hu hb3))
      go_ret2
      refine ⟨u, by rw [HE.out]; rfl, ?_, H2.out.below.trans (B3.out.mono H2.out.below.size)⟩
      unfold afterL
      rw [if_pos HE.out]
      exact HU.out.wider H2.out.below.size (Nat.le_refl _)
end Go.Proofs.YtjfbjfclcpcaiaaDoor

/- The program's FunPair. -/
namespace Go.Proofs.YtjfbjfclcpcaiaaDoor
open Go.RowKit Go.Deep Go.Shelf

set_option maxRecDepth 100000 in
set_option maxHeartbeats 4000000 in
theorem paired_any (vf vg : Value) (f g : List Int) (n : Nat) (w : World) (hf : IntsAt w vf f) (hg : IntsAt w vg g) (hfl : f.length ≤ 200) (hgl : g.length = f.length) (hn : n ≤ 200)
    (hrf : ∀ x ∈ f, 0 ≤ x ∧ x ≤ 200) (hrg : ∀ x ∈ g, 0 ≤ x ∧ x ≤ 200) :
    Calls Tryd.prog 101 #[vf, vg, .int .i64 (n : Int)] w (OwnQ (pairN f g n f.length) w) := by
  have HFA := Lib.hid (fun W (h : Below w.heap.size w W) => hf.below h)
  have HGA := Lib.hid (fun W (h : Below w.heap.size w W) => hg.below h)
  have HRF := Lib.hid hrf
  have HRG := Lib.hid hrg
  have HGL := Lib.hid hgl
  obtain ⟨Af, Cf, rfl, hCf, hmf, _⟩ := hf
  obtain ⟨Ag, Cg, rfl, hCg, hmg, _⟩ := hg
  unfold maxLen at hmf hmg
  have hmk := run_make_row' (P := Tryd.prog) 112 3 (.int .i64 0) 8 Tryd.underlying112 infoInt rfl .i64 .i64 f.length (by omega) (by omega)
  have HRW := Lib.hid (World.rowIs_made w (.int .i64 0) f.length 3)
  have HB0 := Lib.hid ((Below.refl w.heap.size w).alloc (Nat.le_refl _) (.cells (madeCells #[.int .i64 0] f.length) 3))
  clear hrf hrg hgl
  go_enter Tryd.func101, Tryd.ntmps101
  go_wp2
  clear hmk
  go_loopw [8, 14] (fun _ kv wr => ∃ k : Nat, k ≤ f.length ∧ kv = .int .i64 k ∧ wr.rowIs w.heap.size 3 f.length (fun i => if i < k then .int .i64 (f.getD i 0 * (n : Int) + g.getD i 0) else .int .i64 0) ∧ Below w.heap.size w wr) (fun _ kv _ => f.length - (intOf kv).toNat)
  case atStart => exact ⟨0, Nat.zero_le _, rfl, HRW.out.congr (fun i _ => by rw [if_neg (Nat.not_lt_zero i)]), HB0.out⟩
  case round =>
    obtain ⟨k, hk, rfl, hr, hB⟩ := hrel
    have HR := Lib.hid hr
    have HB := Lib.hid hB
    clear hB HRW HB0
    by_cases hlt : k < f.length
    · have hc := hr.cell hlt
      have hfz := hr.frozen k
      rw [if_neg (Nat.lt_irrefl k)] at hc
      have hkz : (k : Int) < (f.length : Int) := by omega
      have hltg : k < g.length := by have := HGL.out; omega
      have hkg : (k : Int) < (g.length : Int) := by omega
      obtain ⟨b1, o1, rfl, hcf⟩ := (HFA.out wr HB.out).get hlt
      obtain ⟨b2, o2, rfl, hcg⟩ := (HGA.out wr HB.out).get hltg
      have hr1 := HRF.out _ (List.getElem_mem hlt)
      have hr2 := HRG.out _ (List.getElem_mem hltg)
      have hpk := mul_small (a := f[k]) (b := (n : Int)) hr1.1 hr1.2 (by omega) (by omega)
      have HA := Lib.hid (show f.getD k 0 * (n : Int) + g.getD k 0 = f[k] * (n : Int) + g[k] by rw [getD_lt 0 hlt, getD_lt 0 hltg])
      have HRD := Lib.hid (show wr.drew.rowIs w.heap.size 3 f.length _ from HR.out)
      have HBD := Lib.hid (HB.out.trans (below_drew wr _))
      have hcd : wr.drew.cell? ⟨w.heap.size, k, none⟩ = some (.int .i64 0) := hc
      have hfd : wr.drew.frozen? ⟨w.heap.size, k, none⟩ = false := hfz
      clear hr
      go_upto_region 5 with fail
      go_still_tail 14, (by kernel_rfl)
      change wpList _ _ _ _ _ wr.drew
      clear hcf hcg hc hfz
      generalize wr.drew = wd at HRD HBD hcd hfd ⊢
      go_wp2
      go_roundw
      case rel =>
        refine ⟨k + 1, by omega, by go_num, (HRD.out.set k (.int .i64 (f[k] * (n : Int) + g[k]))).congr (fun i hi => ?_), HBD.out.setCell (p := ⟨w.heap.size, k, none⟩) (Nat.le_refl _) _⟩
        by_cases e : i = k
        · subst e; rw [if_pos (Nat.lt_succ_self i), HA.out]; simp
        · by_cases e2 : i < k
          · simp [e, e2, show i < k + 1 by omega]
          · simp [e, e2, show ¬ i < k + 1 by omega]
      case measure => simp [intOf]; omega
    · obtain rfl : k = f.length := by omega
      clear hr
      go_wp2
      go_ret
      have hl := pairN_length f g n f.length
      refine ⟨_, rfl, ⟨?_, .inr ⟨w.heap.size, f.length, _, by rw [hl]; rfl, by rw [hl]; exact Nat.le_refl _, by unfold maxLen; omega, Nat.le_refl _, HR.out.lt, HR.out, fun i hi => ?_⟩⟩, HB.out⟩
      · intro y hy
        unfold pairN at hy
        obtain ⟨i, hi, rfl⟩ := List.mem_map.1 hy
        rw [List.mem_range] at hi
        have hig : i < g.length := by have := HGL.out; omega
        rw [getD_lt 0 hi, getD_lt 0 hig]
        have hr1 := HRF.out _ (List.getElem_mem hi)
        have hr2 := HRG.out _ (List.getElem_mem hig)
        have hpk := mul_small (a := f[i]) (b := (n : Int)) hr1.1 hr1.2 (by omega) (by omega)
        exact wf_int (by omega) (by omega)
      · rw [hl] at hi
        simp [pairN, hi]

set_option maxRecDepth 100000 in
set_option maxHeartbeats 4000000 in
theorem implPair_any (v v' v2 vf vg : Value) (rows rows' rows2 : Rows2) (f g : List Int) (w : World) (hv : RowsAt w v rows) (hv' : RowsAt w v' rows') (hv2 : RowsAt w v2 rows2) (hf : IntsAt w vf f) (hg : IntsAt w vg g) (hT : Tab w)
    (hn : bulk rows ≤ 1048576) (hn' : bulk rows' ≤ 1048576) (hn2 : bulk rows2 ≤ 1048576) :
    Calls Tryd.prog 55 #[.agg #[v], .agg #[v'], .agg #[v2], vf, vg] w (OwnB (pairL rows rows' rows2 f g) (pairOk rows rows' rows2 f g) w) := by
  have h0 := ThrL.start w 25 hv hv' hv2 hf hg
  have hT0 := hT.below h0.below
  have hd1 := implMono_any _ _ _ rows rows' f _ h0.thr.two.r0 h0.thr.two.r1 h0.f hT0 hn hn'
  obtain ⟨A, C, rfl, _⟩ := hv
  obtain ⟨A', C', rfl, _⟩ := hv'
  obtain ⟨A2, C2, rfl, _⟩ := hv2
  obtain ⟨Af, Cf, rfl, _⟩ := hf
  obtain ⟨Ag, Cg, rfl, _⟩ := hg
  have H0 := Lib.hid h0
  have T0 := Lib.hid hT0
  have hc0 := h0.thr.two.c0
  have hc1 := h0.thr.two.c1
  clear h0 hT0 hT
  cases h1 : monoB rows rows' f with
  | false =>
    rw [h1] at hd1
    have HE := Lib.hid (show pairOk rows rows' rows2 f g = false by unfold pairOk; rw [h1]; rfl)
    go_enter Tryd.func55, Tryd.ntmps55
    go_wp2_with (go_at_call 37; refine hd1.mono ?_; clear hd1; rintro e w1 ⟨rfl, hb1⟩; have H1 := Lib.hid (H0.out.step hb1); clear hb1)
    go_ret2
    refine ⟨_, by rw [HE.out]; rfl, ?_, H1.out.below⟩
    unfold pairL
    rw [HE.out]
    exact OwnI.nil _ _ _ _
  | true =>
    rw [h1] at hd1
    cases h2 : monoB rows rows2 g with
    | false =>
      have HE := Lib.hid (show pairOk rows rows' rows2 f g = false by unfold pairOk; rw [h1, h2]; rfl)
      go_enter Tryd.func55, Tryd.ntmps55
      go_wp2_with (first | (go_at_call 37; refine hd1.mono ?_; clear hd1; rintro e w1 ⟨rfl, hb1⟩; have H1 := Lib.hid (H0.out.step hb1); have hd2 := implMono_any _ _ _ rows rows2 g _ H1.out.thr.two.r0 H1.out.thr.r2 H1.out.g (T0.out.below hb1) hn hn2; rw [h2] at hd2; have he1 := H1.out.thr.two.c0; have he2 := H1.out.thr.c2; clear hb1) | (go_at_call 37; refine hd2.mono ?_; clear hd2; rintro e w2 ⟨rfl, hb2⟩; have H2 := Lib.hid (H1.out.step hb2); clear hb2))
      go_ret2
      refine ⟨_, by rw [HE.out]; rfl, ?_, H2.out.below⟩
      unfold pairL
      rw [HE.out]
      exact OwnI.nil _ _ _ _
    | true =>
      obtain ⟨hD, hD', hm1⟩ := monoB_parts h1
      obtain ⟨_, hD2, hm2⟩ := monoB_parts h2
      have hl' := dom_len hD'
      have hl2 := dom_len hD2
      have hp := mul_small (a := (rows'.length : Int)) (b := (rows2.length : Int)) (by omega) (by omega) (by omega) (by omega)
      by_cases hle : rows'.length * rows2.length ≤ 200
      · have HE := Lib.hid (show pairOk rows rows' rows2 f g = true by unfold pairOk; rw [h1, h2, decide_eq_true hle]; rfl)
        have hpi : (rows'.length : Int) * (rows2.length : Int) ≤ 200 := by
          have := Int.ofNat_le.2 hle
          rw [Int.natCast_mul] at this
          exact this
        have hl200 := dom_len hD
        have HC := Lib.hid (fun W h h' => paired_any (.slice Af f.length Cf) (.slice Ag g.length Cg) f g rows2.length W h h' (by rw [hm1.1]; exact hl200) (by rw [hm1.1, hm2.1]) hl2 (fun x hx => by have := hm1.2.1 x hx; omega) (fun x hx => by have := hm2.2.1 x hx; omega))
        clear hm1 hm2 hD hD' hD2 hle hl200
        go_enter Tryd.func55, Tryd.ntmps55
        go_wp2_with (first | (go_at_call 37; refine hd1.mono ?_; clear hd1; rintro e w1 ⟨rfl, hb1⟩; have H1 := Lib.hid (H0.out.step hb1); have hd2 := implMono_any _ _ _ rows rows2 g _ H1.out.thr.two.r0 H1.out.thr.r2 H1.out.g (T0.out.below hb1) hn hn2; rw [h2] at hd2; have he1 := H1.out.thr.two.c0; have he2 := H1.out.thr.c2; clear hb1) | (go_at_call 37; refine hd2.mono ?_; clear hd2; rintro e w2 ⟨rfl, hb2⟩; have H2 := Lib.hid (H1.out.step hb2); have he3 := H2.out.thr.two.c1; have he4 := H2.out.thr.c2; clear hb2 he1 he2) | (go_at_call 101; refine (HC.out _ H2.out.f H2.out.g).mono ?_; rintro e w3 ⟨u, rfl, hu, hb3⟩; have HU := Lib.hid hu; have B3 := Lib.hid hb3; clear hu hb3))
        go_ret2
        refine ⟨u, by rw [HE.out]; rfl, ?_, H2.out.below.trans (B3.out.mono H2.out.below.size)⟩
        unfold pairL
        rw [if_pos HE.out]
        exact HU.out.wider H2.out.below.size (Nat.le_refl _)
      · have HE := Lib.hid (show pairOk rows rows' rows2 f g = false by unfold pairOk; rw [decide_eq_false hle, Bool.and_false])
        have hpi : (200 : Int) < (rows'.length : Int) * (rows2.length : Int) := by
          have := Int.ofNat_lt.2 (show 200 < rows'.length * rows2.length by omega)
          rw [Int.natCast_mul] at this
          exact this
        clear hm1 hm2 hD hD' hD2 hle
        go_enter Tryd.func55, Tryd.ntmps55
        go_wp2_with (first | (go_at_call 37; refine hd1.mono ?_; clear hd1; rintro e w1 ⟨rfl, hb1⟩; have H1 := Lib.hid (H0.out.step hb1); have hd2 := implMono_any _ _ _ rows rows2 g _ H1.out.thr.two.r0 H1.out.thr.r2 H1.out.g (T0.out.below hb1) hn hn2; rw [h2] at hd2; have he1 := H1.out.thr.two.c0; have he2 := H1.out.thr.c2; clear hb1) | (go_at_call 37; refine hd2.mono ?_; clear hd2; rintro e w2 ⟨rfl, hb2⟩; have H2 := Lib.hid (H1.out.step hb2); have he3 := H2.out.thr.two.c1; have he4 := H2.out.thr.c2; clear hb2 he1 he2))
        go_ret2
        refine ⟨_, by rw [HE.out]; rfl, ?_, H2.out.below⟩
        unfold pairL
        rw [HE.out]
        exact OwnI.nil _ _ _ _
end Go.Proofs.YtjfbjfclcpcaiaaDoor

/- While isMonotone runs: what of the two domains' memory is needed, and the list. Plain facts on worlds: no function is walked here. -/
namespace Go.Proofs.YtjfbjfclcpcaiaaDoor
open Go.RowKit Go.Deep

structure MK (w : World) (K : World → Prop) (vf : Value) (f : List Int) (W : World) : Prop where
  kept : K W
  f : IntsAt W vf f
  below : Below w.heap.size w W
theorem MK.step {w : World} {K : World → Prop} {vf : Value} {f : List Int} {W W' : World} (h : MK w K vf f W) (hK : Stays w K) (hb : Below W.heap.size W W') : MK w K vf f W' :=
  ⟨hK _ _ (hb.mono h.below.size) h.kept, h.f.below hb, h.below.trans (hb.mono h.below.size)⟩
theorem Stays.and {w : World} {K L : World → Prop} (h : Stays w K) (k : Stays w L) : Stays w (fun W => K W ∧ L W) := fun W W' hb hx => ⟨h W W' hb hx.1, k W W' hb hx.2⟩
theorem run_prod_nilAhead (m : Nat) (v v' : Value) (w : World) : (Go.nilAhead (m + 1) 91 (.agg #[v, v']) "loop.example/scottdomains/impl.below").run Tryd.prog w = .ok (some false) w := by kernel_rfl
end Go.Proofs.YtjfbjfclcpcaiaaDoor
