/- A small domain drawn from a code (l91Domain). -/
import Derived.Test.YtjlemkmpmjdjaaaDoorPa25
import Derived.Test.YtjlemkmpmjdjaaaDoorPa30
import Derived.Test.YtjlemkmpmjdjaaaDoorPa28
import Derived.Test.YtjlemkmpmjdjaaaDoorPa31
import Derived.Test.YtjlemkmpmjdjaaaDoorPa32
import Derived.Test.YtjlemkmpmjdjaaaDoorPa29
namespace Go.Proofs.YtjlemkmpmjdjaaaDoor
open Go.RowKit Go.Deep Go.Shelf

/-- An order of N elements, in memory of its own. -/
def OrdQ (N : Nat) (w : World) (e : Ending) (w' : World) : Prop :=
  ∃ (rows : Rows2) (u : Value), e = .returned (.agg #[u]) ∧ OwnR 3 28 w' u rows.length (rowsF rows) w.heap.size w'.heap.size ∧ Ok rows ∧ rows.length = N ∧ bulk rows ≤ 100000 ∧ Below w.heap.size w w'
/-- Some rows, in memory of their own. -/
def OrdM (w : World) (e : Ending) (w' : World) : Prop :=
  ∃ (rows : Rows2) (u : Value), e = .returned (.agg #[u]) ∧ OwnR 3 28 w' u rows.length (rowsF rows) w.heap.size w'.heap.size ∧ bulk rows ≤ 100000 ∧ Below w.heap.size w w'
theorem OrdNew.made {N : Nat} {R : Nat → List Int} {B : Nat → Nat → Bool} {w : World} {e : Ending} {w' : World} (h : OrdNew N R w e w') (hN : N ≤ 200) (hR : ∀ q, q < N → R q = bRow B q N) :
    ∃ u, e = .returned (.agg #[u]) ∧ OwnR 3 28 w' u (madeL B N).length (rowsF (madeL B N)) w.heap.size w'.heap.size ∧ bulk (madeL B N) ≤ 100000 ∧ Below w.heap.size w w' := by
  obtain ⟨u, rfl, ho, hb⟩ := h
  refine ⟨u, rfl, ?_, by have := made_bulk B N hN; omega, hb⟩
  rw [madeL_len]
  exact ho.congr fun q hq => by rw [hR q hq, rowsF_lt (by rw [madeL_len]; exact hq), madeL_at]
theorem flat_ok {N : Nat} (h1 : 1 ≤ N) (h2 : N ≤ 200) : Ok (madeL flatB N) := by
  refine made_ok h1 h2 (fun a _ => by simp [flatB]) (fun a b _ _ hab hne => ?_) (fun a b c _ _ _ hab hbc => ?_)
  · simp only [flatB, Bool.or_eq_true, decide_eq_true_eq, Bool.or_eq_false_iff, decide_eq_false_iff_not] at hab ⊢
    omega
  · simp only [flatB, Bool.or_eq_true, decide_eq_true_eq] at hab hbc ⊢
    omega
theorem prod_okq {rows rows' : Rows2} (h : Ok rows) (h' : Ok rows') (hl : rows.length * rows'.length ≤ 200) : Ok (madeL (prodB (gridF rows) (gridF rows') rows'.length) (rows.length * rows'.length)) := by
  have n1 := h.len
  have n2 := h'.len
  have hd : ∀ a, a < rows.length * rows'.length → a / rows'.length < rows.length ∧ a % rows'.length < rows'.length := fun a ha =>
    ⟨Nat.div_lt_of_lt_mul (by rw [Nat.mul_comm]; exact ha), Nat.mod_lt _ (by omega)⟩
  refine made_ok (Nat.mul_pos n1.1 n2.1) hl (fun a ha => ?_) (fun a b ha hb hab hne => ?_) (fun a b c ha hb hc hab hbc => ?_)
  · unfold prodB
    rw [h.own _ (hd a ha).1, h'.own _ (hd a ha).2]
    rfl
  · cases hq : prodB (gridF rows) (gridF rows') rows'.length b a with
    | false => rfl
    | true =>
      unfold prodB at hab hq
      rw [Bool.and_eq_true] at hab hq
      have e1 := Lq.anti h hab.1 hq.1
      have e2 := Lq.anti h' hab.2 hq.2
      exact absurd (by rw [← Nat.div_add_mod b rows'.length, ← Nat.div_add_mod a rows'.length, e1, e2]) hne
  · unfold prodB at hab hbc ⊢
    rw [Bool.and_eq_true] at hab hbc ⊢
    exact ⟨Lq.trans h hab.1 hbc.1, Lq.trans h' hab.2 hbc.2⟩
theorem drawFlat_any (n : Nat) (w : World) (hn : n ≤ 199) : Calls Tryd.prog 97 #[.int .i64 (n : Int)] w (OrdQ (n + 1) w) :=
  (l2Flat_any n w hn).mono fun e w' h => by
    obtain ⟨u, h1, h2, h3, h4⟩ := h.made (B := flatB) (by omega) fun _ _ => rfl
    exact ⟨_, u, h1, h2, flat_ok (by omega) (by omega), madeL_len _ _, h3, h4⟩
theorem drawProduct_any (v v' : Value) (rows rows' : Rows2) (w : World) (hv : RowsAt w v rows) (hv' : RowsAt w v' rows') (hok : Ok rows) (hok' : Ok rows') (hl : rows.length * rows'.length ≤ 200) :
    Calls Tryd.prog 118 #[.agg #[v], .agg #[v']] w (OrdQ (rows.length * rows'.length) w) :=
  (l2Product_any v v' rows rows' w hv hv' hok hok' hl).mono fun e w' h => by
    obtain ⟨u, h1, h2, h3, h4⟩ := h.made (B := prodB (gridF rows) (gridF rows') rows'.length) hl fun q hq => prodR_row hok hok' hq
    exact ⟨_, u, h1, h2, prod_okq hok hok' hl, madeL_len _ _, h3, h4⟩
theorem drawLift_any (v : Value) (rows : Rows2) (w : World) (hv : RowsAt w v rows) (hok : Ok rows) (hl : rows.length < 200) : Calls Tryd.prog 119 #[.agg #[v]] w (OrdM w) :=
  (l2Lift_any v rows w hv hok hl).mono fun e w' h => by
    obtain ⟨u, h1, h2, h3, h4⟩ := h.made (B := liftB (gridF rows)) (by omega) fun q hq => liftR_row hok hq
    exact ⟨_, u, h1, h2, h3, h4⟩
theorem drawSum_any (v v' : Value) (rows rows' : Rows2) (w : World) (hv : RowsAt w v rows) (hv' : RowsAt w v' rows') (hok : Ok rows) (hok' : Ok rows') (hl : 1 + rows.length + rows'.length ≤ 200) :
    Calls Tryd.prog 120 #[.agg #[v], .agg #[v']] w (OrdM w) :=
  (l2Sum_any v v' rows rows' w hv hv' hok hok' hl).mono fun e w' h => by
    obtain ⟨u, h1, h2, h3, h4⟩ := h.made (B := sumB (gridF rows) (gridF rows') rows.length) hl fun q hq => sumR_row hok hok' hq
    exact ⟨_, u, h1, h2, h3, h4⟩
theorem drawChain_any (z : Int) (w : World) : Calls Tryd.prog 51 #[.int .i64 z] w (fun e w' => ∃ (rows : Rows2) (u : Value) (t : Bool), e = .returned (.tuple #[.agg #[u], .bool t]) ∧ OwnR 3 28 w' u rows.length (rowsF rows) w.heap.size w'.heap.size ∧ bulk rows ≤ 100000 ∧ Below w.heap.size w w') :=
  (specChain_any z w).mono fun e w' ⟨u, h1, h2, h3⟩ => ⟨chainL z, u, chainOk z, h1, h2, by
    unfold chainL
    split
    · rename_i h
      have := of_decide_eq_true h
      have := made_bulk chainB z.toNat (by omega)
      omega
    · exact Nat.zero_le _, h3⟩

theorem OrdE.later {K K' r p q : Nat} {v : Value} {w W : World} {e : Ending} {w' : World} {x : Value} (hD : Dr r v w q W) (hx : Boxed W w.heap.size 25 x) (h : OrdE K r v q W e w') (hq : q + K ≤ p + K') :
    ∃ (rows : Rows2) (u : Value) (q' : Nat), e = .returned (.agg #[u]) ∧ q' ≤ p + K' ∧ Dr r v w q' w' ∧ Boxed w' w.heap.size 25 x ∧ OwnR 3 28 w' u rows.length (rowsF rows) (w.heap.size + 1) w'.heap.size ∧ bulk rows ≤ 100000 := by
  obtain ⟨rows, u, q', rfl, h1, h2, h3, h4⟩ := h
  have hl := hx.lt
  exact ⟨rows, u, q', rfl, by omega, hD.trans h2, hD.boxed h2 hx (Nat.le_refl _), h3.wider hl (Nat.le_refl _), h4⟩

/-- What is held while a domain is drawn. -/
structure DrS (r : Nat) (v : Value) (w : World) (q : Nat) (W : World) : Prop where
  dr : Dr r v w q W
  res : Boxed W w.heap.size 25 (.slice none 0 0)
theorem DrS.step {r : Nat} {v : Value} {w : World} {q : Nat} {W W' : World} (h : DrS r v w q W) (hb : Below W.heap.size W W') : DrS r v w q W' := ⟨h.dr.step hb, (hb.block _ h.res.lt).trans h.res⟩
theorem DrS.pick {r : Nat} {v : Value} {w : World} {q q' : Nat} {W W' : World} (h : DrS r v w q W) (h2 : Dr r v W q' W') : DrS r v w q' W' := ⟨h.dr.trans h2, h.dr.boxed h2 h.res (Nat.le_refl _)⟩
/-- An order since W is one since w. -/
theorem DrS.own {r : Nat} {v : Value} {w : World} {q : Nat} {W W' : World} (h : DrS r v w q W) {u : Value} {rows : Rows2} (ho : OwnR 3 28 W' u rows.length (rowsF rows) W.heap.size W'.heap.size) : OwnR 3 28 W' u rows.length (rowsF rows) (w.heap.size + 1) W'.heap.size :=
  ho.wider h.res.lt (Nat.le_refl _)

set_option maxRecDepth 100000 in
set_option maxHeartbeats 8000000 in
theorem l91Domain_any (r : Nat) (v : Value) (p : Nat) (most : Nat) (w : World) (hr : RdAt r v p w) (hp : p < 1099510000000) (hm : 3 ≤ most) (hm2 : most ≤ 8) :
    Calls Tryd.prog 93 #[.pointer (some ⟨r, 0, none⟩), .int .i64 (most : Int)] w (OrdE 2048 r v p w) := by
  have h0 : DrS r v w p (w.alloc (.cells #[.slice none 0 0] 25)) := ⟨(Dr.start hr).step ((Below.refl _ _).alloc (Nat.le_refl _) _), Boxed.new w _ _⟩
  have HP := Lib.hid (fun W q (n : Int) (h : RdAt r v q W) (hq : q < 1099511627776) => pick_any r v q n W h hq)
  have hpk := HP.out _ p 20 h0.dr.rd (by omega)
  have H0 := Lib.hid h0
  have hmz : (1 : Int) ≤ (most : Int) := by omega
  have HF := Lib.hid (fun (n : Nat) W (hn : n ≤ 199) => drawFlat_any n W hn)
  have HF1 := Lib.hid (fun W => (show Calls Tryd.prog 97 #[.int .i64 1] W (OrdQ 2 W) from drawFlat_any 1 W (by omega)))
  clear hr h0
  go_enter Tryd.func93, Tryd.ntmps93
  go_wp2_with (go_at_call 88; refine hpk.mono ?_; clear hpk; rintro e w1 ⟨⟨k0, rfl, _, _⟩, hd1⟩; have H1 := Lib.hid (H0.out.pick hd1); clear hd1; by_cases hk0 : (k0 : Int) = 0)
  · refine (l91Order_any r v (p + 1) most w1 H1.out.dr.rd (by omega) (by omega) (by omega)).mono ?_
    rintro e w2 ho
    obtain ⟨rows, u, q', rfl, hq, hd2, hb2, ho2, hbk⟩ := OrdE.later (p := p) (K' := 2048) H1.out.dr H1.out.res ho (by omega)
    obtain ⟨a2, C2, rfl⟩ := ho2.form
    have H2 : Hid (DrS r v w q' w2) := Lib.hid ⟨hd2, hb2⟩
    have HO := Lib.hid ho2
    have hres := hb2.cell
    have hrf := hb2.frozen
    clear ho hd2 hb2 ho2
    go_wp2
    have hc9 := World.cell?_setCell_same' w2 ⟨w.heap.size, 0, none⟩ (.slice a2 rows.length C2) (by rw [H2.out.res.cell]; rfl)
    refine bodyPost_ret (v := .agg #[.slice a2 rows.length C2]) (by simp [results, Tryd.results93, go_sem, hc9]) rfl ?_
    exact OrdE.fin H2.out.dr H2.out.res HO.out hbk (by omega)
  · have hpk7 := HP.out w1 (p + 1) 7 H1.out.dr.rd (by omega)
    go_upto_region 4 with (go_at_call 88; refine hpk7.mono ?_; clear hpk7; rintro e w2 ⟨⟨k1, rfl, hk1, _⟩, hd2⟩; have H2 := Lib.hid (H1.out.pick hd2); clear hd2)
    have hk7 := hk1 (by omega)
    have hmin : min (2 : Int) ((most : Int) - 1) = 2 := by omega
    have HPK := Lib.hid trivial
    clear hk0 hk1 H0 H1
    have hall : k1 = 0 ∨ k1 = 1 ∨ k1 = 2 ∨ k1 = 3 ∨ k1 = 4 ∨ k1 = 5 ∨ k1 = 6 := by omega
    rcases hall with hk | hk | hk | hk | hk | hk | hk
    · have hkc : (k1 : Int) = 0 := by omega
      clear hk
      have hpm := HP.out w2 (p + 1 + 1) most H2.out.dr.rd (by omega)
      go_wp2_with (first | (go_at_call 88; refine hpm.mono ?_; clear hpm; rintro e w3 ⟨⟨k2, rfl, hk2, _⟩, hd⟩; have hk2 := hk2 hmz; have H3 := Lib.hid (H2.out.pick hd); clear hd) | (go_at_call 97; refine (HF.out k2 w3 (by omega)).mono ?_; clear HF; rintro e w4 ⟨LA, uA, rfl, ho, okA, hlA, hbkA, hb⟩; have HLA := Lib.hid hlA; clear hlA; obtain ⟨aA, CA, rfl⟩ := ho.form; have OA := Lib.hid (H3.out.own ho); have RA := Lib.hid ho.at; have H4 := Lib.hid (H3.out.step hb); have hres := H4.out.res.cell; have hrf := H4.out.res.frozen; clear ho hb))
      have hc9 := World.cell?_setCell_same' w4 ⟨w.heap.size, 0, none⟩ (.slice aA LA.length CA) (by rw [H4.out.res.cell]; rfl)
      refine bodyPost_ret (v := .agg #[.slice aA LA.length CA]) (by simp [results, Tryd.results93, go_sem, hc9]) rfl ?_
      exact OrdE.fin H4.out.dr H4.out.res OA.out hbkA (by omega)
    · have hkc : (k1 : Int) = 1 := by omega
      clear hk
      have hpm := HP.out w2 (p + 1 + 1) most H2.out.dr.rd (by omega)
      go_wp2_with (first | (go_at_call 88; refine hpm.mono ?_; clear hpm; rintro e w3 ⟨⟨k2, rfl, hk2, _⟩, hd⟩; have hk2 := hk2 hmz; have H3 := Lib.hid (H2.out.pick hd); clear hd) | (go_at_call 51; refine (drawChain_any _ w3).mono ?_; rintro e w4 ⟨LA, uA, tA, rfl, ho, hbkA, hb⟩; obtain ⟨aA, CA, rfl⟩ := ho.form; have h4 := H3.out.step hb; have hal := (Below.refl w4.heap.size w4).alloc (Nat.le_refl _) (.cells #[.slice aA LA.length CA] 25); have H5 := Lib.hid (h4.step hal); have OA := Lib.hid (((H3.out.own ho).below hal (Nat.le_refl _)).wider (Nat.le_refl _) hal.size); have hres := H5.out.res.cell; have hrf := H5.out.res.frozen; clear ho hb h4 hal))
      have hc9 := World.cell?_setCell_same' (w4.alloc (.cells #[.slice aA LA.length CA] 25)) ⟨w.heap.size, 0, none⟩ (.slice aA LA.length CA) (by rw [H5.out.res.cell]; rfl)
      refine bodyPost_ret (v := .agg #[.slice aA LA.length CA]) (by simp [results, Tryd.results93, go_sem, hc9]) rfl ?_
      exact OrdE.fin H5.out.dr H5.out.res OA.out hbkA (by omega)
    · have hkc : (k1 : Int) = 2 := by omega
      clear hk
      by_cases hge : 4 ≤ most
      · have hgz : (4 : Int) ≤ (most : Int) := by omega
        have HF2 := HF1
        go_wp2_with (first | (go_at_call 97; refine (HF1.out w2).mono ?_; clear HF1; rintro e w3 ⟨LA, uA, rfl, ho, okA, hlA, hbkA, hb⟩; have HLA := Lib.hid hlA; clear hlA; obtain ⟨aA, CA, rfl⟩ := ho.form; have OA := Lib.hid (H2.out.own ho); have RA := Lib.hid ho.at; have H3 := Lib.hid (H2.out.step hb); clear ho hb) | (go_at_call 97; refine (HF2.out w3).mono ?_; clear HF2; rintro e w4 ⟨LB, uB, rfl, ho, okB, hlB, hbkB, hb⟩; have HLB := Lib.hid hlB; clear hlB; obtain ⟨aB, CB, rfl⟩ := ho.form; have OB := Lib.hid (H3.out.own ho); have RB := Lib.hid ho.at; have H4 := Lib.hid (H3.out.step hb); have RA2 := Lib.hid (RA.out.below hb); clear ho hb) | (go_at_call 118; refine (drawProduct_any _ _ LA LB w4 RA2.out RB.out okA okB (by rw [HLA.out, HLB.out]; decide)).mono ?_; rintro e w5 ⟨LP, uP, rfl, ho, okP, hlP, hbkP, hb⟩; have HLP := Lib.hid hlP; clear hlP; obtain ⟨aP, CP, rfl⟩ := ho.form; have OP := Lib.hid (H4.out.own ho); have RP := Lib.hid ho.at; have H5 := Lib.hid (H4.out.step hb); have hres := H5.out.res.cell; have hrf := H5.out.res.frozen; clear ho hb))
        have hc9 := World.cell?_setCell_same' w5 ⟨w.heap.size, 0, none⟩ (.slice aP LP.length CP) (by rw [H5.out.res.cell]; rfl)
        refine bodyPost_ret (v := .agg #[.slice aP LP.length CP]) (by simp [results, Tryd.results93, go_sem, hc9]) rfl ?_
        exact OrdE.fin H5.out.dr H5.out.res OP.out hbkP (by omega)
      · have hgz : ¬ (4 : Int) ≤ (most : Int) := by omega
        go_wp2_with (go_at_call 97; refine (HF.out 2 w2 (by omega)).mono ?_; clear HF; rintro e w3 ⟨LA, uA, rfl, ho, okA, hlA, hbkA, hb⟩; have HLA := Lib.hid hlA; clear hlA; obtain ⟨aA, CA, rfl⟩ := ho.form; have OA := Lib.hid (H2.out.own ho); have RA := Lib.hid ho.at; have H3 := Lib.hid (H2.out.step hb); have hres := H3.out.res.cell; have hrf := H3.out.res.frozen; clear ho hb)
        have hc9 := World.cell?_setCell_same' w3 ⟨w.heap.size, 0, none⟩ (.slice aA LA.length CA) (by rw [H3.out.res.cell]; rfl)
        refine bodyPost_ret (v := .agg #[.slice aA LA.length CA]) (by simp [results, Tryd.results93, go_sem, hc9]) rfl ?_
        exact OrdE.fin H3.out.dr H3.out.res OA.out hbkA (by omega)
    · have hkc : (k1 : Int) = 3 := by omega
      clear hk
      by_cases hge : 5 ≤ most
      · have hgz : (5 : Int) ≤ (most : Int) := by omega
        have HF2 := HF1
        go_wp2_with (first | (go_at_call 97; refine (HF1.out w2).mono ?_; clear HF1; rintro e w3 ⟨LA, uA, rfl, ho, okA, hlA, hbkA, hb⟩; have HLA := Lib.hid hlA; clear hlA; obtain ⟨aA, CA, rfl⟩ := ho.form; have OA := Lib.hid (H2.out.own ho); have RA := Lib.hid ho.at; have H3 := Lib.hid (H2.out.step hb); clear ho hb) | (go_at_call 97; refine (HF2.out w3).mono ?_; clear HF2; rintro e w4 ⟨LB, uB, rfl, ho, okB, hlB, hbkB, hb⟩; have HLB := Lib.hid hlB; clear hlB; obtain ⟨aB, CB, rfl⟩ := ho.form; have OB := Lib.hid (H3.out.own ho); have RB := Lib.hid ho.at; have H4 := Lib.hid (H3.out.step hb); have RA2 := Lib.hid (RA.out.below hb); clear ho hb) | (go_at_call 118; refine (drawProduct_any _ _ LA LB w4 RA2.out RB.out okA okB (by rw [HLA.out, HLB.out]; decide)).mono ?_; rintro e w5 ⟨LP, uP, rfl, ho, okP, hlP, hbkP, hb⟩; have HLP := Lib.hid hlP; clear hlP; obtain ⟨aP, CP, rfl⟩ := ho.form; have OP := Lib.hid (H4.out.own ho); have RP := Lib.hid ho.at; have H5 := Lib.hid (H4.out.step hb); clear ho hb) | (go_at_call 119; refine (drawLift_any _ LP w5 RP.out okP (by rw [HLP.out, HLA.out, HLB.out]; decide)).mono ?_; rintro e w6 ⟨LL, uL, rfl, ho, hbkL, hb⟩; obtain ⟨aL, CL, rfl⟩ := ho.form; have OL := Lib.hid (H5.out.own ho); have H6 := Lib.hid (H5.out.step hb); have hres := H6.out.res.cell; have hrf := H6.out.res.frozen; clear ho hb))
        have hc9 := World.cell?_setCell_same' w6 ⟨w.heap.size, 0, none⟩ (.slice aL LL.length CL) (by rw [H6.out.res.cell]; rfl)
        refine bodyPost_ret (v := .agg #[.slice aL LL.length CL]) (by simp [results, Tryd.results93, go_sem, hc9]) rfl ?_
        exact OrdE.fin H6.out.dr H6.out.res OL.out hbkL (by omega)
      · have hgz : ¬ (5 : Int) ≤ (most : Int) := by omega
        go_wp2_with (go_at_call 97; refine (HF.out 2 w2 (by omega)).mono ?_; clear HF; rintro e w3 ⟨LA, uA, rfl, ho, okA, hlA, hbkA, hb⟩; have HLA := Lib.hid hlA; clear hlA; obtain ⟨aA, CA, rfl⟩ := ho.form; have OA := Lib.hid (H2.out.own ho); have RA := Lib.hid ho.at; have H3 := Lib.hid (H2.out.step hb); have hres := H3.out.res.cell; have hrf := H3.out.res.frozen; clear ho hb)
        have hc9 := World.cell?_setCell_same' w3 ⟨w.heap.size, 0, none⟩ (.slice aA LA.length CA) (by rw [H3.out.res.cell]; rfl)
        refine bodyPost_ret (v := .agg #[.slice aA LA.length CA]) (by simp [results, Tryd.results93, go_sem, hc9]) rfl ?_
        exact OrdE.fin H3.out.dr H3.out.res OA.out hbkA (by omega)
    · have hkc : (k1 : Int) = 4 := by omega
      clear hk
      by_cases hge : 4 ≤ most
      · have hgz : (4 : Int) ≤ (most : Int) := by omega
        have hpm := HP.out w2 (p + 1 + 1) ((most : Int) - 1) H2.out.dr.rd (by omega)
        go_wp2_with (first | (go_at_call 88; refine hpm.mono ?_; clear hpm; rintro e w3 ⟨⟨k2, rfl, hk2, _⟩, hd⟩; have hk2 := hk2 (by omega); have H3 := Lib.hid (H2.out.pick hd); clear hd) | (go_at_call 97; refine (HF.out k2 w3 (by omega)).mono ?_; clear HF; rintro e w4 ⟨LA, uA, rfl, ho, okA, hlA, hbkA, hb⟩; have HLA := Lib.hid hlA; clear hlA; obtain ⟨aA, CA, rfl⟩ := ho.form; have OA := Lib.hid (H3.out.own ho); have RA := Lib.hid ho.at; have H4 := Lib.hid (H3.out.step hb); clear ho hb) | (go_at_call 119; refine (drawLift_any _ LA w4 RA.out okA (by rw [HLA.out]; omega)).mono ?_; rintro e w5 ⟨LL, uL, rfl, ho, hbkL, hb⟩; obtain ⟨aL, CL, rfl⟩ := ho.form; have OL := Lib.hid (H4.out.own ho); have H5 := Lib.hid (H4.out.step hb); have hres := H5.out.res.cell; have hrf := H5.out.res.frozen; clear ho hb))
        have hc9 := World.cell?_setCell_same' w5 ⟨w.heap.size, 0, none⟩ (.slice aL LL.length CL) (by rw [H5.out.res.cell]; rfl)
        refine bodyPost_ret (v := .agg #[.slice aL LL.length CL]) (by simp [results, Tryd.results93, go_sem, hc9]) rfl ?_
        exact OrdE.fin H5.out.dr H5.out.res OL.out hbkL (by omega)
      · have hgz : ¬ (4 : Int) ≤ (most : Int) := by omega
        go_wp2_with (go_at_call 97; refine (HF.out 2 w2 (by omega)).mono ?_; clear HF; rintro e w3 ⟨LA, uA, rfl, ho, okA, hlA, hbkA, hb⟩; have HLA := Lib.hid hlA; clear hlA; obtain ⟨aA, CA, rfl⟩ := ho.form; have OA := Lib.hid (H2.out.own ho); have RA := Lib.hid ho.at; have H3 := Lib.hid (H2.out.step hb); have hres := H3.out.res.cell; have hrf := H3.out.res.frozen; clear ho hb)
        have hc9 := World.cell?_setCell_same' w3 ⟨w.heap.size, 0, none⟩ (.slice aA LA.length CA) (by rw [H3.out.res.cell]; rfl)
        refine bodyPost_ret (v := .agg #[.slice aA LA.length CA]) (by simp [results, Tryd.results93, go_sem, hc9]) rfl ?_
        exact OrdE.fin H3.out.dr H3.out.res OA.out hbkA (by omega)
    · have hkc : (k1 : Int) = 5 := by omega
      clear hk
      by_cases hge : 5 ≤ most
      · have hgz : (5 : Int) ≤ (most : Int) := by omega
        have hpm := fun W (h : RdAt r v (p + 1 + 1) W) => HP.out W (p + 1 + 1) ((most : Int) - 3) h (by omega)
        go_wp2_with (first | (go_at_call 97; refine (HF1.out w2).mono ?_; clear HF1; rintro e w3 ⟨LA, uA, rfl, ho, okA, hlA, hbkA, hb⟩; have HLA := Lib.hid hlA; clear hlA; obtain ⟨aA, CA, rfl⟩ := ho.form; have OA := Lib.hid (H2.out.own ho); have RA := Lib.hid ho.at; have H3 := Lib.hid (H2.out.step hb); clear ho hb) | (go_at_call 88; refine (hpm w3 H3.out.dr.rd).mono ?_; clear hpm; rintro e w4 ⟨⟨k2, rfl, hk2, _⟩, hd⟩; have hk2 := hk2 (by omega); have RA2 := Lib.hid (H3.out.dr.ownR hd OA.out (Nat.le_succ _) (Nat.le_refl _)).at; have H4 := Lib.hid (H3.out.pick hd); clear hd) | (go_at_call 97; refine (HF.out k2 w4 (by omega)).mono ?_; clear HF; rintro e w5 ⟨LB, uB, rfl, ho, okB, hlB, hbkB, hb⟩; have HLB := Lib.hid hlB; clear hlB; obtain ⟨aB, CB, rfl⟩ := ho.form; have OB := Lib.hid (H4.out.own ho); have RB := Lib.hid ho.at; have H5 := Lib.hid (H4.out.step hb); have RA3 := Lib.hid (RA2.out.below hb); clear ho hb) | (go_at_call 120; refine (drawSum_any _ _ LA LB w5 RA3.out RB.out okA okB (by rw [HLA.out, HLB.out]; omega)).mono ?_; rintro e w6 ⟨LL, uL, rfl, ho, hbkL, hb⟩; obtain ⟨aL, CL, rfl⟩ := ho.form; have OL := Lib.hid (H5.out.own ho); have H6 := Lib.hid (H5.out.step hb); have hres := H6.out.res.cell; have hrf := H6.out.res.frozen; clear ho hb))
        have hc9 := World.cell?_setCell_same' w6 ⟨w.heap.size, 0, none⟩ (.slice aL LL.length CL) (by rw [H6.out.res.cell]; rfl)
        refine bodyPost_ret (v := .agg #[.slice aL LL.length CL]) (by simp [results, Tryd.results93, go_sem, hc9]) rfl ?_
        exact OrdE.fin H6.out.dr H6.out.res OL.out hbkL (by omega)
      · have hgz : ¬ (5 : Int) ≤ (most : Int) := by omega
        go_wp2_with (go_at_call 97; refine (HF.out 2 w2 (by omega)).mono ?_; clear HF; rintro e w3 ⟨LA, uA, rfl, ho, okA, hlA, hbkA, hb⟩; have HLA := Lib.hid hlA; clear hlA; obtain ⟨aA, CA, rfl⟩ := ho.form; have OA := Lib.hid (H2.out.own ho); have RA := Lib.hid ho.at; have H3 := Lib.hid (H2.out.step hb); have hres := H3.out.res.cell; have hrf := H3.out.res.frozen; clear ho hb)
        have hc9 := World.cell?_setCell_same' w3 ⟨w.heap.size, 0, none⟩ (.slice aA LA.length CA) (by rw [H3.out.res.cell]; rfl)
        refine bodyPost_ret (v := .agg #[.slice aA LA.length CA]) (by simp [results, Tryd.results93, go_sem, hc9]) rfl ?_
        exact OrdE.fin H3.out.dr H3.out.res OA.out hbkA (by omega)
    · have hkc : (k1 : Int) = 6 := by omega
      clear hk
      go_wp2_with (go_at_call 97; refine (HF.out 2 w2 (by omega)).mono ?_; clear HF; rintro e w3 ⟨LA, uA, rfl, ho, okA, hlA, hbkA, hb⟩; have HLA := Lib.hid hlA; clear hlA; obtain ⟨aA, CA, rfl⟩ := ho.form; have OA := Lib.hid (H2.out.own ho); have RA := Lib.hid ho.at; have H3 := Lib.hid (H2.out.step hb); have hres := H3.out.res.cell; have hrf := H3.out.res.frozen; clear ho hb)
      have hc9 := World.cell?_setCell_same' w3 ⟨w.heap.size, 0, none⟩ (.slice aA LA.length CA) (by rw [H3.out.res.cell]; rfl)
      refine bodyPost_ret (v := .agg #[.slice aA LA.length CA]) (by simp [results, Tryd.results93, go_sem, hc9]) rfl ?_
      exact OrdE.fin H3.out.dr H3.out.res OA.out hbkA (by omega)
end Go.Proofs.YtjlemkmpmjdjaaaDoor

/- Two elements drawn from a code (l91Two), and an order with them (l91Elements). -/
namespace Go.Proofs.YtjlemkmpmjdjaaaDoor
open Go.RowKit Go.Deep Go.Shelf

/-- Two numbers, drawn. -/
def TwoD2 (r : Nat) (v : Value) (p : Nat) (w : World) (e : Ending) (w' : World) : Prop :=
  ∃ (a b : Int) (q : Nat), e = .returned (.tuple #[.int .i64 a, .int .i64 b]) ∧ q ≤ p + 3 ∧ Dr r v w q w'
theorem Dr.cell {r : Nat} {v : Value} {w : World} {q : Nat} {W : World} (h : Dr r v w q W) {b o : Nat} {x : Value} (hc : w.cell? ⟨b, o, none⟩ = some x) (hb : b ≠ r) : W.cell? ⟨b, o, none⟩ = some x := by
  have hl := cell_lt hc
  have e : W.heap[b]? = w.heap[b]? := by
    rcases Nat.lt_or_ge b r with hlt | hge
    · exact h.turned.below.block b hlt
    · exact h.turned.above b (by omega) hl
  rw [World.cell?_of_block e]
  exact hc

set_option maxRecDepth 100000 in
set_option maxHeartbeats 4000000 in
theorem l91Two_any (r : Nat) (v : Value) (p : Nat) (a : Option Addr) (n C : Nat) (w : World) (hr : RdAt r v p w) (hp : p < 1099511000000) (hn : n ≤ 1048576) :
    Calls Tryd.prog 109 #[.pointer (some ⟨r, 0, none⟩), .agg #[.slice a n C]] w (TwoD2 r v p w) := by
  have h0 := (Dr.start hr).step ((Below.refl w.heap.size w).alloc (Nat.le_refl _) (.cells #[.slice a n C] 25))
  have HP := Lib.hid (fun W q (n : Int) (h : RdAt r v q W) (hq : q < 1099511627776) => pick_any r v q n W h hq)
  have hbx := (Boxed.new w 25 (.slice a n C)).cell
  have hrw := hr.lt
  have HK := Lib.hid (fun (W W' : World) (x y : Value) (q : Nat) (hD : Dr r v (W.alloc (.cells #[x, y] 3)) q W') (hw : r < W.heap.size) => show W'.cell? ⟨W.heap.size, 0, none⟩ = some x ∧ W'.cell? ⟨W.heap.size, 1, none⟩ = some y by
    have h := World.rowIs_alloc W #[x, y] 3 (fun i => if i = 0 then x else y) (fun i hi => by
      have : i < 2 := by simpa using hi
      match i, this with
      | 0, _ => rfl
      | 1, _ => rfl)
    exact ⟨hD.cell (by rw [h.cell (by simp)]; rfl) (by omega), hD.cell (by rw [h.cell (by simp)]; rfl) (by omega)⟩)
  have H0 := Lib.hid h0
  have hz0 : r < (w.alloc (.cells #[.slice a n C] 25)).heap.size := by rw [World.size_alloc]; omega
  clear hr h0
  by_cases h0 : n = 0
  · subst h0
    have hnb : (((0 : Nat) : Int) == 0) = true := rfl
    go_enter Tryd.func109, Tryd.ntmps109
    go_upto_region 3 with fail
    generalize w.alloc (.cells #[.slice a 0 C] 25) = wA at H0 hz0 ⊢
    have hrA := hz0
    have hst := H0.out.step ((Below.refl wA.heap.size wA).alloc (Nat.le_refl _) (.cells #[.int .i64 (-1), .int .i64 0] 3))
    have hpk := HP.out _ (p) 2 hst.rd (by omega)
    have HST := Lib.hid hst
    clear hst
    go_wp2_with (go_at_call 88; refine hpk.mono ?_; clear hpk; rintro e w2 ⟨⟨k, rfl, hk, _⟩, hd⟩; have hk2 := hk (by omega); obtain ⟨hc0, hc1⟩ := HK.out wA w2 _ _ _ hd hrA; have D2 := Lib.hid (HST.out.trans hd); clear hd hk; rcases (show (k : Int) = 0 ∨ (k : Int) = 1 by omega) with hkz | hkz)
    · refine bodyPost_ret (v := .tuple #[.int .i64 (-1), .int .i64 0]) (by simp [results, Tryd.results109, go_sem]) rfl ?_
      exact ⟨_, _, _, rfl, by omega, D2.out⟩
    · refine bodyPost_ret (v := .tuple #[.int .i64 0, .int .i64 0]) (by simp [results, Tryd.results109, go_sem]) rfl ?_
      exact ⟨_, _, _, rfl, by omega, D2.out⟩
  · have hnb : ((n : Int) == 0) = false := by rw [beq_eq_false_iff_ne]; omega
    have hn1 : (1 : Int) ≤ (n : Int) := by omega
    clear h0
    go_enter Tryd.func109, Tryd.ntmps109
    go_upto_region 2 with fail
    generalize w.alloc (.cells #[.slice a n C] 25) = wA at H0 hz0 ⊢
    have hpk0 := HP.out _ p 30 H0.out.rd (by omega)
    go_upto_region 3 with (go_at_call 88; refine hpk0.mono ?_; clear hpk0; rintro e w1 ⟨⟨k0, rfl, _, _⟩, hd⟩; have D1 := Lib.hid (H0.out.trans hd); have hrA := D1.out.rd.lt; clear hd; cases hkb : ((k0 : Int) == 0))
    · refine (HP.out w1 (p + 1) n D1.out.rd (by omega)).mono ?_
      rintro e w2 ⟨⟨k1, rfl, _, _⟩, hd⟩
      have D2 := Lib.hid (D1.out.trans hd)
      have hpk2 := HP.out w2 (p + 1 + 1) n D2.out.rd (by omega)
      clear hd
      go_wp2_with (go_at_call 88; refine hpk2.mono ?_; clear hpk2; rintro e w3 ⟨⟨k2, rfl, _, _⟩, hd⟩; have D3 := Lib.hid (D2.out.trans hd); clear hd)
      refine bodyPost_ret (v := .tuple #[.int .i64 (k1 : Int), .int .i64 (k2 : Int)]) (by simp [results, Tryd.results109, go_sem]) rfl ?_
      exact ⟨_, _, _, rfl, by omega, D3.out⟩
    · clear hn1
      have hst := D1.out.step ((Below.refl w1.heap.size w1).alloc (Nat.le_refl _) (.cells #[.int .i64 (-1), .int .i64 (n : Int)] 3))
      have hpk := HP.out _ (p + 1) 2 hst.rd (by omega)
      have HST := Lib.hid hst
      clear hst
      go_wp2_with (go_at_call 88; refine hpk.mono ?_; clear hpk; rintro e w2 ⟨⟨k, rfl, hk, _⟩, hd⟩; have hk2 := hk (by omega); obtain ⟨hc0, hc1⟩ := HK.out w1 w2 _ _ _ hd hrA; have D2 := Lib.hid (HST.out.trans hd); clear hd hk; rcases (show (k : Int) = 0 ∨ (k : Int) = 1 by omega) with hkz | hkz)
      · refine bodyPost_ret (v := .tuple #[.int .i64 (-1), .int .i64 0]) (by simp [results, Tryd.results109, go_sem]) rfl ?_
        exact ⟨_, _, _, rfl, by omega, D2.out⟩
      · refine bodyPost_ret (v := .tuple #[.int .i64 (n : Int), .int .i64 0]) (by simp [results, Tryd.results109, go_sem]) rfl ?_
        exact ⟨_, _, _, rfl, by omega, D2.out⟩

/-- An order and two numbers, drawn by a new reader. -/
def OrdT (w : World) (e : Ending) (w' : World) : Prop :=
  ∃ (rows : Rows2) (u : Value) (a b : Int), e = .returned (.tuple #[.agg #[u], .int .i64 a, .int .i64 b]) ∧ OwnR 3 28 w' u rows.length (rowsF rows) w.heap.size w'.heap.size ∧ bulk rows ≤ 100000 ∧ Below w.heap.size w w'

set_option maxRecDepth 100000 in
set_option maxHeartbeats 4000000 in
theorem l91Elements_any (v : Value) (w : World) (hv : CodeAt w.heap.size w v) : Calls Tryd.prog 71 #[v] w (OrdT w) := by
  have s1 : (w.alloc (.cells #[.slice none 0 0] 25)).heap.size = w.heap.size + 1 := World.size_alloc _ _
  have b1 := (Below.refl w.heap.size w).alloc (Nat.le_refl _) (.cells #[.slice none 0 0] 25)
  have hopen := l6Open_any v (w.alloc (.cells #[.slice none 0 0] 25)) ((hv.below b1).wider (by rw [s1]; exact Nat.le_succ _))
  have HX := Lib.hid (Boxed.new w 25 (.slice none 0 0))
  have B1 := Lib.hid b1
  have S1 := Lib.hid s1
  have hord := fun W v' (h : RdAt (w.heap.size + 1) v' 0 W) => (show Calls Tryd.prog 64 #[.pointer (some ⟨w.heap.size + 1, 0, none⟩), .int .i64 7] W (OrdD (w.heap.size + 1) v' 0 W) from l91Order_any (w.heap.size + 1) v' 0 7 W h (by omega) (by omega) (by omega))
  have hdom := fun W v' q (h : RdAt (w.heap.size + 1) v' q W) (hq : q < 2000) => (show Calls Tryd.prog 93 #[.pointer (some ⟨w.heap.size + 1, 0, none⟩), .int .i64 7] W (OrdE 2048 (w.heap.size + 1) v' q W) from l91Domain_any (w.heap.size + 1) v' q 7 W h (by omega) (by omega) (by omega))
  have HDOM := Lib.hid hdom
  have HP := Lib.hid (fun v' W q (n : Int) (h : RdAt (w.heap.size + 1) v' q W) (hq : q < 1099511627776) => pick_any (w.heap.size + 1) v' q n W h hq)
  have HT2 := Lib.hid (fun v' W q a n C (h : RdAt (w.heap.size + 1) v' q W) (hq : q < 5000) (hn : n ≤ 1048576) => l91Two_any (w.heap.size + 1) v' q a n C W h (by omega) hn)
  clear b1 s1 hv hdom
  go_enter Tryd.func71, Tryd.ntmps71
  go_upto_region 2 with (go_at_call 65; refine hopen.mono ?_; clear hopen; rintro e w1 ⟨v', rfl, hr, hb, hz⟩; rw [S1.out] at hr hb hz; have HR := Lib.hid hr; have HB := Lib.hid (B1.out.trans (hb.mono (Nat.le_succ _))); have HX1 : Hid (Boxed w1 w.heap.size 25 (.slice none 0 0)) := Lib.hid ((hb.block _ (Nat.lt_succ_self _)).trans HX.out); have HZ := Lib.hid hz; clear hr hb hz)
  have hcalo := hord w1 v' HR.out
  go_upto_region 3 with (go_at_call 64; refine hcalo.mono ?_; clear hcalo; rintro e w2 ⟨rows, u, q, rfl, hq, hd, ho, hbk⟩; obtain ⟨au, Cu, rfl⟩ := ho.form; have D2 := Lib.hid hd; have O2 := Lib.hid ho; clear hd ho)
  obtain ⟨w3, hw3⟩ : ∃ w3 : World, w3 = w2.alloc (.cells #[.slice au rows.length Cu] 25) := ⟨_, rfl⟩
  have hb3 : Below w2.heap.size w2 w3 := by rw [hw3]; exact (Below.refl _ _).alloc (Nat.le_refl _) _
  have bo3 : Boxed w3 w2.heap.size 25 (.slice au rows.length Cu) := by rw [hw3]; exact Boxed.new _ _ _
  have D3 := Lib.hid (D2.out.step hb3)
  have B3 := Lib.hid bo3
  have O3 : Hid (OwnR 3 28 w3 (.slice au rows.length Cu) rows.length (rowsF rows) w1.heap.size w3.heap.size) := Lib.hid ((O2.out.below hb3 (Nat.le_refl _)).wider (Nat.le_refl _) hb3.size)
  have HZ2 := Lib.hid D2.out.size
  rw [← hw3]
  clear hw3 hb3 bo3 D2 O2 hord
  generalize w2.heap.size = Z at B3 HZ2 ⊢
  have hpk := HP.out v' w3 q 2 D3.out.rd (by omega)
  go_upto_region 4 with (go_at_call 88; refine hpk.mono ?_; clear hpk; rintro e w4 ⟨⟨k, rfl, _, _⟩, hd⟩; have B4 := Lib.hid (D3.out.boxed hd B3.out HZ2.out); have O4 := Lib.hid ((D3.out.ownR hd O3.out (Nat.le_refl _) (Nat.le_refl _)).wider (Nat.le_refl _) hd.size); have D4 := Lib.hid (D3.out.trans hd); have hcB := B4.out.cell; have hfB := B4.out.frozen; clear hd B3 O3 D3; cases hkb : ((k : Int) == 0))
  · have hlen : rows.length ≤ 1048576 := by have := hbk; unfold bulk at this; omega
    have hct := HT2.out v' w4 (q + 1) au rows.length Cu D4.out.rd (by omega) hlen
    refine hct.mono ?_
    clear hct
    rintro e wT ⟨x, y, qT, rfl, hqT, hd⟩
    have BT := Lib.hid (D4.out.boxed hd B4.out HZ2.out); have OT := Lib.hid ((D4.out.ownR hd O4.out (Nat.le_refl _) (Nat.le_refl _)).wider (Nat.le_refl _) hd.size); have DT := Lib.hid (D4.out.trans hd); have XT : Hid (Boxed wT w.heap.size 25 (.slice none 0 0)) := Lib.hid ((DT.out.turned.below.block _ (Nat.lt_succ_self _)).trans HX1.out); have hcT := BT.out.cell; have hres := XT.out.cell; have hrf := XT.out.frozen; clear hd
    go_wp2
    have hc9 := World.cell?_setCell_same' wT ⟨w.heap.size, 0, none⟩ (.slice au rows.length Cu) (by rw [hres]; rfl)
    refine bodyPost_ret (v := .tuple #[.agg #[.slice au rows.length Cu], .int .i64 x, .int .i64 y]) (by simp [results, Tryd.results71, go_sem, hc9]) rfl ?_
    refine ⟨rows, _, x, y, rfl, ?_, hbk, (HB.out.trans (DT.out.turned.below.mono (Nat.le_succ _))).setCell (p := ⟨w.heap.size, 0, none⟩) (Nat.le_refl _) _⟩
    rw [size_setCell]
    exact (OT.out.kept fun b hb _ => Below.heap_setCell _ _ _ b (show b ≠ w.heap.size by have := HZ.out; omega)).wider (by have := HZ.out; omega) (Nat.le_refl _)
  · have hcd := HDOM.out w4 v' (q + 1) D4.out.rd (by omega)
    go_upto_region 5 with (go_at_call 93; refine hcd.mono ?_; clear hcd; rintro e w5 ⟨rows2, u2, q2, rfl, hq2, hd, ho, hbk2⟩; obtain ⟨a2, C2, rfl⟩ := ho.form; have B5 := Lib.hid (D4.out.boxed hd B4.out HZ2.out); have O5 := Lib.hid (ho.wider D4.out.size (Nat.le_refl _)); have O6 := Lib.hid (ho); have D5 := Lib.hid (D4.out.trans hd); have hcb := B5.out.cell; have hfb := B5.out.frozen; have HW4 := Lib.hid (show Z < w4.heap.size from B4.out.lt); clear hd ho)
    have D6 := Lib.hid (D5.out.setNew HZ2.out 0 (.slice a2 rows2.length C2))
    have B6 := Lib.hid (B5.out.set (.slice a2 rows2.length C2))
    have O7 : Hid (OwnR 3 28 (w5.setCell ⟨Z, 0, none⟩ (.slice a2 rows2.length C2)) (.slice a2 rows2.length C2) rows2.length (rowsF rows2) w1.heap.size (w5.setCell ⟨Z, 0, none⟩ (.slice a2 rows2.length C2)).heap.size) := Lib.hid (by
      rw [size_setCell]
      exact (O6.out.kept fun b hb _ => Below.heap_setCell _ _ _ b (show b ≠ Z by have := HW4.out; omega)).wider D4.out.size (Nat.le_refl _))
    generalize w5.setCell ⟨Z, 0, none⟩ (.slice a2 rows2.length C2) = w6 at D6 B6 O7 ⊢
    clear B5 O5 O6 D5 hcb hfb hcB hfB
    have hlen : rows2.length ≤ 1048576 := by have := hbk2; unfold bulk at this; omega
    have hcB := B6.out.cell
    have hct := HT2.out v' w6 (q2) a2 rows2.length C2 D6.out.rd (by omega) hlen
    go_wp2_with (go_at_call 109; refine hct.mono ?_; clear hct; rintro e wT ⟨x, y, qT, rfl, hqT, hd⟩; have BT := Lib.hid (D6.out.boxed hd B6.out HZ2.out); have OT := Lib.hid ((D6.out.ownR hd O7.out (Nat.le_refl _) (Nat.le_refl _)).wider (Nat.le_refl _) hd.size); have DT := Lib.hid (D6.out.trans hd); have XT : Hid (Boxed wT w.heap.size 25 (.slice none 0 0)) := Lib.hid ((DT.out.turned.below.block _ (Nat.lt_succ_self _)).trans HX1.out); have hcT := BT.out.cell; have hres := XT.out.cell; have hrf := XT.out.frozen; clear hd)
    have hc9 := World.cell?_setCell_same' wT ⟨w.heap.size, 0, none⟩ (.slice a2 rows2.length C2) (by rw [hres]; rfl)
    refine bodyPost_ret (v := .tuple #[.agg #[.slice a2 rows2.length C2], .int .i64 x, .int .i64 y]) (by simp [results, Tryd.results71, go_sem, hc9]) rfl ?_
    refine ⟨rows2, _, x, y, rfl, ?_, hbk2, (HB.out.trans (DT.out.turned.below.mono (Nat.le_succ _))).setCell (p := ⟨w.heap.size, 0, none⟩) (Nat.le_refl _) _⟩
    rw [size_setCell]
    exact (OT.out.kept fun b hb _ => Below.heap_setCell _ _ _ b (show b ≠ w.heap.size by have := HZ.out; omega)).wider (by have := HZ.out; omega) (Nat.le_refl _)
set_option maxRecDepth 100000 in
set_option maxHeartbeats 4000000 in
theorem drawBelow_any (v : Value) (w : World) (hv : CodeAt w.heap.size w v) : Calls Tryd.prog 20 #[v] w (OrdT w) := by
  have s1 : (w.alloc (.cells #[.slice none 0 0] 25)).heap.size = w.heap.size + 1 := World.size_alloc _ _
  have b1 := (Below.refl w.heap.size w).alloc (Nat.le_refl _) (.cells #[.slice none 0 0] 25)
  have hcall := l91Elements_any v (w.alloc (.cells #[.slice none 0 0] 25)) ((hv.below b1).wider (by rw [s1]; exact Nat.le_succ _))
  have HX := Lib.hid (Boxed.new w 25 (.slice none 0 0))
  have B1 := Lib.hid b1
  have S1 := Lib.hid s1
  clear b1 s1 hv
  go_enter Tryd.func20, Tryd.ntmps20
  go_wp2_with (go_at_call 71; refine hcall.mono ?_; clear hcall; rintro e w1 ⟨rows, u, x, y, rfl, ho, hbk, hb⟩; obtain ⟨au, Cu, rfl⟩ := ho.form; have O1 := Lib.hid ho; have X1 : Hid (Boxed w1 w.heap.size 25 (.slice none 0 0)) := Lib.hid ((hb.block _ HX.out.lt).trans HX.out); have HB := Lib.hid (B1.out.trans (hb.mono B1.out.size)); have hres := X1.out.cell; have hrf := X1.out.frozen; clear ho hb)
  have hc9 := World.cell?_setCell_same' w1 ⟨w.heap.size, 0, none⟩ (.slice au rows.length Cu) (by rw [hres]; rfl)
  refine bodyPost_ret (v := .tuple #[.agg #[.slice au rows.length Cu], .int .i64 x, .int .i64 y]) (by simp [results, Tryd.results20, go_sem, hc9]) rfl ?_
  refine ⟨rows, _, x, y, rfl, ?_, hbk, HB.out.setCell (p := ⟨w.heap.size, 0, none⟩) (Nat.le_refl _) _⟩
  rw [size_setCell]
  exact (O1.out.kept fun b hb _ => Below.heap_setCell _ _ _ b (show b ≠ w.heap.size by have := S1.out; omega)).wider (by rw [S1.out]; exact Nat.le_succ _) (Nat.le_refl _)

set_option maxRecDepth 100000 in
set_option maxHeartbeats 4000000 in
theorem drawJoin_any (v : Value) (w : World) (hv : CodeAt w.heap.size w v) : Calls Tryd.prog 27 #[v] w (OrdT w) := by
  have s1 : (w.alloc (.cells #[.slice none 0 0] 25)).heap.size = w.heap.size + 1 := World.size_alloc _ _
  have b1 := (Below.refl w.heap.size w).alloc (Nat.le_refl _) (.cells #[.slice none 0 0] 25)
  have hcall := l91Elements_any v (w.alloc (.cells #[.slice none 0 0] 25)) ((hv.below b1).wider (by rw [s1]; exact Nat.le_succ _))
  have HX := Lib.hid (Boxed.new w 25 (.slice none 0 0))
  have B1 := Lib.hid b1
  have S1 := Lib.hid s1
  clear b1 s1 hv
  go_enter Tryd.func27, Tryd.ntmps27
  go_wp2_with (go_at_call 71; refine hcall.mono ?_; clear hcall; rintro e w1 ⟨rows, u, x, y, rfl, ho, hbk, hb⟩; obtain ⟨au, Cu, rfl⟩ := ho.form; have O1 := Lib.hid ho; have X1 : Hid (Boxed w1 w.heap.size 25 (.slice none 0 0)) := Lib.hid ((hb.block _ HX.out.lt).trans HX.out); have HB := Lib.hid (B1.out.trans (hb.mono B1.out.size)); have hres := X1.out.cell; have hrf := X1.out.frozen; clear ho hb)
  have hc9 := World.cell?_setCell_same' w1 ⟨w.heap.size, 0, none⟩ (.slice au rows.length Cu) (by rw [hres]; rfl)
  refine bodyPost_ret (v := .tuple #[.agg #[.slice au rows.length Cu], .int .i64 x, .int .i64 y]) (by simp [results, Tryd.results27, go_sem, hc9]) rfl ?_
  refine ⟨rows, _, x, y, rfl, ?_, hbk, HB.out.setCell (p := ⟨w.heap.size, 0, none⟩) (Nat.le_refl _) _⟩
  rw [size_setCell]
  exact (O1.out.kept fun b hb _ => Below.heap_setCell _ _ _ b (show b ≠ w.heap.size by have := S1.out; omega)).wider (by rw [S1.out]; exact Nat.le_succ _) (Nat.le_refl _)

set_option maxRecDepth 100000 in
set_option maxHeartbeats 4000000 in
theorem drawMeet_any (v : Value) (w : World) (hv : CodeAt w.heap.size w v) : Calls Tryd.prog 29 #[v] w (OrdT w) := by
  have s1 : (w.alloc (.cells #[.slice none 0 0] 25)).heap.size = w.heap.size + 1 := World.size_alloc _ _
  have b1 := (Below.refl w.heap.size w).alloc (Nat.le_refl _) (.cells #[.slice none 0 0] 25)
  have hcall := l91Elements_any v (w.alloc (.cells #[.slice none 0 0] 25)) ((hv.below b1).wider (by rw [s1]; exact Nat.le_succ _))
  have HX := Lib.hid (Boxed.new w 25 (.slice none 0 0))
  have B1 := Lib.hid b1
  have S1 := Lib.hid s1
  clear b1 s1 hv
  go_enter Tryd.func29, Tryd.ntmps29
  go_wp2_with (go_at_call 71; refine hcall.mono ?_; clear hcall; rintro e w1 ⟨rows, u, x, y, rfl, ho, hbk, hb⟩; obtain ⟨au, Cu, rfl⟩ := ho.form; have O1 := Lib.hid ho; have X1 : Hid (Boxed w1 w.heap.size 25 (.slice none 0 0)) := Lib.hid ((hb.block _ HX.out.lt).trans HX.out); have HB := Lib.hid (B1.out.trans (hb.mono B1.out.size)); have hres := X1.out.cell; have hrf := X1.out.frozen; clear ho hb)
  have hc9 := World.cell?_setCell_same' w1 ⟨w.heap.size, 0, none⟩ (.slice au rows.length Cu) (by rw [hres]; rfl)
  refine bodyPost_ret (v := .tuple #[.agg #[.slice au rows.length Cu], .int .i64 x, .int .i64 y]) (by simp [results, Tryd.results29, go_sem, hc9]) rfl ?_
  refine ⟨rows, _, x, y, rfl, ?_, hbk, HB.out.setCell (p := ⟨w.heap.size, 0, none⟩) (Nat.le_refl _) _⟩
  rw [size_setCell]
  exact (O1.out.kept fun b hb _ => Below.heap_setCell _ _ _ b (show b ≠ w.heap.size by have := S1.out; omega)).wider (by rw [S1.out]; exact Nat.le_succ _) (Nat.le_refl _)

set_option maxRecDepth 100000 in
set_option maxHeartbeats 4000000 in
theorem drawDomainIs_any (v : Value) (w : World) (hv : CodeAt w.heap.size w v) : Calls Tryd.prog 43 #[v] w (OrdN w) := by
  have s1 : (w.alloc (.cells #[.slice none 0 0] 25)).heap.size = w.heap.size + 1 := World.size_alloc _ _
  have b1 := (Below.refl w.heap.size w).alloc (Nat.le_refl _) (.cells #[.slice none 0 0] 25)
  have hopen := l6Open_any v (w.alloc (.cells #[.slice none 0 0] 25)) ((hv.below b1).wider (by rw [s1]; exact Nat.le_succ _))
  have HX := Lib.hid (Boxed.new w 25 (.slice none 0 0))
  have B1 := Lib.hid b1
  have S1 := Lib.hid s1
  have HORD := Lib.hid (fun W v' q (h : RdAt (w.heap.size + 1) v' q W) (hq : q < 2000) => (show Calls Tryd.prog 64 #[.pointer (some ⟨w.heap.size + 1, 0, none⟩), .int .i64 6] W (OrdD (w.heap.size + 1) v' q W) from l91Order_any (w.heap.size + 1) v' q 6 W h (by omega) (by omega) (by omega)))
  have HDOM := Lib.hid (fun W v' q (h : RdAt (w.heap.size + 1) v' q W) (hq : q < 2000) => (show Calls Tryd.prog 93 #[.pointer (some ⟨w.heap.size + 1, 0, none⟩), .int .i64 7] W (OrdE 2048 (w.heap.size + 1) v' q W) from l91Domain_any (w.heap.size + 1) v' q 7 W h (by omega) (by omega) (by omega)))
  have HP := Lib.hid (fun v' W q (n : Int) (h : RdAt (w.heap.size + 1) v' q W) (hq : q < 1099511627776) => pick_any (w.heap.size + 1) v' q n W h hq)
  clear b1 s1 hv
  go_enter Tryd.func43, Tryd.ntmps43
  go_upto_region 2 with (go_at_call 65; refine hopen.mono ?_; clear hopen; rintro e w1 ⟨v', rfl, hr, hb, hz⟩; rw [S1.out] at hr hb hz; have HR := Lib.hid hr; have HB := Lib.hid (B1.out.trans (hb.mono (Nat.le_succ _))); have HX1 : Hid (Boxed w1 w.heap.size 25 (.slice none 0 0)) := Lib.hid ((hb.block _ (Nat.lt_succ_self _)).trans HX.out); have HZ := Lib.hid hz; clear hr hb hz)
  have hpk := HP.out v' w1 0 2 HR.out (by omega)
  have H1 := Lib.hid HR.out
  go_wp2_with (go_at_call 88; refine hpk.mono ?_; clear hpk; rintro e w2 ⟨⟨k, rfl, _, _⟩, hd⟩; have D2 := Lib.hid hd; clear hd; cases hkb : ((k : Int) == 0))
  · refine (HORD.out w2 v' 1 D2.out.rd (by omega)).mono ?_
    rintro e w3 ⟨rows, u, q, rfl, hq, hd, ho, hbk⟩
    obtain ⟨au, Cu, rfl⟩ := ho.form
    have O3 := Lib.hid ho
    have DT := Lib.hid (D2.out.trans hd)
    have X3 : Hid (Boxed w3 w.heap.size 25 (.slice none 0 0)) := Lib.hid ((DT.out.turned.below.block _ (Nat.lt_succ_self _)).trans HX1.out)
    have HW := Lib.hid (show w.heap.size + 1 ≤ w2.heap.size by have := D2.out.size; have := HZ.out; omega)
    have hres := X3.out.cell
    have hrf := X3.out.frozen
    clear hd ho
    go_wp2
    have hc9 := World.cell?_setCell_same' w3 ⟨w.heap.size, 0, none⟩ (.slice au rows.length Cu) (by rw [hres]; rfl)
    refine bodyPost_ret (v := .agg #[.slice au rows.length Cu]) (by simp [results, Tryd.results43, go_sem, hc9]) rfl ?_
    refine ⟨rows, _, rfl, ?_, hbk, (HB.out.trans (DT.out.turned.below.mono (Nat.le_succ _))).setCell (p := ⟨w.heap.size, 0, none⟩) (Nat.le_refl _) _⟩
    rw [size_setCell]
    exact (O3.out.kept fun b hb _ => Below.heap_setCell _ _ _ b (show b ≠ w.heap.size by have := HW.out; omega)).wider (by have := HW.out; omega) (Nat.le_refl _)
  · refine (HDOM.out w2 v' 1 D2.out.rd (by omega)).mono ?_
    rintro e w3 ⟨rows, u, q, rfl, hq, hd, ho, hbk⟩
    obtain ⟨au, Cu, rfl⟩ := ho.form
    have O3 := Lib.hid ho
    have DT := Lib.hid (D2.out.trans hd)
    have X3 : Hid (Boxed w3 w.heap.size 25 (.slice none 0 0)) := Lib.hid ((DT.out.turned.below.block _ (Nat.lt_succ_self _)).trans HX1.out)
    have HW := Lib.hid (show w.heap.size + 1 ≤ w2.heap.size by have := D2.out.size; have := HZ.out; omega)
    have hres := X3.out.cell
    have hrf := X3.out.frozen
    clear hd ho
    go_wp2
    have hc9 := World.cell?_setCell_same' w3 ⟨w.heap.size, 0, none⟩ (.slice au rows.length Cu) (by rw [hres]; rfl)
    refine bodyPost_ret (v := .agg #[.slice au rows.length Cu]) (by simp [results, Tryd.results43, go_sem, hc9]) rfl ?_
    refine ⟨rows, _, rfl, ?_, hbk, (HB.out.trans (DT.out.turned.below.mono (Nat.le_succ _))).setCell (p := ⟨w.heap.size, 0, none⟩) (Nat.le_refl _) _⟩
    rw [size_setCell]
    exact (O3.out.kept fun b hb _ => Below.heap_setCell _ _ _ b (show b ≠ w.heap.size by have := HW.out; omega)).wider (by have := HW.out; omega) (Nat.le_refl _)
end Go.Proofs.YtjlemkmpmjdjaaaDoor
