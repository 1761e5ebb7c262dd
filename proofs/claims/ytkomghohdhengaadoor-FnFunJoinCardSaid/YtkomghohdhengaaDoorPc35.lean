/- A small domain drawn from a code (l91Domain). -/
import Derived.Test.YtkomghohdhengaaDoorPc27
import Derived.Test.YtkomghohdhengaaDoorPc32
import Derived.Test.YtkomghohdhengaaDoorPc30
import Derived.Test.YtkomghohdhengaaDoorPc33
import Derived.Test.YtkomghohdhengaaDoorPc34
import Derived.Test.YtkomghohdhengaaDoorPc31
import Derived.Test.YtkomghohdhengaaDoorPc20
import Derived.Test.YtkomghohdhengaaDoorPc23
import Derived.Test.YtkomghohdhengaaDoorPc8
import Derived.Test.YtkomghohdhengaaDoorPc24
import Derived.Laws.MakeOwn
namespace Go.Proofs.YtkomghohdhengaaDoor
open Go.RowKit Go.Deep Go.Shelf

/-- An order of N elements, in memory of its own. -/
def OrdQ (N : Nat) (w : World) (e : Ending) (w' : World) : Prop :=
  ∃ (rows : Rows2) (u : Value), e = .returned (.agg #[u]) ∧ OwnR 3 26 w' u rows.length (rowsF rows) w.heap.size w'.heap.size ∧ Ok rows ∧ rows.length = N ∧ bulk rows ≤ 100000 ∧ Below w.heap.size w w'
/-- Some rows, in memory of their own. -/
def OrdM (w : World) (e : Ending) (w' : World) : Prop :=
  ∃ (rows : Rows2) (u : Value), e = .returned (.agg #[u]) ∧ OwnR 3 26 w' u rows.length (rowsF rows) w.heap.size w'.heap.size ∧ bulk rows ≤ 100000 ∧ Below w.heap.size w w'
theorem OrdNew.made {N : Nat} {R : Nat → List Int} {B : Nat → Nat → Bool} {w : World} {e : Ending} {w' : World} (h : OrdNew N R w e w') (hN : N ≤ 200) (hR : ∀ q, q < N → R q = bRow B q N) :
    ∃ u, e = .returned (.agg #[u]) ∧ OwnR 3 26 w' u (madeL B N).length (rowsF (madeL B N)) w.heap.size w'.heap.size ∧ bulk (madeL B N) ≤ 100000 ∧ Below w.heap.size w w' := by
  obtain ⟨u, rfl, ho, hb⟩ := h
  refine ⟨u, rfl, ?_, by have := made_bulk B N hN; omega, hb⟩
  rw [madeL_len]
  exact ho.congr fun q hq => by rw [hR q hq, rowsF_lt (by rw [madeL_len]; exact hq), madeL_at]
theorem flat_ok {N : Nat} (h1 : 1 ≤ N) (h2 : N ≤ 200) : Ok (madeL flatB N) := by
  refine made_ok h1 h2 (fun a _ => by simp [flatB]) (fun a b _ _ hab hne => ?_) (fun a b c _ _ _ hab hbc => ?_)
  · simp only [flatB, Bool.or_eq_true, decide_eq_true_eq, Bool.or_eq_false_iff, decide_eq_false_iff_not] at hab ⊢
    omega
  · simp only [flatB, Bool.or_eq_true, decide_eq_true_eq] at hab hbc ⊢
    omega
theorem prod_okq {rows rows' : Rows2} (h : Ok rows) (h' : Ok rows') (hl : rows.length * rows'.length ≤ 200) : Ok (madeL (prodB (gridF rows) (gridF rows') rows'.length) (rows.length * rows'.length)) := by
  have n1 := h.len
  have n2 := h'.len
  have hd : ∀ a, a < rows.length * rows'.length → a / rows'.length < rows.length ∧ a % rows'.length < rows'.length := fun a ha =>
    ⟨Nat.div_lt_of_lt_mul (by rw [Nat.mul_comm]; exact ha), Nat.mod_lt _ (by omega)⟩
  refine made_ok (Nat.mul_pos n1.1 n2.1) hl (fun a ha => ?_) (fun a b ha hb hab hne => ?_) (fun a b c ha hb hc hab hbc => ?_)
  · unfold prodB
    rw [h.own _ (hd a ha).1, h'.own _ (hd a ha).2]
    rfl
  · cases hq : prodB (gridF rows) (gridF rows') rows'.length b a with
    | false => rfl
    | true =>
      unfold prodB at hab hq
      rw [Bool.and_eq_true] at hab hq
      have e1 := Lq.anti h hab.1 hq.1
      have e2 := Lq.anti h' hab.2 hq.2
      exact absurd (by rw [← Nat.div_add_mod b rows'.length, ← Nat.div_add_mod a rows'.length, e1, e2]) hne
  · unfold prodB at hab hbc ⊢
    rw [Bool.and_eq_true] at hab hbc ⊢
    exact ⟨Lq.trans h hab.1 hbc.1, Lq.trans h' hab.2 hbc.2⟩
theorem drawFlat_any (n : Nat) (w : World) (hn : n ≤ 199) : Calls Tryd.prog 115 #[.int .i64 (n : Int)] w (OrdQ (n + 1) w) :=
  (l2Flat_any n w hn).mono fun e w' h => by
    obtain ⟨u, h1, h2, h3, h4⟩ := h.made (B := flatB) (by omega) fun _ _ => rfl
    exact ⟨_, u, h1, h2, flat_ok (by omega) (by omega), madeL_len _ _, h3, h4⟩
theorem drawProduct_any (v v' : Value) (rows rows' : Rows2) (w : World) (hv : RowsAt w v rows) (hv' : RowsAt w v' rows') (hok : Ok rows) (hok' : Ok rows') (hl : rows.length * rows'.length ≤ 200) :
    Calls Tryd.prog 110 #[.agg #[v], .agg #[v']] w (OrdQ (rows.length * rows'.length) w) :=
  (l2Product_any v v' rows rows' w hv hv' hok hok' hl).mono fun e w' h => by
    obtain ⟨u, h1, h2, h3, h4⟩ := h.made (B := prodB (gridF rows) (gridF rows') rows'.length) hl fun q hq => prodR_row hok hok' hq
    exact ⟨_, u, h1, h2, prod_okq hok hok' hl, madeL_len _ _, h3, h4⟩
theorem drawLift_any (v : Value) (rows : Rows2) (w : World) (hv : RowsAt w v rows) (hok : Ok rows) (hl : rows.length < 200) : Calls Tryd.prog 128 #[.agg #[v]] w (OrdM w) :=
  (l2Lift_any v rows w hv hok hl).mono fun e w' h => by
    obtain ⟨u, h1, h2, h3, h4⟩ := h.made (B := liftB (gridF rows)) (by omega) fun q hq => liftR_row hok hq
    exact ⟨_, u, h1, h2, h3, h4⟩
theorem drawSum_any (v v' : Value) (rows rows' : Rows2) (w : World) (hv : RowsAt w v rows) (hv' : RowsAt w v' rows') (hok : Ok rows) (hok' : Ok rows') (hl : 1 + rows.length + rows'.length ≤ 200) :
    Calls Tryd.prog 129 #[.agg #[v], .agg #[v']] w (OrdM w) :=
  (l2Sum_any v v' rows rows' w hv hv' hok hok' hl).mono fun e w' h => by
    obtain ⟨u, h1, h2, h3, h4⟩ := h.made (B := sumB (gridF rows) (gridF rows') rows.length) hl fun q hq => sumR_row hok hok' hq
    exact ⟨_, u, h1, h2, h3, h4⟩
theorem drawChain_any (z : Int) (w : World) : Calls Tryd.prog 127 #[.int .i64 z] w (fun e w' => ∃ (rows : Rows2) (u : Value) (t : Bool), e = .returned (.tuple #[.agg #[u], .bool t]) ∧ OwnR 3 26 w' u rows.length (rowsF rows) w.heap.size w'.heap.size ∧ bulk rows ≤ 100000 ∧ Below w.heap.size w w') :=
  (specChain_any z w).mono fun e w' ⟨u, h1, h2, h3⟩ => ⟨chainL z, u, chainOk z, h1, h2, by
    unfold chainL
    split
    · rename_i h
      have := of_decide_eq_true h
      have := made_bulk chainB z.toNat (by omega)
      omega
    · exact Nat.zero_le _, h3⟩

theorem OrdE.later {K K' r p q : Nat} {v : Value} {w W : World} {e : Ending} {w' : World} {x : Value} (hD : Dr r v w q W) (hx : Boxed W w.heap.size 25 x) (h : OrdE K r v q W e w') (hq : q + K ≤ p + K') :
    ∃ (rows : Rows2) (u : Value) (q' : Nat), e = .returned (.agg #[u]) ∧ q' ≤ p + K' ∧ Dr r v w q' w' ∧ Boxed w' w.heap.size 25 x ∧ OwnR 3 26 w' u rows.length (rowsF rows) (w.heap.size + 1) w'.heap.size ∧ bulk rows ≤ 100000 := by
  obtain ⟨rows, u, q', rfl, h1, h2, h3, h4⟩ := h
  have hl := hx.lt
  exact ⟨rows, u, q', rfl, by omega, hD.trans h2, hD.boxed h2 hx (Nat.le_refl _), h3.wider hl (Nat.le_refl _), h4⟩

/-- What is held while a domain is drawn. -/
structure DrS (r : Nat) (v : Value) (w : World) (q : Nat) (W : World) : Prop where
  dr : Dr r v w q W
  res : Boxed W w.heap.size 25 (.slice none 0 0)
theorem DrS.step {r : Nat} {v : Value} {w : World} {q : Nat} {W W' : World} (h : DrS r v w q W) (hb : Below W.heap.size W W') : DrS r v w q W' := ⟨h.dr.step hb, (hb.block _ h.res.lt).trans h.res⟩
theorem DrS.pick {r : Nat} {v : Value} {w : World} {q q' : Nat} {W W' : World} (h : DrS r v w q W) (h2 : Dr r v W q' W') : DrS r v w q' W' := ⟨h.dr.trans h2, h.dr.boxed h2 h.res (Nat.le_refl _)⟩
/-- An order since W is one since w. -/
theorem DrS.own {r : Nat} {v : Value} {w : World} {q : Nat} {W W' : World} (h : DrS r v w q W) {u : Value} {rows : Rows2} (ho : OwnR 3 26 W' u rows.length (rowsF rows) W.heap.size W'.heap.size) : OwnR 3 26 W' u rows.length (rowsF rows) (w.heap.size + 1) W'.heap.size :=
  ho.wider h.res.lt (Nat.le_refl _)

set_option maxRecDepth 100000 in
set_option maxHeartbeats 8000000 in
theorem l91Domain_any (r : Nat) (v : Value) (p : Nat) (most : Nat) (w : World) (hr : RdAt r v p w) (hp : p < 1099510000000) (hm : 3 ≤ most) (hm2 : most ≤ 8) :
    Calls Tryd.prog 71 #[.pointer (some ⟨r, 0, none⟩), .int .i64 (most : Int)] w (OrdE 2048 r v p w) := by
  have h0 : DrS r v w p (w.alloc (.cells #[.slice none 0 0] 25)) := ⟨(Dr.start hr).step ((Below.refl _ _).alloc (Nat.le_refl _) _), Boxed.new w _ _⟩
  have HP := Lib.hid (fun W q (n : Int) (h : RdAt r v q W) (hq : q < 1099511627776) => pick_any r v q n W h hq)
  have hpk := HP.out _ p 20 h0.dr.rd (by omega)
  have H0 := Lib.hid h0
  have hmz : (1 : Int) ≤ (most : Int) := by omega
  have HF := Lib.hid (fun (n : Nat) W (hn : n ≤ 199) => drawFlat_any n W hn)
  have HF1 := Lib.hid (fun W => (show Calls Tryd.prog 115 #[.int .i64 1] W (OrdQ 2 W) from drawFlat_any 1 W (by omega)))
  clear hr h0
  go_enter Tryd.func71, Tryd.ntmps71
  go_wp2_with (go_at_call 118; refine hpk.mono ?_; clear hpk; rintro e w1 ⟨⟨k0, rfl, _, _⟩, hd1⟩; have H1 := Lib.hid (H0.out.pick hd1); clear hd1; by_cases hk0 : (k0 : Int) = 0)
  · refine (l91Order_any r v (p + 1) most w1 H1.out.dr.rd (by omega) (by omega) (by omega)).mono ?_
    rintro e w2 ho
    obtain ⟨rows, u, q', rfl, hq, hd2, hb2, ho2, hbk⟩ := OrdE.later (p := p) (K' := 2048) H1.out.dr H1.out.res ho (by omega)
    obtain ⟨a2, C2, rfl⟩ := ho2.form
    have H2 : Hid (DrS r v w q' w2) := Lib.hid ⟨hd2, hb2⟩
    have HO := Lib.hid ho2
    have hres := hb2.cell
    have hrf := hb2.frozen
    clear ho hd2 hb2 ho2
    go_wp2
    have hc9 := World.cell?_setCell_same' w2 ⟨w.heap.size, 0, none⟩ (.slice a2 rows.length C2) (by rw [H2.out.res.cell]; rfl)
    refine bodyPost_ret (v := .agg #[.slice a2 rows.length C2]) (by simp [results, Tryd.results71, go_sem, hc9]) rfl ?_
    exact OrdE.fin H2.out.dr H2.out.res HO.out hbk (by omega)
  · have hpk7 := HP.out w1 (p + 1) 7 H1.out.dr.rd (by omega)
    go_upto_region 4 with (go_at_call 118; refine hpk7.mono ?_; clear hpk7; rintro e w2 ⟨⟨k1, rfl, hk1, _⟩, hd2⟩; have H2 := Lib.hid (H1.out.pick hd2); clear hd2)
    have hk7 := hk1 (by omega)
    have hmin : min (2 : Int) ((most : Int) - 1) = 2 := by omega
    have HPK := Lib.hid trivial
    clear hk0 hk1 H0 H1
    have hall : k1 = 0 ∨ k1 = 1 ∨ k1 = 2 ∨ k1 = 3 ∨ k1 = 4 ∨ k1 = 5 ∨ k1 = 6 := by omega
    rcases hall with hk | hk | hk | hk | hk | hk | hk
    · have hkc : (k1 : Int) = 0 := by omega
      clear hk
      have hpm := HP.out w2 (p + 1 + 1) most H2.out.dr.rd (by omega)
      go_wp2_with (first | (go_at_call 118; refine hpm.mono ?_; clear hpm; rintro e w3 ⟨⟨k2, rfl, hk2, _⟩, hd⟩; have hk2 := hk2 hmz; have H3 := Lib.hid (H2.out.pick hd); clear hd) | (go_at_call 115; refine (HF.out k2 w3 (by omega)).mono ?_; clear HF; rintro e w4 ⟨LA, uA, rfl, ho, okA, hlA, hbkA, hb⟩; have HLA := Lib.hid hlA; clear hlA; obtain ⟨aA, CA, rfl⟩ := ho.form; have OA := Lib.hid (H3.out.own ho); have RA := Lib.hid ho.at; have H4 := Lib.hid (H3.out.step hb); have hres := H4.out.res.cell; have hrf := H4.out.res.frozen; clear ho hb))
      have hc9 := World.cell?_setCell_same' w4 ⟨w.heap.size, 0, none⟩ (.slice aA LA.length CA) (by rw [H4.out.res.cell]; rfl)
      refine bodyPost_ret (v := .agg #[.slice aA LA.length CA]) (by simp [results, Tryd.results71, go_sem, hc9]) rfl ?_
      exact OrdE.fin H4.out.dr H4.out.res OA.out hbkA (by omega)
    · have hkc : (k1 : Int) = 1 := by omega
      clear hk
      have hpm := HP.out w2 (p + 1 + 1) most H2.out.dr.rd (by omega)
      go_wp2_with (first | (go_at_call 118; refine hpm.mono ?_; clear hpm; rintro e w3 ⟨⟨k2, rfl, hk2, _⟩, hd⟩; have hk2 := hk2 hmz; have H3 := Lib.hid (H2.out.pick hd); clear hd) | (go_at_call 127; refine (drawChain_any _ w3).mono ?_; rintro e w4 ⟨LA, uA, tA, rfl, ho, hbkA, hb⟩; obtain ⟨aA, CA, rfl⟩ := ho.form; have h4 := H3.out.step hb; have hal := (Below.refl w4.heap.size w4).alloc (Nat.le_refl _) (.cells #[.slice aA LA.length CA] 25); have H5 := Lib.hid (h4.step hal); have OA := Lib.hid (((H3.out.own ho).below hal (Nat.le_refl _)).wider (Nat.le_refl _) hal.size); have hres := H5.out.res.cell; have hrf := H5.out.res.frozen; clear ho hb h4 hal))
      have hc9 := World.cell?_setCell_same' (w4.alloc (.cells #[.slice aA LA.length CA] 25)) ⟨w.heap.size, 0, none⟩ (.slice aA LA.length CA) (by rw [H5.out.res.cell]; rfl)
      refine bodyPost_ret (v := .agg #[.slice aA LA.length CA]) (by simp [results, Tryd.results71, go_sem, hc9]) rfl ?_
      exact OrdE.fin H5.out.dr H5.out.res OA.out hbkA (by omega)
    · have hkc : (k1 : Int) = 2 := by omega
      clear hk
      by_cases hge : 4 ≤ most
      · have hgz : (4 : Int) ≤ (most : Int) := by omega
        have HF2 := HF1
        go_wp2_with (first | (go_at_call 115; refine (HF1.out w2).mono ?_; clear HF1; rintro e w3 ⟨LA, uA, rfl, ho, okA, hlA, hbkA, hb⟩; have HLA := Lib.hid hlA; clear hlA; obtain ⟨aA, CA, rfl⟩ := ho.form; have OA := Lib.hid (H2.out.own ho); have RA := Lib.hid ho.at; have H3 := Lib.hid (H2.out.step hb); clear ho hb) | (go_at_call 115; refine (HF2.out w3).mono ?_; clear HF2; rintro e w4 ⟨LB, uB, rfl, ho, okB, hlB, hbkB, hb⟩; have HLB := Lib.hid hlB; clear hlB; obtain ⟨aB, CB, rfl⟩ := ho.form; have OB := Lib.hid (H3.out.own ho); have RB := Lib.hid ho.at; have H4 := Lib.hid (H3.out.step hb); have RA2 := Lib.hid (RA.out.below hb); clear ho hb) | (go_at_call 110; refine (drawProduct_any _ _ LA LB w4 RA2.out RB.out okA okB (by rw [HLA.out, HLB.out]; decide)).mono ?_; rintro e w5 ⟨LP, uP, rfl, ho, okP, hlP, hbkP, hb⟩; have HLP := Lib.hid hlP; clear hlP; obtain ⟨aP, CP, rfl⟩ := ho.form; have OP := Lib.hid (H4.out.own ho); have RP := Lib.hid ho.at; have H5 := Lib.hid (H4.out.step hb); have hres := H5.out.res.cell; have hrf := H5.out.res.frozen; clear ho hb))
        have hc9 := World.cell?_setCell_same' w5 ⟨w.heap.size, 0, none⟩ (.slice aP LP.length CP) (by rw [H5.out.res.cell]; rfl)
        refine bodyPost_ret (v := .agg #[.slice aP LP.length CP]) (by simp [results, Tryd.results71, go_sem, hc9]) rfl ?_
        exact OrdE.fin H5.out.dr H5.out.res OP.out hbkP (by omega)
      · have hgz : ¬ (4 : Int) ≤ (most : Int) := by omega
        go_wp2_with (go_at_call 115; refine (HF.out 2 w2 (by omega)).mono ?_; clear HF; rintro e w3 ⟨LA, uA, rfl, ho, okA, hlA, hbkA, hb⟩; have HLA := Lib.hid hlA; clear hlA; obtain ⟨aA, CA, rfl⟩ := ho.form; have OA := Lib.hid (H2.out.own ho); have RA := Lib.hid ho.at; have H3 := Lib.hid (H2.out.step hb); have hres := H3.out.res.cell; have hrf := H3.out.res.frozen; clear ho hb)
        have hc9 := World.cell?_setCell_same' w3 ⟨w.heap.size, 0, none⟩ (.slice aA LA.length CA) (by rw [H3.out.res.cell]; rfl)
        refine bodyPost_ret (v := .agg #[.slice aA LA.length CA]) (by simp [results, Tryd.results71, go_sem, hc9]) rfl ?_
        exact OrdE.fin H3.out.dr H3.out.res OA.out hbkA (by omega)
    · have hkc : (k1 : Int) = 3 := by omega
      clear hk
      by_cases hge : 5 ≤ most
      · have hgz : (5 : Int) ≤ (most : Int) := by omega
        have HF2 := HF1
        go_wp2_with (first | (go_at_call 115; refine (HF1.out w2).mono ?_; clear HF1; rintro e w3 ⟨LA, uA, rfl, ho, okA, hlA, hbkA, hb⟩; have HLA := Lib.hid hlA; clear hlA; obtain ⟨aA, CA, rfl⟩ := ho.form; have OA := Lib.hid (H2.out.own ho); have RA := Lib.hid ho.at; have H3 := Lib.hid (H2.out.step hb); clear ho hb) | (go_at_call 115; refine (HF2.out w3).mono ?_; clear HF2; rintro e w4 ⟨LB, uB, rfl, ho, okB, hlB, hbkB, hb⟩; have HLB := Lib.hid hlB; clear hlB; obtain ⟨aB, CB, rfl⟩ := ho.form; have OB := Lib.hid (H3.out.own ho); have RB := Lib.hid ho.at; have H4 := Lib.hid (H3.out.step hb); have RA2 := Lib.hid (RA.out.below hb); clear ho hb) | (go_at_call 110; refine (drawProduct_any _ _ LA LB w4 RA2.out RB.out okA okB (by rw [HLA.out, HLB.out]; decide)).mono ?_; rintro e w5 ⟨LP, uP, rfl, ho, okP, hlP, hbkP, hb⟩; have HLP := Lib.hid hlP; clear hlP; obtain ⟨aP, CP, rfl⟩ := ho.form; have OP := Lib.hid (H4.out.own ho); have RP := Lib.hid ho.at; have H5 := Lib.hid (H4.out.step hb); clear ho hb) | (go_at_call 128; refine (drawLift_any _ LP w5 RP.out okP (by rw [HLP.out, HLA.out, HLB.out]; decide)).mono ?_; rintro e w6 ⟨LL, uL, rfl, ho, hbkL, hb⟩; obtain ⟨aL, CL, rfl⟩ := ho.form; have OL := Lib.hid (H5.out.own ho); have H6 := Lib.hid (H5.out.step hb); have hres := H6.out.res.cell; have hrf := H6.out.res.frozen; clear ho hb))
        have hc9 := World.cell?_setCell_same' w6 ⟨w.heap.size, 0, none⟩ (.slice aL LL.length CL) (by rw [H6.out.res.cell]; rfl)
        refine bodyPost_ret (v := .agg #[.slice aL LL.length CL]) (by simp [results, Tryd.results71, go_sem, hc9]) rfl ?_
        exact OrdE.fin H6.out.dr H6.out.res OL.out hbkL (by omega)
      · have hgz : ¬ (5 : Int) ≤ (most : Int) := by omega
        go_wp2_with (go_at_call 115; refine (HF.out 2 w2 (by omega)).mono ?_; clear HF; rintro e w3 ⟨LA, uA, rfl, ho, okA, hlA, hbkA, hb⟩; have HLA := Lib.hid hlA; clear hlA; obtain ⟨aA, CA, rfl⟩ := ho.form; have OA := Lib.hid (H2.out.own ho); have RA := Lib.hid ho.at; have H3 := Lib.hid (H2.out.step hb); have hres := H3.out.res.cell; have hrf := H3.out.res.frozen; clear ho hb)
        have hc9 := World.cell?_setCell_same' w3 ⟨w.heap.size, 0, none⟩ (.slice aA LA.length CA) (by rw [H3.out.res.cell]; rfl)
        refine bodyPost_ret (v := .agg #[.slice aA LA.length CA]) (by simp [results, Tryd.results71, go_sem, hc9]) rfl ?_
        exact OrdE.fin H3.out.dr H3.out.res OA.out hbkA (by omega)
    · have hkc : (k1 : Int) = 4 := by omega
      clear hk
      by_cases hge : 4 ≤ most
      · have hgz : (4 : Int) ≤ (most : Int) := by omega
        have hpm := HP.out w2 (p + 1 + 1) ((most : Int) - 1) H2.out.dr.rd (by omega)
        go_wp2_with (first | (go_at_call 118; refine hpm.mono ?_; clear hpm; rintro e w3 ⟨⟨k2, rfl, hk2, _⟩, hd⟩; have hk2 := hk2 (by omega); have H3 := Lib.hid (H2.out.pick hd); clear hd) | (go_at_call 115; refine (HF.out k2 w3 (by omega)).mono ?_; clear HF; rintro e w4 ⟨LA, uA, rfl, ho, okA, hlA, hbkA, hb⟩; have HLA := Lib.hid hlA; clear hlA; obtain ⟨aA, CA, rfl⟩ := ho.form; have OA := Lib.hid (H3.out.own ho); have RA := Lib.hid ho.at; have H4 := Lib.hid (H3.out.step hb); clear ho hb) | (go_at_call 128; refine (drawLift_any _ LA w4 RA.out okA (by rw [HLA.out]; omega)).mono ?_; rintro e w5 ⟨LL, uL, rfl, ho, hbkL, hb⟩; obtain ⟨aL, CL, rfl⟩ := ho.form; have OL := Lib.hid (H4.out.own ho); have H5 := Lib.hid (H4.out.step hb); have hres := H5.out.res.cell; have hrf := H5.out.res.frozen; clear ho hb))
        have hc9 := World.cell?_setCell_same' w5 ⟨w.heap.size, 0, none⟩ (.slice aL LL.length CL) (by rw [H5.out.res.cell]; rfl)
        refine bodyPost_ret (v := .agg #[.slice aL LL.length CL]) (by simp [results, Tryd.results71, go_sem, hc9]) rfl ?_
        exact OrdE.fin H5.out.dr H5.out.res OL.out hbkL (by omega)
      · have hgz : ¬ (4 : Int) ≤ (most : Int) := by omega
        go_wp2_with (go_at_call 115; refine (HF.out 2 w2 (by omega)).mono ?_; clear HF; rintro e w3 ⟨LA, uA, rfl, ho, okA, hlA, hbkA, hb⟩; have HLA := Lib.hid hlA; clear hlA; obtain ⟨aA, CA, rfl⟩ := ho.form; have OA := Lib.hid (H2.out.own ho); have RA := Lib.hid ho.at; have H3 := Lib.hid (H2.out.step hb); have hres := H3.out.res.cell; have hrf := H3.out.res.frozen; clear ho hb)
        have hc9 := World.cell?_setCell_same' w3 ⟨w.heap.size, 0, none⟩ (.slice aA LA.length CA) (by rw [H3.out.res.cell]; rfl)
        refine bodyPost_ret (v := .agg #[.slice aA LA.length CA]) (by simp [results, Tryd.results71, go_sem, hc9]) rfl ?_
        exact OrdE.fin H3.out.dr H3.out.res OA.out hbkA (by omega)
    · have hkc : (k1 : Int) = 5 := by omega
      clear hk
      by_cases hge : 5 ≤ most
      · have hgz : (5 : Int) ≤ (most : Int) := by omega
        have hpm := fun W (h : RdAt r v (p + 1 + 1) W) => HP.out W (p + 1 + 1) ((most : Int) - 3) h (by omega)
        go_wp2_with (first | (go_at_call 115; refine (HF1.out w2).mono ?_; clear HF1; rintro e w3 ⟨LA, uA, rfl, ho, okA, hlA, hbkA, hb⟩; have HLA := Lib.hid hlA; clear hlA; obtain ⟨aA, CA, rfl⟩ := ho.form; have OA := Lib.hid (H2.out.own ho); have RA := Lib.hid ho.at; have H3 := Lib.hid (H2.out.step hb); clear ho hb) | (go_at_call 118; refine (hpm w3 H3.out.dr.rd).mono ?_; clear hpm; rintro e w4 ⟨⟨k2, rfl, hk2, _⟩, hd⟩; have hk2 := hk2 (by omega); have RA2 := Lib.hid (H3.out.dr.ownR hd OA.out (Nat.le_succ _) (Nat.le_refl _)).at; have H4 := Lib.hid (H3.out.pick hd); clear hd) | (go_at_call 115; refine (HF.out k2 w4 (by omega)).mono ?_; clear HF; rintro e w5 ⟨LB, uB, rfl, ho, okB, hlB, hbkB, hb⟩; have HLB := Lib.hid hlB; clear hlB; obtain ⟨aB, CB, rfl⟩ := ho.form; have OB := Lib.hid (H4.out.own ho); have RB := Lib.hid ho.at; have H5 := Lib.hid (H4.out.step hb); have RA3 := Lib.hid (RA2.out.below hb); clear ho hb) | (go_at_call 129; refine (drawSum_any _ _ LA LB w5 RA3.out RB.out okA okB (by rw [HLA.out, HLB.out]; omega)).mono ?_; rintro e w6 ⟨LL, uL, rfl, ho, hbkL, hb⟩; obtain ⟨aL, CL, rfl⟩ := ho.form; have OL := Lib.hid (H5.out.own ho); have H6 := Lib.hid (H5.out.step hb); have hres := H6.out.res.cell; have hrf := H6.out.res.frozen; clear ho hb))
        have hc9 := World.cell?_setCell_same' w6 ⟨w.heap.size, 0, none⟩ (.slice aL LL.length CL) (by rw [H6.out.res.cell]; rfl)
        refine bodyPost_ret (v := .agg #[.slice aL LL.length CL]) (by simp [results, Tryd.results71, go_sem, hc9]) rfl ?_
        exact OrdE.fin H6.out.dr H6.out.res OL.out hbkL (by omega)
      · have hgz : ¬ (5 : Int) ≤ (most : Int) := by omega
        go_wp2_with (go_at_call 115; refine (HF.out 2 w2 (by omega)).mono ?_; clear HF; rintro e w3 ⟨LA, uA, rfl, ho, okA, hlA, hbkA, hb⟩; have HLA := Lib.hid hlA; clear hlA; obtain ⟨aA, CA, rfl⟩ := ho.form; have OA := Lib.hid (H2.out.own ho); have RA := Lib.hid ho.at; have H3 := Lib.hid (H2.out.step hb); have hres := H3.out.res.cell; have hrf := H3.out.res.frozen; clear ho hb)
        have hc9 := World.cell?_setCell_same' w3 ⟨w.heap.size, 0, none⟩ (.slice aA LA.length CA) (by rw [H3.out.res.cell]; rfl)
        refine bodyPost_ret (v := .agg #[.slice aA LA.length CA]) (by simp [results, Tryd.results71, go_sem, hc9]) rfl ?_
        exact OrdE.fin H3.out.dr H3.out.res OA.out hbkA (by omega)
    · have hkc : (k1 : Int) = 6 := by omega
      clear hk
      go_wp2_with (go_at_call 115; refine (HF.out 2 w2 (by omega)).mono ?_; clear HF; rintro e w3 ⟨LA, uA, rfl, ho, okA, hlA, hbkA, hb⟩; have HLA := Lib.hid hlA; clear hlA; obtain ⟨aA, CA, rfl⟩ := ho.form; have OA := Lib.hid (H2.out.own ho); have RA := Lib.hid ho.at; have H3 := Lib.hid (H2.out.step hb); have hres := H3.out.res.cell; have hrf := H3.out.res.frozen; clear ho hb)
      have hc9 := World.cell?_setCell_same' w3 ⟨w.heap.size, 0, none⟩ (.slice aA LA.length CA) (by rw [H3.out.res.cell]; rfl)
      refine bodyPost_ret (v := .agg #[.slice aA LA.length CA]) (by simp [results, Tryd.results71, go_sem, hc9]) rfl ?_
      exact OrdE.fin H3.out.dr H3.out.res OA.out hbkA (by omega)
end Go.Proofs.YtkomghohdhengaaDoor

/- Two elements drawn from a code (l91Two), and an order with them (l91Elements). -/
namespace Go.Proofs.YtkomghohdhengaaDoor
open Go.RowKit Go.Deep Go.Shelf

end Go.Proofs.YtkomghohdhengaaDoor

/- The model's FunParts. -/
namespace Go.Proofs.YtkomghohdhengaaDoor
open Go.RowKit Go.Deep

/-- The first parts, and the second parts, of the first k elements' pairs. -/
def quoN (f : List Int) (n k : Nat) : List Int := (List.range k).map fun i => (((f.getD i 0).toNat / n : Nat) : Int)
def remN (f : List Int) (n k : Nat) : List Int := (List.range k).map fun i => (((f.getD i 0).toNat % n : Nat) : Int)
theorem quoN_length (f : List Int) (n k : Nat) : (quoN f n k).length = k := by unfold quoN; simp
theorem remN_length (f : List Int) (n k : Nat) : (remN f n k).length = k := by unfold remN; simp
theorem quoN_succ (f : List Int) (n k : Nat) : quoN f n (k + 1) = quoN f n k ++ [(((f.getD k 0).toNat / n : Nat) : Int)] := by
  unfold quoN
  rw [List.range_succ, List.map_append]
  rfl
theorem remN_succ (f : List Int) (n k : Nat) : remN f n (k + 1) = remN f n k ++ [(((f.getD k 0).toNat % n : Nat) : Int)] := by
  unfold remN
  rw [List.range_succ, List.map_append]
  rfl
noncomputable def partOk (rows rows' rows2 : Rows2) (f : List Int) : Bool := prodOk rows' rows2 && monoB rows (prodL rows' rows2) f
noncomputable def part1 (rows rows' rows2 : Rows2) (f : List Int) : List Int := if partOk rows rows' rows2 f = true then quoN f rows2.length f.length else []
noncomputable def part2 (rows rows' rows2 : Rows2) (f : List Int) : List Int := if partOk rows rows' rows2 f = true then remN f rows2.length f.length else []

theorem part_wf {n k : Nat} {f : List Int} (hf : ∀ i, i < k → f.getD i 0 ≤ 40000) (hn : n ≤ 200) (hn0 : 0 < n) : (∀ x ∈ quoN f n k, (Lit.int .i64 x).wf = true) ∧ (∀ x ∈ remN f n k, (Lit.int .i64 x).wf = true) := by
  constructor
  · intro x hx
    unfold quoN at hx
    obtain ⟨i, hi, rfl⟩ := List.mem_map.1 hx
    rw [List.mem_range] at hi
    have h1 := hf i hi
    have h2 := Nat.div_le_self (f.getD i 0).toNat n
    generalize (f.getD i 0).toNat / n = q at h2 ⊢
    exact wf_int (by omega) (by omega)
  · intro x hx
    unfold remN at hx
    obtain ⟨i, hi, rfl⟩ := List.mem_map.1 hx
    have h2 := Nat.mod_lt (f.getD i 0).toNat hn0
    exact wf_int (by omega) (by omega)
set_option maxRecDepth 100000 in
set_option maxHeartbeats 8000000 in
theorem specPart_any (v v' v2 vf : Value) (rows rows' rows2 : Rows2) (f : List Int) (w : World) (hv : RowsAt w v rows) (hv' : RowsAt w v' rows') (hv2 : RowsAt w v2 rows2) (hf : IntsAt w vf f)
    (hn : bulk rows ≤ 1048576) (hn' : bulk rows' ≤ 1048576) (hn2 : bulk rows2 ≤ 1048576) :
    Calls Tryd.prog 47 #[.agg #[v], .agg #[v'], .agg #[v2], vf] w (OwnBB (part1 rows rows' rows2 f) (part2 rows rows' rows2 f) (partOk rows rows' rows2 f) w) := by
  have hV := fun W (h : Below w.heap.size w W) => hv.below h
  have hV' := fun W (h : Below w.heap.size w W) => hv'.below h
  have hV2 := fun W (h : Below w.heap.size w W) => hv2.below h
  have HFA := Lib.hid (fun W (h : Below w.heap.size w W) => hf.below h)
  obtain ⟨A, C, rfl, _⟩ := hv
  obtain ⟨A', C', rfl, _⟩ := hv'
  obtain ⟨A2, C2, rfl, _⟩ := hv2
  obtain ⟨Af, Cf, rfl, _⟩ := hf
  have h0 := St.start3 w 25 25 25 (.slice A rows.length C) (.slice A' rows'.length C') (.slice A2 rows2.length C2)
  have hc0 := h0.cell 0 rfl
  have hc1 := h0.cell 1 rfl
  have hc2 := h0.cell 2 rfl
  have H0 := Lib.hid h0
  have HP := Lib.hid (fun W (h : Below w.heap.size w W) => specProd_any (.slice A' rows'.length C') (.slice A2 rows2.length C2) rows' rows2 W (hV' W h) (hV2 W h) hn' hn2)
  have HM := Lib.hid (fun W u (h : Below w.heap.size w W) (hu : RowsAt W u (prodL rows' rows2)) => specMono_any (.slice A rows.length C) u (.slice Af f.length Cf) rows (prodL rows' rows2) f W (hV W h) hu (HFA.out W h) hn (prod_bulk rows' rows2))
  clear h0 hV hV' hV2
  cases h1 : prodOk rows' rows2 with
  | false =>
    have HE := Lib.hid (show partOk rows rows' rows2 f = false by unfold partOk; rw [h1]; rfl)
    rw [h1] at HP
    go_enter Tryd.func47, Tryd.ntmps47
    go_wp2_with (go_at_call 101; refine (HP.out _ H0.out.below).mono ?_; clear HP; rintro e w1 ⟨u, rfl, hu, hb1⟩; obtain ⟨a1, C1, rfl⟩ := hu.form; have H1 := Lib.hid (H0.out.step hb1); have HU := Lib.hid hu; have hd0 := H1.out.cell 0 rfl; clear hu hb1 hc0 hc1 hc2)
    refine bodyPost_ret (v := .tuple #[.slice (some ⟨w1.heap.size + 1, 0, none⟩) 0 0, .slice (some ⟨w1.heap.size + 1 + 1, 0, none⟩) 0 0, .bool false]) (by simp [results, Tryd.results47, go_sem]) rfl ?_
    have hh := empty_two (W := w1.alloc (.cells #[.slice a1 (List.length (prodL rows' rows2)) C1] 25)) (H1.out.below.alloc H1.out.below.size _) _ HE.out (show part1 rows rows' rows2 f = [] by unfold part1; rw [HE.out]; rfl) (show part2 rows rows' rows2 f = [] by unfold part2; rw [HE.out]; rfl)
    rw [World.size_alloc] at hh
    rw [HE.out]
    rw [HE.out] at hh
    exact hh
  | true =>
    rw [h1] at HP
    cases h2 : monoB rows (prodL rows' rows2) f with
    | false =>
      have HE := Lib.hid (show partOk rows rows' rows2 f = false by unfold partOk; rw [h1, h2]; rfl)
      rw [h2] at HM
      go_enter Tryd.func47, Tryd.ntmps47
      go_wp2_with (first | (go_at_call 101; refine (HP.out _ H0.out.below).mono ?_; clear HP; rintro e w1 ⟨u, rfl, hu, hb1⟩; obtain ⟨a1, C1, rfl⟩ := hu.form; have H1 := Lib.hid ((H0.out.step hb1).box 25 (.slice a1 (List.length (prodL rows' rows2)) C1)); have HU := Lib.hid (hu.at.below ((Below.refl w1.heap.size w1).alloc (Nat.le_refl _) (.cells #[.slice a1 (List.length (prodL rows' rows2)) C1] 25))); have hd0 := H1.out.cell 0 rfl; clear hu hb1 hc0 hc1 hc2) | (go_at_call 76; refine (HM.out _ _ H1.out.below HU.out).mono ?_; clear HM; rintro e w2 ⟨rfl, hb2⟩; have H2 := Lib.hid (H1.out.step hb2); clear hb2 hd0))
      refine bodyPost_ret (v := .tuple #[.slice (some ⟨w2.heap.size, 0, none⟩) 0 0, .slice (some ⟨w2.heap.size + 1, 0, none⟩) 0 0, .bool false]) (by simp [results, Tryd.results47, go_sem]) rfl ?_
      have hh := empty_two (W := w2) H2.out.below _ HE.out (show part1 rows rows' rows2 f = [] by unfold part1; rw [HE.out]; rfl) (show part2 rows rows' rows2 f = [] by unfold part2; rw [HE.out]; rfl)
      rw [HE.out]
      rw [HE.out] at hh
      exact hh
    | true =>
      have HE := Lib.hid (show partOk rows rows' rows2 f = true by unfold partOk; rw [h1, h2]; rfl)
      rw [h2] at HM
      obtain ⟨hD, _, hm⟩ := monoB_parts h2
      have hnn : rows'.length * rows2.length ≤ 200 := by
        unfold prodOk at h1
        rw [Bool.and_eq_true, decide_eq_true_iff] at h1
        exact h1.2
      have hl2 : 0 < rows2.length ∧ rows2.length ≤ 200 := by
        unfold prodOk at h1
        rw [Bool.and_eq_true, Bool.and_eq_true] at h1
        exact ⟨(domB_iff.1 h1.1.2).1.len.1, dom_len h1.1.2⟩
      have hfl : f.length ≤ 200 := by
        have h3 := hm.1
        have h4 := dom_len hD
        omega
      have HR := Lib.hid (show ∀ i (hi : i < f.length), ∃ q : Nat, f[i] = (q : Int) ∧ q ≤ 200 from fun i hi => by
        have h3 := hm.2.1 _ (List.getElem_mem hi)
        rw [(prodL_yes h1).1] at h3
        exact ⟨f[i].toNat, by omega, by omega⟩)
      obtain ⟨i0, hi0, hz0, hz1, hz2⟩ := info_parts infoInt
      clear hD hm h1 h2 hnn
      go_enter Tryd.func47, Tryd.ntmps47
      go_wp2_with (first | (go_at_call 101; refine (HP.out _ H0.out.below).mono ?_; clear HP; rintro e w1 ⟨u, rfl, hu, hb1⟩; obtain ⟨a1, C1, rfl⟩ := hu.form; have H1 := Lib.hid ((H0.out.step hb1).box 25 (.slice a1 (List.length (prodL rows' rows2)) C1)); have HU := Lib.hid (hu.at.below ((Below.refl w1.heap.size w1).alloc (Nat.le_refl _) (.cells #[.slice a1 (List.length (prodL rows' rows2)) C1] 25))); have hd0 := H1.out.cell 0 rfl; clear hu hb1 hc0 hc1 hc2) | (go_at_call 76; refine (HM.out _ _ H1.out.below HU.out).mono ?_; clear HM; rintro e w2 ⟨rfl, hb2⟩; have H2 := Lib.hid (H1.out.step hb2); clear hb2 hd0))
      have HO1 := Lib.hid (World.ownsRow_made (e := 3) (size := 1) w2 #[] 0 (base := w2.heap.size) (Nat.le_refl _) (Nat.zero_le _) (by simp))
      have HO2 := Lib.hid (World.ownsRow_made (e := 3) (size := 1) (w2.alloc (.cells #[] 3)) #[] 0 (base := w2.heap.size) (by rw [World.size_alloc]; omega) (Nat.zero_le _) (by simp))
      have HB2 := Lib.hid (((Below.refl w2.heap.size w2).alloc (Nat.le_refl _) (.cells #[] 3)).alloc (by rw [World.size_alloc]; omega) (.cells #[] 3))
      have hw2 : w.heap.size + 2 < w2.heap.size := H2.out.lt 2 rfl
      go_loopw [13, 14, 15] (fun o1 o2 kv wr => ∃ k g1 C1 g2 C2 : Nat, k ≤ f.length ∧ o1 = .slice (some ⟨g1, 0, none⟩) k C1 ∧ o2 = .slice (some ⟨g2, 0, none⟩) k C2 ∧ g1 ≠ g2 ∧ kv = .int .i64 k ∧ wr.ownsRow w2.heap.size 3 1 (.slice (some ⟨g1, 0, none⟩) k C1) k (cellsI (quoN f rows2.length k)) ∧ wr.ownsRow w2.heap.size 3 1 (.slice (some ⟨g2, 0, none⟩) k C2) k (cellsI (remN f rows2.length k)) ∧ Below w2.heap.size w2 wr) (fun _ _ kv _ => f.length - (intOf kv).toNat)
      case atStart =>
        have hx := HO2.out
        rw [World.size_alloc] at hx
        exact ⟨0, _, _, _, _, Nat.zero_le _, rfl, rfl, by omega, rfl, HO1.out.alloc _, hx, HB2.out⟩
      case round =>
        obtain ⟨k, g1, C1', g2, C2', hk, rfl, rfl, hne, rfl, ho1, ho2, hB⟩ := hrel
        have HOWN1 := Lib.hid ho1
        have HOWN2 := Lib.hid ho2
        have HB := Lib.hid hB
        have hg2 : g2 < wr.heap.size := (ho2.lt g2 rfl).2
        have hg1 : g1 < wr.heap.size := (ho1.lt g1 rfl).2
        clear ho1 ho2 hB HO1 HO2 HB2
        by_cases hlt : k < f.length
        · have HW := Lib.hid (H2.out.below.trans (HB.out.mono (by omega)))
          obtain ⟨b1, o1, rfl, hcf⟩ := (HFA.out wr HW.out).get hlt
          obtain ⟨q, hq, hq2⟩ := HR.out k hlt
          rw [hq] at hcf
          have hc2 : wr.cell? ⟨w.heap.size + 2, 0, none⟩ = some (.slice A2 rows2.length C2) := (HB.out.cell (p := ⟨w.heap.size + 2, 0, none⟩) hw2).trans (H2.out.cell 2 rfl)
          have hbz : w2.heap.size ≤ wr.heap.size := HB.out.size
          have HOA1 := Lib.hid fun X => HOWN1.out.alloc X
          have hrn : rows2 ≠ [] := fun e => by rw [e] at hl2; exact absurd hl2.1 (Nat.lt_irrefl 0)
          go_upto_region 9 with fail
          go_region_law ((refine step_append_lies _ (by rfl) _ _ 26 (by rfl) w2.heap.size 3 i0 (.int .i64 0) 1 8 Tryd.underlying26 hi0 hz0 hz1 hz2 rfl (by decide) (.slice (some ⟨g1, 0, none⟩) k C1') k (cellsI (quoN f rows2.length k)) (by rfl) (HOA1.out _) ⟨wr.heap.size, 0, none⟩ 1 1 [.int .i64 (IntKind.i64.wrap ((q : Int) / (rows2.length : Int)))] (by rfl) rfl (World.news_of_block (heap_alloc_new wr _)) (by simp [Value.oneCell']) (by omega) (by unfold maxLen; omega) (by omega) (by simp; omega) (wr.heap.size + 1) (by simp) ?_; intro g' cap' w3 hown hgrow hat hlt'))
          all_goals
            have HOWN1' := Lib.hid hown
            have HG1 := Lib.hid hgrow
            have HOWN2' := Lib.hid (owns_far (W := (wr.alloc (.cells #[.int .i64 (IntKind.i64.wrap ((q : Int) / (rows2.length : Int)))] 3)).drew) (HOWN2.out.alloc (.cells #[.int .i64 (IntKind.i64.wrap ((q : Int) / (rows2.length : Int)))] 3)) hgrow (.inr (by simp [Value.ownBlock]; omega)))
            have HBX := Lib.hid ((HB.out.alloc hbz (.cells #[.int .i64 (IntKind.i64.wrap ((q : Int) / (rows2.length : Int)))] 3)).grown ⟨hgrow.os, hgrow.tape, hgrow.output, hgrow.size, hgrow.block⟩ (by rw [World.size_alloc]; omega) (fun b e => (HOWN1.out.lt b e).1))
            have hg' : g' ≠ g2 := by
              rcases hat with h | h
              · simp [Value.ownBlock] at h; omega
              · omega
            clear hown hgrow hat hcf hc2
            have HW' := Lib.hid (H2.out.below.trans (HBX.out.mono (show w.heap.size ≤ w2.heap.size by omega)))
            obtain ⟨b3, o3, e3, hcf⟩ := (HFA.out w3 HW'.out).get hlt
            cases e3
            rw [hq] at hcf
            have hc2 : w3.cell? ⟨w.heap.size + 2, 0, none⟩ = some (.slice A2 rows2.length C2) := (HBX.out.cell (p := ⟨w.heap.size + 2, 0, none⟩) hw2).trans (H2.out.cell 2 rfl)
            have hbz' : w2.heap.size ≤ w3.heap.size := HBX.out.size
            have HOA2 := Lib.hid fun X => HOWN2'.out.alloc X
            go_upto_region 10 with fail
            go_region_law ((refine step_append_lies _ (by rfl) _ _ 26 (by rfl) w2.heap.size 3 i0 (.int .i64 0) 1 8 Tryd.underlying26 hi0 hz0 hz1 hz2 rfl (by decide) (.slice (some ⟨g2, 0, none⟩) k C2') k (cellsI (remN f rows2.length k)) (by rfl) (HOA2.out _) ⟨w3.heap.size, 0, none⟩ 1 1 [.int .i64 ((q : Int).tmod (rows2.length : Int))] (by rfl) rfl (World.news_of_block (heap_alloc_new w3 _)) (by simp [Value.oneCell']) (by omega) (by unfold maxLen; omega) (by omega) (by simp; omega) (w3.heap.size + 1) (by simp) ?_; intro g2' cap2' w4 hown hgrow hat hlt2'))
            all_goals
              have hne' : g' ≠ g2' := by
                rcases hat with h | h
                · simp [Value.ownBlock] at h; omega
                · omega
              have hO1 := owns_far (W := (w3.alloc (.cells #[.int .i64 ((q : Int).tmod (rows2.length : Int))] 3)).drew) (HOWN1'.out.alloc (.cells #[.int .i64 ((q : Int).tmod (rows2.length : Int))] 3)) hgrow (.inr (by simp [Value.ownBlock]; omega))
              have hBY := (HBX.out.alloc hbz' (.cells #[.int .i64 ((q : Int).tmod (rows2.length : Int))] 3)).grown ⟨hgrow.os, hgrow.tape, hgrow.output, hgrow.size, hgrow.block⟩ (by rw [World.size_alloc]; omega) (fun b e => (HOWN2'.out.lt b e).1)
              have eD : (f.getD k 0).toNat = q := by rw [getD_lt 0 hlt, hq]; rfl
              have eQ : IntKind.i64.wrap ((q : Int) / (rows2.length : Int)) = ((q / rows2.length : Nat) : Int) := by
                rw [← Int.natCast_ediv]
                have h5 := Nat.div_le_self q rows2.length
                generalize q / rows2.length = z at h5 ⊢
                exact IntWalk.i64_in _ (by omega)
              have eR : (q : Int).tmod (rows2.length : Int) = ((q % rows2.length : Nat) : Int) := (Int.ofNat_tmod q rows2.length).symm
              rw [eQ] at hO1
              rw [eR] at hown
              have HO1' := Lib.hid hO1
              have HO2' := Lib.hid hown
              have HBY := Lib.hid hBY
              clear hO1 hown hBY hgrow hat hcf hc2 eQ eR
              go_wp2
              go_roundw
              case rel =>
                refine ⟨k + 1, g', cap', g2', cap2', by omega, rfl, rfl, hne', by go_num, ?_, ?_, HBY.out⟩
                · rw [quoN_succ, eD, show cellsI (quoN f rows2.length k ++ [((q / rows2.length : Nat) : Int)]) = cellsI (quoN f rows2.length k) ++ [.int .i64 ((q / rows2.length : Nat) : Int)] by simp]
                  exact HO1'.out
                · rw [remN_succ, eD, show cellsI (remN f rows2.length k ++ [((q % rows2.length : Nat) : Int)]) = cellsI (remN f rows2.length k) ++ [.int .i64 ((q % rows2.length : Nat) : Int)] by simp]
                  exact HO2'.out
              case measure => simp [intOf]; omega
        · obtain rfl : k = f.length := by omega
          go_wp2
          refine bodyPost_ret (v := .tuple #[.slice (some ⟨g1, 0, none⟩) f.length C1', .slice (some ⟨g2, 0, none⟩) f.length C2', .bool true]) (by simp [results, Tryd.results47, go_sem]) rfl ?_
          have hwf := part_wf (n := rows2.length) (k := f.length) (f := f) (fun i hi => by obtain ⟨q, hq, hq2⟩ := HR.out i hi; rw [getD_lt 0 hi, hq]; omega) hl2.2 hl2.1
          refine ⟨_, _, by rw [HE.out], ?_, ?_, .inr (by simp [Value.ownBlock]; omega), H2.out.below.trans (HB.out.mono (by omega))⟩
          · unfold part1
            rw [if_pos HE.out]
            refine OwnI.of_owns ?_ hwf.1 (fun b hb => (HOWN1.out.lt b hb).2)
            rw [quoN_length]
            exact owns_weaker HOWN1.out (by omega)
          · unfold part2
            rw [if_pos HE.out]
            refine OwnI.of_owns ?_ hwf.2 (fun b hb => (HOWN2.out.lt b hb).2)
            rw [remN_length]
            exact owns_weaker HOWN2.out (by omega)
end Go.Proofs.YtkomghohdhengaaDoor

/- The program's FunParts. -/
namespace Go.Proofs.YtkomghohdhengaaDoor
open Go.RowKit Go.Deep Go.Shelf

/-- Two lists, each in memory of its own. -/
def OwnLL (xs ys : List Int) (w : World) (e : Ending) (w' : World) : Prop :=
  ∃ v u, e = .returned (.tuple #[v, u]) ∧ OwnI 3 w' v xs w.heap.size w'.heap.size ∧ OwnI 3 w' u ys w.heap.size w'.heap.size ∧ (v.ownBlock = none ∨ v.ownBlock ≠ u.ownBlock) ∧ Below w.heap.size w w'

theorem part_step {i k : Nat} {f : List Int} {h : Nat → Nat} {q : Nat} (e : (f.getD k 0).toNat = q) : (if i = k then Value.int .i64 ((h q : Nat) : Int) else if i < k then Value.int .i64 ((h (f.getD i 0).toNat : Nat) : Int) else .int .i64 0) = if i < k + 1 then Value.int .i64 ((h (f.getD i 0).toNat : Nat) : Int) else .int .i64 0 := by
  by_cases e1 : i = k
  · subst e1
    rw [if_pos rfl, if_pos (Nat.lt_succ_self i), e]
  · by_cases e2 : i < k
    · rw [if_neg e1, if_pos e2, if_pos (by omega)]
    · rw [if_neg e1, if_neg e2, if_neg (by omega)]
theorem own_of_row {W : World} {b n lo : Nat} {t : TypeId} {R : Nat → Value} {xs : List Int} (h : W.rowIs b t n R) (hl : xs.length = n) (hn : n ≤ 200) (hlo : lo ≤ b) (hw : ∀ x ∈ xs, (Lit.int .i64 x).wf = true) (hR : ∀ i (hi : i < xs.length), R i = .int .i64 xs[i]) : OwnI t W (.slice (some ⟨b, 0, none⟩) n n) xs lo W.heap.size := by
  subst hl
  exact ⟨hw, .inr ⟨b, xs.length, R, rfl, Nat.le_refl _, by unfold maxLen; omega, hlo, h.lt, h, hR⟩⟩

theorem rowIs_heap {W W' : World} {b n : Nat} {t : TypeId} {R : Nat → Value} (hW : W'.heap = W.heap) (h : W.rowIs b t n R) : W'.rowIs b t n R := by
  obtain ⟨c, h1, h2⟩ := h
  exact ⟨c, by rw [hW]; exact h1, h2⟩

set_option maxRecDepth 100000 in
set_option maxHeartbeats 4000000 in
theorem parts_any (vf : Value) (f : List Int) (n : Nat) (w : World) (hf : IntsAt w vf f) (hfl : f.length ≤ 200) (hn0 : 0 < n) (hn : n ≤ 200)
    (hrf : ∀ i (hi : i < f.length), ∃ q : Nat, f[i] = (q : Int) ∧ q ≤ 200) :
    Calls Tryd.prog 105 #[vf, .int .i64 (n : Int)] w (OwnLL (quoN f n f.length) (remN f n f.length) w) := by
  have HFA := Lib.hid (fun W (h : Below w.heap.size w W) => hf.below h)
  have HRF := Lib.hid hrf
  obtain ⟨Af, Cf, rfl, hCf, hmf, _⟩ := hf
  unfold maxLen at hmf
  have hmk := run_make_row' (P := Tryd.prog) 75 3 (.int .i64 0) 8 Tryd.underlying75 infoInt rfl .i64 .i64 f.length (by omega) (by omega)
  clear hrf
  go_enter Tryd.func105, Tryd.ntmps105
  go_upto_region 1 with fail
  go_region
  · clear hmk
    have HR1 := Lib.hid (show ∀ W : World, W.heap = (((w.alloc (.cells (madeCells #[.int .i64 0] f.length) 3)).alloc (.cells (madeCells #[.int .i64 0] f.length) 3))).heap → W.rowIs (w.heap.size) 3 f.length (fun i => if i < 0 then .int .i64 (((f.getD i 0).toNat / n : Nat) : Int) else .int .i64 0) from fun W hW => (rowIs_heap hW ((World.rowIs_made w (.int .i64 0) f.length 3).alloc _)).congr (fun i _ => by rw [if_neg (Nat.not_lt_zero i)]))
    have HR2 := Lib.hid (show ∀ W : World, W.heap = (((w.alloc (.cells (madeCells #[.int .i64 0] f.length) 3)).alloc (.cells (madeCells #[.int .i64 0] f.length) 3))).heap → W.rowIs (w.heap.size + 1) 3 f.length (fun i => if i < 0 then .int .i64 (((f.getD i 0).toNat % n : Nat) : Int) else .int .i64 0) from fun W hW => (rowIs_heap hW (by have h := World.rowIs_made (w.alloc (.cells (madeCells #[.int .i64 0] f.length) 3)) (.int .i64 0) f.length 3; rw [World.size_alloc] at h; exact h)).congr (fun i _ => by rw [if_neg (Nat.not_lt_zero i)]))
    have HB0 := Lib.hid (((Below.refl w.heap.size w).alloc (Nat.le_refl _) (.cells (madeCells #[.int .i64 0] f.length) 3)).alloc (by rw [World.size_alloc]; omega) (.cells (madeCells #[.int .i64 0] f.length) 3))
    go_wp2
    go_loopw [8, 9, 18] (fun _ _ kv wr => ∃ k : Nat, k ≤ f.length ∧ kv = .int .i64 k ∧ wr.rowIs (w.heap.size) 3 f.length (fun i => if i < k then .int .i64 (((f.getD i 0).toNat / n : Nat) : Int) else .int .i64 0) ∧ wr.rowIs (w.heap.size + 1) 3 f.length (fun i => if i < k then .int .i64 (((f.getD i 0).toNat % n : Nat) : Int) else .int .i64 0) ∧ Below w.heap.size w wr) (fun _ _ kv _ => f.length - (intOf kv).toNat)
    case atStart => exact ⟨0, Nat.zero_le _, rfl, HR1.out _ rfl, HR2.out _ rfl, HB0.out.trans (below_drew _ _)⟩
    case round =>
      obtain ⟨k, hk, rfl, hr1, hr2, hB⟩ := hrel
      have HR1' := Lib.hid hr1
      have HR2' := Lib.hid hr2
      have HB := Lib.hid hB
      clear hB HR1 HR2 HB0
      by_cases hlt : k < f.length
      · have hc1 := hr1.cell hlt
        have hf1 := hr1.frozen k
        have hc2 := hr2.cell hlt
        have hf2 := hr2.frozen k
        rw [if_neg (Nat.lt_irrefl k)] at hc1 hc2
        have hkz : (k : Int) < (f.length : Int) := by omega
        obtain ⟨b1, o1, rfl, hcf⟩ := (HFA.out wr HB.out).get hlt
        obtain ⟨q, hq, hq2⟩ := HRF.out k hlt
        rw [hq] at hcf
        have hnz : (n : Int) ≠ 0 := by omega
        have hnz2 : n ≠ 0 := by omega
        clear hr1 hr2
        go_upto_region 5 with fail
        clear hcf
        go_region
        all_goals
          have eD : (f.getD k 0).toNat = q := by rw [getD_lt 0 hlt, hq]; rfl
          have eQ : wrap64 ((q : Int) / (n : Int)) = ((q / n : Nat) : Int) := by

            rw [← Int.natCast_ediv]
            have h5 := Nat.div_le_self q n
            generalize q / n = z at h5 ⊢
            exact IntWalk.wrap64_in (z : Int) (by omega)
          have eR : (q : Int) % (n : Int) = ((q % n : Nat) : Int) := (Int.natCast_emod q n).symm
          rw [eQ, eR]
          clear hc1 hc2 hf1 hf2
          generalize hwn : ((wr.setCell _ _).setCell _ _).drew = wn
          have hA1 : wn.rowIs (w.heap.size) 3 f.length (fun i => if i < k + 1 then .int .i64 (((f.getD i 0).toNat / n : Nat) : Int) else .int .i64 0) := by
            rw [← hwn]
            first
              | exact (((HR1'.out.set k _).setOther (by simp) _).congr fun i hi => part_step (h := fun x => x / n) eD)
              | exact (((HR1'.out.setOther (by simp) _).set k _).congr fun i hi => part_step (h := fun x => x / n) eD)
          have hA2 : wn.rowIs (w.heap.size + 1) 3 f.length (fun i => if i < k + 1 then .int .i64 (((f.getD i 0).toNat % n : Nat) : Int) else .int .i64 0) := by
            rw [← hwn]
            first
              | exact (((HR2'.out.setOther (by simp) _).set k _).congr fun i hi => part_step (h := fun x => x % n) eD)
              | exact (((HR2'.out.set k _).setOther (by simp) _).congr fun i hi => part_step (h := fun x => x % n) eD)
          have hA3 : Below w.heap.size w wn := by
            rw [← hwn]
            exact ((HB.out.setCell (by simp) _).setCell (by simp) _).trans (below_drew _ _)
          clear hwn
          simp only [Exit.inBlock, Exit.then]
          go_at_K
          go_wp2
          refine ⟨⟨k + 1, by omega, by go_num, hA1, hA2, hA3⟩, ?_⟩
          simp [intOf]; omega
      · obtain rfl : k = f.length := by omega
        clear hr1 hr2
        go_wp2
        go_ret2
        have hwf := part_wf (n := n) (k := f.length) (f := f) (fun i hi => by obtain ⟨q, hq, hq2⟩ := HRF.out i hi; rw [getD_lt 0 hi, hq]; omega) hn hn0
        refine ⟨_, _, rfl, own_of_row HR1'.out (quoN_length _ _ _) (by omega) (by omega) hwf.1 (fun i hi => ?_), own_of_row HR2'.out (remN_length _ _ _) (by omega) (by omega) hwf.2 (fun i hi => ?_), .inr (by simp [Value.ownBlock]), HB.out⟩
        · rw [quoN_length] at hi
          simp [quoN, hi]
        · rw [remN_length] at hi
          simp [remN, hi]
  · clear hmk
    have HR1 := Lib.hid (show ∀ W : World, W.heap = (((w.alloc (.cells (madeCells #[.int .i64 0] f.length) 3)).alloc (.cells (madeCells #[.int .i64 0] f.length) 3))).heap → W.rowIs (w.heap.size + 1) 3 f.length (fun i => if i < 0 then .int .i64 (((f.getD i 0).toNat / n : Nat) : Int) else .int .i64 0) from fun W hW => (rowIs_heap hW (by have h := World.rowIs_made (w.alloc (.cells (madeCells #[.int .i64 0] f.length) 3)) (.int .i64 0) f.length 3; rw [World.size_alloc] at h; exact h)).congr (fun i _ => by rw [if_neg (Nat.not_lt_zero i)]))
    have HR2 := Lib.hid (show ∀ W : World, W.heap = (((w.alloc (.cells (madeCells #[.int .i64 0] f.length) 3)).alloc (.cells (madeCells #[.int .i64 0] f.length) 3))).heap → W.rowIs (w.heap.size) 3 f.length (fun i => if i < 0 then .int .i64 (((f.getD i 0).toNat % n : Nat) : Int) else .int .i64 0) from fun W hW => (rowIs_heap hW ((World.rowIs_made w (.int .i64 0) f.length 3).alloc _)).congr (fun i _ => by rw [if_neg (Nat.not_lt_zero i)]))
    have HB0 := Lib.hid (((Below.refl w.heap.size w).alloc (Nat.le_refl _) (.cells (madeCells #[.int .i64 0] f.length) 3)).alloc (by rw [World.size_alloc]; omega) (.cells (madeCells #[.int .i64 0] f.length) 3))
    go_wp2
    go_loopw [8, 9, 18] (fun _ _ kv wr => ∃ k : Nat, k ≤ f.length ∧ kv = .int .i64 k ∧ wr.rowIs (w.heap.size + 1) 3 f.length (fun i => if i < k then .int .i64 (((f.getD i 0).toNat / n : Nat) : Int) else .int .i64 0) ∧ wr.rowIs (w.heap.size) 3 f.length (fun i => if i < k then .int .i64 (((f.getD i 0).toNat % n : Nat) : Int) else .int .i64 0) ∧ Below w.heap.size w wr) (fun _ _ kv _ => f.length - (intOf kv).toNat)
    case atStart => exact ⟨0, Nat.zero_le _, rfl, HR1.out _ rfl, HR2.out _ rfl, HB0.out.trans (below_drew _ _)⟩
    case round =>
      obtain ⟨k, hk, rfl, hr1, hr2, hB⟩ := hrel
      have HR1' := Lib.hid hr1
      have HR2' := Lib.hid hr2
      have HB := Lib.hid hB
      clear hB HR1 HR2 HB0
      by_cases hlt : k < f.length
      · have hc1 := hr1.cell hlt
        have hf1 := hr1.frozen k
        have hc2 := hr2.cell hlt
        have hf2 := hr2.frozen k
        rw [if_neg (Nat.lt_irrefl k)] at hc1 hc2
        have hkz : (k : Int) < (f.length : Int) := by omega
        obtain ⟨b1, o1, rfl, hcf⟩ := (HFA.out wr HB.out).get hlt
        obtain ⟨q, hq, hq2⟩ := HRF.out k hlt
        rw [hq] at hcf
        have hnz : (n : Int) ≠ 0 := by omega
        have hnz2 : n ≠ 0 := by omega
        clear hr1 hr2
        go_upto_region 5 with fail
        clear hcf
        go_region
        all_goals
          have eD : (f.getD k 0).toNat = q := by rw [getD_lt 0 hlt, hq]; rfl
          have eQ : wrap64 ((q : Int) / (n : Int)) = ((q / n : Nat) : Int) := by

            rw [← Int.natCast_ediv]
            have h5 := Nat.div_le_self q n
            generalize q / n = z at h5 ⊢
            exact IntWalk.wrap64_in (z : Int) (by omega)
          have eR : (q : Int) % (n : Int) = ((q % n : Nat) : Int) := (Int.natCast_emod q n).symm
          rw [eQ, eR]
          clear hc1 hc2 hf1 hf2
          generalize hwn : ((wr.setCell _ _).setCell _ _).drew = wn
          have hA1 : wn.rowIs (w.heap.size + 1) 3 f.length (fun i => if i < k + 1 then .int .i64 (((f.getD i 0).toNat / n : Nat) : Int) else .int .i64 0) := by
            rw [← hwn]
            first
              | exact (((HR1'.out.set k _).setOther (by simp) _).congr fun i hi => part_step (h := fun x => x / n) eD)
              | exact (((HR1'.out.setOther (by simp) _).set k _).congr fun i hi => part_step (h := fun x => x / n) eD)
          have hA2 : wn.rowIs (w.heap.size) 3 f.length (fun i => if i < k + 1 then .int .i64 (((f.getD i 0).toNat % n : Nat) : Int) else .int .i64 0) := by
            rw [← hwn]
            first
              | exact (((HR2'.out.setOther (by simp) _).set k _).congr fun i hi => part_step (h := fun x => x % n) eD)
              | exact (((HR2'.out.set k _).setOther (by simp) _).congr fun i hi => part_step (h := fun x => x % n) eD)
          have hA3 : Below w.heap.size w wn := by
            rw [← hwn]
            exact ((HB.out.setCell (by simp) _).setCell (by simp) _).trans (below_drew _ _)
          clear hwn
          simp only [Exit.inBlock, Exit.then]
          go_at_K
          go_wp2
          refine ⟨⟨k + 1, by omega, by go_num, hA1, hA2, hA3⟩, ?_⟩
          simp [intOf]; omega
      · obtain rfl : k = f.length := by omega
        clear hr1 hr2
        go_wp2
        go_ret2
        have hwf := part_wf (n := n) (k := f.length) (f := f) (fun i hi => by obtain ⟨q, hq, hq2⟩ := HRF.out i hi; rw [getD_lt 0 hi, hq]; omega) hn hn0
        refine ⟨_, _, rfl, own_of_row HR1'.out (quoN_length _ _ _) (by omega) (by omega) hwf.1 (fun i hi => ?_), own_of_row HR2'.out (remN_length _ _ _) (by omega) (by omega) hwf.2 (fun i hi => ?_), .inr (by simp [Value.ownBlock]), HB.out⟩
        · rw [quoN_length] at hi
          simp [quoN, hi]
        · rw [remN_length] at hi
          simp [remN, hi]
end Go.Proofs.YtkomghohdhengaaDoor

/- The program's FunParts, called. -/
namespace Go.Proofs.YtkomghohdhengaaDoor
open Go.RowKit Go.Deep Go.Shelf

theorem ownBB_nil {w W : World} (hb : Below w.heap.size w W) {t : Bool} (ht : t = false) {xs ys : List Int} (hx : xs = []) (hy : ys = []) : OwnBB xs ys t w (.returned (.tuple #[.slice none 0 0, .slice none 0 0, .bool false])) W := by
  subst ht hx hy
  exact ⟨_, _, rfl, OwnI.nil _ _ _ _, OwnI.nil _ _ _ _, .inl rfl, hb⟩
theorem part1_no {rows rows' rows2 : Rows2} {f : List Int} (h : partOk rows rows' rows2 f = false) : part1 rows rows' rows2 f = [] := by unfold part1; rw [h]; rfl
theorem part2_no {rows rows' rows2 : Rows2} {f : List Int} (h : partOk rows rows' rows2 f = false) : part2 rows rows' rows2 f = [] := by unfold part2; rw [h]; rfl

theorem two_alloc (w : World) (x y : Value) (t : TypeId) {W : World} (hb : Below (w.alloc (.cells #[x, y] t)).heap.size (w.alloc (.cells #[x, y] t)) W) : W.cell? ⟨w.heap.size, 0, none⟩ = some x ∧ W.cell? ⟨w.heap.size, 1, none⟩ = some y := by
  have h := World.rowIs_alloc w #[x, y] t (fun i => if i = 0 then x else y) (fun i hi => by
    have hi2 : i < 2 := hi
    rcases (show i = 0 ∨ i = 1 by omega) with rfl | rfl <;> rfl)
  exact ⟨(hb.cell (p := ⟨w.heap.size, 0, none⟩) h.lt).trans (h.cell (i := 0) (by simp)), (hb.cell (p := ⟨w.heap.size, 1, none⟩) h.lt).trans (h.cell (i := 1) (by simp))⟩

set_option maxRecDepth 100000 in
set_option maxHeartbeats 8000000 in
theorem implPart_any (v v' v2 vf : Value) (rows rows' rows2 : Rows2) (f : List Int) (w : World) (hv : RowsAt w v rows) (hv' : RowsAt w v' rows') (hv2 : RowsAt w v2 rows2) (hf : IntsAt w vf f) (hT : Tab w)
    (hn : bulk rows ≤ 1048576) (hn' : bulk rows' ≤ 1048576) (hn2 : bulk rows2 ≤ 1048576) :
    Calls Tryd.prog 46 #[.agg #[v], .agg #[v'], .agg #[v2], vf] w (OwnBB (part1 rows rows' rows2 f) (part2 rows rows' rows2 f) (partOk rows rows' rows2 f) w) := by
  have HFA := Lib.hid (fun W (h : Below w.heap.size w W) => hf.below h)
  have HD1 := Lib.hid (fun W (h : Below w.heap.size w W) => domainOf_any v rows W (hv.below h) (hT.below h) hn)
  have HD2 := Lib.hid (fun W (h : Below w.heap.size w W) => domainOf_any v' rows' W (hv'.below h) (hT.below h) hn')
  have HD3 := Lib.hid (fun W (h : Below w.heap.size w W) => domainOf_any v2 rows2 W (hv2.below h) (hT.below h) hn2)
  obtain ⟨A, C, rfl, _⟩ := hv
  obtain ⟨A', C', rfl, _⟩ := hv'
  obtain ⟨A2, C2, rfl, _⟩ := hv2
  obtain ⟨Af, Cf, rfl, _⟩ := hf
  have h0 := St.start3 w 25 25 25 (.slice A rows.length C) (.slice A' rows'.length C') (.slice A2 rows2.length C2)
  have hc0 := h0.cell 0 rfl
  have H0 := Lib.hid h0
  clear h0 hT
  by_cases hall : domB rows = true ∧ domB rows' = true ∧ domB rows2 = true
  · obtain ⟨h1, h2, h3⟩ := hall
    have hok := ok_of_valid (show validB rows = true by have h := h1; unfold domB at h; rw [Bool.and_eq_true] at h; exact h.1)
    have hok' := ok_of_valid (show validB rows' = true by have h := h2; unfold domB at h; rw [Bool.and_eq_true] at h; exact h.1)
    have hok2 := ok_of_valid (show validB rows2 = true by have h := h3; unfold domB at h; rw [Bool.and_eq_true] at h; exact h.1)
    obtain ⟨N, hNN⟩ : ∃ N, N = rows'.length * rows2.length := ⟨_, rfl⟩
    have hN : N ≤ 200 * 200 := by rw [hNN]; exact Nat.mul_le_mul hok'.len.2 hok2.len.2
    have HSZ := Lib.hid (fun W p p' (a : GridAt W p (gridF rows')) (b : GridAt W p' (gridF rows2)) => (show Calls Tryd.prog 103 #[.agg #[gridV p, gridV p']] W (SaysI ((N : Nat) : Int) W) by rw [hNN]; exact prodSize_any p p' rows'.length rows2.length (gridF rows') (gridF rows2) W a b hok'.gridN hok2.gridN))
    by_cases hl : N ≤ 200
    · have hp : prodOk rows' rows2 = true := by unfold prodOk; rw [h2, h3, decide_eq_true (by omega)]; rfl
      have hpt : partOk rows rows' rows2 f = monoI rows (prodL rows' rows2) f := by unfold partOk monoB; rw [hp, h1, prod_dom hp]; rfl
      have HM := Lib.hid (fun W b p p' (a : GridAt W b (gridF rows)) (a' : GridAt W p (gridF rows')) (a2 : GridAt W p' (gridF rows2)) (h : Below w.heap.size w W) => prodMono_any b p p' rows'.length rows2.length (gridF rows) (gridF rows') (gridF rows2) rows.length N (.slice Af f.length Cf) f W a hok.gridN a' a2 hok'.gridN hok2.gridN hNN (HFA.out W h) (monoI rows (prodL rows' rows2) f) (by rw [prodL_made hp, ← hNN]; exact mono_made hok f))
      have hlz : ¬ ((200 : Int) < (N : Int)) := by omega
      cases hm : monoI rows (prodL rows' rows2) f with
      | false =>
        rw [hm] at hpt HM
        have HE := Lib.hid hpt
        clear hpt hm hp hNN hok hok' hok2
        go_enter Tryd.func46, Tryd.ntmps46
        go_wp2_with (first | (go_at_call 102; refine (HD1.out _ H0.out.below).mono ?_; clear HD1; rintro e w1 ⟨⟨q1, rfl, hq1⟩, hb1⟩; obtain ⟨p1, rfl, hg1⟩ := hq1 h1; rw [h1]; have G1 := Lib.hid hg1; have H1 := Lib.hid (H0.out.step hb1); have hc1 := H1.out.cell 1 rfl; clear hb1 hc0 hg1 hq1) | (go_at_call 102; refine (HD2.out _ H1.out.below).mono ?_; clear HD2; rintro e w2 ⟨⟨q2, rfl, hq2⟩, hb2⟩; obtain ⟨p2, rfl, hg2⟩ := hq2 h2; rw [h2]; have G12 := Lib.hid (G1.out.below hb2 G1.out.lt); have G2 := Lib.hid hg2; have H2 := Lib.hid (H1.out.step hb2); have hc2 := H2.out.cell 2 rfl; clear hb2 hc1 hg2 hq2) | (go_at_call 102; refine (HD3.out _ H2.out.below).mono ?_; clear HD3; rintro e w3 ⟨⟨q3, rfl, hq3⟩, hb3⟩; obtain ⟨p3, rfl, hg3⟩ := hq3 h3; rw [h3]; have hst := (Below.refl w3.heap.size w3).alloc (Nat.le_refl _) (.cells #[gridV p2, gridV p3] 114); have G13 := Lib.hid ((G12.out.below hb3 G12.out.lt).below hst (G12.out.below hb3 G12.out.lt).lt); have G23 := Lib.hid ((G2.out.below hb3 G2.out.lt).below hst (G2.out.below hb3 G2.out.lt).lt); have G33 := Lib.hid (hg3.below hst hg3.lt); have H3 := Lib.hid ((H2.out.step hb3).step hst); clear hb3 hc2 hg3 hq3 hst) | (go_at_call 103; refine (HSZ.out _ _ _ G23.out G33.out).mono ?_; clear HSZ; rintro e w4 ⟨rfl, hb4⟩; have G14 := Lib.hid (G13.out.below hb4 G13.out.lt); have G24 := Lib.hid (G23.out.below hb4 G23.out.lt); have G34 := Lib.hid (G33.out.below hb4 G33.out.lt); have H4 := Lib.hid (H3.out.step hb4); have hx := two_alloc w3 (gridV p2) (gridV p3) 114 hb4; have hx0 := hx.1; have hx1 := hx.2; clear hb4 hx) | (go_at_call 104; refine (HM.out _ _ _ _ G14.out G24.out G34.out H4.out.below).mono ?_; clear HM; rintro e w5 ⟨rfl, hb5⟩; have H5 := Lib.hid (H4.out.step hb5); clear hb5))
        refine bodyPost_ret (v := .tuple #[.slice none 0 0, .slice none 0 0, .bool false]) (by simp [results, Tryd.results46, go_sem]) rfl ?_
        exact ownBB_nil H5.out.below HE.out (part1_no HE.out) (part2_no HE.out)
      | true =>
        rw [hm] at hpt HM
        have HE := Lib.hid hpt
        have hmm : Mono rows (prodL rows' rows2) f := by
          classical
          unfold monoI at hm
          exact of_decide_eq_true hm
        have hfl : f.length ≤ 200 := by
          have h4 := hmm.1
          have h5 := hok.len
          omega
        have HC := Lib.hid (fun W (h : Below w.heap.size w W) => parts_any (.slice Af f.length Cf) f rows2.length W (HFA.out W h) hfl (by have := hok2.len; omega) hok2.len.2 (fun i hi => by
          have h4 := hmm.2.1 _ (List.getElem_mem hi)
          rw [(prodL_yes hp).1, ← hNN] at h4
          exact ⟨f[i].toNat, by omega, by omega⟩))
        have HS2 := Lib.hid (fun W b (a : GridAt W b (gridF rows2)) => size_any b rows2.length (gridF rows2) W a hok2.gridN.le hok2.gridN.some hok2.gridN.none)
        clear hpt hm hp hNN hok hok' hok2 hmm hfl
        go_enter Tryd.func46, Tryd.ntmps46
        go_wp2_with (first | (go_at_call 102; refine (HD1.out _ H0.out.below).mono ?_; clear HD1; rintro e w1 ⟨⟨q1, rfl, hq1⟩, hb1⟩; obtain ⟨p1, rfl, hg1⟩ := hq1 h1; rw [h1]; have G1 := Lib.hid hg1; have H1 := Lib.hid (H0.out.step hb1); have hc1 := H1.out.cell 1 rfl; clear hb1 hc0 hg1 hq1) | (go_at_call 102; refine (HD2.out _ H1.out.below).mono ?_; clear HD2; rintro e w2 ⟨⟨q2, rfl, hq2⟩, hb2⟩; obtain ⟨p2, rfl, hg2⟩ := hq2 h2; rw [h2]; have G12 := Lib.hid (G1.out.below hb2 G1.out.lt); have G2 := Lib.hid hg2; have H2 := Lib.hid (H1.out.step hb2); have hc2 := H2.out.cell 2 rfl; clear hb2 hc1 hg2 hq2) | (go_at_call 102; refine (HD3.out _ H2.out.below).mono ?_; clear HD3; rintro e w3 ⟨⟨q3, rfl, hq3⟩, hb3⟩; obtain ⟨p3, rfl, hg3⟩ := hq3 h3; rw [h3]; have hst := (Below.refl w3.heap.size w3).alloc (Nat.le_refl _) (.cells #[gridV p2, gridV p3] 114); have G13 := Lib.hid ((G12.out.below hb3 G12.out.lt).below hst (G12.out.below hb3 G12.out.lt).lt); have G23 := Lib.hid ((G2.out.below hb3 G2.out.lt).below hst (G2.out.below hb3 G2.out.lt).lt); have G33 := Lib.hid (hg3.below hst hg3.lt); have H3 := Lib.hid ((H2.out.step hb3).step hst); clear hb3 hc2 hg3 hq3 hst) | (go_at_call 103; refine (HSZ.out _ _ _ G23.out G33.out).mono ?_; clear HSZ; rintro e w4 ⟨rfl, hb4⟩; have G14 := Lib.hid (G13.out.below hb4 G13.out.lt); have G24 := Lib.hid (G23.out.below hb4 G23.out.lt); have G34 := Lib.hid (G33.out.below hb4 G33.out.lt); have H4 := Lib.hid (H3.out.step hb4); have hx := two_alloc w3 (gridV p2) (gridV p3) 114 hb4; have hx0 := hx.1; have hx1 := hx.2; clear hb4 hx) | (go_at_call 104; refine (HM.out _ _ _ _ G14.out G24.out G34.out H4.out.below).mono ?_; clear HM; rintro e w5 ⟨rfl, hb5⟩; have G35 := Lib.hid (G34.out.below hb5 G34.out.lt); have H5 := Lib.hid (H4.out.step hb5); clear hb5 hx0 hx1) | (go_at_call 106; refine (HS2.out _ _ G35.out).mono ?_; clear HS2; rintro e w6 ⟨rfl, hb6⟩; have H6 := Lib.hid (H5.out.step hb6); clear hb6) | (go_at_call 105; refine (HC.out _ H6.out.below).mono ?_; clear HC; rintro e w7 ⟨u1, u2, rfl, ho1, ho2, hd, hb7⟩; have HO1 := Lib.hid ho1; have HO2 := Lib.hid ho2; have HDD := Lib.hid hd; have B7 := Lib.hid hb7; clear ho1 ho2 hd hb7))
        refine bodyPost_ret (v := .tuple #[u1, u2, .bool true]) (by simp [results, Tryd.results46, go_sem]) rfl ?_
        refine ⟨u1, u2, by rw [HE.out], ?_, ?_, HDD.out, H6.out.below.trans (B7.out.mono H6.out.below.size)⟩
        · unfold part1
          rw [if_pos HE.out]
          exact HO1.out.wider H6.out.below.size (Nat.le_refl _)
        · unfold part2
          rw [if_pos HE.out]
          exact HO2.out.wider H6.out.below.size (Nat.le_refl _)
    · have HE := Lib.hid (show partOk rows rows' rows2 f = false by unfold partOk prodOk; rw [decide_eq_false (show ¬ rows'.length * rows2.length ≤ 200 by omega), Bool.and_false]; rfl)
      have hlz : (200 : Int) < (N : Int) := by omega
      clear hNN hok hok' hok2
      go_enter Tryd.func46, Tryd.ntmps46
      go_wp2_with (first | (go_at_call 102; refine (HD1.out _ H0.out.below).mono ?_; clear HD1; rintro e w1 ⟨⟨q1, rfl, hq1⟩, hb1⟩; obtain ⟨p1, rfl, hg1⟩ := hq1 h1; rw [h1]; have G1 := Lib.hid hg1; have H1 := Lib.hid (H0.out.step hb1); have hc1 := H1.out.cell 1 rfl; clear hb1 hc0 hg1 hq1) | (go_at_call 102; refine (HD2.out _ H1.out.below).mono ?_; clear HD2; rintro e w2 ⟨⟨q2, rfl, hq2⟩, hb2⟩; obtain ⟨p2, rfl, hg2⟩ := hq2 h2; rw [h2]; have G12 := Lib.hid (G1.out.below hb2 G1.out.lt); have G2 := Lib.hid hg2; have H2 := Lib.hid (H1.out.step hb2); have hc2 := H2.out.cell 2 rfl; clear hb2 hc1 hg2 hq2) | (go_at_call 102; refine (HD3.out _ H2.out.below).mono ?_; clear HD3; rintro e w3 ⟨⟨q3, rfl, hq3⟩, hb3⟩; obtain ⟨p3, rfl, hg3⟩ := hq3 h3; rw [h3]; have hst := (Below.refl w3.heap.size w3).alloc (Nat.le_refl _) (.cells #[gridV p2, gridV p3] 114); have G13 := Lib.hid ((G12.out.below hb3 G12.out.lt).below hst (G12.out.below hb3 G12.out.lt).lt); have G23 := Lib.hid ((G2.out.below hb3 G2.out.lt).below hst (G2.out.below hb3 G2.out.lt).lt); have G33 := Lib.hid (hg3.below hst hg3.lt); have H3 := Lib.hid ((H2.out.step hb3).step hst); clear hb3 hc2 hg3 hq3 hst) | (go_at_call 103; refine (HSZ.out _ _ _ G23.out G33.out).mono ?_; clear HSZ; rintro e w4 ⟨rfl, hb4⟩; have G14 := Lib.hid (G13.out.below hb4 G13.out.lt); have G24 := Lib.hid (G23.out.below hb4 G23.out.lt); have G34 := Lib.hid (G33.out.below hb4 G33.out.lt); have H4 := Lib.hid (H3.out.step hb4); have hx := two_alloc w3 (gridV p2) (gridV p3) 114 hb4; have hx0 := hx.1; have hx1 := hx.2; clear hb4 hx))
      refine bodyPost_ret (v := .tuple #[.slice none 0 0, .slice none 0 0, .bool false]) (by simp [results, Tryd.results46, go_sem]) rfl ?_
      exact ownBB_nil H4.out.below HE.out (part1_no HE.out) (part2_no HE.out)
  · have HE := Lib.hid (show partOk rows rows' rows2 f = false by
      unfold partOk prodOk monoB
      cases e1 : domB rows <;> cases e2 : domB rows' <;> cases e3 : domB rows2 <;> simp
      exact absurd ⟨e1, e2, e3⟩ hall)
    cases e1 : domB rows <;> cases e2 : domB rows' <;> cases e3 : domB rows2
    case true.true.true => exact absurd ⟨e1, e2, e3⟩ hall
    all_goals
      clear hall
      go_enter Tryd.func46, Tryd.ntmps46
      go_wp2_with (first | (go_at_call 102; refine (HD1.out _ H0.out.below).mono ?_; clear HD1; rintro e w1 ⟨⟨q1, rfl, _⟩, hb1⟩; rw [e1]; have H1 := Lib.hid (H0.out.step hb1); have hc1 := H1.out.cell 1 rfl; clear hb1 hc0) | (go_at_call 102; refine (HD2.out _ H1.out.below).mono ?_; clear HD2; rintro e w2 ⟨⟨q2, rfl, _⟩, hb2⟩; rw [e2]; have H2 := Lib.hid (H1.out.step hb2); have hc2 := H2.out.cell 2 rfl; clear hb2 hc1) | (go_at_call 102; refine (HD3.out _ H2.out.below).mono ?_; clear HD3; rintro e w3 ⟨⟨q3, rfl, _⟩, hb3⟩; rw [e3]; have H3 := Lib.hid (H2.out.step hb3); clear hb3 hc2))
      refine bodyPost_ret (v := .tuple #[.slice none 0 0, .slice none 0 0, .bool false]) (by simp [results, Tryd.results46, go_sem]) rfl ?_
      exact ownBB_nil H3.out.below HE.out (part1_no HE.out) (part2_no HE.out)
end Go.Proofs.YtkomghohdhengaaDoor
