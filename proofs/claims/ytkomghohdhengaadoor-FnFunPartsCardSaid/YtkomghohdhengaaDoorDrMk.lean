/- Three domains drawn (l91Three). -/
import Derived.Test.YtkomghohdhengaaDoorDrUk
namespace Go.Proofs.YtkomghohdhengaaDoor
open Go.RowKit Go.Deep Go.Shelf

theorem Holds.lower {W : World} {n m : Nat} (hn : n ≤ m) : ∀ {is : List It}, Holds W m is → Holds W n is
  | [], h => Nat.le_trans hn h
  | _ :: _, h => ⟨Nat.le_trans hn h.1, h.2.1, h.2.2.1, h.2.2.2⟩
theorem Holds.aboveApp {W W' : World} {its : List It} (hi : Holds W' W.heap.size its) : ∀ {is : List It} {n : Nat}, Holds W n is → (∀ b, n ≤ b → b < W.heap.size → W'.heap[b]? = W.heap[b]?) → Holds W' n (is ++ its)
  | [], _, h, _ => hi.lower h
  | i :: _, _, h, hb => ⟨h.1, h.2.1, i.loc W W' (fun b hl hh => hb b (Nat.le_trans h.1 hl) (Nat.lt_of_lt_of_le hh h.2.2.2.le)) h.2.2.1, Holds.aboveApp hi h.2.2.2 (fun b hl hs => hb b (Nat.le_trans h.1 (Nat.le_trans h.2.1 hl)) hs)⟩
theorem Holds.turnApp {W W' : World} {i0 i1 : It} {its : List It} (hlo : i1.lo = i0.lo) (hhi : i1.hi = i0.hi) (ht : Turned i0.lo i0.hi W W') (hP1 : i1.P W') (hits : Holds W' W.heap.size its) :
    ∀ {is : List It} {n : Nat} (k : Nat), is[k]? = some i0 → Holds W n is → Holds W' n (is.set k i1 ++ its)
  | [], _, k, e, _ => by simp at e
  | i :: is, n, 0, e, h => by
    obtain rfl : i = i0 := by simpa using e
    refine ⟨by rw [hlo]; exact h.1, by rw [hlo, hhi]; exact h.2.1, hP1, ?_⟩
    rw [hhi]
    exact Holds.aboveApp hits h.2.2.2 fun b hl hs => ht.above b hl hs
  | i :: is, n, k + 1, e, h => by
    have e' : is[k]? = some i0 := by simpa using e
    have hg := Holds.get k e' h.2.2.2
    exact ⟨h.1, h.2.1, i.loc W W' (fun b _ hh => ht.below.block b (Nat.lt_of_lt_of_le hh hg.1)) h.2.2.1, Holds.turnApp hlo hhi ht hP1 hits k e' h.2.2.2⟩
theorem St.drawnL {w W W' : World} {is its : List It} {r q q' : Nat} {v : Value} (h : St w is W) (k : Nat) (e : is[k]? = some (ItD r v q)) (hd : Dr r v W q' W') (hits : Holds W' W.heap.size its) : St w (is.set k (ItD r v q') ++ its) W' :=
  ⟨h.below.trans (hd.turned.below.mono (h.holds.get k e).1), Holds.turnApp (i0 := ItD r v q) (i1 := ItD r v q') rfl rfl hd.turned hd.rd.row hits k e h.holds⟩

/-- While an older reader is drawn from: what has been drawn lies behind. -/
structure DrB (r : Nat) (v : Value) (w : World) (q : Nat) (is : List It) (W : World) : Prop where
  dr : Dr r v w q W
  holds : Holds W w.heap.size is
section
variable {r q q' : Nat} {v : Value} {w W W' : World} {is : List It}
theorem DrB.step (h : DrB r v w q is W) (hb : Below W.heap.size W W') : DrB r v w q is W' := ⟨h.dr.step hb, h.holds.step hb⟩
theorem DrB.drawnR {u : Value} {n : Nat} {R : Nat → List Int} (h : DrB r v w q is W) (hd : Dr r v W q' W') (ho : OwnR 3 26 W' u n R W.heap.size W'.heap.size) : DrB r v w q' (is ++ [ItR u n R W.heap.size W'.heap.size]) W' :=
  ⟨h.dr.trans hd, h.holds.abovePush (it := ItR u n R W.heap.size W'.heap.size) (Nat.le_refl _) hd.size (Nat.le_refl _) ho fun b hb hs => hd.turned.above b (by have := h.dr.old; omega) hs⟩
theorem DrB.box (h : DrB r v w q is W) (t : TypeId) (x : Value) : DrB r v w q (is ++ [ItB W.heap.size t x]) (W.alloc (.cells #[x] t)) :=
  ⟨h.dr.step ((Below.refl _ _).alloc (Nat.le_refl _) _), h.holds.push (it := ItB W.heap.size t x) ((Below.refl _ _).alloc (Nat.le_refl _) _) (Nat.le_refl _) (Nat.le_succ _) (by rw [World.size_alloc]; exact Nat.le_refl _) (Boxed.new W t x)⟩
theorem DrB.cell {b : Nat} {t : TypeId} {x : Value} (h : DrB r v w q is W) (k : Nat) (e : is[k]? = some (ItB b t x)) : W.cell? ⟨b, 0, none⟩ = some x := Boxed.cell (h.holds.get k e).2.2.2
theorem DrB.drew (h : DrB r v w q is W) : DrB r v w q is W.drew := h.step ⟨rfl, rfl, rfl, Nat.le_refl _, fun _ _ => rfl⟩
end

theorem Holds.next {W : World} {i j : It} : ∀ {is : List It} {n : Nat} (k : Nat), is[k]? = some i → is[k + 1]? = some j → Holds W n is → i.hi ≤ j.lo
  | [], _, k, e, _, _ => by simp at e
  | x :: is, _, 0, e, e', h => by
    obtain rfl : x = i := by simpa using e
    cases is with
    | nil => simp at e'
    | cons y is =>
      obtain rfl : y = j := by simpa using e'
      exact h.2.2.2.1
  | _ :: is, _, k + 1, e, e', h => Holds.next (is := is) k (by simpa using e) (by simpa using e') h.2.2.2
theorem DrB.old {r q b : Nat} {v x : Value} {t : TypeId} {w W : World} {is : List It} (h : DrB r v w q is W) (hx : Boxed w b t x) (hb : r < b) : Boxed W b t x := (h.dr.turned.above b hb hx.lt).trans hx
/-- Three orders, drawn. -/
def ThreeE (K r : Nat) (v : Value) (p : Nat) (w : World) (e : Ending) (w' : World) : Prop :=
  ∃ (r0 : Rows2) (u0 : Value) (r1 : Rows2) (u1 : Value) (r2 : Rows2) (u2 : Value) (q m1 m2 : Nat), e = .returned (.tuple #[.agg #[u0], .agg #[u1], .agg #[u2]]) ∧ q ≤ p + K ∧ Dr r v w q w' ∧
    Holds w' w.heap.size [ItR u0 r0.length (rowsF r0) w.heap.size m1, ItR u1 r1.length (rowsF r1) m1 m2, ItR u2 r2.length (rowsF r2) m2 w'.heap.size] ∧ bulk r0 ≤ 100000 ∧ bulk r1 ≤ 100000 ∧ bulk r2 ≤ 100000

set_option maxRecDepth 100000 in
set_option maxHeartbeats 16000000 in
theorem l91Three_any (r : Nat) (v : Value) (p : Nat) (w : World) (hr : RdAt r v p w) (hp : p < 1000000) : Calls Tryd.prog 100 #[.pointer (some ⟨r, 0, none⟩)] w (ThreeE 6200 r v p w) := by
  obtain ⟨W0, hW0⟩ : ∃ W0 : World, W0 = ((w.alloc (.cells #[.slice none 0 0] 25)).alloc (.cells #[.slice none 0 0] 25)).alloc (.cells #[.slice none 0 0] 25) := ⟨_, rfl⟩
  have hres : St w [ItB w.heap.size 25 (.slice none 0 0), ItB (w.heap.size + 1) 25 (.slice none 0 0), ItB (w.heap.size + 1 + 1) 25 (.slice none 0 0)] W0 := by
    rw [hW0]
    exact St.start3 w 25 25 25 (.slice none 0 0) (.slice none 0 0) (.slice none 0 0)
  have HRES := Lib.hid hres
  have HSZ := Lib.hid (show w.heap.size + 3 ≤ W0.heap.size by have := hres.lt 2 rfl; omega)
  have HR := Lib.hid (show r < w.heap.size from hr.lt)
  have HDR := Lib.hid ((Dr.start hr).step (hres.below))
  have S0 : Hid (DrB r v W0 p [] W0) := Lib.hid ⟨Dr.start ((Dr.start hr).step hres.below).rd, Nat.le_refl _⟩
  have HDOM := Lib.hid (fun W q (h : RdAt r v q W) (hq : q < 1099510000000) => (show Calls Tryd.prog 71 #[.pointer (some ⟨r, 0, none⟩), .int .i64 3] W (OrdE 2048 r v q W) from l91Domain_any r v q 3 W h hq (by omega) (by omega)))
  clear hr hres
  go_enter Tryd.func100, Tryd.ntmps100
  go_upto_region 1 with fail
  rw [← hW0]
  clear hW0
  go_upto_region 2 with (go_at_call 71; refine (HDOM.out W0 p S0.out.dr.rd (by omega)).mono ?_; rintro e W1 ⟨r0, u0, q1, rfl, hq1, hd, ho, hk0⟩; have S1 := Lib.hid (S0.out.drawnR hd ho); obtain ⟨a0, C0, rfl⟩ := ho.form; clear hd ho)
  have S2 := Lib.hid (S1.out.box 25 (.slice a0 r0.length C0))
  generalize W1.alloc (.cells #[.slice a0 r0.length C0] 25) = W2 at S2 ⊢
  generalize W1.heap.size = b0 at S2 ⊢
  clear S0 S1
  go_upto_region 3 with (go_at_call 71; refine (HDOM.out W2 q1 S2.out.dr.rd (by omega)).mono ?_; rintro e W3 ⟨r1, u1, q3, rfl, hq3, hd, ho, hk1⟩; have S3 := Lib.hid (S2.out.drawnR hd ho); obtain ⟨a1, C1, rfl⟩ := ho.form; clear hd ho)
  have S4 := Lib.hid (S3.out.box 25 (.slice a1 r1.length C1))
  generalize W3.alloc (.cells #[.slice a1 r1.length C1] 25) = W4 at S4 ⊢
  generalize W3.heap.size = b1 at S4 ⊢
  clear S2 S3
  have hc0 := S4.out.cell 1 rfl
  have hc1 := S4.out.cell 3 rfl
  have hlo0 : W0.heap.size ≤ b0 := (S4.out.holds.get 1 rfl).1
  have hlo1 : W0.heap.size ≤ b1 := (S4.out.holds.get 3 rfl).1
  refine wp_region_held_drew (S := fun W' : World => W'.cell? ⟨b0, 0, none⟩ = some ((.slice a0 r0.length C0)) ∧ W'.cell? ⟨b1, 0, none⟩ = some ((.slice a1 r1.length C1)) ∧ True) (by kernel_rfl) (⟨hc0, hc1, trivial⟩) (fun hHeld => ?_)
  refine wpAnyH_take (i := 0) (v := .agg #[.slice a0 r0.length C0]) rfl (by kernel_rfl) (by kernel_rfl) (by kernel_rfl) (fun _ _ _ h => h) (Or.inl ⟨by rfl, ?_⟩) (by assumption) ?_
  · (intro W hSw; obtain ⟨hs0, hs1, hsz⟩ := hSw; go_simp)
  try dsimp only [Act.put]
  refine wpAnyH_take (i := 1) (v := .agg #[.slice a1 r1.length C1]) rfl (by kernel_rfl) (by kernel_rfl) (by kernel_rfl) (fun _ _ _ h => h) (Or.inl ⟨by rfl, ?_⟩) (by assumption) ?_
  · (intro W hSw; obtain ⟨hs0, hs1, hsz⟩ := hSw; go_simp)
  try dsimp only [Act.put]
  refine wpAnyH_take (i := 2) (v := .pointer (some ⟨r, 0, none⟩)) rfl (by kernel_rfl) (by kernel_rfl) (by kernel_rfl) (fun _ _ _ h => h) (Or.inl ⟨by rfl, ?_⟩) (by assumption) ?_
  · (intro W hSw; obtain ⟨hs0, hs1, hsz⟩ := hSw; go_simp)
  try dsimp only [Act.put]
  refine wpAnyH_ready (rs := [3]) (by kernel_rfl) (by simp) ?_
  refine AllReadyH.cons rfl (fun K hK => ?_) ?_
  · go_simp
    go_at_call 71
    refine (HDOM.out W4.drew q3 S4.out.drew.dr.rd (by omega)).mono ?_
    rintro e W5 ⟨r2, u2, q5, rfl, hq5, hd, ho, hk2⟩
    have S5 := Lib.hid (S4.out.drew.drawnR hd ho)
    obtain ⟨a2, C2, rfl⟩ := ho.form
    clear hd ho
    have hd0 := S5.out.cell 1 rfl
    have hd1 := S5.out.cell 3 rfl
    have hx0 := S5.out.old (HRES.out.boxed 0 rfl) (by have := HR.out; omega)
    have hr0 := hx0.cell
    have hf0 := hx0.frozen
    have hx1 := S5.out.old (HRES.out.boxed 1 rfl) (by have := HR.out; omega)
    have hr1 := hx1.cell
    have hf1 := hx1.frozen
    have hx2 := S5.out.old (HRES.out.boxed 2 rfl) (by have := HR.out; omega)
    have hr2 := hx2.cell
    have hf2 := hx2.frozen
    go_wp2_with fail
    refine hK.out _ _ (⟨hd0, hd1, trivial⟩) (fun hHeld => ?_)
    clear hK K
    try dsimp only [Act.put]
    refine wpAnyH_ready (rs := [4]) (by kernel_rfl) (by simp) ?_
    refine AllReadyH.cons rfl (fun K hK => ?_) ?_
    · go_simp
      have hk0_0 := cell_keep (x := (.slice a0 r0.length C0)) (p := ⟨w.heap.size, 0, none⟩) hd0 (show w.heap.size ≠ b0 by have := HSZ.out; omega)
      have hk1_0 := cell_keep (x := (.slice a0 r0.length C0)) (p := ⟨w.heap.size, 0, none⟩) hd1 (show w.heap.size ≠ b1 by have := HSZ.out; omega)
      have hq1_0 := cell_keep (x := (.slice a0 r0.length C0)) (p := ⟨w.heap.size, 0, none⟩) hr1 (show w.heap.size ≠ w.heap.size + 1 by omega)
      have hq2_0 := cell_keep (x := (.slice a0 r0.length C0)) (p := ⟨w.heap.size, 0, none⟩) hr2 (show w.heap.size ≠ w.heap.size + 1 + 1 by omega)
      refine hK.out _ _ (⟨hk0_0, hk1_0, trivial⟩) (fun hHeld => ?_)
      clear hK K
      try dsimp only [Act.put]
      refine wpAnyH_ready (rs := [5]) (by kernel_rfl) (by simp) ?_
      refine AllReadyH.cons rfl (fun K hK => ?_) ?_
      · go_simp
        have hk0_1 := cell_keep (x := (.slice a1 r1.length C1)) (p := ⟨w.heap.size + 1, 0, none⟩) hk0_0 (show w.heap.size + 1 ≠ b0 by have := HSZ.out; omega)
        have hk1_1 := cell_keep (x := (.slice a1 r1.length C1)) (p := ⟨w.heap.size + 1, 0, none⟩) hk1_0 (show w.heap.size + 1 ≠ b1 by have := HSZ.out; omega)
        have hq2_1 := cell_keep (x := (.slice a1 r1.length C1)) (p := ⟨w.heap.size + 1, 0, none⟩) hq2_0 (show w.heap.size + 1 ≠ w.heap.size + 1 + 1 by omega)
        refine hK.out _ _ (⟨hk0_1, hk1_1, trivial⟩) (fun hHeld => ?_)
        clear hK K
        try dsimp only [Act.put]
        refine wpAnyH_ready (rs := [6]) (by kernel_rfl) (by simp) ?_
        refine AllReadyH.cons rfl (fun K hK => ?_) ?_
        · go_simp
          have hk0_2 := cell_keep (x := (.slice a2 r2.length C2)) (p := ⟨w.heap.size + 1 + 1, 0, none⟩) hk0_1 (show w.heap.size + 1 + 1 ≠ b0 by have := HSZ.out; omega)
          have hk1_2 := cell_keep (x := (.slice a2 r2.length C2)) (p := ⟨w.heap.size + 1 + 1, 0, none⟩) hk1_1 (show w.heap.size + 1 + 1 ≠ b1 by have := HSZ.out; omega)
          refine hK.out _ _ (⟨hk0_2, hk1_2, trivial⟩) (fun hHeld => ?_)
          clear hK K
          try dsimp only [Act.put]
          refine wpAnyH_done (by kernel_rfl) ?_ _
          go_wp2_with fail
          refine bodyPost_ret (v := .tuple #[.agg #[.slice a0 r0.length C0], .agg #[.slice a1 r1.length C1], .agg #[.slice a2 r2.length C2]]) ?_ rfl ?_
          · simp [results, Tryd.results100, go_sem, World.cell?_setCell_far, hr0, hr1, hr2]
          · have HL := (((Low.refl w.heap.size W0.heap.size W5).set (b := w.heap.size) (o := 0) (x := (.slice a0 r0.length C0)) (by omega) (by have := HSZ.out; omega)).set (b := w.heap.size + 1) (o := 0) (x := (.slice a1 r1.length C1)) (by omega) (by have := HSZ.out; omega)).set (b := w.heap.size + 1 + 1) (o := 0) (x := (.slice a2 r2.length C2)) (by omega) (by have := HSZ.out; omega)
            have HH := S5.out.holds.above (fun b hb _ => HL.same b hb) (by rw [HL.size]; exact Nat.le_refl _)
            have n1 := S5.out.holds.next 0 rfl rfl
            have n2 := S5.out.holds.next 1 rfl rfl
            have n3 := S5.out.holds.next 2 rfl rfl
            have n4 := S5.out.holds.next 3 rfl rfl
            have g0 := HH.get 0 rfl
            have g2 := HH.get 2 rfl
            have g4 := HH.get 4 rfl
            have hD := ((HDR.out.trans S5.out.dr).setNew (b := w.heap.size) (Nat.le_refl _) 0 (.slice a0 r0.length C0))
            have hD1 := hD.setNew (b := w.heap.size + 1) (by omega) 0 (.slice a1 r1.length C1)
            have hD2 := hD1.setNew (b := w.heap.size + 1 + 1) (by omega) 0 (.slice a2 r2.length C2)
            refine ⟨r0, _, r1, _, r2, _, q5, b0, b1, rfl, by omega, hD2, ⟨Nat.le_refl _, ?_, OwnR.wider g0.2.2.2 ?_ n1, Nat.le_refl _, ?_, OwnR.wider g2.2.2.2 ?_ n3, Nat.le_refl _, ?_, OwnR.wider g4.2.2.2 ?_ g4.2.2.1, Nat.le_refl _⟩, hk0, hk1, hk2⟩
            · exact Nat.le_trans (show w.heap.size ≤ W0.heap.size by have := HSZ.out; omega) (Nat.le_trans g0.1 (Nat.le_trans g0.2.1 n1))
            · exact Nat.le_trans (show w.heap.size ≤ W0.heap.size by have := HSZ.out; omega) g0.1
            · exact Nat.le_trans (Nat.le_succ _) (Nat.le_trans n2 (Nat.le_trans g2.2.1 n3))
            · exact Nat.le_trans (Nat.le_succ _) n2
            · exact Nat.le_trans (Nat.le_succ _) (Nat.le_trans n4 (Nat.le_trans g4.2.1 g4.2.2.1))
            · exact Nat.le_trans (Nat.le_succ _) n4
        exact AllReadyH.nil
      exact AllReadyH.nil
    exact AllReadyH.nil
  exact AllReadyH.nil
end Go.Proofs.YtkomghohdhengaaDoor
