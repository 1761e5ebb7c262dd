/- Draws of the promises' laws: orders, lists and numbers of the right form (made by gendraw.py). -/
import Derived.Test.YtkomghohdhengaaDoorDrUk
namespace Go.Proofs.YtkomghohdhengaaDoor
open Go.RowKit Go.Deep Go.Shelf

/-- What a draw answers: O an order, L a list, I a number. -/
def GotOOL (w : World) (e : Ending) (w' : World) : Prop :=
  ∃ (r0 : Rows2) (u0 : Value) (r1 : Rows2) (u1 : Value) (r2 : List Int) (u2 : Value), e = .returned (.tuple #[.agg #[u0], .agg #[u1], u2]) ∧ OwnR 3 26 w' u0 r0.length (rowsF r0) w.heap.size w'.heap.size ∧ OwnR 3 26 w' u1 r1.length (rowsF r1) w.heap.size w'.heap.size ∧ OwnI 3 w' u2 r2 w.heap.size w'.heap.size ∧ bulk r0 ≤ 100000 ∧ bulk r1 ≤ 100000 ∧ r2.length ≤ 200 ∧ Below w.heap.size w w'

set_option maxRecDepth 100000 in
set_option maxHeartbeats 16000000 in
theorem drawMono_any (v : Value) (w : World) (hv : CodeAt w.heap.size w v) : Calls Tryd.prog 95 #[v] w (GotOOL w) := by
  obtain ⟨wB, hwB⟩ : ∃ wB : World, wB = ((w.alloc (.cells #[.slice none 0 0] 25)).alloc (.cells #[.slice none 0 0] 25)) := ⟨_, rfl⟩
  have hres := St.start2 w 25 25 (.slice none 0 0) (.slice none 0 0)
  rw [← hwB] at hres
  have HRES := Lib.hid hres
  have hsz : w.heap.size + 2 ≤ wB.heap.size := by have := hres.lt 1 rfl; omega
  have HSZ := Lib.hid hsz
  have hopen := l6Open_any v wB ((hv.below hres.below).wider hres.below.size)
  have HDOM := Lib.hid (fun (most : Nat) W v' q (h : RdAt wB.heap.size v' q W) (hq : q < 1000000) (h1 : 3 ≤ most) (h2 : most ≤ 8) => l91Domain_any wB.heap.size v' q most W h (by omega) h1 h2)
  clear hv hres hsz
  go_enter Tryd.func95, Tryd.ntmps95
  go_upto_region 1 with fail
  rw [← hwB]
  clear hwB
  go_upto_region 2 with (go_at_call 70; refine hopen.mono ?_; clear hopen; rintro e W0 ⟨v', rfl, hr, hb, hz⟩; have HC := Lib.hid (hr.code.back hb); have S0 := Lib.hid (St.reader hr hb hz); clear hr hb hz)
  go_upto_region 3 with (go_at_call 71; refine (HDOM.out 5 W0 v' 0 (S0.out.rdAt HC.out 0 rfl) (by omega) (by omega) (by omega)).mono ?_; rintro e W1 ⟨r0, u0, q1, rfl, hq1, hd, ho, hk0⟩; have S1 := Lib.hid (S0.out.drawnR 0 rfl hd ho); obtain ⟨a0, C0, rfl⟩ := ho.form; clear hd ho)
  have S2 := Lib.hid (S1.out.box 25 (.slice a0 r0.length C0))
  generalize W1.alloc (.cells #[.slice a0 r0.length C0] 25) = W2 at S2 ⊢
  generalize W1.heap.size = b0 at S2 ⊢
  clear S0 S1
  go_upto_region 4 with (go_at_call 71; refine (HDOM.out 4 W2 v' q1 (S2.out.rdAt HC.out 0 rfl) (by omega) (by omega) (by omega)).mono ?_; rintro e W3 ⟨r1, u1, q3, rfl, hq3, hd, ho, hk1⟩; have S3 := Lib.hid (S2.out.drawnR 0 rfl hd ho); obtain ⟨a1, C1, rfl⟩ := ho.form; clear hd ho)
  have S4 := Lib.hid (S3.out.box 25 (.slice a1 r1.length C1))
  generalize W3.alloc (.cells #[.slice a1 r1.length C1] 25) = W4 at S4 ⊢
  generalize W3.heap.size = b1 at S4 ⊢
  clear S2 S3
  have hc0 := S4.out.cell 2 rfl
  have hc1 := S4.out.cell 4 rfl
  have hr0 := (HRES.out.step S4.out.below).cell 0 rfl
  have hf0 := ((HRES.out.step S4.out.below).boxed 0 rfl).frozen
  have hr1 := (HRES.out.step S4.out.below).cell 1 rfl
  have hf1 := ((HRES.out.step S4.out.below).boxed 1 rfl).frozen
  have SD := Lib.hid S4.out.drew
  have hlo0 : wB.heap.size ≤ b0 := (S4.out.holds.get 2 rfl).1
  have hlo1 : wB.heap.size ≤ b1 := (S4.out.holds.get 4 rfl).1
  have hfun := l91Fun_any wB.heap.size v' q3 _ _ r0 r1 W4.drew (SD.out.rdAt HC.out 0 rfl) (by omega) (by omega) (by omega) (fun _ _ hd => (SD.out.picked 0 rfl hd).rows 1 rfl) (fun _ _ hd => (SD.out.picked 0 rfl hd).rows 3 rfl)
  refine wp_region_held_drew (S := fun W' : World => W'.cell? ⟨b0, 0, none⟩ = some (.slice a0 r0.length C0) ∧ W'.cell? ⟨b1, 0, none⟩ = some (.slice a1 r1.length C1) ∧ True) (by kernel_rfl) ⟨hc0, hc1, trivial⟩ (fun hHeld => ?_)
  refine wpAnyH_take (i := 0) (v := .agg #[.slice a0 r0.length C0]) rfl (by kernel_rfl) (by kernel_rfl) (by kernel_rfl) (fun _ _ _ h => h) (Or.inl ⟨by rfl, ?_⟩) (by assumption) ?_
  · (intro W hSw; obtain ⟨hs0, hs1, hsz⟩ := hSw; go_simp)
  try dsimp only [Act.put]
  refine wpAnyH_take (i := 1) (v := .agg #[.slice a1 r1.length C1]) rfl (by kernel_rfl) (by kernel_rfl) (by kernel_rfl) (fun _ _ _ h => h) (Or.inl ⟨by rfl, ?_⟩) (by assumption) ?_
  · (intro W hSw; obtain ⟨hs0, hs1, hsz⟩ := hSw; go_simp)
  try dsimp only [Act.put]
  refine wpAnyH_take (i := 2) (v := .pointer (some ⟨wB.heap.size, 0, none⟩)) rfl (by kernel_rfl) (by kernel_rfl) (by kernel_rfl) (fun _ _ _ h => h) (Or.inl ⟨by rfl, ?_⟩) (by assumption) ?_
  · (intro W hSw; obtain ⟨hs0, hs1, hsz⟩ := hSw; go_simp)
  try dsimp only [Act.put]
  refine wpAnyH_take (i := 3) (v := .agg #[.slice a0 r0.length C0]) rfl (by kernel_rfl) (by kernel_rfl) (by kernel_rfl) (fun _ _ _ h => h) (Or.inl ⟨by rfl, ?_⟩) (by assumption) ?_
  · (intro W hSw; obtain ⟨hs0, hs1, hsz⟩ := hSw; go_simp)
  try dsimp only [Act.put]
  refine wpAnyH_take (i := 4) (v := .agg #[.slice a1 r1.length C1]) rfl (by kernel_rfl) (by kernel_rfl) (by kernel_rfl) (fun _ _ _ h => h) (Or.inl ⟨by rfl, ?_⟩) (by assumption) ?_
  · (intro W hSw; obtain ⟨hs0, hs1, hsz⟩ := hSw; go_simp)
  try dsimp only [Act.put]
  refine wpAnyH_ready (rs := [5]) (by kernel_rfl) (by simp) ?_
  refine AllReadyH.cons rfl (fun K hK => ?_) ?_
  · go_simp
    go_at_call 72
    refine hfun.mono ?_
    clear hfun
    rintro e W5 ⟨x0, ux0, q5, rfl, hq5, hd, ho, hx0, _⟩
    have S5 := Lib.hid (SD.out.drawnI 0 rfl hd ho)
    obtain ⟨ax0, Cx0, rfl⟩ := ho.form
    clear hd ho
    have hd0 := S5.out.cell 2 rfl
    have hd1 := S5.out.cell 4 rfl
    have hrr0 := (HRES.out.step S5.out.below).cell 0 rfl
    have hff0 := ((HRES.out.step S5.out.below).boxed 0 rfl).frozen
    have hrr1 := (HRES.out.step S5.out.below).cell 1 rfl
    have hff1 := ((HRES.out.step S5.out.below).boxed 1 rfl).frozen
    go_wp2_with fail
    refine hK.out _ _ (⟨hd0, hd1, trivial⟩) (fun hHeld => ?_)
    clear hK K
    try dsimp only [Act.put]
    refine wpAnyH_ready (rs := [6]) (by kernel_rfl) (by simp) ?_
    refine AllReadyH.cons rfl (fun K hK => ?_) ?_
    · go_simp
      have hk0_0 := cell_keep (x := (.slice a0 r0.length C0)) (p := ⟨w.heap.size, 0, none⟩) hd0 (show w.heap.size ≠ b0 by have := HSZ.out; omega)
      have hk1_0 := cell_keep (x := (.slice a0 r0.length C0)) (p := ⟨w.heap.size, 0, none⟩) hd1 (show w.heap.size ≠ b1 by have := HSZ.out; omega)
      have hq1_0 := cell_keep (x := (.slice a0 r0.length C0)) (p := ⟨w.heap.size, 0, none⟩) hrr1 (show w.heap.size ≠ w.heap.size + 1 by omega)
      refine hK.out _ _ (⟨hk0_0, hk1_0, trivial⟩) (fun hHeld => ?_)
      clear hK K
      try dsimp only [Act.put]
      refine wpAnyH_ready (rs := [7]) (by kernel_rfl) (by simp) ?_
      refine AllReadyH.cons rfl (fun K hK => ?_) ?_
      · go_simp
        have hk0_1 := cell_keep (x := (.slice a1 r1.length C1)) (p := ⟨w.heap.size + 1, 0, none⟩) hk0_0 (show w.heap.size + 1 ≠ b0 by have := HSZ.out; omega)
        have hk1_1 := cell_keep (x := (.slice a1 r1.length C1)) (p := ⟨w.heap.size + 1, 0, none⟩) hk1_0 (show w.heap.size + 1 ≠ b1 by have := HSZ.out; omega)
        refine hK.out _ _ (⟨hk0_1, hk1_1, trivial⟩) (fun hHeld => ?_)
        clear hK K
        try dsimp only [Act.put]
        refine wpAnyH_ready (rs := [8]) (by kernel_rfl) (by simp) ?_
        refine AllReadyH.cons rfl (fun K hK => ?_) ?_
        · go_simp
          refine hK.out _ _ (⟨hk0_1, hk1_1, trivial⟩) (fun hHeld => ?_)
          clear hK K
          try dsimp only [Act.put]
          refine wpAnyH_done (by kernel_rfl) ?_ _
          go_wp2_with fail
          refine bodyPost_ret (v := .tuple #[.agg #[.slice a0 r0.length C0], .agg #[.slice a1 r1.length C1], .slice ax0 x0.length Cx0]) ?_ rfl ?_
          · simp [results, Tryd.results95, go_sem, World.cell?_setCell_far, hrr0, hrr1]
          · have HL := fun (y0 : Value) (y1 : Value) => ((Low.refl w.heap.size wB.heap.size W5).set (b := w.heap.size) (o := 0) (x := y0) (by have := HSZ.out; omega) (by have := HSZ.out; omega)).set (b := w.heap.size + 1) (o := 0) (x := y1) (by have := HSZ.out; omega) (by have := HSZ.out; omega)
            have HH := fun y0 y1 => (HL y0 y1).holds S5.out
            exact ⟨r0, _, r1, _, x0, _, rfl, (HH _ _).ownRW 1 rfl (by have := HSZ.out; omega), (HH _ _).ownRW 3 rfl (by have := HSZ.out; omega), (HH _ _).ownIW 5 rfl (by have := HSZ.out; omega), hk0, hk1, hx0, below_trans2 HRES.out.below S5.out.below (HL _ _).below⟩
        exact AllReadyH.nil
      exact AllReadyH.nil
    exact AllReadyH.nil
  exact AllReadyH.nil

set_option maxRecDepth 100000 in
set_option maxHeartbeats 8000000 in
theorem drawSteps_any (v : Value) (w : World) (hv : CodeAt w.heap.size w v) : Calls Tryd.prog 41 #[v] w (GotOOL w) := by
  obtain ⟨wB, hwB⟩ : ∃ wB : World, wB = ((w.alloc (.cells #[.slice none 0 0] 25)).alloc (.cells #[.slice none 0 0] 25)) := ⟨_, rfl⟩
  have hres := St.start2 w 25 25 (.slice none 0 0) (.slice none 0 0)
  rw [← hwB] at hres
  have HRES := Lib.hid hres
  have HSZ := Lib.hid (show w.heap.size + 2 ≤ wB.heap.size by have := hres.lt 1 rfl; omega)
  have hcall := drawMono_any v wB ((hv.below hres.below).wider hres.below.size)
  clear hv hres
  go_enter Tryd.func41, Tryd.ntmps41
  go_upto_region 1 with fail
  rw [← hwB]
  clear hwB
  go_wp2_with (go_at_call 95; refine hcall.mono ?_; clear hcall; rintro e W ⟨r0, u0, r1, u1, x2, u2, rfl, ho0, ho1, ho2, hk0, hk1, hk2, hb⟩; obtain ⟨a0, C0, rfl⟩ := ho0.form; have HO0 := Lib.hid ho0; obtain ⟨a1, C1, rfl⟩ := ho1.form; have HO1 := Lib.hid ho1; obtain ⟨a2, C2, rfl⟩ := ho2.form; have HO2 := Lib.hid ho2; have HBB := Lib.hid hb; clear hb ho0 ho1 ho2; have hr0 := (HRES.out.step HBB.out).cell 0 rfl; have hf0 := ((HRES.out.step HBB.out).boxed 0 rfl).frozen; have hr1 := (HRES.out.step HBB.out).cell 1 rfl; have hf1 := ((HRES.out.step HBB.out).boxed 1 rfl).frozen)
  all_goals
    refine bodyPost_ret (v := .tuple #[.agg #[.slice a0 r0.length C0], .agg #[.slice a1 r1.length C1], .slice a2 x2.length C2]) ?_ rfl ?_
    · simp [results, Tryd.results41, go_sem, World.cell?_setCell_far, hr0, hr1]
    · have HL := fun (y0 : Value) (y1 : Value) => ((Low.refl w.heap.size wB.heap.size W).set (b := w.heap.size) (o := 0) (x := y0) (by have := HSZ.out; omega) (by have := HSZ.out; omega)).set (b := w.heap.size + 1) (o := 0) (x := y1) (by have := HSZ.out; omega) (by have := HSZ.out; omega)
      exact ⟨r0, _, r1, _, x2, _, rfl, (HL _ _).ownR HO0.out (by have := HSZ.out; omega), (HL _ _).ownR HO1.out (by have := HSZ.out; omega), (HL _ _).ownI HO2.out (by have := HSZ.out; omega), hk0, hk1, hk2, below_trans2 HRES.out.below HBB.out (HL _ _).below⟩

/-- What a draw answers: O an order, L a list, I a number. -/
def GotOOLL (w : World) (e : Ending) (w' : World) : Prop :=
  ∃ (r0 : Rows2) (u0 : Value) (r1 : Rows2) (u1 : Value) (r2 : List Int) (u2 : Value) (r3 : List Int) (u3 : Value), e = .returned (.tuple #[.agg #[u0], .agg #[u1], u2, u3]) ∧ OwnR 3 26 w' u0 r0.length (rowsF r0) w.heap.size w'.heap.size ∧ OwnR 3 26 w' u1 r1.length (rowsF r1) w.heap.size w'.heap.size ∧ OwnI 3 w' u2 r2 w.heap.size w'.heap.size ∧ OwnI 3 w' u3 r3 w.heap.size w'.heap.size ∧ bulk r0 ≤ 100000 ∧ bulk r1 ≤ 100000 ∧ r2.length ≤ 200 ∧ r3.length ≤ 200 ∧ Below w.heap.size w w'

set_option maxRecDepth 100000 in
set_option maxHeartbeats 16000000 in
theorem drawFJoin_any (v : Value) (w : World) (hv : CodeAt w.heap.size w v) : Calls Tryd.prog 16 #[v] w (GotOOLL w) := by
  obtain ⟨wB, hwB⟩ : ∃ wB : World, wB = ((w.alloc (.cells #[.slice none 0 0] 25)).alloc (.cells #[.slice none 0 0] 25)) := ⟨_, rfl⟩
  have hres := St.start2 w 25 25 (.slice none 0 0) (.slice none 0 0)
  rw [← hwB] at hres
  have HRES := Lib.hid hres
  have hsz : w.heap.size + 2 ≤ wB.heap.size := by have := hres.lt 1 rfl; omega
  have HSZ := Lib.hid hsz
  have hopen := l6Open_any v wB ((hv.below hres.below).wider hres.below.size)
  have HDOM := Lib.hid (fun (most : Nat) W v' q (h : RdAt wB.heap.size v' q W) (hq : q < 1000000) (h1 : 3 ≤ most) (h2 : most ≤ 8) => l91Domain_any wB.heap.size v' q most W h (by omega) h1 h2)
  clear hv hres hsz
  go_enter Tryd.func16, Tryd.ntmps16
  go_upto_region 1 with fail
  rw [← hwB]
  clear hwB
  go_upto_region 2 with (go_at_call 70; refine hopen.mono ?_; clear hopen; rintro e W0 ⟨v', rfl, hr, hb, hz⟩; have HC := Lib.hid (hr.code.back hb); have S0 := Lib.hid (St.reader hr hb hz); clear hr hb hz)
  go_upto_region 3 with (go_at_call 71; refine (HDOM.out 4 W0 v' 0 (S0.out.rdAt HC.out 0 rfl) (by omega) (by omega) (by omega)).mono ?_; rintro e W1 ⟨r0, u0, q1, rfl, hq1, hd, ho, hk0⟩; have S1 := Lib.hid (S0.out.drawnR 0 rfl hd ho); obtain ⟨a0, C0, rfl⟩ := ho.form; clear hd ho)
  have S2 := Lib.hid (S1.out.box 25 (.slice a0 r0.length C0))
  generalize W1.alloc (.cells #[.slice a0 r0.length C0] 25) = W2 at S2 ⊢
  generalize W1.heap.size = b0 at S2 ⊢
  clear S0 S1
  go_upto_region 4 with (go_at_call 71; refine (HDOM.out 5 W2 v' q1 (S2.out.rdAt HC.out 0 rfl) (by omega) (by omega) (by omega)).mono ?_; rintro e W3 ⟨r1, u1, q3, rfl, hq3, hd, ho, hk1⟩; have S3 := Lib.hid (S2.out.drawnR 0 rfl hd ho); obtain ⟨a1, C1, rfl⟩ := ho.form; clear hd ho)
  have S4 := Lib.hid (S3.out.box 25 (.slice a1 r1.length C1))
  generalize W3.alloc (.cells #[.slice a1 r1.length C1] 25) = W4 at S4 ⊢
  generalize W3.heap.size = b1 at S4 ⊢
  clear S2 S3
  have hc0 := S4.out.cell 2 rfl
  have hc1 := S4.out.cell 4 rfl
  have hfun := l91Fun_any wB.heap.size v' q3 _ _ r0 r1 W4 (S4.out.rdAt HC.out 0 rfl) (by omega) (by omega) (by omega) (fun _ _ hd => (S4.out.picked 0 rfl hd).rows 1 rfl) (fun _ _ hd => (S4.out.picked 0 rfl hd).rows 3 rfl)
  go_upto_region 5 with (go_at_call 72; refine hfun.mono ?_; clear hfun; rintro e W5 ⟨x0, ux0, q5, rfl, hq5, hd, ho, hx0, _⟩; have S5 := Lib.hid (S4.out.drawnI 0 rfl hd ho); obtain ⟨ax0, Cx0, rfl⟩ := ho.form; clear hd ho)
  clear hc0
  clear hc1
  have hc0 := S5.out.cell 2 rfl
  have hc1 := S5.out.cell 4 rfl
  have hr0 := (HRES.out.step S5.out.below).cell 0 rfl
  have hf0 := ((HRES.out.step S5.out.below).boxed 0 rfl).frozen
  have hr1 := (HRES.out.step S5.out.below).cell 1 rfl
  have hf1 := ((HRES.out.step S5.out.below).boxed 1 rfl).frozen
  have SD := Lib.hid S5.out.drew
  have hlo0 : wB.heap.size ≤ b0 := (S5.out.holds.get 2 rfl).1
  have hlo1 : wB.heap.size ≤ b1 := (S5.out.holds.get 4 rfl).1
  have hfun := l91Fun_any wB.heap.size v' q5 _ _ r0 r1 W5.drew (SD.out.rdAt HC.out 0 rfl) (by omega) (by omega) (by omega) (fun _ _ hd => (SD.out.picked 0 rfl hd).rows 1 rfl) (fun _ _ hd => (SD.out.picked 0 rfl hd).rows 3 rfl)
  refine wp_region_held_drew (S := fun W' : World => W'.cell? ⟨b0, 0, none⟩ = some (.slice a0 r0.length C0) ∧ W'.cell? ⟨b1, 0, none⟩ = some (.slice a1 r1.length C1) ∧ True) (by kernel_rfl) ⟨hc0, hc1, trivial⟩ (fun hHeld => ?_)
  refine wpAnyH_take (i := 0) (v := .agg #[.slice a0 r0.length C0]) rfl (by kernel_rfl) (by kernel_rfl) (by kernel_rfl) (fun _ _ _ h => h) (Or.inl ⟨by rfl, ?_⟩) (by assumption) ?_
  · (intro W hSw; obtain ⟨hs0, hs1, hsz⟩ := hSw; go_simp)
  try dsimp only [Act.put]
  refine wpAnyH_take (i := 1) (v := .agg #[.slice a1 r1.length C1]) rfl (by kernel_rfl) (by kernel_rfl) (by kernel_rfl) (fun _ _ _ h => h) (Or.inl ⟨by rfl, ?_⟩) (by assumption) ?_
  · (intro W hSw; obtain ⟨hs0, hs1, hsz⟩ := hSw; go_simp)
  try dsimp only [Act.put]
  refine wpAnyH_take (i := 2) (v := .slice ax0 x0.length Cx0) rfl (by kernel_rfl) (by kernel_rfl) (by kernel_rfl) (fun _ _ _ h => h) (Or.inl ⟨by rfl, ?_⟩) (by assumption) ?_
  · (intro W hSw; obtain ⟨hs0, hs1, hsz⟩ := hSw; go_simp)
  try dsimp only [Act.put]
  refine wpAnyH_take (i := 3) (v := .pointer (some ⟨wB.heap.size, 0, none⟩)) rfl (by kernel_rfl) (by kernel_rfl) (by kernel_rfl) (fun _ _ _ h => h) (Or.inl ⟨by rfl, ?_⟩) (by assumption) ?_
  · (intro W hSw; obtain ⟨hs0, hs1, hsz⟩ := hSw; go_simp)
  try dsimp only [Act.put]
  refine wpAnyH_take (i := 4) (v := .agg #[.slice a0 r0.length C0]) rfl (by kernel_rfl) (by kernel_rfl) (by kernel_rfl) (fun _ _ _ h => h) (Or.inl ⟨by rfl, ?_⟩) (by assumption) ?_
  · (intro W hSw; obtain ⟨hs0, hs1, hsz⟩ := hSw; go_simp)
  try dsimp only [Act.put]
  refine wpAnyH_take (i := 5) (v := .agg #[.slice a1 r1.length C1]) rfl (by kernel_rfl) (by kernel_rfl) (by kernel_rfl) (fun _ _ _ h => h) (Or.inl ⟨by rfl, ?_⟩) (by assumption) ?_
  · (intro W hSw; obtain ⟨hs0, hs1, hsz⟩ := hSw; go_simp)
  try dsimp only [Act.put]
  refine wpAnyH_ready (rs := [6]) (by kernel_rfl) (by simp) ?_
  refine AllReadyH.cons rfl (fun K hK => ?_) ?_
  · go_simp
    go_at_call 72
    refine hfun.mono ?_
    clear hfun
    rintro e W6 ⟨x1, ux1, q6, rfl, hq6, hd, ho, hx1, _⟩
    have S6 := Lib.hid (SD.out.drawnI 0 rfl hd ho)
    obtain ⟨ax1, Cx1, rfl⟩ := ho.form
    clear hd ho
    have hd0 := S6.out.cell 2 rfl
    have hd1 := S6.out.cell 4 rfl
    have hrr0 := (HRES.out.step S6.out.below).cell 0 rfl
    have hff0 := ((HRES.out.step S6.out.below).boxed 0 rfl).frozen
    have hrr1 := (HRES.out.step S6.out.below).cell 1 rfl
    have hff1 := ((HRES.out.step S6.out.below).boxed 1 rfl).frozen
    go_wp2_with fail
    refine hK.out _ _ (⟨hd0, hd1, trivial⟩) (fun hHeld => ?_)
    clear hK K
    try dsimp only [Act.put]
    refine wpAnyH_ready (rs := [7]) (by kernel_rfl) (by simp) ?_
    refine AllReadyH.cons rfl (fun K hK => ?_) ?_
    · go_simp
      have hk0_0 := cell_keep (x := (.slice a0 r0.length C0)) (p := ⟨w.heap.size, 0, none⟩) hd0 (show w.heap.size ≠ b0 by have := HSZ.out; omega)
      have hk1_0 := cell_keep (x := (.slice a0 r0.length C0)) (p := ⟨w.heap.size, 0, none⟩) hd1 (show w.heap.size ≠ b1 by have := HSZ.out; omega)
      have hq1_0 := cell_keep (x := (.slice a0 r0.length C0)) (p := ⟨w.heap.size, 0, none⟩) hrr1 (show w.heap.size ≠ w.heap.size + 1 by omega)
      refine hK.out _ _ (⟨hk0_0, hk1_0, trivial⟩) (fun hHeld => ?_)
      clear hK K
      try dsimp only [Act.put]
      refine wpAnyH_ready (rs := [8]) (by kernel_rfl) (by simp) ?_
      refine AllReadyH.cons rfl (fun K hK => ?_) ?_
      · go_simp
        have hk0_1 := cell_keep (x := (.slice a1 r1.length C1)) (p := ⟨w.heap.size + 1, 0, none⟩) hk0_0 (show w.heap.size + 1 ≠ b0 by have := HSZ.out; omega)
        have hk1_1 := cell_keep (x := (.slice a1 r1.length C1)) (p := ⟨w.heap.size + 1, 0, none⟩) hk1_0 (show w.heap.size + 1 ≠ b1 by have := HSZ.out; omega)
        refine hK.out _ _ (⟨hk0_1, hk1_1, trivial⟩) (fun hHeld => ?_)
        clear hK K
        try dsimp only [Act.put]
        refine wpAnyH_ready (rs := [9]) (by kernel_rfl) (by simp) ?_
        refine AllReadyH.cons rfl (fun K hK => ?_) ?_
        · go_simp
          refine hK.out _ _ (⟨hk0_1, hk1_1, trivial⟩) (fun hHeld => ?_)
          clear hK K
          try dsimp only [Act.put]
          refine wpAnyH_ready (rs := [10]) (by kernel_rfl) (by simp) ?_
          refine AllReadyH.cons rfl (fun K hK => ?_) ?_
          · go_simp
            refine hK.out _ _ (⟨hk0_1, hk1_1, trivial⟩) (fun hHeld => ?_)
            clear hK K
            try dsimp only [Act.put]
            refine wpAnyH_done (by kernel_rfl) ?_ _
            go_wp2_with fail
            refine bodyPost_ret (v := .tuple #[.agg #[.slice a0 r0.length C0], .agg #[.slice a1 r1.length C1], .slice ax0 x0.length Cx0, .slice ax1 x1.length Cx1]) ?_ rfl ?_
            · simp [results, Tryd.results16, go_sem, World.cell?_setCell_far, hrr0, hrr1]
            · have HL := fun (y0 : Value) (y1 : Value) => ((Low.refl w.heap.size wB.heap.size W6).set (b := w.heap.size) (o := 0) (x := y0) (by have := HSZ.out; omega) (by have := HSZ.out; omega)).set (b := w.heap.size + 1) (o := 0) (x := y1) (by have := HSZ.out; omega) (by have := HSZ.out; omega)
              have HH := fun y0 y1 => (HL y0 y1).holds S6.out
              exact ⟨r0, _, r1, _, x0, _, x1, _, rfl, (HH _ _).ownRW 1 rfl (by have := HSZ.out; omega), (HH _ _).ownRW 3 rfl (by have := HSZ.out; omega), (HH _ _).ownIW 5 rfl (by have := HSZ.out; omega), (HH _ _).ownIW 6 rfl (by have := HSZ.out; omega), hk0, hk1, hx0, hx1, below_trans2 HRES.out.below S6.out.below (HL _ _).below⟩
          exact AllReadyH.nil
        exact AllReadyH.nil
      exact AllReadyH.nil
    exact AllReadyH.nil
  exact AllReadyH.nil

set_option maxRecDepth 100000 in
set_option maxHeartbeats 8000000 in
theorem drawFMeet_any (v : Value) (w : World) (hv : CodeAt w.heap.size w v) : Calls Tryd.prog 24 #[v] w (GotOOLL w) := by
  obtain ⟨wB, hwB⟩ : ∃ wB : World, wB = ((w.alloc (.cells #[.slice none 0 0] 25)).alloc (.cells #[.slice none 0 0] 25)) := ⟨_, rfl⟩
  have hres := St.start2 w 25 25 (.slice none 0 0) (.slice none 0 0)
  rw [← hwB] at hres
  have HRES := Lib.hid hres
  have HSZ := Lib.hid (show w.heap.size + 2 ≤ wB.heap.size by have := hres.lt 1 rfl; omega)
  have hcall := drawFJoin_any v wB ((hv.below hres.below).wider hres.below.size)
  clear hv hres
  go_enter Tryd.func24, Tryd.ntmps24
  go_upto_region 1 with fail
  rw [← hwB]
  clear hwB
  go_wp2_with (go_at_call 16; refine hcall.mono ?_; clear hcall; rintro e W ⟨r0, u0, r1, u1, x2, u2, x3, u3, rfl, ho0, ho1, ho2, ho3, hk0, hk1, hk2, hk3, hb⟩; obtain ⟨a0, C0, rfl⟩ := ho0.form; have HO0 := Lib.hid ho0; obtain ⟨a1, C1, rfl⟩ := ho1.form; have HO1 := Lib.hid ho1; obtain ⟨a2, C2, rfl⟩ := ho2.form; have HO2 := Lib.hid ho2; obtain ⟨a3, C3, rfl⟩ := ho3.form; have HO3 := Lib.hid ho3; have HBB := Lib.hid hb; clear hb ho0 ho1 ho2 ho3; have hr0 := (HRES.out.step HBB.out).cell 0 rfl; have hf0 := ((HRES.out.step HBB.out).boxed 0 rfl).frozen; have hr1 := (HRES.out.step HBB.out).cell 1 rfl; have hf1 := ((HRES.out.step HBB.out).boxed 1 rfl).frozen)
  all_goals
    refine bodyPost_ret (v := .tuple #[.agg #[.slice a0 r0.length C0], .agg #[.slice a1 r1.length C1], .slice a2 x2.length C2, .slice a3 x3.length C3]) ?_ rfl ?_
    · simp [results, Tryd.results24, go_sem, World.cell?_setCell_far, hr0, hr1]
    · have HL := fun (y0 : Value) (y1 : Value) => ((Low.refl w.heap.size wB.heap.size W).set (b := w.heap.size) (o := 0) (x := y0) (by have := HSZ.out; omega) (by have := HSZ.out; omega)).set (b := w.heap.size + 1) (o := 0) (x := y1) (by have := HSZ.out; omega) (by have := HSZ.out; omega)
      exact ⟨r0, _, r1, _, x2, _, x3, _, rfl, (HL _ _).ownR HO0.out (by have := HSZ.out; omega), (HL _ _).ownR HO1.out (by have := HSZ.out; omega), (HL _ _).ownI HO2.out (by have := HSZ.out; omega), (HL _ _).ownI HO3.out (by have := HSZ.out; omega), hk0, hk1, hk2, hk3, below_trans2 HRES.out.below HBB.out (HL _ _).below⟩

set_option maxRecDepth 100000 in
set_option maxHeartbeats 16000000 in
theorem drawIndex_any (v : Value) (w : World) (hv : CodeAt w.heap.size w v) : Calls Tryd.prog 28 #[v] w (GotOOL w) := by
  obtain ⟨wB, hwB⟩ : ∃ wB : World, wB = ((w.alloc (.cells #[.slice none 0 0] 25)).alloc (.cells #[.slice none 0 0] 25)) := ⟨_, rfl⟩
  have hres := St.start2 w 25 25 (.slice none 0 0) (.slice none 0 0)
  rw [← hwB] at hres
  have HRES := Lib.hid hres
  have hsz : w.heap.size + 2 ≤ wB.heap.size := by have := hres.lt 1 rfl; omega
  have HSZ := Lib.hid hsz
  have hopen := l6Open_any v wB ((hv.below hres.below).wider hres.below.size)
  have HDOM := Lib.hid (fun (most : Nat) W v' q (h : RdAt wB.heap.size v' q W) (hq : q < 1000000) (h1 : 3 ≤ most) (h2 : most ≤ 8) => l91Domain_any wB.heap.size v' q most W h (by omega) h1 h2)
  clear hv hres hsz
  go_enter Tryd.func28, Tryd.ntmps28
  go_upto_region 1 with fail
  rw [← hwB]
  clear hwB
  go_upto_region 2 with (go_at_call 70; refine hopen.mono ?_; clear hopen; rintro e W0 ⟨v', rfl, hr, hb, hz⟩; have HC := Lib.hid (hr.code.back hb); have S0 := Lib.hid (St.reader hr hb hz); clear hr hb hz)
  go_upto_region 3 with (go_at_call 71; refine (HDOM.out 4 W0 v' 0 (S0.out.rdAt HC.out 0 rfl) (by omega) (by omega) (by omega)).mono ?_; rintro e W1 ⟨r0, u0, q1, rfl, hq1, hd, ho, hk0⟩; have S1 := Lib.hid (S0.out.drawnR 0 rfl hd ho); obtain ⟨a0, C0, rfl⟩ := ho.form; clear hd ho)
  have S2 := Lib.hid (S1.out.box 25 (.slice a0 r0.length C0))
  generalize W1.alloc (.cells #[.slice a0 r0.length C0] 25) = W2 at S2 ⊢
  generalize W1.heap.size = b0 at S2 ⊢
  clear S0 S1
  go_upto_region 4 with (go_at_call 71; refine (HDOM.out 3 W2 v' q1 (S2.out.rdAt HC.out 0 rfl) (by omega) (by omega) (by omega)).mono ?_; rintro e W3 ⟨r1, u1, q3, rfl, hq3, hd, ho, hk1⟩; have S3 := Lib.hid (S2.out.drawnR 0 rfl hd ho); obtain ⟨a1, C1, rfl⟩ := ho.form; clear hd ho)
  have S4 := Lib.hid (S3.out.box 25 (.slice a1 r1.length C1))
  generalize W3.alloc (.cells #[.slice a1 r1.length C1] 25) = W4 at S4 ⊢
  generalize W3.heap.size = b1 at S4 ⊢
  clear S2 S3
  have hc0 := S4.out.cell 2 rfl
  have hc1 := S4.out.cell 4 rfl
  have hr0 := (HRES.out.step S4.out.below).cell 0 rfl
  have hf0 := ((HRES.out.step S4.out.below).boxed 0 rfl).frozen
  have hr1 := (HRES.out.step S4.out.below).cell 1 rfl
  have hf1 := ((HRES.out.step S4.out.below).boxed 1 rfl).frozen
  have SD := Lib.hid S4.out.drew
  have hlo0 : wB.heap.size ≤ b0 := (S4.out.holds.get 2 rfl).1
  have hlo1 : wB.heap.size ≤ b1 := (S4.out.holds.get 4 rfl).1
  have hfun := l91Fun_any wB.heap.size v' q3 _ _ r0 r1 W4.drew (SD.out.rdAt HC.out 0 rfl) (by omega) (by omega) (by omega) (fun _ _ hd => (SD.out.picked 0 rfl hd).rows 1 rfl) (fun _ _ hd => (SD.out.picked 0 rfl hd).rows 3 rfl)
  refine wp_region_held_drew (S := fun W' : World => W'.cell? ⟨b0, 0, none⟩ = some (.slice a0 r0.length C0) ∧ W'.cell? ⟨b1, 0, none⟩ = some (.slice a1 r1.length C1) ∧ True) (by kernel_rfl) ⟨hc0, hc1, trivial⟩ (fun hHeld => ?_)
  refine wpAnyH_take (i := 0) (v := .agg #[.slice a0 r0.length C0]) rfl (by kernel_rfl) (by kernel_rfl) (by kernel_rfl) (fun _ _ _ h => h) (Or.inl ⟨by rfl, ?_⟩) (by assumption) ?_
  · (intro W hSw; obtain ⟨hs0, hs1, hsz⟩ := hSw; go_simp)
  try dsimp only [Act.put]
  refine wpAnyH_take (i := 1) (v := .agg #[.slice a1 r1.length C1]) rfl (by kernel_rfl) (by kernel_rfl) (by kernel_rfl) (fun _ _ _ h => h) (Or.inl ⟨by rfl, ?_⟩) (by assumption) ?_
  · (intro W hSw; obtain ⟨hs0, hs1, hsz⟩ := hSw; go_simp)
  try dsimp only [Act.put]
  refine wpAnyH_take (i := 2) (v := .pointer (some ⟨wB.heap.size, 0, none⟩)) rfl (by kernel_rfl) (by kernel_rfl) (by kernel_rfl) (fun _ _ _ h => h) (Or.inl ⟨by rfl, ?_⟩) (by assumption) ?_
  · (intro W hSw; obtain ⟨hs0, hs1, hsz⟩ := hSw; go_simp)
  try dsimp only [Act.put]
  refine wpAnyH_take (i := 3) (v := .agg #[.slice a0 r0.length C0]) rfl (by kernel_rfl) (by kernel_rfl) (by kernel_rfl) (fun _ _ _ h => h) (Or.inl ⟨by rfl, ?_⟩) (by assumption) ?_
  · (intro W hSw; obtain ⟨hs0, hs1, hsz⟩ := hSw; go_simp)
  try dsimp only [Act.put]
  refine wpAnyH_take (i := 4) (v := .agg #[.slice a1 r1.length C1]) rfl (by kernel_rfl) (by kernel_rfl) (by kernel_rfl) (fun _ _ _ h => h) (Or.inl ⟨by rfl, ?_⟩) (by assumption) ?_
  · (intro W hSw; obtain ⟨hs0, hs1, hsz⟩ := hSw; go_simp)
  try dsimp only [Act.put]
  refine wpAnyH_ready (rs := [5]) (by kernel_rfl) (by simp) ?_
  refine AllReadyH.cons rfl (fun K hK => ?_) ?_
  · go_simp
    go_at_call 72
    refine hfun.mono ?_
    clear hfun
    rintro e W5 ⟨x0, ux0, q5, rfl, hq5, hd, ho, hx0, _⟩
    have S5 := Lib.hid (SD.out.drawnI 0 rfl hd ho)
    obtain ⟨ax0, Cx0, rfl⟩ := ho.form
    clear hd ho
    have hd0 := S5.out.cell 2 rfl
    have hd1 := S5.out.cell 4 rfl
    have hrr0 := (HRES.out.step S5.out.below).cell 0 rfl
    have hff0 := ((HRES.out.step S5.out.below).boxed 0 rfl).frozen
    have hrr1 := (HRES.out.step S5.out.below).cell 1 rfl
    have hff1 := ((HRES.out.step S5.out.below).boxed 1 rfl).frozen
    go_wp2_with fail
    refine hK.out _ _ (⟨hd0, hd1, trivial⟩) (fun hHeld => ?_)
    clear hK K
    try dsimp only [Act.put]
    refine wpAnyH_ready (rs := [6]) (by kernel_rfl) (by simp) ?_
    refine AllReadyH.cons rfl (fun K hK => ?_) ?_
    · go_simp
      have hk0_0 := cell_keep (x := (.slice a0 r0.length C0)) (p := ⟨w.heap.size, 0, none⟩) hd0 (show w.heap.size ≠ b0 by have := HSZ.out; omega)
      have hk1_0 := cell_keep (x := (.slice a0 r0.length C0)) (p := ⟨w.heap.size, 0, none⟩) hd1 (show w.heap.size ≠ b1 by have := HSZ.out; omega)
      have hq1_0 := cell_keep (x := (.slice a0 r0.length C0)) (p := ⟨w.heap.size, 0, none⟩) hrr1 (show w.heap.size ≠ w.heap.size + 1 by omega)
      refine hK.out _ _ (⟨hk0_0, hk1_0, trivial⟩) (fun hHeld => ?_)
      clear hK K
      try dsimp only [Act.put]
      refine wpAnyH_ready (rs := [7]) (by kernel_rfl) (by simp) ?_
      refine AllReadyH.cons rfl (fun K hK => ?_) ?_
      · go_simp
        have hk0_1 := cell_keep (x := (.slice a1 r1.length C1)) (p := ⟨w.heap.size + 1, 0, none⟩) hk0_0 (show w.heap.size + 1 ≠ b0 by have := HSZ.out; omega)
        have hk1_1 := cell_keep (x := (.slice a1 r1.length C1)) (p := ⟨w.heap.size + 1, 0, none⟩) hk1_0 (show w.heap.size + 1 ≠ b1 by have := HSZ.out; omega)
        refine hK.out _ _ (⟨hk0_1, hk1_1, trivial⟩) (fun hHeld => ?_)
        clear hK K
        try dsimp only [Act.put]
        refine wpAnyH_ready (rs := [8]) (by kernel_rfl) (by simp) ?_
        refine AllReadyH.cons rfl (fun K hK => ?_) ?_
        · go_simp
          refine hK.out _ _ (⟨hk0_1, hk1_1, trivial⟩) (fun hHeld => ?_)
          clear hK K
          try dsimp only [Act.put]
          refine wpAnyH_done (by kernel_rfl) ?_ _
          go_wp2_with fail
          refine bodyPost_ret (v := .tuple #[.agg #[.slice a0 r0.length C0], .agg #[.slice a1 r1.length C1], .slice ax0 x0.length Cx0]) ?_ rfl ?_
          · simp [results, Tryd.results28, go_sem, World.cell?_setCell_far, hrr0, hrr1]
          · have HL := fun (y0 : Value) (y1 : Value) => ((Low.refl w.heap.size wB.heap.size W5).set (b := w.heap.size) (o := 0) (x := y0) (by have := HSZ.out; omega) (by have := HSZ.out; omega)).set (b := w.heap.size + 1) (o := 0) (x := y1) (by have := HSZ.out; omega) (by have := HSZ.out; omega)
            have HH := fun y0 y1 => (HL y0 y1).holds S5.out
            exact ⟨r0, _, r1, _, x0, _, rfl, (HH _ _).ownRW 1 rfl (by have := HSZ.out; omega), (HH _ _).ownRW 3 rfl (by have := HSZ.out; omega), (HH _ _).ownIW 5 rfl (by have := HSZ.out; omega), hk0, hk1, hx0, below_trans2 HRES.out.below S5.out.below (HL _ _).below⟩
        exact AllReadyH.nil
      exact AllReadyH.nil
    exact AllReadyH.nil
  exact AllReadyH.nil

/-- What a draw answers: O an order, L a list, I a number. -/
def GotOO (w : World) (e : Ending) (w' : World) : Prop :=
  ∃ (r0 : Rows2) (u0 : Value) (r1 : Rows2) (u1 : Value), e = .returned (.tuple #[.agg #[u0], .agg #[u1]]) ∧ OwnR 3 26 w' u0 r0.length (rowsF r0) w.heap.size w'.heap.size ∧ OwnR 3 26 w' u1 r1.length (rowsF r1) w.heap.size w'.heap.size ∧ bulk r0 ≤ 100000 ∧ bulk r1 ≤ 100000 ∧ Below w.heap.size w w'

set_option maxRecDepth 100000 in
set_option maxHeartbeats 16000000 in
theorem drawFun_any (v : Value) (w : World) (hv : CodeAt w.heap.size w v) : Calls Tryd.prog 35 #[v] w (GotOO w) := by
  obtain ⟨wB, hwB⟩ : ∃ wB : World, wB = ((w.alloc (.cells #[.slice none 0 0] 25)).alloc (.cells #[.slice none 0 0] 25)) := ⟨_, rfl⟩
  have hres := St.start2 w 25 25 (.slice none 0 0) (.slice none 0 0)
  rw [← hwB] at hres
  have HRES := Lib.hid hres
  have hsz : w.heap.size + 2 ≤ wB.heap.size := by have := hres.lt 1 rfl; omega
  have HSZ := Lib.hid hsz
  have hopen := l6Open_any v wB ((hv.below hres.below).wider hres.below.size)
  have HDOM := Lib.hid (fun (most : Nat) W v' q (h : RdAt wB.heap.size v' q W) (hq : q < 1000000) (h1 : 3 ≤ most) (h2 : most ≤ 8) => l91Domain_any wB.heap.size v' q most W h (by omega) h1 h2)
  clear hv hres hsz
  go_enter Tryd.func35, Tryd.ntmps35
  go_upto_region 1 with fail
  rw [← hwB]
  clear hwB
  go_upto_region 2 with (go_at_call 70; refine hopen.mono ?_; clear hopen; rintro e W0 ⟨v', rfl, hr, hb, hz⟩; have HC := Lib.hid (hr.code.back hb); have S0 := Lib.hid (St.reader hr hb hz); clear hr hb hz)
  go_upto_region 3 with (go_at_call 71; refine (HDOM.out 4 W0 v' 0 (S0.out.rdAt HC.out 0 rfl) (by omega) (by omega) (by omega)).mono ?_; rintro e W1 ⟨r0, u0, q1, rfl, hq1, hd, ho, hk0⟩; have S1 := Lib.hid (S0.out.drawnR 0 rfl hd ho); obtain ⟨a0, C0, rfl⟩ := ho.form; clear hd ho)
  have S2 := Lib.hid (S1.out.box 25 (.slice a0 r0.length C0))
  generalize W1.alloc (.cells #[.slice a0 r0.length C0] 25) = W2 at S2 ⊢
  generalize W1.heap.size = b0 at S2 ⊢
  clear S0 S1
  have hc0 := S2.out.cell 2 rfl
  have hr0 := (HRES.out.step S2.out.below).cell 0 rfl
  have hf0 := ((HRES.out.step S2.out.below).boxed 0 rfl).frozen
  have hr1 := (HRES.out.step S2.out.below).cell 1 rfl
  have hf1 := ((HRES.out.step S2.out.below).boxed 1 rfl).frozen
  have SD := Lib.hid S2.out.drew
  have hlo0 : wB.heap.size ≤ b0 := (S2.out.holds.get 2 rfl).1
  refine wp_region_held_drew (S := fun W' : World => W'.cell? ⟨b0, 0, none⟩ = some (.slice a0 r0.length C0) ∧ True) (by kernel_rfl) ⟨hc0, trivial⟩ (fun hHeld => ?_)
  refine wpAnyH_take (i := 0) (v := .agg #[.slice a0 r0.length C0]) rfl (by kernel_rfl) (by kernel_rfl) (by kernel_rfl) (fun _ _ _ h => h) (Or.inl ⟨by rfl, ?_⟩) (by assumption) ?_
  · (intro W hSw; obtain ⟨hs0, hsz⟩ := hSw; go_simp)
  try dsimp only [Act.put]
  refine wpAnyH_take (i := 1) (v := .pointer (some ⟨wB.heap.size, 0, none⟩)) rfl (by kernel_rfl) (by kernel_rfl) (by kernel_rfl) (fun _ _ _ h => h) (Or.inl ⟨by rfl, ?_⟩) (by assumption) ?_
  · (intro W hSw; obtain ⟨hs0, hsz⟩ := hSw; go_simp)
  try dsimp only [Act.put]
  refine wpAnyH_ready (rs := [2]) (by kernel_rfl) (by simp) ?_
  refine AllReadyH.cons rfl (fun K hK => ?_) ?_
  · go_simp
    go_at_call 71
    refine (HDOM.out 3 W2.drew v' q1 (SD.out.rdAt HC.out 0 rfl) (by omega) (by omega) (by omega)).mono ?_
    rintro e W3 ⟨r1, u1, q3, rfl, hq3, hd, ho, hk1⟩
    have S3 := Lib.hid (SD.out.drawnR 0 rfl hd ho)
    obtain ⟨a1, C1, rfl⟩ := ho.form
    clear hd ho
    have hd0 := S3.out.cell 2 rfl
    have hrr0 := (HRES.out.step S3.out.below).cell 0 rfl
    have hff0 := ((HRES.out.step S3.out.below).boxed 0 rfl).frozen
    have hrr1 := (HRES.out.step S3.out.below).cell 1 rfl
    have hff1 := ((HRES.out.step S3.out.below).boxed 1 rfl).frozen
    go_wp2_with fail
    refine hK.out _ _ (⟨hd0, trivial⟩) (fun hHeld => ?_)
    clear hK K
    try dsimp only [Act.put]
    refine wpAnyH_ready (rs := [3]) (by kernel_rfl) (by simp) ?_
    refine AllReadyH.cons rfl (fun K hK => ?_) ?_
    · go_simp
      have hk0_0 := cell_keep (x := (.slice a0 r0.length C0)) (p := ⟨w.heap.size, 0, none⟩) hd0 (show w.heap.size ≠ b0 by have := HSZ.out; omega)
      have hq1_0 := cell_keep (x := (.slice a0 r0.length C0)) (p := ⟨w.heap.size, 0, none⟩) hrr1 (show w.heap.size ≠ w.heap.size + 1 by omega)
      refine hK.out _ _ (⟨hk0_0, trivial⟩) (fun hHeld => ?_)
      clear hK K
      try dsimp only [Act.put]
      refine wpAnyH_ready (rs := [4]) (by kernel_rfl) (by simp) ?_
      refine AllReadyH.cons rfl (fun K hK => ?_) ?_
      · go_simp
        have hk0_1 := cell_keep (x := (.slice a1 r1.length C1)) (p := ⟨w.heap.size + 1, 0, none⟩) hk0_0 (show w.heap.size + 1 ≠ b0 by have := HSZ.out; omega)
        refine hK.out _ _ (⟨hk0_1, trivial⟩) (fun hHeld => ?_)
        clear hK K
        try dsimp only [Act.put]
        refine wpAnyH_done (by kernel_rfl) ?_ _
        go_wp2_with fail
        refine bodyPost_ret (v := .tuple #[.agg #[.slice a0 r0.length C0], .agg #[.slice a1 r1.length C1]]) ?_ rfl ?_
        · simp [results, Tryd.results35, go_sem, World.cell?_setCell_far, hrr0, hrr1]
        · have HL := fun (y0 : Value) (y1 : Value) => ((Low.refl w.heap.size wB.heap.size W3).set (b := w.heap.size) (o := 0) (x := y0) (by have := HSZ.out; omega) (by have := HSZ.out; omega)).set (b := w.heap.size + 1) (o := 0) (x := y1) (by have := HSZ.out; omega) (by have := HSZ.out; omega)
          have HH := fun y0 y1 => (HL y0 y1).holds S3.out
          exact ⟨r0, _, r1, _, rfl, (HH _ _).ownRW 1 rfl (by have := HSZ.out; omega), (HH _ _).ownRW 3 rfl (by have := HSZ.out; omega), hk0, hk1, below_trans2 HRES.out.below S3.out.below (HL _ _).below⟩
      exact AllReadyH.nil
    exact AllReadyH.nil
  exact AllReadyH.nil

end Go.Proofs.YtkomghohdhengaaDoor
