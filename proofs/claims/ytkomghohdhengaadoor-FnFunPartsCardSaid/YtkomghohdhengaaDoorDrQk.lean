/- Draws of the promises' laws: orders, lists and numbers of the right form (made by gendraw.py). -/
import Derived.Test.YtkomghohdhengaaDoorDrUk
import Derived.Test.YtkomghohdhengaaDoorAllocSk
import Derived.Test.YtkomghohdhengaaDoorDrMk
namespace Go.Proofs.YtkomghohdhengaaDoor
open Go.RowKit Go.Deep Go.Shelf

/-- What a draw answers: O an order, L a list, I a number. -/
def GotOOOL (w : World) (e : Ending) (w' : World) : Prop :=
  ∃ (r0 : Rows2) (u0 : Value) (r1 : Rows2) (u1 : Value) (r2 : Rows2) (u2 : Value) (r3 : List Int) (u3 : Value), e = .returned (.tuple #[.agg #[u0], .agg #[u1], .agg #[u2], u3]) ∧ OwnR 3 26 w' u0 r0.length (rowsF r0) w.heap.size w'.heap.size ∧ OwnR 3 26 w' u1 r1.length (rowsF r1) w.heap.size w'.heap.size ∧ OwnR 3 26 w' u2 r2.length (rowsF r2) w.heap.size w'.heap.size ∧ OwnI 3 w' u3 r3 w.heap.size w'.heap.size ∧ bulk r0 ≤ 100000 ∧ bulk r1 ≤ 100000 ∧ bulk r2 ≤ 100000 ∧ r3.length ≤ 200 ∧ Below w.heap.size w w'

set_option maxRecDepth 100000 in
set_option maxHeartbeats 16000000 in
theorem drawParts_any (v : Value) (w : World) (hv : CodeAt w.heap.size w v) : Calls Tryd.prog 45 #[v] w (GotOOOL w) := by
  obtain ⟨wB, hwB⟩ : ∃ wB : World, wB = (((w.alloc (.cells #[.slice none 0 0] 25)).alloc (.cells #[.slice none 0 0] 25)).alloc (.cells #[.slice none 0 0] 25)) := ⟨_, rfl⟩
  have hres := St.start3 w 25 25 25 (.slice none 0 0) (.slice none 0 0) (.slice none 0 0)
  rw [← hwB] at hres
  have HRES := Lib.hid hres
  have hsz : w.heap.size + 3 ≤ wB.heap.size := by have := hres.lt 2 rfl; omega
  have HSZ := Lib.hid hsz
  have hopen := l6Open_any v wB ((hv.below hres.below).wider hres.below.size)
  have HDOM := Lib.hid (fun (most : Nat) W v' q (h : RdAt wB.heap.size v' q W) (hq : q < 1000000) (h1 : 3 ≤ most) (h2 : most ≤ 8) => l91Domain_any wB.heap.size v' q most W h (by omega) h1 h2)
  have HTHREE := Lib.hid (fun W v' q (h : RdAt wB.heap.size v' q W) (hq : q < 1000000) => l91Three_any wB.heap.size v' q W h hq)
  clear hv hres hsz
  go_enter Tryd.func45, Tryd.ntmps45
  go_upto_region 1 with fail
  rw [← hwB]
  clear hwB
  go_upto_region 2 with (go_at_call 70; refine hopen.mono ?_; clear hopen; rintro e W0 ⟨v', rfl, hr, hb, hz⟩; have HC := Lib.hid (hr.code.back hb); have S0 := Lib.hid (St.reader hr hb hz); clear hr hb hz)
  go_upto_region 3 with (go_at_call 100; refine (HTHREE.out W0 v' 0 (S0.out.rdAt HC.out 0 rfl) (by omega)).mono ?_; rintro e W1 ⟨r0, u0, r1, u1, r2, u2, q1, m1, m2, rfl, hq1, hd, hh, hk0, hk1, hk2⟩; have S1 := Lib.hid (S0.out.drawnL 0 rfl hd hh); have HT0 := OwnR.form (hh.get 0 rfl).2.2.2; have HT1 := OwnR.form (hh.get 1 rfl).2.2.2; have HT2 := OwnR.form (hh.get 2 rfl).2.2.2; obtain ⟨a0, C0, rfl⟩ := HT0; obtain ⟨a1, C1, rfl⟩ := HT1; obtain ⟨a2, C2, rfl⟩ := HT2; clear hd hh)
  have hbx := ((S1.out.box 25 (.slice a0 r0.length C0)).box 25 (.slice a1 r1.length C1)).box 25 (.slice a2 r2.length C2)
  simp only [World.size_alloc] at hbx
  have S2 := Lib.hid hbx
  clear hbx
  generalize ((W1.alloc (.cells #[.slice a0 r0.length C0] 25)).alloc (.cells #[.slice a1 r1.length C1] 25)).alloc (.cells #[.slice a2 r2.length C2] 25) = W2 at S2 ⊢
  generalize W1.heap.size + 1 + 1 = b2 at S2 ⊢
  generalize W1.heap.size + 1 = b1 at S2 ⊢
  generalize W1.heap.size = b0 at S2 ⊢
  clear S0 S1
  have hc1 := S2.out.cell 5 rfl
  have hc2 := S2.out.cell 6 rfl
  have hpr := specProd_any (.slice a1 r1.length C1) (.slice a2 r2.length C2) r1 r2 W2 (S2.out.rows 2 rfl) (S2.out.rows 3 rfl) (by omega) (by omega)
  have hbp := prod_bulk r1 r2
  go_upto_region 4 with (go_at_call 101; refine hpr.mono ?_; clear hpr; rintro e W3 ⟨u3, rfl, ho, hb⟩; have S3 := Lib.hid (S2.out.pushR hb ho); obtain ⟨a3, C3, rfl⟩ := ho.form; clear ho hb)
  generalize prodL r1 r2 = r3 at S3 hbp ⊢
  have S4 := Lib.hid (S3.out.box 25 (.slice a3 r3.length C3))
  generalize W3.alloc (.cells #[.slice a3 r3.length C3] 25) = W4 at S4 ⊢
  generalize W3.heap.size = b3 at S4 ⊢
  clear S2 S3 hc1 hc2
  cases hkb : prodOk r1 r2
  · go_upto_region 5 with fail
    have hc0 := S4.out.cell 4 rfl
    have hc1 := S4.out.cell 5 rfl
    have hc2 := S4.out.cell 6 rfl
    have hr0 := (HRES.out.step S4.out.below).cell 0 rfl
    have hf0 := ((HRES.out.step S4.out.below).boxed 0 rfl).frozen
    have hr1 := (HRES.out.step S4.out.below).cell 1 rfl
    have hf1 := ((HRES.out.step S4.out.below).boxed 1 rfl).frozen
    have hr2 := (HRES.out.step S4.out.below).cell 2 rfl
    have hf2 := ((HRES.out.step S4.out.below).boxed 2 rfl).frozen
    have SD := Lib.hid S4.out.drew
    have hlo0 : wB.heap.size ≤ b0 := (S4.out.holds.get 4 rfl).1
    have hlo1 : wB.heap.size ≤ b1 := (S4.out.holds.get 5 rfl).1
    have hlo2 : wB.heap.size ≤ b2 := (S4.out.holds.get 6 rfl).1
    refine wp_region_held_drew (S := fun W' : World => W'.cell? ⟨b0, 0, none⟩ = some (.slice a0 r0.length C0) ∧ W'.cell? ⟨b1, 0, none⟩ = some (.slice a1 r1.length C1) ∧ W'.cell? ⟨b2, 0, none⟩ = some (.slice a2 r2.length C2) ∧ True) (by kernel_rfl) ⟨hc0, hc1, hc2, trivial⟩ (fun hHeld => ?_)
    refine wpAnyH_take (i := 0) (v := .agg #[.slice a0 r0.length C0]) rfl (by kernel_rfl) (by kernel_rfl) (by kernel_rfl) (fun _ _ _ h => h) (Or.inl ⟨by rfl, ?_⟩) (by assumption) ?_
    · (intro W hSw; obtain ⟨hs0, hs1, hs2, hsz⟩ := hSw; go_simp)
    try dsimp only [Act.put]
    refine wpAnyH_take (i := 1) (v := .agg #[.slice a1 r1.length C1]) rfl (by kernel_rfl) (by kernel_rfl) (by kernel_rfl) (fun _ _ _ h => h) (Or.inl ⟨by rfl, ?_⟩) (by assumption) ?_
    · (intro W hSw; obtain ⟨hs0, hs1, hs2, hsz⟩ := hSw; go_simp)
    try dsimp only [Act.put]
    refine wpAnyH_take (i := 2) (v := .agg #[.slice a2 r2.length C2]) rfl (by kernel_rfl) (by kernel_rfl) (by kernel_rfl) (fun _ _ _ h => h) (Or.inl ⟨by rfl, ?_⟩) (by assumption) ?_
    · (intro W hSw; obtain ⟨hs0, hs1, hs2, hsz⟩ := hSw; go_simp)
    try dsimp only [Act.put]
    refine wpAnyH_ready (rs := [3, 4]) (by kernel_rfl) (by simp) ?_
    refine AllReadyH.cons rfl (fun K hK => ?_) ?_
    · go_simp
      have S5 := Lib.hid S4.out.lit.drew
      generalize (W4.alloc (.cells #[.int .i64 0] 3)).drew = W5 at S5 ⊢
      generalize W4.heap.size = gl at S5 ⊢
      have hd0 := S5.out.cell 4 rfl
      have hd1 := S5.out.cell 5 rfl
      have hd2 := S5.out.cell 6 rfl
      have hrr0 := (HRES.out.step S5.out.below).cell 0 rfl
      have hff0 := ((HRES.out.step S5.out.below).boxed 0 rfl).frozen
      have hrr1 := (HRES.out.step S5.out.below).cell 1 rfl
      have hff1 := ((HRES.out.step S5.out.below).boxed 1 rfl).frozen
      have hrr2 := (HRES.out.step S5.out.below).cell 2 rfl
      have hff2 := ((HRES.out.step S5.out.below).boxed 2 rfl).frozen
      refine hK.out _ _ (⟨hd0, hd1, hd2, trivial⟩) (fun hHeld => ?_)
      clear hK K
      try dsimp only [Act.put]
      refine wpAnyH_ready (rs := [4]) (by kernel_rfl) (by simp) ?_
      refine AllReadyH.cons rfl (fun K hK => ?_) ?_
      · go_simp
        have hk0_0 := cell_keep (x := (.slice a0 r0.length C0)) (p := ⟨w.heap.size, 0, none⟩) hd0 (show w.heap.size ≠ b0 by have := HSZ.out; omega)
        have hk1_0 := cell_keep (x := (.slice a0 r0.length C0)) (p := ⟨w.heap.size, 0, none⟩) hd1 (show w.heap.size ≠ b1 by have := HSZ.out; omega)
        have hk2_0 := cell_keep (x := (.slice a0 r0.length C0)) (p := ⟨w.heap.size, 0, none⟩) hd2 (show w.heap.size ≠ b2 by have := HSZ.out; omega)
        have hq1_0 := cell_keep (x := (.slice a0 r0.length C0)) (p := ⟨w.heap.size, 0, none⟩) hrr1 (show w.heap.size ≠ w.heap.size + 1 by omega)
        have hq2_0 := cell_keep (x := (.slice a0 r0.length C0)) (p := ⟨w.heap.size, 0, none⟩) hrr2 (show w.heap.size ≠ w.heap.size + 2 by omega)
        refine hK.out _ _ (⟨hk0_0, hk1_0, hk2_0, trivial⟩) (fun hHeld => ?_)
        clear hK K
        try dsimp only [Act.put]
        refine wpAnyH_ready (rs := [5]) (by kernel_rfl) (by simp) ?_
        refine AllReadyH.cons rfl (fun K hK => ?_) ?_
        · go_simp
          have hk0_1 := cell_keep (x := (.slice a1 r1.length C1)) (p := ⟨w.heap.size + 1, 0, none⟩) hk0_0 (show w.heap.size + 1 ≠ b0 by have := HSZ.out; omega)
          have hk1_1 := cell_keep (x := (.slice a1 r1.length C1)) (p := ⟨w.heap.size + 1, 0, none⟩) hk1_0 (show w.heap.size + 1 ≠ b1 by have := HSZ.out; omega)
          have hk2_1 := cell_keep (x := (.slice a1 r1.length C1)) (p := ⟨w.heap.size + 1, 0, none⟩) hk2_0 (show w.heap.size + 1 ≠ b2 by have := HSZ.out; omega)
          have hq2_1 := cell_keep (x := (.slice a1 r1.length C1)) (p := ⟨w.heap.size + 1, 0, none⟩) hq2_0 (show w.heap.size + 1 ≠ w.heap.size + 2 by omega)
          refine hK.out _ _ (⟨hk0_1, hk1_1, hk2_1, trivial⟩) (fun hHeld => ?_)
          clear hK K
          try dsimp only [Act.put]
          refine wpAnyH_ready (rs := [6]) (by kernel_rfl) (by simp) ?_
          refine AllReadyH.cons rfl (fun K hK => ?_) ?_
          · go_simp
            have hk0_2 := cell_keep (x := (.slice a2 r2.length C2)) (p := ⟨w.heap.size + 2, 0, none⟩) hk0_1 (show w.heap.size + 2 ≠ b0 by have := HSZ.out; omega)
            have hk1_2 := cell_keep (x := (.slice a2 r2.length C2)) (p := ⟨w.heap.size + 2, 0, none⟩) hk1_1 (show w.heap.size + 2 ≠ b1 by have := HSZ.out; omega)
            have hk2_2 := cell_keep (x := (.slice a2 r2.length C2)) (p := ⟨w.heap.size + 2, 0, none⟩) hk2_1 (show w.heap.size + 2 ≠ b2 by have := HSZ.out; omega)
            refine hK.out _ _ (⟨hk0_2, hk1_2, hk2_2, trivial⟩) (fun hHeld => ?_)
            clear hK K
            try dsimp only [Act.put]
            refine wpAnyH_ready (rs := [7]) (by kernel_rfl) (by simp) ?_
            refine AllReadyH.cons rfl (fun K hK => ?_) ?_
            · go_simp
              refine hK.out _ _ (⟨hk0_2, hk1_2, hk2_2, trivial⟩) (fun hHeld => ?_)
              clear hK K
              try dsimp only [Act.put]
              refine wpAnyH_done (by kernel_rfl) ?_ _
              go_wp2_with fail
              refine bodyPost_ret (v := .tuple #[.agg #[.slice a0 r0.length C0], .agg #[.slice a1 r1.length C1], .agg #[.slice a2 r2.length C2], .slice (some ⟨gl, 0, none⟩) 1 1]) ?_ rfl ?_
              · simp [results, Tryd.results45, go_sem, World.cell?_setCell_far, hrr0, hrr1, hrr2]
              · have HL := fun (y0 : Value) (y1 : Value) (y2 : Value) => (((Low.refl w.heap.size wB.heap.size W5).set (b := w.heap.size) (o := 0) (x := y0) (by have := HSZ.out; omega) (by have := HSZ.out; omega)).set (b := w.heap.size + 1) (o := 0) (x := y1) (by have := HSZ.out; omega) (by have := HSZ.out; omega)).set (b := w.heap.size + 2) (o := 0) (x := y2) (by have := HSZ.out; omega) (by have := HSZ.out; omega)
                have HH := fun y0 y1 y2 => (HL y0 y1 y2).holds S5.out
                exact ⟨r0, _, r1, _, r2, _, [0], _, rfl, (HH _ _ _).ownRW 1 rfl (by have := HSZ.out; omega), (HH _ _ _).ownRW 2 rfl (by have := HSZ.out; omega), (HH _ _ _).ownRW 3 rfl (by have := HSZ.out; omega), (HH _ _ _).ownIW 9 rfl (by have := HSZ.out; omega), hk0, hk1, hk2, (by decide), below_trans2 HRES.out.below S5.out.below (HL _ _ _).below⟩
            exact AllReadyH.nil
          exact AllReadyH.nil
        exact AllReadyH.nil
      exact AllReadyH.nil
    refine AllReadyH.cons rfl (fun K hK => ?_) ?_
    · go_simp
      have hk0_0 := cell_keep (x := (.slice a0 r0.length C0)) (p := ⟨w.heap.size, 0, none⟩) hc0 (show w.heap.size ≠ b0 by have := HSZ.out; omega)
      have hk1_0 := cell_keep (x := (.slice a0 r0.length C0)) (p := ⟨w.heap.size, 0, none⟩) hc1 (show w.heap.size ≠ b1 by have := HSZ.out; omega)
      have hk2_0 := cell_keep (x := (.slice a0 r0.length C0)) (p := ⟨w.heap.size, 0, none⟩) hc2 (show w.heap.size ≠ b2 by have := HSZ.out; omega)
      have hq1_0 := cell_keep (x := (.slice a0 r0.length C0)) (p := ⟨w.heap.size, 0, none⟩) hr1 (show w.heap.size ≠ w.heap.size + 1 by omega)
      have hq2_0 := cell_keep (x := (.slice a0 r0.length C0)) (p := ⟨w.heap.size, 0, none⟩) hr2 (show w.heap.size ≠ w.heap.size + 2 by omega)
      refine hK.out _ _ (⟨hk0_0, hk1_0, hk2_0, trivial⟩) (fun hHeld => ?_)
      clear hK K
      try dsimp only [Act.put]
      refine wpAnyH_ready (rs := [3, 5]) (by kernel_rfl) (by simp) ?_
      refine AllReadyH.cons rfl (fun K hK => ?_) ?_
      · go_simp
        try simp only [size_setCell]
        rw [alloc_set1 (by have := HSZ.out; have := S4.out.below.size; show w.heap.size + 0 < _; omega)]
        have S5 := Lib.hid S4.out.lit.drew
        simp only [← World.setCell_drew]
        generalize (W4.alloc (.cells #[.int .i64 0] 3)).drew = W5 at S5 ⊢
        generalize W4.heap.size = gl at S5 ⊢
        have hd0 := S5.out.cell 4 rfl
        have hd1 := S5.out.cell 5 rfl
        have hd2 := S5.out.cell 6 rfl
        have hrr0 := (HRES.out.step S5.out.below).cell 0 rfl
        have hff0 := ((HRES.out.step S5.out.below).boxed 0 rfl).frozen
        have hrr1 := (HRES.out.step S5.out.below).cell 1 rfl
        have hff1 := ((HRES.out.step S5.out.below).boxed 1 rfl).frozen
        have hrr2 := (HRES.out.step S5.out.below).cell 2 rfl
        have hff2 := ((HRES.out.step S5.out.below).boxed 2 rfl).frozen
        have hk0_0 := cell_keep (x := (.slice a0 r0.length C0)) (p := ⟨w.heap.size, 0, none⟩) hd0 (show w.heap.size ≠ b0 by have := HSZ.out; omega)
        have hk1_0 := cell_keep (x := (.slice a0 r0.length C0)) (p := ⟨w.heap.size, 0, none⟩) hd1 (show w.heap.size ≠ b1 by have := HSZ.out; omega)
        have hk2_0 := cell_keep (x := (.slice a0 r0.length C0)) (p := ⟨w.heap.size, 0, none⟩) hd2 (show w.heap.size ≠ b2 by have := HSZ.out; omega)
        have hq1_0 := cell_keep (x := (.slice a0 r0.length C0)) (p := ⟨w.heap.size, 0, none⟩) hrr1 (show w.heap.size ≠ w.heap.size + 1 by omega)
        have hq2_0 := cell_keep (x := (.slice a0 r0.length C0)) (p := ⟨w.heap.size, 0, none⟩) hrr2 (show w.heap.size ≠ w.heap.size + 2 by omega)
        refine hK.out _ _ (⟨hk0_0, hk1_0, hk2_0, trivial⟩) (fun hHeld => ?_)
        clear hK K
        try dsimp only [Act.put]
        refine wpAnyH_ready (rs := [5]) (by kernel_rfl) (by simp) ?_
        refine AllReadyH.cons rfl (fun K hK => ?_) ?_
        · go_simp
          have hk0_1 := cell_keep (x := (.slice a1 r1.length C1)) (p := ⟨w.heap.size + 1, 0, none⟩) hk0_0 (show w.heap.size + 1 ≠ b0 by have := HSZ.out; omega)
          have hk1_1 := cell_keep (x := (.slice a1 r1.length C1)) (p := ⟨w.heap.size + 1, 0, none⟩) hk1_0 (show w.heap.size + 1 ≠ b1 by have := HSZ.out; omega)
          have hk2_1 := cell_keep (x := (.slice a1 r1.length C1)) (p := ⟨w.heap.size + 1, 0, none⟩) hk2_0 (show w.heap.size + 1 ≠ b2 by have := HSZ.out; omega)
          have hq2_1 := cell_keep (x := (.slice a1 r1.length C1)) (p := ⟨w.heap.size + 1, 0, none⟩) hq2_0 (show w.heap.size + 1 ≠ w.heap.size + 2 by omega)
          refine hK.out _ _ (⟨hk0_1, hk1_1, hk2_1, trivial⟩) (fun hHeld => ?_)
          clear hK K
          try dsimp only [Act.put]
          refine wpAnyH_ready (rs := [6]) (by kernel_rfl) (by simp) ?_
          refine AllReadyH.cons rfl (fun K hK => ?_) ?_
          · go_simp
            have hk0_2 := cell_keep (x := (.slice a2 r2.length C2)) (p := ⟨w.heap.size + 2, 0, none⟩) hk0_1 (show w.heap.size + 2 ≠ b0 by have := HSZ.out; omega)
            have hk1_2 := cell_keep (x := (.slice a2 r2.length C2)) (p := ⟨w.heap.size + 2, 0, none⟩) hk1_1 (show w.heap.size + 2 ≠ b1 by have := HSZ.out; omega)
            have hk2_2 := cell_keep (x := (.slice a2 r2.length C2)) (p := ⟨w.heap.size + 2, 0, none⟩) hk2_1 (show w.heap.size + 2 ≠ b2 by have := HSZ.out; omega)
            refine hK.out _ _ (⟨hk0_2, hk1_2, hk2_2, trivial⟩) (fun hHeld => ?_)
            clear hK K
            try dsimp only [Act.put]
            refine wpAnyH_ready (rs := [7]) (by kernel_rfl) (by simp) ?_
            refine AllReadyH.cons rfl (fun K hK => ?_) ?_
            · go_simp
              refine hK.out _ _ (⟨hk0_2, hk1_2, hk2_2, trivial⟩) (fun hHeld => ?_)
              clear hK K
              try dsimp only [Act.put]
              refine wpAnyH_done (by kernel_rfl) ?_ _
              go_wp2_with fail
              refine bodyPost_ret (v := .tuple #[.agg #[.slice a0 r0.length C0], .agg #[.slice a1 r1.length C1], .agg #[.slice a2 r2.length C2], .slice (some ⟨gl, 0, none⟩) 1 1]) ?_ rfl ?_
              · simp [results, Tryd.results45, go_sem, World.cell?_setCell_far, hrr0, hrr1, hrr2]
              · have HL := fun (y0 : Value) (y1 : Value) (y2 : Value) => (((Low.refl w.heap.size wB.heap.size W5).set (b := w.heap.size) (o := 0) (x := y0) (by have := HSZ.out; omega) (by have := HSZ.out; omega)).set (b := w.heap.size + 1) (o := 0) (x := y1) (by have := HSZ.out; omega) (by have := HSZ.out; omega)).set (b := w.heap.size + 2) (o := 0) (x := y2) (by have := HSZ.out; omega) (by have := HSZ.out; omega)
                have HH := fun y0 y1 y2 => (HL y0 y1 y2).holds S5.out
                exact ⟨r0, _, r1, _, r2, _, [0], _, rfl, (HH _ _ _).ownRW 1 rfl (by have := HSZ.out; omega), (HH _ _ _).ownRW 2 rfl (by have := HSZ.out; omega), (HH _ _ _).ownRW 3 rfl (by have := HSZ.out; omega), (HH _ _ _).ownIW 9 rfl (by have := HSZ.out; omega), hk0, hk1, hk2, (by decide), below_trans2 HRES.out.below S5.out.below (HL _ _ _).below⟩
            exact AllReadyH.nil
          exact AllReadyH.nil
        exact AllReadyH.nil
      refine AllReadyH.cons rfl (fun K hK => ?_) ?_
      · go_simp
        have hk0_1 := cell_keep (x := (.slice a1 r1.length C1)) (p := ⟨w.heap.size + 1, 0, none⟩) hk0_0 (show w.heap.size + 1 ≠ b0 by have := HSZ.out; omega)
        have hk1_1 := cell_keep (x := (.slice a1 r1.length C1)) (p := ⟨w.heap.size + 1, 0, none⟩) hk1_0 (show w.heap.size + 1 ≠ b1 by have := HSZ.out; omega)
        have hk2_1 := cell_keep (x := (.slice a1 r1.length C1)) (p := ⟨w.heap.size + 1, 0, none⟩) hk2_0 (show w.heap.size + 1 ≠ b2 by have := HSZ.out; omega)
        have hq2_1 := cell_keep (x := (.slice a1 r1.length C1)) (p := ⟨w.heap.size + 1, 0, none⟩) hq2_0 (show w.heap.size + 1 ≠ w.heap.size + 2 by omega)
        refine hK.out _ _ (⟨hk0_1, hk1_1, hk2_1, trivial⟩) (fun hHeld => ?_)
        clear hK K
        try dsimp only [Act.put]
        refine wpAnyH_ready (rs := [3, 6]) (by kernel_rfl) (by simp) ?_
        refine AllReadyH.cons rfl (fun K hK => ?_) ?_
        · go_simp
          try simp only [size_setCell]
          rw [alloc_set2 (by have := HSZ.out; have := S4.out.below.size; show w.heap.size + 0 < _; omega) (by have := HSZ.out; have := S4.out.below.size; show w.heap.size + 1 < _; omega)]
          have S5 := Lib.hid S4.out.lit.drew
          simp only [← World.setCell_drew]
          generalize (W4.alloc (.cells #[.int .i64 0] 3)).drew = W5 at S5 ⊢
          generalize W4.heap.size = gl at S5 ⊢
          have hd0 := S5.out.cell 4 rfl
          have hd1 := S5.out.cell 5 rfl
          have hd2 := S5.out.cell 6 rfl
          have hrr0 := (HRES.out.step S5.out.below).cell 0 rfl
          have hff0 := ((HRES.out.step S5.out.below).boxed 0 rfl).frozen
          have hrr1 := (HRES.out.step S5.out.below).cell 1 rfl
          have hff1 := ((HRES.out.step S5.out.below).boxed 1 rfl).frozen
          have hrr2 := (HRES.out.step S5.out.below).cell 2 rfl
          have hff2 := ((HRES.out.step S5.out.below).boxed 2 rfl).frozen
          have hk0_0 := cell_keep (x := (.slice a0 r0.length C0)) (p := ⟨w.heap.size, 0, none⟩) hd0 (show w.heap.size ≠ b0 by have := HSZ.out; omega)
          have hk1_0 := cell_keep (x := (.slice a0 r0.length C0)) (p := ⟨w.heap.size, 0, none⟩) hd1 (show w.heap.size ≠ b1 by have := HSZ.out; omega)
          have hk2_0 := cell_keep (x := (.slice a0 r0.length C0)) (p := ⟨w.heap.size, 0, none⟩) hd2 (show w.heap.size ≠ b2 by have := HSZ.out; omega)
          have hq1_0 := cell_keep (x := (.slice a0 r0.length C0)) (p := ⟨w.heap.size, 0, none⟩) hrr1 (show w.heap.size ≠ w.heap.size + 1 by omega)
          have hq2_0 := cell_keep (x := (.slice a0 r0.length C0)) (p := ⟨w.heap.size, 0, none⟩) hrr2 (show w.heap.size ≠ w.heap.size + 2 by omega)
          have hk0_1 := cell_keep (x := (.slice a1 r1.length C1)) (p := ⟨w.heap.size + 1, 0, none⟩) hk0_0 (show w.heap.size + 1 ≠ b0 by have := HSZ.out; omega)
          have hk1_1 := cell_keep (x := (.slice a1 r1.length C1)) (p := ⟨w.heap.size + 1, 0, none⟩) hk1_0 (show w.heap.size + 1 ≠ b1 by have := HSZ.out; omega)
          have hk2_1 := cell_keep (x := (.slice a1 r1.length C1)) (p := ⟨w.heap.size + 1, 0, none⟩) hk2_0 (show w.heap.size + 1 ≠ b2 by have := HSZ.out; omega)
          have hq2_1 := cell_keep (x := (.slice a1 r1.length C1)) (p := ⟨w.heap.size + 1, 0, none⟩) hq2_0 (show w.heap.size + 1 ≠ w.heap.size + 2 by omega)
          refine hK.out _ _ (⟨hk0_1, hk1_1, hk2_1, trivial⟩) (fun hHeld => ?_)
          clear hK K
          try dsimp only [Act.put]
          refine wpAnyH_ready (rs := [6]) (by kernel_rfl) (by simp) ?_
          refine AllReadyH.cons rfl (fun K hK => ?_) ?_
          · go_simp
            have hk0_2 := cell_keep (x := (.slice a2 r2.length C2)) (p := ⟨w.heap.size + 2, 0, none⟩) hk0_1 (show w.heap.size + 2 ≠ b0 by have := HSZ.out; omega)
            have hk1_2 := cell_keep (x := (.slice a2 r2.length C2)) (p := ⟨w.heap.size + 2, 0, none⟩) hk1_1 (show w.heap.size + 2 ≠ b1 by have := HSZ.out; omega)
            have hk2_2 := cell_keep (x := (.slice a2 r2.length C2)) (p := ⟨w.heap.size + 2, 0, none⟩) hk2_1 (show w.heap.size + 2 ≠ b2 by have := HSZ.out; omega)
            refine hK.out _ _ (⟨hk0_2, hk1_2, hk2_2, trivial⟩) (fun hHeld => ?_)
            clear hK K
            try dsimp only [Act.put]
            refine wpAnyH_ready (rs := [7]) (by kernel_rfl) (by simp) ?_
            refine AllReadyH.cons rfl (fun K hK => ?_) ?_
            · go_simp
              refine hK.out _ _ (⟨hk0_2, hk1_2, hk2_2, trivial⟩) (fun hHeld => ?_)
              clear hK K
              try dsimp only [Act.put]
              refine wpAnyH_done (by kernel_rfl) ?_ _
              go_wp2_with fail
              refine bodyPost_ret (v := .tuple #[.agg #[.slice a0 r0.length C0], .agg #[.slice a1 r1.length C1], .agg #[.slice a2 r2.length C2], .slice (some ⟨gl, 0, none⟩) 1 1]) ?_ rfl ?_
              · simp [results, Tryd.results45, go_sem, World.cell?_setCell_far, hrr0, hrr1, hrr2]
              · have HL := fun (y0 : Value) (y1 : Value) (y2 : Value) => (((Low.refl w.heap.size wB.heap.size W5).set (b := w.heap.size) (o := 0) (x := y0) (by have := HSZ.out; omega) (by have := HSZ.out; omega)).set (b := w.heap.size + 1) (o := 0) (x := y1) (by have := HSZ.out; omega) (by have := HSZ.out; omega)).set (b := w.heap.size + 2) (o := 0) (x := y2) (by have := HSZ.out; omega) (by have := HSZ.out; omega)
                have HH := fun y0 y1 y2 => (HL y0 y1 y2).holds S5.out
                exact ⟨r0, _, r1, _, r2, _, [0], _, rfl, (HH _ _ _).ownRW 1 rfl (by have := HSZ.out; omega), (HH _ _ _).ownRW 2 rfl (by have := HSZ.out; omega), (HH _ _ _).ownRW 3 rfl (by have := HSZ.out; omega), (HH _ _ _).ownIW 9 rfl (by have := HSZ.out; omega), hk0, hk1, hk2, (by decide), below_trans2 HRES.out.below S5.out.below (HL _ _ _).below⟩
            exact AllReadyH.nil
          exact AllReadyH.nil
        refine AllReadyH.cons rfl (fun K hK => ?_) ?_
        · go_simp
          have hk0_2 := cell_keep (x := (.slice a2 r2.length C2)) (p := ⟨w.heap.size + 2, 0, none⟩) hk0_1 (show w.heap.size + 2 ≠ b0 by have := HSZ.out; omega)
          have hk1_2 := cell_keep (x := (.slice a2 r2.length C2)) (p := ⟨w.heap.size + 2, 0, none⟩) hk1_1 (show w.heap.size + 2 ≠ b1 by have := HSZ.out; omega)
          have hk2_2 := cell_keep (x := (.slice a2 r2.length C2)) (p := ⟨w.heap.size + 2, 0, none⟩) hk2_1 (show w.heap.size + 2 ≠ b2 by have := HSZ.out; omega)
          refine hK.out _ _ (⟨hk0_2, hk1_2, hk2_2, trivial⟩) (fun hHeld => ?_)
          clear hK K
          try dsimp only [Act.put]
          refine wpAnyH_ready (rs := [3]) (by kernel_rfl) (by simp) ?_
          refine AllReadyH.cons rfl (fun K hK => ?_) ?_
          · go_simp
            try simp only [size_setCell]
            rw [alloc_set3 (by have := HSZ.out; have := S4.out.below.size; show w.heap.size + 0 < _; omega) (by have := HSZ.out; have := S4.out.below.size; show w.heap.size + 1 < _; omega) (by have := HSZ.out; have := S4.out.below.size; show w.heap.size + 2 < _; omega)]
            have S5 := Lib.hid S4.out.lit.drew
            simp only [← World.setCell_drew]
            generalize (W4.alloc (.cells #[.int .i64 0] 3)).drew = W5 at S5 ⊢
            generalize W4.heap.size = gl at S5 ⊢
            have hd0 := S5.out.cell 4 rfl
            have hd1 := S5.out.cell 5 rfl
            have hd2 := S5.out.cell 6 rfl
            have hrr0 := (HRES.out.step S5.out.below).cell 0 rfl
            have hff0 := ((HRES.out.step S5.out.below).boxed 0 rfl).frozen
            have hrr1 := (HRES.out.step S5.out.below).cell 1 rfl
            have hff1 := ((HRES.out.step S5.out.below).boxed 1 rfl).frozen
            have hrr2 := (HRES.out.step S5.out.below).cell 2 rfl
            have hff2 := ((HRES.out.step S5.out.below).boxed 2 rfl).frozen
            have hk0_0 := cell_keep (x := (.slice a0 r0.length C0)) (p := ⟨w.heap.size, 0, none⟩) hd0 (show w.heap.size ≠ b0 by have := HSZ.out; omega)
            have hk1_0 := cell_keep (x := (.slice a0 r0.length C0)) (p := ⟨w.heap.size, 0, none⟩) hd1 (show w.heap.size ≠ b1 by have := HSZ.out; omega)
            have hk2_0 := cell_keep (x := (.slice a0 r0.length C0)) (p := ⟨w.heap.size, 0, none⟩) hd2 (show w.heap.size ≠ b2 by have := HSZ.out; omega)
            have hq1_0 := cell_keep (x := (.slice a0 r0.length C0)) (p := ⟨w.heap.size, 0, none⟩) hrr1 (show w.heap.size ≠ w.heap.size + 1 by omega)
            have hq2_0 := cell_keep (x := (.slice a0 r0.length C0)) (p := ⟨w.heap.size, 0, none⟩) hrr2 (show w.heap.size ≠ w.heap.size + 2 by omega)
            have hk0_1 := cell_keep (x := (.slice a1 r1.length C1)) (p := ⟨w.heap.size + 1, 0, none⟩) hk0_0 (show w.heap.size + 1 ≠ b0 by have := HSZ.out; omega)
            have hk1_1 := cell_keep (x := (.slice a1 r1.length C1)) (p := ⟨w.heap.size + 1, 0, none⟩) hk1_0 (show w.heap.size + 1 ≠ b1 by have := HSZ.out; omega)
            have hk2_1 := cell_keep (x := (.slice a1 r1.length C1)) (p := ⟨w.heap.size + 1, 0, none⟩) hk2_0 (show w.heap.size + 1 ≠ b2 by have := HSZ.out; omega)
            have hq2_1 := cell_keep (x := (.slice a1 r1.length C1)) (p := ⟨w.heap.size + 1, 0, none⟩) hq2_0 (show w.heap.size + 1 ≠ w.heap.size + 2 by omega)
            have hk0_2 := cell_keep (x := (.slice a2 r2.length C2)) (p := ⟨w.heap.size + 2, 0, none⟩) hk0_1 (show w.heap.size + 2 ≠ b0 by have := HSZ.out; omega)
            have hk1_2 := cell_keep (x := (.slice a2 r2.length C2)) (p := ⟨w.heap.size + 2, 0, none⟩) hk1_1 (show w.heap.size + 2 ≠ b1 by have := HSZ.out; omega)
            have hk2_2 := cell_keep (x := (.slice a2 r2.length C2)) (p := ⟨w.heap.size + 2, 0, none⟩) hk2_1 (show w.heap.size + 2 ≠ b2 by have := HSZ.out; omega)
            refine hK.out _ _ (⟨hk0_2, hk1_2, hk2_2, trivial⟩) (fun hHeld => ?_)
            clear hK K
            try dsimp only [Act.put]
            refine wpAnyH_ready (rs := [7]) (by kernel_rfl) (by simp) ?_
            refine AllReadyH.cons rfl (fun K hK => ?_) ?_
            · go_simp
              refine hK.out _ _ (⟨hk0_2, hk1_2, hk2_2, trivial⟩) (fun hHeld => ?_)
              clear hK K
              try dsimp only [Act.put]
              refine wpAnyH_done (by kernel_rfl) ?_ _
              go_wp2_with fail
              refine bodyPost_ret (v := .tuple #[.agg #[.slice a0 r0.length C0], .agg #[.slice a1 r1.length C1], .agg #[.slice a2 r2.length C2], .slice (some ⟨gl, 0, none⟩) 1 1]) ?_ rfl ?_
              · simp [results, Tryd.results45, go_sem, World.cell?_setCell_far, hrr0, hrr1, hrr2]
              · have HL := fun (y0 : Value) (y1 : Value) (y2 : Value) => (((Low.refl w.heap.size wB.heap.size W5).set (b := w.heap.size) (o := 0) (x := y0) (by have := HSZ.out; omega) (by have := HSZ.out; omega)).set (b := w.heap.size + 1) (o := 0) (x := y1) (by have := HSZ.out; omega) (by have := HSZ.out; omega)).set (b := w.heap.size + 2) (o := 0) (x := y2) (by have := HSZ.out; omega) (by have := HSZ.out; omega)
                have HH := fun y0 y1 y2 => (HL y0 y1 y2).holds S5.out
                exact ⟨r0, _, r1, _, r2, _, [0], _, rfl, (HH _ _ _).ownRW 1 rfl (by have := HSZ.out; omega), (HH _ _ _).ownRW 2 rfl (by have := HSZ.out; omega), (HH _ _ _).ownRW 3 rfl (by have := HSZ.out; omega), (HH _ _ _).ownIW 9 rfl (by have := HSZ.out; omega), hk0, hk1, hk2, (by decide), below_trans2 HRES.out.below S5.out.below (HL _ _ _).below⟩
            exact AllReadyH.nil
          exact AllReadyH.nil
        exact AllReadyH.nil
      exact AllReadyH.nil
    exact AllReadyH.nil
  · go_upto_region 6 with fail
    have hc0 := S4.out.cell 4 rfl
    have hc1 := S4.out.cell 5 rfl
    have hc2 := S4.out.cell 6 rfl
    have hc3 := S4.out.cell 8 rfl
    have hr0 := (HRES.out.step S4.out.below).cell 0 rfl
    have hf0 := ((HRES.out.step S4.out.below).boxed 0 rfl).frozen
    have hr1 := (HRES.out.step S4.out.below).cell 1 rfl
    have hf1 := ((HRES.out.step S4.out.below).boxed 1 rfl).frozen
    have hr2 := (HRES.out.step S4.out.below).cell 2 rfl
    have hf2 := ((HRES.out.step S4.out.below).boxed 2 rfl).frozen
    have SD := Lib.hid S4.out.drew
    have hlo0 : wB.heap.size ≤ b0 := (S4.out.holds.get 4 rfl).1
    have hlo1 : wB.heap.size ≤ b1 := (S4.out.holds.get 5 rfl).1
    have hlo2 : wB.heap.size ≤ b2 := (S4.out.holds.get 6 rfl).1
    have hlo3 : wB.heap.size ≤ b3 := (S4.out.holds.get 8 rfl).1
    have hfun := l91Fun_any wB.heap.size v' q1 _ _ r0 r3 W4.drew (SD.out.rdAt HC.out 0 rfl) (by omega) (by omega) (by omega) (fun _ _ hd => (SD.out.picked 0 rfl hd).rows 1 rfl) (fun _ _ hd => (SD.out.picked 0 rfl hd).rows 7 rfl)
    refine wp_region_held_drew (S := fun W' : World => W'.cell? ⟨b0, 0, none⟩ = some (.slice a0 r0.length C0) ∧ W'.cell? ⟨b1, 0, none⟩ = some (.slice a1 r1.length C1) ∧ W'.cell? ⟨b2, 0, none⟩ = some (.slice a2 r2.length C2) ∧ W'.cell? ⟨b3, 0, none⟩ = some (.slice a3 r3.length C3) ∧ True) (by kernel_rfl) ⟨hc0, hc1, hc2, hc3, trivial⟩ (fun hHeld => ?_)
    refine wpAnyH_take (i := 0) (v := .agg #[.slice a0 r0.length C0]) rfl (by kernel_rfl) (by kernel_rfl) (by kernel_rfl) (fun _ _ _ h => h) (Or.inl ⟨by rfl, ?_⟩) (by assumption) ?_
    · (intro W hSw; obtain ⟨hs0, hs1, hs2, hs3, hsz⟩ := hSw; go_simp)
    try dsimp only [Act.put]
    refine wpAnyH_take (i := 1) (v := .agg #[.slice a1 r1.length C1]) rfl (by kernel_rfl) (by kernel_rfl) (by kernel_rfl) (fun _ _ _ h => h) (Or.inl ⟨by rfl, ?_⟩) (by assumption) ?_
    · (intro W hSw; obtain ⟨hs0, hs1, hs2, hs3, hsz⟩ := hSw; go_simp)
    try dsimp only [Act.put]
    refine wpAnyH_take (i := 2) (v := .agg #[.slice a2 r2.length C2]) rfl (by kernel_rfl) (by kernel_rfl) (by kernel_rfl) (fun _ _ _ h => h) (Or.inl ⟨by rfl, ?_⟩) (by assumption) ?_
    · (intro W hSw; obtain ⟨hs0, hs1, hs2, hs3, hsz⟩ := hSw; go_simp)
    try dsimp only [Act.put]
    refine wpAnyH_take (i := 3) (v := .pointer (some ⟨wB.heap.size, 0, none⟩)) rfl (by kernel_rfl) (by kernel_rfl) (by kernel_rfl) (fun _ _ _ h => h) (Or.inl ⟨by rfl, ?_⟩) (by assumption) ?_
    · (intro W hSw; obtain ⟨hs0, hs1, hs2, hs3, hsz⟩ := hSw; go_simp)
    try dsimp only [Act.put]
    refine wpAnyH_take (i := 4) (v := .agg #[.slice a0 r0.length C0]) rfl (by kernel_rfl) (by kernel_rfl) (by kernel_rfl) (fun _ _ _ h => h) (Or.inl ⟨by rfl, ?_⟩) (by assumption) ?_
    · (intro W hSw; obtain ⟨hs0, hs1, hs2, hs3, hsz⟩ := hSw; go_simp)
    try dsimp only [Act.put]
    refine wpAnyH_take (i := 5) (v := .agg #[.slice a3 r3.length C3]) rfl (by kernel_rfl) (by kernel_rfl) (by kernel_rfl) (fun _ _ _ h => h) (Or.inl ⟨by rfl, ?_⟩) (by assumption) ?_
    · (intro W hSw; obtain ⟨hs0, hs1, hs2, hs3, hsz⟩ := hSw; go_simp)
    try dsimp only [Act.put]
    refine wpAnyH_ready (rs := [6]) (by kernel_rfl) (by simp) ?_
    refine AllReadyH.cons rfl (fun K hK => ?_) ?_
    · go_simp
      go_at_call 72
      refine hfun.mono ?_
      clear hfun
      rintro e W5 ⟨x0, ux0, q5, rfl, hq5, hd, ho, hx0, _⟩
      have S5 := Lib.hid (SD.out.drawnI 0 rfl hd ho)
      obtain ⟨ax0, Cx0, rfl⟩ := ho.form
      clear hd ho
      have hd0 := S5.out.cell 4 rfl
      have hd1 := S5.out.cell 5 rfl
      have hd2 := S5.out.cell 6 rfl
      have hd3 := S5.out.cell 8 rfl
      have hrr0 := (HRES.out.step S5.out.below).cell 0 rfl
      have hff0 := ((HRES.out.step S5.out.below).boxed 0 rfl).frozen
      have hrr1 := (HRES.out.step S5.out.below).cell 1 rfl
      have hff1 := ((HRES.out.step S5.out.below).boxed 1 rfl).frozen
      have hrr2 := (HRES.out.step S5.out.below).cell 2 rfl
      have hff2 := ((HRES.out.step S5.out.below).boxed 2 rfl).frozen
      go_wp2_with fail
      refine hK.out _ _ (⟨hd0, hd1, hd2, hd3, trivial⟩) (fun hHeld => ?_)
      clear hK K
      try dsimp only [Act.put]
      refine wpAnyH_ready (rs := [7]) (by kernel_rfl) (by simp) ?_
      refine AllReadyH.cons rfl (fun K hK => ?_) ?_
      · go_simp
        have hk0_0 := cell_keep (x := (.slice a0 r0.length C0)) (p := ⟨w.heap.size, 0, none⟩) hd0 (show w.heap.size ≠ b0 by have := HSZ.out; omega)
        have hk1_0 := cell_keep (x := (.slice a0 r0.length C0)) (p := ⟨w.heap.size, 0, none⟩) hd1 (show w.heap.size ≠ b1 by have := HSZ.out; omega)
        have hk2_0 := cell_keep (x := (.slice a0 r0.length C0)) (p := ⟨w.heap.size, 0, none⟩) hd2 (show w.heap.size ≠ b2 by have := HSZ.out; omega)
        have hk3_0 := cell_keep (x := (.slice a0 r0.length C0)) (p := ⟨w.heap.size, 0, none⟩) hd3 (show w.heap.size ≠ b3 by have := HSZ.out; omega)
        have hq1_0 := cell_keep (x := (.slice a0 r0.length C0)) (p := ⟨w.heap.size, 0, none⟩) hrr1 (show w.heap.size ≠ w.heap.size + 1 by omega)
        have hq2_0 := cell_keep (x := (.slice a0 r0.length C0)) (p := ⟨w.heap.size, 0, none⟩) hrr2 (show w.heap.size ≠ w.heap.size + 2 by omega)
        refine hK.out _ _ (⟨hk0_0, hk1_0, hk2_0, hk3_0, trivial⟩) (fun hHeld => ?_)
        clear hK K
        try dsimp only [Act.put]
        refine wpAnyH_ready (rs := [8]) (by kernel_rfl) (by simp) ?_
        refine AllReadyH.cons rfl (fun K hK => ?_) ?_
        · go_simp
          have hk0_1 := cell_keep (x := (.slice a1 r1.length C1)) (p := ⟨w.heap.size + 1, 0, none⟩) hk0_0 (show w.heap.size + 1 ≠ b0 by have := HSZ.out; omega)
          have hk1_1 := cell_keep (x := (.slice a1 r1.length C1)) (p := ⟨w.heap.size + 1, 0, none⟩) hk1_0 (show w.heap.size + 1 ≠ b1 by have := HSZ.out; omega)
          have hk2_1 := cell_keep (x := (.slice a1 r1.length C1)) (p := ⟨w.heap.size + 1, 0, none⟩) hk2_0 (show w.heap.size + 1 ≠ b2 by have := HSZ.out; omega)
          have hk3_1 := cell_keep (x := (.slice a1 r1.length C1)) (p := ⟨w.heap.size + 1, 0, none⟩) hk3_0 (show w.heap.size + 1 ≠ b3 by have := HSZ.out; omega)
          have hq2_1 := cell_keep (x := (.slice a1 r1.length C1)) (p := ⟨w.heap.size + 1, 0, none⟩) hq2_0 (show w.heap.size + 1 ≠ w.heap.size + 2 by omega)
          refine hK.out _ _ (⟨hk0_1, hk1_1, hk2_1, hk3_1, trivial⟩) (fun hHeld => ?_)
          clear hK K
          try dsimp only [Act.put]
          refine wpAnyH_ready (rs := [9]) (by kernel_rfl) (by simp) ?_
          refine AllReadyH.cons rfl (fun K hK => ?_) ?_
          · go_simp
            have hk0_2 := cell_keep (x := (.slice a2 r2.length C2)) (p := ⟨w.heap.size + 2, 0, none⟩) hk0_1 (show w.heap.size + 2 ≠ b0 by have := HSZ.out; omega)
            have hk1_2 := cell_keep (x := (.slice a2 r2.length C2)) (p := ⟨w.heap.size + 2, 0, none⟩) hk1_1 (show w.heap.size + 2 ≠ b1 by have := HSZ.out; omega)
            have hk2_2 := cell_keep (x := (.slice a2 r2.length C2)) (p := ⟨w.heap.size + 2, 0, none⟩) hk2_1 (show w.heap.size + 2 ≠ b2 by have := HSZ.out; omega)
            have hk3_2 := cell_keep (x := (.slice a2 r2.length C2)) (p := ⟨w.heap.size + 2, 0, none⟩) hk3_1 (show w.heap.size + 2 ≠ b3 by have := HSZ.out; omega)
            refine hK.out _ _ (⟨hk0_2, hk1_2, hk2_2, hk3_2, trivial⟩) (fun hHeld => ?_)
            clear hK K
            try dsimp only [Act.put]
            refine wpAnyH_ready (rs := [10]) (by kernel_rfl) (by simp) ?_
            refine AllReadyH.cons rfl (fun K hK => ?_) ?_
            · go_simp
              refine hK.out _ _ (⟨hk0_2, hk1_2, hk2_2, hk3_2, trivial⟩) (fun hHeld => ?_)
              clear hK K
              try dsimp only [Act.put]
              refine wpAnyH_done (by kernel_rfl) ?_ _
              go_wp2_with fail
              refine bodyPost_ret (v := .tuple #[.agg #[.slice a0 r0.length C0], .agg #[.slice a1 r1.length C1], .agg #[.slice a2 r2.length C2], .slice ax0 x0.length Cx0]) ?_ rfl ?_
              · simp [results, Tryd.results45, go_sem, World.cell?_setCell_far, hrr0, hrr1, hrr2]
              · have HL := fun (y0 : Value) (y1 : Value) (y2 : Value) => (((Low.refl w.heap.size wB.heap.size W5).set (b := w.heap.size) (o := 0) (x := y0) (by have := HSZ.out; omega) (by have := HSZ.out; omega)).set (b := w.heap.size + 1) (o := 0) (x := y1) (by have := HSZ.out; omega) (by have := HSZ.out; omega)).set (b := w.heap.size + 2) (o := 0) (x := y2) (by have := HSZ.out; omega) (by have := HSZ.out; omega)
                have HH := fun y0 y1 y2 => (HL y0 y1 y2).holds S5.out
                exact ⟨r0, _, r1, _, r2, _, x0, _, rfl, (HH _ _ _).ownRW 1 rfl (by have := HSZ.out; omega), (HH _ _ _).ownRW 2 rfl (by have := HSZ.out; omega), (HH _ _ _).ownRW 3 rfl (by have := HSZ.out; omega), (HH _ _ _).ownIW 9 rfl (by have := HSZ.out; omega), hk0, hk1, hk2, hx0, below_trans2 HRES.out.below S5.out.below (HL _ _ _).below⟩
            exact AllReadyH.nil
          exact AllReadyH.nil
        exact AllReadyH.nil
      exact AllReadyH.nil
    exact AllReadyH.nil
end Go.Proofs.YtkomghohdhengaaDoor
