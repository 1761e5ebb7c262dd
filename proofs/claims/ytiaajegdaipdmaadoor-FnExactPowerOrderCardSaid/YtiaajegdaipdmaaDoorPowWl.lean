/- The program's powerWith at the lower kind. -/
import Derived.Test.YtiaajegdaipdmaaDoorMidWa
namespace Go.Proofs.YtiaajegdaipdmaaDoor
open Go.RowKit Go.Deep Go.Shelf

set_option maxRecDepth 100000 in
set_option maxHeartbeats 16000000 in
theorem lowerWith_any (p : Nat) (rows : Rows2) (w : World) (hg : GridAt w p (gridF rows)) (hT : Tab w) (hok : Ok rows) (h7 : rows.length ≤ 7) :
    Calls Tryd.prog 28 #[.pointer (some ⟨p, 0, none⟩)] w (fun e w' => ∃ v kb sb, e = .returned (pwV rows.length v 45 46 kb sb) ∧ PwAt rows 0 43 w.heap.size w'.heap.size v sb w' ∧ Below w.heap.size w w') := by
  obtain ⟨n, hn⟩ : ∃ n, n = rows.length := ⟨_, rfl⟩
  obtain ⟨cs, hcs⟩ : ∃ cs : List Value, cs = (gridCells (gridF rows)).toList := ⟨_, rfl⟩
  have hlc : cs.length = 800 := by rw [hcs, Array.length_toList, gridCells_size]
  have hic : (Tryd.prog.info? 75).map (·.size) = some cs.length := by rw [hlc]; exact sizeGrid
  have hug := Tryd.underlying75
  have hNB : GridN (gridF (backRows rows)) n := by
    have h := hok.back.gridN
    rw [backRows_len, ← hn] at h
    exact h
  have hNG : GridN (gridF rows) n := by
    rw [hn]
    exact hok.gridN
  have hca : cs.toArray = gridCells (gridF rows) := by rw [hcs, Array.toArray_toList]
  have HS1 := Lib.hid (fun V W (hV : V = Value.agg (gridCells (gridF (backRows rows)))) => (show Calls Tryd.prog 41 #[V] W (OwnQ (setsI (gridF (backRows rows)) n) W) by
    rw [hV]
    exact smallSets_any (gridF (backRows rows)) n W hok.back.lt hNB (fun k _ => pow7_lt h7 (hok.backSmall k))))
  have HS2 := Lib.hid (fun W => (show Calls Tryd.prog 41 #[.agg cs.toArray] W (OwnQ (setsI (gridF rows) n) W) by
    rw [hca]
    exact smallSets_any (gridF rows) n W hok.lt hNG (fun k _ => pow7_lt h7 (hok.small k))))
  obtain ⟨wA, hwA⟩ : ∃ wA, wA = (w.alloc (.cells #[.int .i64 0, .slice none 0 0, .nilFunc, .nilFunc] 45)).alloc (.cells #[] 60) := ⟨_, rfl⟩
  have hbA : Below w.heap.size w wA := by
    rw [hwA]
    exact ((Below.refl _ w).alloc (Nat.le_refl _) _).alloc (by simp) _
  have hrA : wA.heap[w.heap.size]? = some (.cells #[.int .i64 0, .slice none 0 0, .nilFunc, .nilFunc] 45 (0, 0)) := by
    rw [hwA]
    exact ((Below.refl _ (w.alloc (.cells #[.int .i64 0, .slice none 0 0, .nilFunc, .nilFunc] 45))).alloc (Nat.le_refl _) (.cells #[] 60)).block _ (by simp) |>.trans (heap_alloc_new _ _)
  have HBK := Lib.hid (fun is W (h : St wA is W) => (show Calls Tryd.prog 42 #[.pointer (some ⟨p, 0, none⟩)] W (SaysG (gridF (backRows rows)) W) by
    have hb := hbA.trans (h.below.mono hbA.size)
    rw [← backN_rows hok]
    exact back_any p rows.length (gridF rows) W (hg.below hb hg.lt) (hT.below hb) hok.gridN (fun i _ k hk => hok.lt200 ((mem_elems (hok.lt i)).1 hk))))
  have HRNG := Lib.hid (fun is W (h : St wA is W) => (show W.rangeAt p 0 cs by
    have hb := hbA.trans (h.below.mono hbA.size)
    rw [hcs]
    exact gridRange (hg.below hb hg.lt)))
  have HBA := Lib.hid hbA
  have HRA := Lib.hid hrA
  have HOK := Lib.hid hok
  have HN := Lib.hid hn
  clear hbA hrA hg hT hca hcs hNG hNB hlc hn
  go_enter Tryd.func28, Tryd.ntmps28
  go_upto_region 2 with fail
  rw [← hwA]
  clear hwA
  go_cut [4, 5] (fun lv uv wx => ∃ G1 G2 a1 a2 C1 C2, lv = .pointer (some ⟨G1, 0, none⟩) ∧ uv = .pointer (some ⟨G2, 0, none⟩) ∧ (∀ W', (∀ b, wA.heap.size ≤ b → b < wx.heap.size → W'.heap[b]? = wx.heap[b]?) → wx.heap.size ≤ W'.heap.size → LU G1 G2 n (gridF (backRows rows)) (gridF rows) a1 a2 C1 C2 W') ∧ Below wA.heap.size wA wx)
  case first =>
    refine wp_region_held_drew (S := fun W' : World => W'.rangeAt p 0 cs) (by kernel_rfl) (HRNG.out _ _ (St.start wA).drew) (fun hHeld => ?_)
    have E0 := Lib.hid (St.start wA).drew
    generalize wA.drew = W0 at E0 hHeld ⊢
    refine wpAnyH_take (i := 0) (v := .pointer (some ⟨p, 0, none⟩)) rfl (by kernel_rfl) (by kernel_rfl) (by kernel_rfl) (fun _ _ _ h => h) (Or.inl ⟨by rfl, ?_⟩) (by assumption) ?_
    · (intro W hSw; go_simp)
    try dsimp only [Act.put]
    refine wpAnyH_take (i := 3) (v := .pointer (some ⟨p, 0, none⟩)) rfl (by kernel_rfl) (by kernel_rfl) (by kernel_rfl) (fun _ _ _ h => h) (Or.inl ⟨by rfl, ?_⟩) (by assumption) ?_
    · (intro W hSw; go_simp)
    try dsimp only [Act.put]
    refine wpAnyH_take (i := 4) (v := .pointer (some ⟨p, 0, none⟩)) rfl (by kernel_rfl) (by kernel_rfl) (by kernel_rfl) (fun _ _ _ h => h) (Or.inl ⟨by rfl, ?_⟩) (by assumption) ?_
    · (intro W hSw; go_simp)
    try dsimp only [Act.put]
    refine wpAnyH_take (i := 5) (v := .agg cs.toArray) rfl (by kernel_rfl) (by kernel_rfl) (by kernel_rfl) (fun _ _ _ h => h) (yieldsIf_load_mid (by rfl) 75 (.tmp 13) rfl p 0 rfl cs _ (fun W hS => hS) hug rfl hic) (by assumption) ?_
    try dsimp only [Act.put]
    refine wpAnyH_ready (rs := [1, 7, 8]) (by kernel_rfl) (by simp) ?_
    refine AllReadyH.cons rfl (fun K hK => ?_) ?_
    · go_simp
      refine (HBK.out _ _ E0.out).mono ?_
      rintro e W1 ⟨rfl, hb⟩
      have E1 := Lib.hid (E0.out.step hb)
      clear hb
      obtain ⟨V, hV⟩ : ∃ V, V = Value.agg (gridCells (gridF (backRows rows))) := ⟨_, rfl⟩
      rw [← hV]
      have HV := Lib.hid hV
      clear hV
      go_wp2_with fail
      refine hK.out _ _ (HRNG.out _ _ E1.out) (fun hHeld => ?_)
      clear hK K
      try dsimp only [Act.put]
      refine wpAnyH_ready (rs := [2, 7, 8]) (by kernel_rfl) (by simp) ?_
      refine AllReadyH.cons rfl (fun K hK => ?_) ?_
      · go_simp
        refine (HS1.out V _ HV.out).mono ?_
        rintro e W2 ⟨u, rfl, ho, hb⟩
        obtain ⟨a1, C1, rfl⟩ := ownI_form ho (setsI_len _ n)
        have hE := E1.out.pushI hb ho
        simp only [List.nil_append] at hE
        have E2 := Lib.hid hE
        clear hE hb ho
        go_wp2_with fail
        refine hK.out _ _ (HRNG.out _ _ E2.out) (fun hHeld => ?_)
        clear hK K
        try dsimp only [Act.put]
        refine wpAnyH_ready (rs := [6, 7, 8]) (by kernel_rfl) (by simp) ?_
        refine AllReadyH.cons rfl (fun K hK => ?_) ?_
        · go_simp
          refine (HS2.out _).mono ?_
          rintro e W3 ⟨u, rfl, ho, hb⟩
          obtain ⟨a2, C2, rfl⟩ := ownI_form ho (setsI_len _ n)
          have hE := E2.out.pushI hb ho
          simp only [List.cons_append, List.nil_append] at hE
          have E3 := Lib.hid hE
          clear hE hb ho
          go_wp2_with fail
          refine hK.out _ _ (HRNG.out _ _ E3.out) (fun hHeld => ?_)
          clear hK K
          try dsimp only [Act.put]
          refine wpAnyH_ready (rs := [7, 8]) (by kernel_rfl) (by simp) ?_
          refine AllReadyH.cons rfl (fun K hK => ?_) ?_
          · go_simp
            have hE := E3.out.box 34 (.slice none 0 0)
            simp only [List.cons_append, List.nil_append] at hE
            generalize (W3.alloc (.cells #[.slice none 0 0] 34)) = W4 at hE ⊢
            generalize W3.heap.size = G1 at hE ⊢
            have E4 := Lib.hid hE
            clear hE
            refine hK.out _ _ (HRNG.out _ _ E4.out) (fun hHeld => ?_)
            clear hK K
            try dsimp only [Act.put]
            refine wpAnyH_ready (rs := [8]) (by kernel_rfl) (by simp) ?_
            refine AllReadyH.cons rfl (fun K hK => ?_) ?_
            · go_simp
              have hE := E4.out.box 34 (.slice none 0 0)
              simp only [List.cons_append, List.nil_append] at hE
              generalize (W4.alloc (.cells #[.slice none 0 0] 34)) = W5 at hE ⊢
              generalize W4.heap.size = G2 at hE ⊢
              have E5 := Lib.hid hE
              clear hE
              refine hK.out _ _ (HRNG.out _ _ E5.out) (fun hHeld => ?_)
              clear hK K
              try dsimp only [Act.put]
              refine wpAnyH_ready (rs := [9]) (by kernel_rfl) (by simp) ?_
              refine AllReadyH.cons rfl (fun K hK => ?_) ?_
              · have hcc := (E5.out.cell 2 rfl)
                have hff := (E5.out.boxed 2 rfl).frozen
                go_simp
                have hE := E5.out.setB 2 rfl (.slice a1 n C1)
                simp only [List.set_cons_succ, List.set_cons_zero] at hE
                have E6 := Lib.hid hE
                clear hE hcc hff
                generalize (W5.setCell ⟨G1, 0, none⟩ (.slice a1 n C1)) = W6 at E6 ⊢
                refine hK.out _ _ (HRNG.out _ _ E6.out) (fun hHeld => ?_)
                clear hK K
                try dsimp only [Act.put]
                refine wpAnyH_ready (rs := [10]) (by kernel_rfl) (by simp) ?_
                refine AllReadyH.cons rfl (fun K hK => ?_) ?_
                · have hcc := (E6.out.cell 3 rfl)
                  have hff := (E6.out.boxed 3 rfl).frozen
                  go_simp
                  have hE := E6.out.setB 3 rfl (.slice a2 n C2)
                  simp only [List.set_cons_succ, List.set_cons_zero] at hE
                  have E7 := Lib.hid hE
                  clear hE hcc hff
                  generalize (W6.setCell ⟨G2, 0, none⟩ (.slice a2 n C2)) = W7 at E7 ⊢
                  refine hK.out _ _ (HRNG.out _ _ E7.out) (fun hHeld => ?_)
                  clear hK K
                  try dsimp only [Act.put]
                  refine wpAnyH_done (by kernel_rfl) ?_ _
                  go_wp2_with fail
                  go_meet
                  exact ⟨G1, G2, a1, a2, C1, C2, rfl, rfl, lu_of E7.out 2 3 0 1 rfl rfl rfl rfl, E7.out.below⟩
                exact AllReadyH.nil
              exact AllReadyH.nil
            exact AllReadyH.nil
          refine AllReadyH.cons rfl (fun K hK => ?_) ?_
          · go_simp
            have hE := E3.out.box 34 (.slice none 0 0)
            simp only [List.cons_append, List.nil_append] at hE
            generalize (W3.alloc (.cells #[.slice none 0 0] 34)) = W4 at hE ⊢
            generalize W3.heap.size = G2 at hE ⊢
            have E4 := Lib.hid hE
            clear hE
            refine hK.out _ _ (HRNG.out _ _ E4.out) (fun hHeld => ?_)
            clear hK K
            try dsimp only [Act.put]
            refine wpAnyH_ready (rs := [7]) (by kernel_rfl) (by simp) ?_
            refine AllReadyH.cons rfl (fun K hK => ?_) ?_
            · go_simp
              have hE := E4.out.box 34 (.slice none 0 0)
              simp only [List.cons_append, List.nil_append] at hE
              generalize (W4.alloc (.cells #[.slice none 0 0] 34)) = W5 at hE ⊢
              generalize W4.heap.size = G1 at hE ⊢
              have E5 := Lib.hid hE
              clear hE
              refine hK.out _ _ (HRNG.out _ _ E5.out) (fun hHeld => ?_)
              clear hK K
              try dsimp only [Act.put]
              refine wpAnyH_ready (rs := [9]) (by kernel_rfl) (by simp) ?_
              refine AllReadyH.cons rfl (fun K hK => ?_) ?_
              · have hcc := (E5.out.cell 3 rfl)
                have hff := (E5.out.boxed 3 rfl).frozen
                go_simp
                have hE := E5.out.setB 3 rfl (.slice a1 n C1)
                simp only [List.set_cons_succ, List.set_cons_zero] at hE
                have E6 := Lib.hid hE
                clear hE hcc hff
                generalize (W5.setCell ⟨G1, 0, none⟩ (.slice a1 n C1)) = W6 at E6 ⊢
                refine hK.out _ _ (HRNG.out _ _ E6.out) (fun hHeld => ?_)
                clear hK K
                try dsimp only [Act.put]
                refine wpAnyH_ready (rs := [10]) (by kernel_rfl) (by simp) ?_
                refine AllReadyH.cons rfl (fun K hK => ?_) ?_
                · have hcc := (E6.out.cell 2 rfl)
                  have hff := (E6.out.boxed 2 rfl).frozen
                  go_simp
                  have hE := E6.out.setB 2 rfl (.slice a2 n C2)
                  simp only [List.set_cons_succ, List.set_cons_zero] at hE
                  have E7 := Lib.hid hE
                  clear hE hcc hff
                  generalize (W6.setCell ⟨G2, 0, none⟩ (.slice a2 n C2)) = W7 at E7 ⊢
                  refine hK.out _ _ (HRNG.out _ _ E7.out) (fun hHeld => ?_)
                  clear hK K
                  try dsimp only [Act.put]
                  refine wpAnyH_done (by kernel_rfl) ?_ _
                  go_wp2_with fail
                  go_meet
                  exact ⟨G1, G2, a1, a2, C1, C2, rfl, rfl, lu_of E7.out 3 2 0 1 rfl rfl rfl rfl, E7.out.below⟩
                exact AllReadyH.nil
              exact AllReadyH.nil
            exact AllReadyH.nil
          exact AllReadyH.nil
        refine AllReadyH.cons rfl (fun K hK => ?_) ?_
        · go_simp
          have hE := E2.out.box 34 (.slice none 0 0)
          simp only [List.cons_append, List.nil_append] at hE
          generalize (W2.alloc (.cells #[.slice none 0 0] 34)) = W3 at hE ⊢
          generalize W2.heap.size = G1 at hE ⊢
          have E3 := Lib.hid hE
          clear hE
          refine hK.out _ _ (HRNG.out _ _ E3.out) (fun hHeld => ?_)
          clear hK K
          try dsimp only [Act.put]
          refine wpAnyH_ready (rs := [6, 8]) (by kernel_rfl) (by simp) ?_
          refine AllReadyH.cons rfl (fun K hK => ?_) ?_
          · go_simp
            refine (HS2.out _).mono ?_
            rintro e W4 ⟨u, rfl, ho, hb⟩
            obtain ⟨a2, C2, rfl⟩ := ownI_form ho (setsI_len _ n)
            have hE := E3.out.pushI hb ho
            simp only [List.cons_append, List.nil_append] at hE
            have E4 := Lib.hid hE
            clear hE hb ho
            go_wp2_with fail
            refine hK.out _ _ (HRNG.out _ _ E4.out) (fun hHeld => ?_)
            clear hK K
            try dsimp only [Act.put]
            refine wpAnyH_ready (rs := [8]) (by kernel_rfl) (by simp) ?_
            refine AllReadyH.cons rfl (fun K hK => ?_) ?_
            · go_simp
              have hE := E4.out.box 34 (.slice none 0 0)
              simp only [List.cons_append, List.nil_append] at hE
              generalize (W4.alloc (.cells #[.slice none 0 0] 34)) = W5 at hE ⊢
              generalize W4.heap.size = G2 at hE ⊢
              have E5 := Lib.hid hE
              clear hE
              refine hK.out _ _ (HRNG.out _ _ E5.out) (fun hHeld => ?_)
              clear hK K
              try dsimp only [Act.put]
              refine wpAnyH_ready (rs := [9]) (by kernel_rfl) (by simp) ?_
              refine AllReadyH.cons rfl (fun K hK => ?_) ?_
              · have hcc := (E5.out.cell 1 rfl)
                have hff := (E5.out.boxed 1 rfl).frozen
                go_simp
                have hE := E5.out.setB 1 rfl (.slice a1 n C1)
                simp only [List.set_cons_succ, List.set_cons_zero] at hE
                have E6 := Lib.hid hE
                clear hE hcc hff
                generalize (W5.setCell ⟨G1, 0, none⟩ (.slice a1 n C1)) = W6 at E6 ⊢
                refine hK.out _ _ (HRNG.out _ _ E6.out) (fun hHeld => ?_)
                clear hK K
                try dsimp only [Act.put]
                refine wpAnyH_ready (rs := [10]) (by kernel_rfl) (by simp) ?_
                refine AllReadyH.cons rfl (fun K hK => ?_) ?_
                · have hcc := (E6.out.cell 3 rfl)
                  have hff := (E6.out.boxed 3 rfl).frozen
                  go_simp
                  have hE := E6.out.setB 3 rfl (.slice a2 n C2)
                  simp only [List.set_cons_succ, List.set_cons_zero] at hE
                  have E7 := Lib.hid hE
                  clear hE hcc hff
                  generalize (W6.setCell ⟨G2, 0, none⟩ (.slice a2 n C2)) = W7 at E7 ⊢
                  refine hK.out _ _ (HRNG.out _ _ E7.out) (fun hHeld => ?_)
                  clear hK K
                  try dsimp only [Act.put]
                  refine wpAnyH_done (by kernel_rfl) ?_ _
                  go_wp2_with fail
                  go_meet
                  exact ⟨G1, G2, a1, a2, C1, C2, rfl, rfl, lu_of E7.out 1 3 0 2 rfl rfl rfl rfl, E7.out.below⟩
                exact AllReadyH.nil
              exact AllReadyH.nil
            exact AllReadyH.nil
          refine AllReadyH.cons rfl (fun K hK => ?_) ?_
          · go_simp
            have hE := E3.out.box 34 (.slice none 0 0)
            simp only [List.cons_append, List.nil_append] at hE
            generalize (W3.alloc (.cells #[.slice none 0 0] 34)) = W4 at hE ⊢
            generalize W3.heap.size = G2 at hE ⊢
            have E4 := Lib.hid hE
            clear hE
            refine hK.out _ _ (HRNG.out _ _ E4.out) (fun hHeld => ?_)
            clear hK K
            try dsimp only [Act.put]
            refine wpAnyH_ready (rs := [6]) (by kernel_rfl) (by simp) ?_
            refine AllReadyH.cons rfl (fun K hK => ?_) ?_
            · go_simp
              refine (HS2.out _).mono ?_
              rintro e W5 ⟨u, rfl, ho, hb⟩
              obtain ⟨a2, C2, rfl⟩ := ownI_form ho (setsI_len _ n)
              have hE := E4.out.pushI hb ho
              simp only [List.cons_append, List.nil_append] at hE
              have E5 := Lib.hid hE
              clear hE hb ho
              go_wp2_with fail
              refine hK.out _ _ (HRNG.out _ _ E5.out) (fun hHeld => ?_)
              clear hK K
              try dsimp only [Act.put]
              refine wpAnyH_ready (rs := [9]) (by kernel_rfl) (by simp) ?_
              refine AllReadyH.cons rfl (fun K hK => ?_) ?_
              · have hcc := (E5.out.cell 1 rfl)
                have hff := (E5.out.boxed 1 rfl).frozen
                go_simp
                have hE := E5.out.setB 1 rfl (.slice a1 n C1)
                simp only [List.set_cons_succ, List.set_cons_zero] at hE
                have E6 := Lib.hid hE
                clear hE hcc hff
                generalize (W5.setCell ⟨G1, 0, none⟩ (.slice a1 n C1)) = W6 at E6 ⊢
                refine hK.out _ _ (HRNG.out _ _ E6.out) (fun hHeld => ?_)
                clear hK K
                try dsimp only [Act.put]
                refine wpAnyH_ready (rs := [10]) (by kernel_rfl) (by simp) ?_
                refine AllReadyH.cons rfl (fun K hK => ?_) ?_
                · have hcc := (E6.out.cell 2 rfl)
                  have hff := (E6.out.boxed 2 rfl).frozen
                  go_simp
                  have hE := E6.out.setB 2 rfl (.slice a2 n C2)
                  simp only [List.set_cons_succ, List.set_cons_zero] at hE
                  have E7 := Lib.hid hE
                  clear hE hcc hff
                  generalize (W6.setCell ⟨G2, 0, none⟩ (.slice a2 n C2)) = W7 at E7 ⊢
                  refine hK.out _ _ (HRNG.out _ _ E7.out) (fun hHeld => ?_)
                  clear hK K
                  try dsimp only [Act.put]
                  refine wpAnyH_done (by kernel_rfl) ?_ _
                  go_wp2_with fail
                  go_meet
                  exact ⟨G1, G2, a1, a2, C1, C2, rfl, rfl, lu_of E7.out 1 2 0 3 rfl rfl rfl rfl, E7.out.below⟩
                exact AllReadyH.nil
              exact AllReadyH.nil
            exact AllReadyH.nil
          exact AllReadyH.nil
        refine AllReadyH.cons rfl (fun K hK => ?_) ?_
        · go_simp
          have hE := E2.out.box 34 (.slice none 0 0)
          simp only [List.cons_append, List.nil_append] at hE
          generalize (W2.alloc (.cells #[.slice none 0 0] 34)) = W3 at hE ⊢
          generalize W2.heap.size = G2 at hE ⊢
          have E3 := Lib.hid hE
          clear hE
          refine hK.out _ _ (HRNG.out _ _ E3.out) (fun hHeld => ?_)
          clear hK K
          try dsimp only [Act.put]
          refine wpAnyH_ready (rs := [6, 7]) (by kernel_rfl) (by simp) ?_
          refine AllReadyH.cons rfl (fun K hK => ?_) ?_
          · go_simp
            refine (HS2.out _).mono ?_
            rintro e W4 ⟨u, rfl, ho, hb⟩
            obtain ⟨a2, C2, rfl⟩ := ownI_form ho (setsI_len _ n)
            have hE := E3.out.pushI hb ho
            simp only [List.cons_append, List.nil_append] at hE
            have E4 := Lib.hid hE
            clear hE hb ho
            go_wp2_with fail
            refine hK.out _ _ (HRNG.out _ _ E4.out) (fun hHeld => ?_)
            clear hK K
            try dsimp only [Act.put]
            refine wpAnyH_ready (rs := [7]) (by kernel_rfl) (by simp) ?_
            refine AllReadyH.cons rfl (fun K hK => ?_) ?_
            · go_simp
              have hE := E4.out.box 34 (.slice none 0 0)
              simp only [List.cons_append, List.nil_append] at hE
              generalize (W4.alloc (.cells #[.slice none 0 0] 34)) = W5 at hE ⊢
              generalize W4.heap.size = G1 at hE ⊢
              have E5 := Lib.hid hE
              clear hE
              refine hK.out _ _ (HRNG.out _ _ E5.out) (fun hHeld => ?_)
              clear hK K
              try dsimp only [Act.put]
              refine wpAnyH_ready (rs := [9]) (by kernel_rfl) (by simp) ?_
              refine AllReadyH.cons rfl (fun K hK => ?_) ?_
              · have hcc := (E5.out.cell 3 rfl)
                have hff := (E5.out.boxed 3 rfl).frozen
                go_simp
                have hE := E5.out.setB 3 rfl (.slice a1 n C1)
                simp only [List.set_cons_succ, List.set_cons_zero] at hE
                have E6 := Lib.hid hE
                clear hE hcc hff
                generalize (W5.setCell ⟨G1, 0, none⟩ (.slice a1 n C1)) = W6 at E6 ⊢
                refine hK.out _ _ (HRNG.out _ _ E6.out) (fun hHeld => ?_)
                clear hK K
                try dsimp only [Act.put]
                refine wpAnyH_ready (rs := [10]) (by kernel_rfl) (by simp) ?_
                refine AllReadyH.cons rfl (fun K hK => ?_) ?_
                · have hcc := (E6.out.cell 1 rfl)
                  have hff := (E6.out.boxed 1 rfl).frozen
                  go_simp
                  have hE := E6.out.setB 1 rfl (.slice a2 n C2)
                  simp only [List.set_cons_succ, List.set_cons_zero] at hE
                  have E7 := Lib.hid hE
                  clear hE hcc hff
                  generalize (W6.setCell ⟨G2, 0, none⟩ (.slice a2 n C2)) = W7 at E7 ⊢
                  refine hK.out _ _ (HRNG.out _ _ E7.out) (fun hHeld => ?_)
                  clear hK K
                  try dsimp only [Act.put]
                  refine wpAnyH_done (by kernel_rfl) ?_ _
                  go_wp2_with fail
                  go_meet
                  exact ⟨G1, G2, a1, a2, C1, C2, rfl, rfl, lu_of E7.out 3 1 0 2 rfl rfl rfl rfl, E7.out.below⟩
                exact AllReadyH.nil
              exact AllReadyH.nil
            exact AllReadyH.nil
          refine AllReadyH.cons rfl (fun K hK => ?_) ?_
          · go_simp
            have hE := E3.out.box 34 (.slice none 0 0)
            simp only [List.cons_append, List.nil_append] at hE
            generalize (W3.alloc (.cells #[.slice none 0 0] 34)) = W4 at hE ⊢
            generalize W3.heap.size = G1 at hE ⊢
            have E4 := Lib.hid hE
            clear hE
            refine hK.out _ _ (HRNG.out _ _ E4.out) (fun hHeld => ?_)
            clear hK K
            try dsimp only [Act.put]
            refine wpAnyH_ready (rs := [6]) (by kernel_rfl) (by simp) ?_
            refine AllReadyH.cons rfl (fun K hK => ?_) ?_
            · go_simp
              refine (HS2.out _).mono ?_
              rintro e W5 ⟨u, rfl, ho, hb⟩
              obtain ⟨a2, C2, rfl⟩ := ownI_form ho (setsI_len _ n)
              have hE := E4.out.pushI hb ho
              simp only [List.cons_append, List.nil_append] at hE
              have E5 := Lib.hid hE
              clear hE hb ho
              go_wp2_with fail
              refine hK.out _ _ (HRNG.out _ _ E5.out) (fun hHeld => ?_)
              clear hK K
              try dsimp only [Act.put]
              refine wpAnyH_ready (rs := [9]) (by kernel_rfl) (by simp) ?_
              refine AllReadyH.cons rfl (fun K hK => ?_) ?_
              · have hcc := (E5.out.cell 2 rfl)
                have hff := (E5.out.boxed 2 rfl).frozen
                go_simp
                have hE := E5.out.setB 2 rfl (.slice a1 n C1)
                simp only [List.set_cons_succ, List.set_cons_zero] at hE
                have E6 := Lib.hid hE
                clear hE hcc hff
                generalize (W5.setCell ⟨G1, 0, none⟩ (.slice a1 n C1)) = W6 at E6 ⊢
                refine hK.out _ _ (HRNG.out _ _ E6.out) (fun hHeld => ?_)
                clear hK K
                try dsimp only [Act.put]
                refine wpAnyH_ready (rs := [10]) (by kernel_rfl) (by simp) ?_
                refine AllReadyH.cons rfl (fun K hK => ?_) ?_
                · have hcc := (E6.out.cell 1 rfl)
                  have hff := (E6.out.boxed 1 rfl).frozen
                  go_simp
                  have hE := E6.out.setB 1 rfl (.slice a2 n C2)
                  simp only [List.set_cons_succ, List.set_cons_zero] at hE
                  have E7 := Lib.hid hE
                  clear hE hcc hff
                  generalize (W6.setCell ⟨G2, 0, none⟩ (.slice a2 n C2)) = W7 at E7 ⊢
                  refine hK.out _ _ (HRNG.out _ _ E7.out) (fun hHeld => ?_)
                  clear hK K
                  try dsimp only [Act.put]
                  refine wpAnyH_done (by kernel_rfl) ?_ _
                  go_wp2_with fail
                  go_meet
                  exact ⟨G1, G2, a1, a2, C1, C2, rfl, rfl, lu_of E7.out 2 1 0 3 rfl rfl rfl rfl, E7.out.below⟩
                exact AllReadyH.nil
              exact AllReadyH.nil
            exact AllReadyH.nil
          exact AllReadyH.nil
        exact AllReadyH.nil
      refine AllReadyH.cons rfl (fun K hK => ?_) ?_
      · go_simp
        have hE := E1.out.box 34 (.slice none 0 0)
        simp only [List.nil_append] at hE
        generalize (W1.alloc (.cells #[.slice none 0 0] 34)) = W2 at hE ⊢
        generalize W1.heap.size = G1 at hE ⊢
        have E2 := Lib.hid hE
        clear hE
        refine hK.out _ _ (HRNG.out _ _ E2.out) (fun hHeld => ?_)
        clear hK K
        try dsimp only [Act.put]
        refine wpAnyH_ready (rs := [2, 8]) (by kernel_rfl) (by simp) ?_
        refine AllReadyH.cons rfl (fun K hK => ?_) ?_
        · go_simp
          refine (HS1.out V _ HV.out).mono ?_
          rintro e W3 ⟨u, rfl, ho, hb⟩
          obtain ⟨a1, C1, rfl⟩ := ownI_form ho (setsI_len _ n)
          have hE := E2.out.pushI hb ho
          simp only [List.cons_append, List.nil_append] at hE
          have E3 := Lib.hid hE
          clear hE hb ho
          go_wp2_with fail
          refine hK.out _ _ (HRNG.out _ _ E3.out) (fun hHeld => ?_)
          clear hK K
          try dsimp only [Act.put]
          refine wpAnyH_ready (rs := [6, 8]) (by kernel_rfl) (by simp) ?_
          refine AllReadyH.cons rfl (fun K hK => ?_) ?_
          · go_simp
            refine (HS2.out _).mono ?_
            rintro e W4 ⟨u, rfl, ho, hb⟩
            obtain ⟨a2, C2, rfl⟩ := ownI_form ho (setsI_len _ n)
            have hE := E3.out.pushI hb ho
            simp only [List.cons_append, List.nil_append] at hE
            have E4 := Lib.hid hE
            clear hE hb ho
            go_wp2_with fail
            refine hK.out _ _ (HRNG.out _ _ E4.out) (fun hHeld => ?_)
            clear hK K
            try dsimp only [Act.put]
            refine wpAnyH_ready (rs := [8]) (by kernel_rfl) (by simp) ?_
            refine AllReadyH.cons rfl (fun K hK => ?_) ?_
            · go_simp
              have hE := E4.out.box 34 (.slice none 0 0)
              simp only [List.cons_append, List.nil_append] at hE
              generalize (W4.alloc (.cells #[.slice none 0 0] 34)) = W5 at hE ⊢
              generalize W4.heap.size = G2 at hE ⊢
              have E5 := Lib.hid hE
              clear hE
              refine hK.out _ _ (HRNG.out _ _ E5.out) (fun hHeld => ?_)
              clear hK K
              try dsimp only [Act.put]
              refine wpAnyH_ready (rs := [9]) (by kernel_rfl) (by simp) ?_
              refine AllReadyH.cons rfl (fun K hK => ?_) ?_
              · have hcc := (E5.out.cell 0 rfl)
                have hff := (E5.out.boxed 0 rfl).frozen
                go_simp
                have hE := E5.out.setB 0 rfl (.slice a1 n C1)
                simp only [List.set_cons_zero] at hE
                have E6 := Lib.hid hE
                clear hE hcc hff
                generalize (W5.setCell ⟨G1, 0, none⟩ (.slice a1 n C1)) = W6 at E6 ⊢
                refine hK.out _ _ (HRNG.out _ _ E6.out) (fun hHeld => ?_)
                clear hK K
                try dsimp only [Act.put]
                refine wpAnyH_ready (rs := [10]) (by kernel_rfl) (by simp) ?_
                refine AllReadyH.cons rfl (fun K hK => ?_) ?_
                · have hcc := (E6.out.cell 3 rfl)
                  have hff := (E6.out.boxed 3 rfl).frozen
                  go_simp
                  have hE := E6.out.setB 3 rfl (.slice a2 n C2)
                  simp only [List.set_cons_succ, List.set_cons_zero] at hE
                  have E7 := Lib.hid hE
                  clear hE hcc hff
                  generalize (W6.setCell ⟨G2, 0, none⟩ (.slice a2 n C2)) = W7 at E7 ⊢
                  refine hK.out _ _ (HRNG.out _ _ E7.out) (fun hHeld => ?_)
                  clear hK K
                  try dsimp only [Act.put]
                  refine wpAnyH_done (by kernel_rfl) ?_ _
                  go_wp2_with fail
                  go_meet
                  exact ⟨G1, G2, a1, a2, C1, C2, rfl, rfl, lu_of E7.out 0 3 1 2 rfl rfl rfl rfl, E7.out.below⟩
                exact AllReadyH.nil
              exact AllReadyH.nil
            exact AllReadyH.nil
          refine AllReadyH.cons rfl (fun K hK => ?_) ?_
          · go_simp
            have hE := E3.out.box 34 (.slice none 0 0)
            simp only [List.cons_append, List.nil_append] at hE
            generalize (W3.alloc (.cells #[.slice none 0 0] 34)) = W4 at hE ⊢
            generalize W3.heap.size = G2 at hE ⊢
            have E4 := Lib.hid hE
            clear hE
            refine hK.out _ _ (HRNG.out _ _ E4.out) (fun hHeld => ?_)
            clear hK K
            try dsimp only [Act.put]
            refine wpAnyH_ready (rs := [6]) (by kernel_rfl) (by simp) ?_
            refine AllReadyH.cons rfl (fun K hK => ?_) ?_
            · go_simp
              refine (HS2.out _).mono ?_
              rintro e W5 ⟨u, rfl, ho, hb⟩
              obtain ⟨a2, C2, rfl⟩ := ownI_form ho (setsI_len _ n)
              have hE := E4.out.pushI hb ho
              simp only [List.cons_append, List.nil_append] at hE
              have E5 := Lib.hid hE
              clear hE hb ho
              go_wp2_with fail
              refine hK.out _ _ (HRNG.out _ _ E5.out) (fun hHeld => ?_)
              clear hK K
              try dsimp only [Act.put]
              refine wpAnyH_ready (rs := [9]) (by kernel_rfl) (by simp) ?_
              refine AllReadyH.cons rfl (fun K hK => ?_) ?_
              · have hcc := (E5.out.cell 0 rfl)
                have hff := (E5.out.boxed 0 rfl).frozen
                go_simp
                have hE := E5.out.setB 0 rfl (.slice a1 n C1)
                simp only [List.set_cons_zero] at hE
                have E6 := Lib.hid hE
                clear hE hcc hff
                generalize (W5.setCell ⟨G1, 0, none⟩ (.slice a1 n C1)) = W6 at E6 ⊢
                refine hK.out _ _ (HRNG.out _ _ E6.out) (fun hHeld => ?_)
                clear hK K
                try dsimp only [Act.put]
                refine wpAnyH_ready (rs := [10]) (by kernel_rfl) (by simp) ?_
                refine AllReadyH.cons rfl (fun K hK => ?_) ?_
                · have hcc := (E6.out.cell 2 rfl)
                  have hff := (E6.out.boxed 2 rfl).frozen
                  go_simp
                  have hE := E6.out.setB 2 rfl (.slice a2 n C2)
                  simp only [List.set_cons_succ, List.set_cons_zero] at hE
                  have E7 := Lib.hid hE
                  clear hE hcc hff
                  generalize (W6.setCell ⟨G2, 0, none⟩ (.slice a2 n C2)) = W7 at E7 ⊢
                  refine hK.out _ _ (HRNG.out _ _ E7.out) (fun hHeld => ?_)
                  clear hK K
                  try dsimp only [Act.put]
                  refine wpAnyH_done (by kernel_rfl) ?_ _
                  go_wp2_with fail
                  go_meet
                  exact ⟨G1, G2, a1, a2, C1, C2, rfl, rfl, lu_of E7.out 0 2 1 3 rfl rfl rfl rfl, E7.out.below⟩
                exact AllReadyH.nil
              exact AllReadyH.nil
            exact AllReadyH.nil
          exact AllReadyH.nil
        refine AllReadyH.cons rfl (fun K hK => ?_) ?_
        · go_simp
          have hE := E2.out.box 34 (.slice none 0 0)
          simp only [List.cons_append, List.nil_append] at hE
          generalize (W2.alloc (.cells #[.slice none 0 0] 34)) = W3 at hE ⊢
          generalize W2.heap.size = G2 at hE ⊢
          have E3 := Lib.hid hE
          clear hE
          refine hK.out _ _ (HRNG.out _ _ E3.out) (fun hHeld => ?_)
          clear hK K
          try dsimp only [Act.put]
          refine wpAnyH_ready (rs := [2]) (by kernel_rfl) (by simp) ?_
          refine AllReadyH.cons rfl (fun K hK => ?_) ?_
          · go_simp
            refine (HS1.out V _ HV.out).mono ?_
            rintro e W4 ⟨u, rfl, ho, hb⟩
            obtain ⟨a1, C1, rfl⟩ := ownI_form ho (setsI_len _ n)
            have hE := E3.out.pushI hb ho
            simp only [List.cons_append, List.nil_append] at hE
            have E4 := Lib.hid hE
            clear hE hb ho
            go_wp2_with fail
            refine hK.out _ _ (HRNG.out _ _ E4.out) (fun hHeld => ?_)
            clear hK K
            try dsimp only [Act.put]
            refine wpAnyH_ready (rs := [6]) (by kernel_rfl) (by simp) ?_
            refine AllReadyH.cons rfl (fun K hK => ?_) ?_
            · go_simp
              refine (HS2.out _).mono ?_
              rintro e W5 ⟨u, rfl, ho, hb⟩
              obtain ⟨a2, C2, rfl⟩ := ownI_form ho (setsI_len _ n)
              have hE := E4.out.pushI hb ho
              simp only [List.cons_append, List.nil_append] at hE
              have E5 := Lib.hid hE
              clear hE hb ho
              go_wp2_with fail
              refine hK.out _ _ (HRNG.out _ _ E5.out) (fun hHeld => ?_)
              clear hK K
              try dsimp only [Act.put]
              refine wpAnyH_ready (rs := [9]) (by kernel_rfl) (by simp) ?_
              refine AllReadyH.cons rfl (fun K hK => ?_) ?_
              · have hcc := (E5.out.cell 0 rfl)
                have hff := (E5.out.boxed 0 rfl).frozen
                go_simp
                have hE := E5.out.setB 0 rfl (.slice a1 n C1)
                simp only [List.set_cons_zero] at hE
                have E6 := Lib.hid hE
                clear hE hcc hff
                generalize (W5.setCell ⟨G1, 0, none⟩ (.slice a1 n C1)) = W6 at E6 ⊢
                refine hK.out _ _ (HRNG.out _ _ E6.out) (fun hHeld => ?_)
                clear hK K
                try dsimp only [Act.put]
                refine wpAnyH_ready (rs := [10]) (by kernel_rfl) (by simp) ?_
                refine AllReadyH.cons rfl (fun K hK => ?_) ?_
                · have hcc := (E6.out.cell 1 rfl)
                  have hff := (E6.out.boxed 1 rfl).frozen
                  go_simp
                  have hE := E6.out.setB 1 rfl (.slice a2 n C2)
                  simp only [List.set_cons_succ, List.set_cons_zero] at hE
                  have E7 := Lib.hid hE
                  clear hE hcc hff
                  generalize (W6.setCell ⟨G2, 0, none⟩ (.slice a2 n C2)) = W7 at E7 ⊢
                  refine hK.out _ _ (HRNG.out _ _ E7.out) (fun hHeld => ?_)
                  clear hK K
                  try dsimp only [Act.put]
                  refine wpAnyH_done (by kernel_rfl) ?_ _
                  go_wp2_with fail
                  go_meet
                  exact ⟨G1, G2, a1, a2, C1, C2, rfl, rfl, lu_of E7.out 0 1 2 3 rfl rfl rfl rfl, E7.out.below⟩
                exact AllReadyH.nil
              exact AllReadyH.nil
            exact AllReadyH.nil
          exact AllReadyH.nil
        exact AllReadyH.nil
      refine AllReadyH.cons rfl (fun K hK => ?_) ?_
      · go_simp
        have hE := E1.out.box 34 (.slice none 0 0)
        simp only [List.nil_append] at hE
        generalize (W1.alloc (.cells #[.slice none 0 0] 34)) = W2 at hE ⊢
        generalize W1.heap.size = G2 at hE ⊢
        have E2 := Lib.hid hE
        clear hE
        refine hK.out _ _ (HRNG.out _ _ E2.out) (fun hHeld => ?_)
        clear hK K
        try dsimp only [Act.put]
        refine wpAnyH_ready (rs := [2, 7]) (by kernel_rfl) (by simp) ?_
        refine AllReadyH.cons rfl (fun K hK => ?_) ?_
        · go_simp
          refine (HS1.out V _ HV.out).mono ?_
          rintro e W3 ⟨u, rfl, ho, hb⟩
          obtain ⟨a1, C1, rfl⟩ := ownI_form ho (setsI_len _ n)
          have hE := E2.out.pushI hb ho
          simp only [List.cons_append, List.nil_append] at hE
          have E3 := Lib.hid hE
          clear hE hb ho
          go_wp2_with fail
          refine hK.out _ _ (HRNG.out _ _ E3.out) (fun hHeld => ?_)
          clear hK K
          try dsimp only [Act.put]
          refine wpAnyH_ready (rs := [6, 7]) (by kernel_rfl) (by simp) ?_
          refine AllReadyH.cons rfl (fun K hK => ?_) ?_
          · go_simp
            refine (HS2.out _).mono ?_
            rintro e W4 ⟨u, rfl, ho, hb⟩
            obtain ⟨a2, C2, rfl⟩ := ownI_form ho (setsI_len _ n)
            have hE := E3.out.pushI hb ho
            simp only [List.cons_append, List.nil_append] at hE
            have E4 := Lib.hid hE
            clear hE hb ho
            go_wp2_with fail
            refine hK.out _ _ (HRNG.out _ _ E4.out) (fun hHeld => ?_)
            clear hK K
            try dsimp only [Act.put]
            refine wpAnyH_ready (rs := [7]) (by kernel_rfl) (by simp) ?_
            refine AllReadyH.cons rfl (fun K hK => ?_) ?_
            · go_simp
              have hE := E4.out.box 34 (.slice none 0 0)
              simp only [List.cons_append, List.nil_append] at hE
              generalize (W4.alloc (.cells #[.slice none 0 0] 34)) = W5 at hE ⊢
              generalize W4.heap.size = G1 at hE ⊢
              have E5 := Lib.hid hE
              clear hE
              refine hK.out _ _ (HRNG.out _ _ E5.out) (fun hHeld => ?_)
              clear hK K
              try dsimp only [Act.put]
              refine wpAnyH_ready (rs := [9]) (by kernel_rfl) (by simp) ?_
              refine AllReadyH.cons rfl (fun K hK => ?_) ?_
              · have hcc := (E5.out.cell 3 rfl)
                have hff := (E5.out.boxed 3 rfl).frozen
                go_simp
                have hE := E5.out.setB 3 rfl (.slice a1 n C1)
                simp only [List.set_cons_succ, List.set_cons_zero] at hE
                have E6 := Lib.hid hE
                clear hE hcc hff
                generalize (W5.setCell ⟨G1, 0, none⟩ (.slice a1 n C1)) = W6 at E6 ⊢
                refine hK.out _ _ (HRNG.out _ _ E6.out) (fun hHeld => ?_)
                clear hK K
                try dsimp only [Act.put]
                refine wpAnyH_ready (rs := [10]) (by kernel_rfl) (by simp) ?_
                refine AllReadyH.cons rfl (fun K hK => ?_) ?_
                · have hcc := (E6.out.cell 0 rfl)
                  have hff := (E6.out.boxed 0 rfl).frozen
                  go_simp
                  have hE := E6.out.setB 0 rfl (.slice a2 n C2)
                  simp only [List.set_cons_zero] at hE
                  have E7 := Lib.hid hE
                  clear hE hcc hff
                  generalize (W6.setCell ⟨G2, 0, none⟩ (.slice a2 n C2)) = W7 at E7 ⊢
                  refine hK.out _ _ (HRNG.out _ _ E7.out) (fun hHeld => ?_)
                  clear hK K
                  try dsimp only [Act.put]
                  refine wpAnyH_done (by kernel_rfl) ?_ _
                  go_wp2_with fail
                  go_meet
                  exact ⟨G1, G2, a1, a2, C1, C2, rfl, rfl, lu_of E7.out 3 0 1 2 rfl rfl rfl rfl, E7.out.below⟩
                exact AllReadyH.nil
              exact AllReadyH.nil
            exact AllReadyH.nil
          refine AllReadyH.cons rfl (fun K hK => ?_) ?_
          · go_simp
            have hE := E3.out.box 34 (.slice none 0 0)
            simp only [List.cons_append, List.nil_append] at hE
            generalize (W3.alloc (.cells #[.slice none 0 0] 34)) = W4 at hE ⊢
            generalize W3.heap.size = G1 at hE ⊢
            have E4 := Lib.hid hE
            clear hE
            refine hK.out _ _ (HRNG.out _ _ E4.out) (fun hHeld => ?_)
            clear hK K
            try dsimp only [Act.put]
            refine wpAnyH_ready (rs := [6]) (by kernel_rfl) (by simp) ?_
            refine AllReadyH.cons rfl (fun K hK => ?_) ?_
            · go_simp
              refine (HS2.out _).mono ?_
              rintro e W5 ⟨u, rfl, ho, hb⟩
              obtain ⟨a2, C2, rfl⟩ := ownI_form ho (setsI_len _ n)
              have hE := E4.out.pushI hb ho
              simp only [List.cons_append, List.nil_append] at hE
              have E5 := Lib.hid hE
              clear hE hb ho
              go_wp2_with fail
              refine hK.out _ _ (HRNG.out _ _ E5.out) (fun hHeld => ?_)
              clear hK K
              try dsimp only [Act.put]
              refine wpAnyH_ready (rs := [9]) (by kernel_rfl) (by simp) ?_
              refine AllReadyH.cons rfl (fun K hK => ?_) ?_
              · have hcc := (E5.out.cell 2 rfl)
                have hff := (E5.out.boxed 2 rfl).frozen
                go_simp
                have hE := E5.out.setB 2 rfl (.slice a1 n C1)
                simp only [List.set_cons_succ, List.set_cons_zero] at hE
                have E6 := Lib.hid hE
                clear hE hcc hff
                generalize (W5.setCell ⟨G1, 0, none⟩ (.slice a1 n C1)) = W6 at E6 ⊢
                refine hK.out _ _ (HRNG.out _ _ E6.out) (fun hHeld => ?_)
                clear hK K
                try dsimp only [Act.put]
                refine wpAnyH_ready (rs := [10]) (by kernel_rfl) (by simp) ?_
                refine AllReadyH.cons rfl (fun K hK => ?_) ?_
                · have hcc := (E6.out.cell 0 rfl)
                  have hff := (E6.out.boxed 0 rfl).frozen
                  go_simp
                  have hE := E6.out.setB 0 rfl (.slice a2 n C2)
                  simp only [List.set_cons_zero] at hE
                  have E7 := Lib.hid hE
                  clear hE hcc hff
                  generalize (W6.setCell ⟨G2, 0, none⟩ (.slice a2 n C2)) = W7 at E7 ⊢
                  refine hK.out _ _ (HRNG.out _ _ E7.out) (fun hHeld => ?_)
                  clear hK K
                  try dsimp only [Act.put]
                  refine wpAnyH_done (by kernel_rfl) ?_ _
                  go_wp2_with fail
                  go_meet
                  exact ⟨G1, G2, a1, a2, C1, C2, rfl, rfl, lu_of E7.out 2 0 1 3 rfl rfl rfl rfl, E7.out.below⟩
                exact AllReadyH.nil
              exact AllReadyH.nil
            exact AllReadyH.nil
          exact AllReadyH.nil
        refine AllReadyH.cons rfl (fun K hK => ?_) ?_
        · go_simp
          have hE := E2.out.box 34 (.slice none 0 0)
          simp only [List.cons_append, List.nil_append] at hE
          generalize (W2.alloc (.cells #[.slice none 0 0] 34)) = W3 at hE ⊢
          generalize W2.heap.size = G1 at hE ⊢
          have E3 := Lib.hid hE
          clear hE
          refine hK.out _ _ (HRNG.out _ _ E3.out) (fun hHeld => ?_)
          clear hK K
          try dsimp only [Act.put]
          refine wpAnyH_ready (rs := [2]) (by kernel_rfl) (by simp) ?_
          refine AllReadyH.cons rfl (fun K hK => ?_) ?_
          · go_simp
            refine (HS1.out V _ HV.out).mono ?_
            rintro e W4 ⟨u, rfl, ho, hb⟩
            obtain ⟨a1, C1, rfl⟩ := ownI_form ho (setsI_len _ n)
            have hE := E3.out.pushI hb ho
            simp only [List.cons_append, List.nil_append] at hE
            have E4 := Lib.hid hE
            clear hE hb ho
            go_wp2_with fail
            refine hK.out _ _ (HRNG.out _ _ E4.out) (fun hHeld => ?_)
            clear hK K
            try dsimp only [Act.put]
            refine wpAnyH_ready (rs := [6]) (by kernel_rfl) (by simp) ?_
            refine AllReadyH.cons rfl (fun K hK => ?_) ?_
            · go_simp
              refine (HS2.out _).mono ?_
              rintro e W5 ⟨u, rfl, ho, hb⟩
              obtain ⟨a2, C2, rfl⟩ := ownI_form ho (setsI_len _ n)
              have hE := E4.out.pushI hb ho
              simp only [List.cons_append, List.nil_append] at hE
              have E5 := Lib.hid hE
              clear hE hb ho
              go_wp2_with fail
              refine hK.out _ _ (HRNG.out _ _ E5.out) (fun hHeld => ?_)
              clear hK K
              try dsimp only [Act.put]
              refine wpAnyH_ready (rs := [9]) (by kernel_rfl) (by simp) ?_
              refine AllReadyH.cons rfl (fun K hK => ?_) ?_
              · have hcc := (E5.out.cell 1 rfl)
                have hff := (E5.out.boxed 1 rfl).frozen
                go_simp
                have hE := E5.out.setB 1 rfl (.slice a1 n C1)
                simp only [List.set_cons_succ, List.set_cons_zero] at hE
                have E6 := Lib.hid hE
                clear hE hcc hff
                generalize (W5.setCell ⟨G1, 0, none⟩ (.slice a1 n C1)) = W6 at E6 ⊢
                refine hK.out _ _ (HRNG.out _ _ E6.out) (fun hHeld => ?_)
                clear hK K
                try dsimp only [Act.put]
                refine wpAnyH_ready (rs := [10]) (by kernel_rfl) (by simp) ?_
                refine AllReadyH.cons rfl (fun K hK => ?_) ?_
                · have hcc := (E6.out.cell 0 rfl)
                  have hff := (E6.out.boxed 0 rfl).frozen
                  go_simp
                  have hE := E6.out.setB 0 rfl (.slice a2 n C2)
                  simp only [List.set_cons_zero] at hE
                  have E7 := Lib.hid hE
                  clear hE hcc hff
                  generalize (W6.setCell ⟨G2, 0, none⟩ (.slice a2 n C2)) = W7 at E7 ⊢
                  refine hK.out _ _ (HRNG.out _ _ E7.out) (fun hHeld => ?_)
                  clear hK K
                  try dsimp only [Act.put]
                  refine wpAnyH_done (by kernel_rfl) ?_ _
                  go_wp2_with fail
                  go_meet
                  exact ⟨G1, G2, a1, a2, C1, C2, rfl, rfl, lu_of E7.out 1 0 2 3 rfl rfl rfl rfl, E7.out.below⟩
                exact AllReadyH.nil
              exact AllReadyH.nil
            exact AllReadyH.nil
          exact AllReadyH.nil
        exact AllReadyH.nil
      exact AllReadyH.nil
    refine AllReadyH.cons rfl (fun K hK => ?_) ?_
    · go_simp
      have hE := E0.out.box 34 (.slice none 0 0)
      simp only [List.nil_append] at hE
      generalize (W0.alloc (.cells #[.slice none 0 0] 34)) = W1 at hE ⊢
      generalize W0.heap.size = G1 at hE ⊢
      have E1 := Lib.hid hE
      clear hE
      refine hK.out _ _ (HRNG.out _ _ E1.out) (fun hHeld => ?_)
      clear hK K
      try dsimp only [Act.put]
      refine wpAnyH_ready (rs := [1, 8]) (by kernel_rfl) (by simp) ?_
      refine AllReadyH.cons rfl (fun K hK => ?_) ?_
      · go_simp
        refine (HBK.out _ _ E1.out).mono ?_
        rintro e W2 ⟨rfl, hb⟩
        have E2 := Lib.hid (E1.out.step hb)
        clear hb
        obtain ⟨V, hV⟩ : ∃ V, V = Value.agg (gridCells (gridF (backRows rows))) := ⟨_, rfl⟩
        rw [← hV]
        have HV := Lib.hid hV
        clear hV
        go_wp2_with fail
        refine hK.out _ _ (HRNG.out _ _ E2.out) (fun hHeld => ?_)
        clear hK K
        try dsimp only [Act.put]
        refine wpAnyH_ready (rs := [2, 8]) (by kernel_rfl) (by simp) ?_
        refine AllReadyH.cons rfl (fun K hK => ?_) ?_
        · go_simp
          refine (HS1.out V _ HV.out).mono ?_
          rintro e W3 ⟨u, rfl, ho, hb⟩
          obtain ⟨a1, C1, rfl⟩ := ownI_form ho (setsI_len _ n)
          have hE := E2.out.pushI hb ho
          simp only [List.cons_append, List.nil_append] at hE
          have E3 := Lib.hid hE
          clear hE hb ho
          go_wp2_with fail
          refine hK.out _ _ (HRNG.out _ _ E3.out) (fun hHeld => ?_)
          clear hK K
          try dsimp only [Act.put]
          refine wpAnyH_ready (rs := [6, 8]) (by kernel_rfl) (by simp) ?_
          refine AllReadyH.cons rfl (fun K hK => ?_) ?_
          · go_simp
            refine (HS2.out _).mono ?_
            rintro e W4 ⟨u, rfl, ho, hb⟩
            obtain ⟨a2, C2, rfl⟩ := ownI_form ho (setsI_len _ n)
            have hE := E3.out.pushI hb ho
            simp only [List.cons_append, List.nil_append] at hE
            have E4 := Lib.hid hE
            clear hE hb ho
            go_wp2_with fail
            refine hK.out _ _ (HRNG.out _ _ E4.out) (fun hHeld => ?_)
            clear hK K
            try dsimp only [Act.put]
            refine wpAnyH_ready (rs := [8]) (by kernel_rfl) (by simp) ?_
            refine AllReadyH.cons rfl (fun K hK => ?_) ?_
            · go_simp
              have hE := E4.out.box 34 (.slice none 0 0)
              simp only [List.cons_append, List.nil_append] at hE
              generalize (W4.alloc (.cells #[.slice none 0 0] 34)) = W5 at hE ⊢
              generalize W4.heap.size = G2 at hE ⊢
              have E5 := Lib.hid hE
              clear hE
              refine hK.out _ _ (HRNG.out _ _ E5.out) (fun hHeld => ?_)
              clear hK K
              try dsimp only [Act.put]
              refine wpAnyH_ready (rs := [9]) (by kernel_rfl) (by simp) ?_
              refine AllReadyH.cons rfl (fun K hK => ?_) ?_
              · have hcc := (E5.out.cell 0 rfl)
                have hff := (E5.out.boxed 0 rfl).frozen
                go_simp
                have hE := E5.out.setB 0 rfl (.slice a1 n C1)
                simp only [List.set_cons_zero] at hE
                have E6 := Lib.hid hE
                clear hE hcc hff
                generalize (W5.setCell ⟨G1, 0, none⟩ (.slice a1 n C1)) = W6 at E6 ⊢
                refine hK.out _ _ (HRNG.out _ _ E6.out) (fun hHeld => ?_)
                clear hK K
                try dsimp only [Act.put]
                refine wpAnyH_ready (rs := [10]) (by kernel_rfl) (by simp) ?_
                refine AllReadyH.cons rfl (fun K hK => ?_) ?_
                · have hcc := (E6.out.cell 3 rfl)
                  have hff := (E6.out.boxed 3 rfl).frozen
                  go_simp
                  have hE := E6.out.setB 3 rfl (.slice a2 n C2)
                  simp only [List.set_cons_succ, List.set_cons_zero] at hE
                  have E7 := Lib.hid hE
                  clear hE hcc hff
                  generalize (W6.setCell ⟨G2, 0, none⟩ (.slice a2 n C2)) = W7 at E7 ⊢
                  refine hK.out _ _ (HRNG.out _ _ E7.out) (fun hHeld => ?_)
                  clear hK K
                  try dsimp only [Act.put]
                  refine wpAnyH_done (by kernel_rfl) ?_ _
                  go_wp2_with fail
                  go_meet
                  exact ⟨G1, G2, a1, a2, C1, C2, rfl, rfl, lu_of E7.out 0 3 1 2 rfl rfl rfl rfl, E7.out.below⟩
                exact AllReadyH.nil
              exact AllReadyH.nil
            exact AllReadyH.nil
          refine AllReadyH.cons rfl (fun K hK => ?_) ?_
          · go_simp
            have hE := E3.out.box 34 (.slice none 0 0)
            simp only [List.cons_append, List.nil_append] at hE
            generalize (W3.alloc (.cells #[.slice none 0 0] 34)) = W4 at hE ⊢
            generalize W3.heap.size = G2 at hE ⊢
            have E4 := Lib.hid hE
            clear hE
            refine hK.out _ _ (HRNG.out _ _ E4.out) (fun hHeld => ?_)
            clear hK K
            try dsimp only [Act.put]
            refine wpAnyH_ready (rs := [6]) (by kernel_rfl) (by simp) ?_
            refine AllReadyH.cons rfl (fun K hK => ?_) ?_
            · go_simp
              refine (HS2.out _).mono ?_
              rintro e W5 ⟨u, rfl, ho, hb⟩
              obtain ⟨a2, C2, rfl⟩ := ownI_form ho (setsI_len _ n)
              have hE := E4.out.pushI hb ho
              simp only [List.cons_append, List.nil_append] at hE
              have E5 := Lib.hid hE
              clear hE hb ho
              go_wp2_with fail
              refine hK.out _ _ (HRNG.out _ _ E5.out) (fun hHeld => ?_)
              clear hK K
              try dsimp only [Act.put]
              refine wpAnyH_ready (rs := [9]) (by kernel_rfl) (by simp) ?_
              refine AllReadyH.cons rfl (fun K hK => ?_) ?_
              · have hcc := (E5.out.cell 0 rfl)
                have hff := (E5.out.boxed 0 rfl).frozen
                go_simp
                have hE := E5.out.setB 0 rfl (.slice a1 n C1)
                simp only [List.set_cons_zero] at hE
                have E6 := Lib.hid hE
                clear hE hcc hff
                generalize (W5.setCell ⟨G1, 0, none⟩ (.slice a1 n C1)) = W6 at E6 ⊢
                refine hK.out _ _ (HRNG.out _ _ E6.out) (fun hHeld => ?_)
                clear hK K
                try dsimp only [Act.put]
                refine wpAnyH_ready (rs := [10]) (by kernel_rfl) (by simp) ?_
                refine AllReadyH.cons rfl (fun K hK => ?_) ?_
                · have hcc := (E6.out.cell 2 rfl)
                  have hff := (E6.out.boxed 2 rfl).frozen
                  go_simp
                  have hE := E6.out.setB 2 rfl (.slice a2 n C2)
                  simp only [List.set_cons_succ, List.set_cons_zero] at hE
                  have E7 := Lib.hid hE
                  clear hE hcc hff
                  generalize (W6.setCell ⟨G2, 0, none⟩ (.slice a2 n C2)) = W7 at E7 ⊢
                  refine hK.out _ _ (HRNG.out _ _ E7.out) (fun hHeld => ?_)
                  clear hK K
                  try dsimp only [Act.put]
                  refine wpAnyH_done (by kernel_rfl) ?_ _
                  go_wp2_with fail
                  go_meet
                  exact ⟨G1, G2, a1, a2, C1, C2, rfl, rfl, lu_of E7.out 0 2 1 3 rfl rfl rfl rfl, E7.out.below⟩
                exact AllReadyH.nil
              exact AllReadyH.nil
            exact AllReadyH.nil
          exact AllReadyH.nil
        refine AllReadyH.cons rfl (fun K hK => ?_) ?_
        · go_simp
          have hE := E2.out.box 34 (.slice none 0 0)
          simp only [List.cons_append, List.nil_append] at hE
          generalize (W2.alloc (.cells #[.slice none 0 0] 34)) = W3 at hE ⊢
          generalize W2.heap.size = G2 at hE ⊢
          have E3 := Lib.hid hE
          clear hE
          refine hK.out _ _ (HRNG.out _ _ E3.out) (fun hHeld => ?_)
          clear hK K
          try dsimp only [Act.put]
          refine wpAnyH_ready (rs := [2]) (by kernel_rfl) (by simp) ?_
          refine AllReadyH.cons rfl (fun K hK => ?_) ?_
          · go_simp
            refine (HS1.out V _ HV.out).mono ?_
            rintro e W4 ⟨u, rfl, ho, hb⟩
            obtain ⟨a1, C1, rfl⟩ := ownI_form ho (setsI_len _ n)
            have hE := E3.out.pushI hb ho
            simp only [List.cons_append, List.nil_append] at hE
            have E4 := Lib.hid hE
            clear hE hb ho
            go_wp2_with fail
            refine hK.out _ _ (HRNG.out _ _ E4.out) (fun hHeld => ?_)
            clear hK K
            try dsimp only [Act.put]
            refine wpAnyH_ready (rs := [6]) (by kernel_rfl) (by simp) ?_
            refine AllReadyH.cons rfl (fun K hK => ?_) ?_
            · go_simp
              refine (HS2.out _).mono ?_
              rintro e W5 ⟨u, rfl, ho, hb⟩
              obtain ⟨a2, C2, rfl⟩ := ownI_form ho (setsI_len _ n)
              have hE := E4.out.pushI hb ho
              simp only [List.cons_append, List.nil_append] at hE
              have E5 := Lib.hid hE
              clear hE hb ho
              go_wp2_with fail
              refine hK.out _ _ (HRNG.out _ _ E5.out) (fun hHeld => ?_)
              clear hK K
              try dsimp only [Act.put]
              refine wpAnyH_ready (rs := [9]) (by kernel_rfl) (by simp) ?_
              refine AllReadyH.cons rfl (fun K hK => ?_) ?_
              · have hcc := (E5.out.cell 0 rfl)
                have hff := (E5.out.boxed 0 rfl).frozen
                go_simp
                have hE := E5.out.setB 0 rfl (.slice a1 n C1)
                simp only [List.set_cons_zero] at hE
                have E6 := Lib.hid hE
                clear hE hcc hff
                generalize (W5.setCell ⟨G1, 0, none⟩ (.slice a1 n C1)) = W6 at E6 ⊢
                refine hK.out _ _ (HRNG.out _ _ E6.out) (fun hHeld => ?_)
                clear hK K
                try dsimp only [Act.put]
                refine wpAnyH_ready (rs := [10]) (by kernel_rfl) (by simp) ?_
                refine AllReadyH.cons rfl (fun K hK => ?_) ?_
                · have hcc := (E6.out.cell 1 rfl)
                  have hff := (E6.out.boxed 1 rfl).frozen
                  go_simp
                  have hE := E6.out.setB 1 rfl (.slice a2 n C2)
                  simp only [List.set_cons_succ, List.set_cons_zero] at hE
                  have E7 := Lib.hid hE
                  clear hE hcc hff
                  generalize (W6.setCell ⟨G2, 0, none⟩ (.slice a2 n C2)) = W7 at E7 ⊢
                  refine hK.out _ _ (HRNG.out _ _ E7.out) (fun hHeld => ?_)
                  clear hK K
                  try dsimp only [Act.put]
                  refine wpAnyH_done (by kernel_rfl) ?_ _
                  go_wp2_with fail
                  go_meet
                  exact ⟨G1, G2, a1, a2, C1, C2, rfl, rfl, lu_of E7.out 0 1 2 3 rfl rfl rfl rfl, E7.out.below⟩
                exact AllReadyH.nil
              exact AllReadyH.nil
            exact AllReadyH.nil
          exact AllReadyH.nil
        exact AllReadyH.nil
      refine AllReadyH.cons rfl (fun K hK => ?_) ?_
      · go_simp
        have hE := E1.out.box 34 (.slice none 0 0)
        simp only [List.cons_append, List.nil_append] at hE
        generalize (W1.alloc (.cells #[.slice none 0 0] 34)) = W2 at hE ⊢
        generalize W1.heap.size = G2 at hE ⊢
        have E2 := Lib.hid hE
        clear hE
        refine hK.out _ _ (HRNG.out _ _ E2.out) (fun hHeld => ?_)
        clear hK K
        try dsimp only [Act.put]
        refine wpAnyH_ready (rs := [1]) (by kernel_rfl) (by simp) ?_
        refine AllReadyH.cons rfl (fun K hK => ?_) ?_
        · go_simp
          refine (HBK.out _ _ E2.out).mono ?_
          rintro e W3 ⟨rfl, hb⟩
          have E3 := Lib.hid (E2.out.step hb)
          clear hb
          obtain ⟨V, hV⟩ : ∃ V, V = Value.agg (gridCells (gridF (backRows rows))) := ⟨_, rfl⟩
          rw [← hV]
          have HV := Lib.hid hV
          clear hV
          go_wp2_with fail
          refine hK.out _ _ (HRNG.out _ _ E3.out) (fun hHeld => ?_)
          clear hK K
          try dsimp only [Act.put]
          refine wpAnyH_ready (rs := [2]) (by kernel_rfl) (by simp) ?_
          refine AllReadyH.cons rfl (fun K hK => ?_) ?_
          · go_simp
            refine (HS1.out V _ HV.out).mono ?_
            rintro e W4 ⟨u, rfl, ho, hb⟩
            obtain ⟨a1, C1, rfl⟩ := ownI_form ho (setsI_len _ n)
            have hE := E3.out.pushI hb ho
            simp only [List.cons_append, List.nil_append] at hE
            have E4 := Lib.hid hE
            clear hE hb ho
            go_wp2_with fail
            refine hK.out _ _ (HRNG.out _ _ E4.out) (fun hHeld => ?_)
            clear hK K
            try dsimp only [Act.put]
            refine wpAnyH_ready (rs := [6]) (by kernel_rfl) (by simp) ?_
            refine AllReadyH.cons rfl (fun K hK => ?_) ?_
            · go_simp
              refine (HS2.out _).mono ?_
              rintro e W5 ⟨u, rfl, ho, hb⟩
              obtain ⟨a2, C2, rfl⟩ := ownI_form ho (setsI_len _ n)
              have hE := E4.out.pushI hb ho
              simp only [List.cons_append, List.nil_append] at hE
              have E5 := Lib.hid hE
              clear hE hb ho
              go_wp2_with fail
              refine hK.out _ _ (HRNG.out _ _ E5.out) (fun hHeld => ?_)
              clear hK K
              try dsimp only [Act.put]
              refine wpAnyH_ready (rs := [9]) (by kernel_rfl) (by simp) ?_
              refine AllReadyH.cons rfl (fun K hK => ?_) ?_
              · have hcc := (E5.out.cell 0 rfl)
                have hff := (E5.out.boxed 0 rfl).frozen
                go_simp
                have hE := E5.out.setB 0 rfl (.slice a1 n C1)
                simp only [List.set_cons_zero] at hE
                have E6 := Lib.hid hE
                clear hE hcc hff
                generalize (W5.setCell ⟨G1, 0, none⟩ (.slice a1 n C1)) = W6 at E6 ⊢
                refine hK.out _ _ (HRNG.out _ _ E6.out) (fun hHeld => ?_)
                clear hK K
                try dsimp only [Act.put]
                refine wpAnyH_ready (rs := [10]) (by kernel_rfl) (by simp) ?_
                refine AllReadyH.cons rfl (fun K hK => ?_) ?_
                · have hcc := (E6.out.cell 1 rfl)
                  have hff := (E6.out.boxed 1 rfl).frozen
                  go_simp
                  have hE := E6.out.setB 1 rfl (.slice a2 n C2)
                  simp only [List.set_cons_succ, List.set_cons_zero] at hE
                  have E7 := Lib.hid hE
                  clear hE hcc hff
                  generalize (W6.setCell ⟨G2, 0, none⟩ (.slice a2 n C2)) = W7 at E7 ⊢
                  refine hK.out _ _ (HRNG.out _ _ E7.out) (fun hHeld => ?_)
                  clear hK K
                  try dsimp only [Act.put]
                  refine wpAnyH_done (by kernel_rfl) ?_ _
                  go_wp2_with fail
                  go_meet
                  exact ⟨G1, G2, a1, a2, C1, C2, rfl, rfl, lu_of E7.out 0 1 2 3 rfl rfl rfl rfl, E7.out.below⟩
                exact AllReadyH.nil
              exact AllReadyH.nil
            exact AllReadyH.nil
          exact AllReadyH.nil
        exact AllReadyH.nil
      exact AllReadyH.nil
    refine AllReadyH.cons rfl (fun K hK => ?_) ?_
    · go_simp
      have hE := E0.out.box 34 (.slice none 0 0)
      simp only [List.nil_append] at hE
      generalize (W0.alloc (.cells #[.slice none 0 0] 34)) = W1 at hE ⊢
      generalize W0.heap.size = G2 at hE ⊢
      have E1 := Lib.hid hE
      clear hE
      refine hK.out _ _ (HRNG.out _ _ E1.out) (fun hHeld => ?_)
      clear hK K
      try dsimp only [Act.put]
      refine wpAnyH_ready (rs := [1, 7]) (by kernel_rfl) (by simp) ?_
      refine AllReadyH.cons rfl (fun K hK => ?_) ?_
      · go_simp
        refine (HBK.out _ _ E1.out).mono ?_
        rintro e W2 ⟨rfl, hb⟩
        have E2 := Lib.hid (E1.out.step hb)
        clear hb
        obtain ⟨V, hV⟩ : ∃ V, V = Value.agg (gridCells (gridF (backRows rows))) := ⟨_, rfl⟩
        rw [← hV]
        have HV := Lib.hid hV
        clear hV
        go_wp2_with fail
        refine hK.out _ _ (HRNG.out _ _ E2.out) (fun hHeld => ?_)
        clear hK K
        try dsimp only [Act.put]
        refine wpAnyH_ready (rs := [2, 7]) (by kernel_rfl) (by simp) ?_
        refine AllReadyH.cons rfl (fun K hK => ?_) ?_
        · go_simp
          refine (HS1.out V _ HV.out).mono ?_
          rintro e W3 ⟨u, rfl, ho, hb⟩
          obtain ⟨a1, C1, rfl⟩ := ownI_form ho (setsI_len _ n)
          have hE := E2.out.pushI hb ho
          simp only [List.cons_append, List.nil_append] at hE
          have E3 := Lib.hid hE
          clear hE hb ho
          go_wp2_with fail
          refine hK.out _ _ (HRNG.out _ _ E3.out) (fun hHeld => ?_)
          clear hK K
          try dsimp only [Act.put]
          refine wpAnyH_ready (rs := [6, 7]) (by kernel_rfl) (by simp) ?_
          refine AllReadyH.cons rfl (fun K hK => ?_) ?_
          · go_simp
            refine (HS2.out _).mono ?_
            rintro e W4 ⟨u, rfl, ho, hb⟩
            obtain ⟨a2, C2, rfl⟩ := ownI_form ho (setsI_len _ n)
            have hE := E3.out.pushI hb ho
            simp only [List.cons_append, List.nil_append] at hE
            have E4 := Lib.hid hE
            clear hE hb ho
            go_wp2_with fail
            refine hK.out _ _ (HRNG.out _ _ E4.out) (fun hHeld => ?_)
            clear hK K
            try dsimp only [Act.put]
            refine wpAnyH_ready (rs := [7]) (by kernel_rfl) (by simp) ?_
            refine AllReadyH.cons rfl (fun K hK => ?_) ?_
            · go_simp
              have hE := E4.out.box 34 (.slice none 0 0)
              simp only [List.cons_append, List.nil_append] at hE
              generalize (W4.alloc (.cells #[.slice none 0 0] 34)) = W5 at hE ⊢
              generalize W4.heap.size = G1 at hE ⊢
              have E5 := Lib.hid hE
              clear hE
              refine hK.out _ _ (HRNG.out _ _ E5.out) (fun hHeld => ?_)
              clear hK K
              try dsimp only [Act.put]
              refine wpAnyH_ready (rs := [9]) (by kernel_rfl) (by simp) ?_
              refine AllReadyH.cons rfl (fun K hK => ?_) ?_
              · have hcc := (E5.out.cell 3 rfl)
                have hff := (E5.out.boxed 3 rfl).frozen
                go_simp
                have hE := E5.out.setB 3 rfl (.slice a1 n C1)
                simp only [List.set_cons_succ, List.set_cons_zero] at hE
                have E6 := Lib.hid hE
                clear hE hcc hff
                generalize (W5.setCell ⟨G1, 0, none⟩ (.slice a1 n C1)) = W6 at E6 ⊢
                refine hK.out _ _ (HRNG.out _ _ E6.out) (fun hHeld => ?_)
                clear hK K
                try dsimp only [Act.put]
                refine wpAnyH_ready (rs := [10]) (by kernel_rfl) (by simp) ?_
                refine AllReadyH.cons rfl (fun K hK => ?_) ?_
                · have hcc := (E6.out.cell 0 rfl)
                  have hff := (E6.out.boxed 0 rfl).frozen
                  go_simp
                  have hE := E6.out.setB 0 rfl (.slice a2 n C2)
                  simp only [List.set_cons_zero] at hE
                  have E7 := Lib.hid hE
                  clear hE hcc hff
                  generalize (W6.setCell ⟨G2, 0, none⟩ (.slice a2 n C2)) = W7 at E7 ⊢
                  refine hK.out _ _ (HRNG.out _ _ E7.out) (fun hHeld => ?_)
                  clear hK K
                  try dsimp only [Act.put]
                  refine wpAnyH_done (by kernel_rfl) ?_ _
                  go_wp2_with fail
                  go_meet
                  exact ⟨G1, G2, a1, a2, C1, C2, rfl, rfl, lu_of E7.out 3 0 1 2 rfl rfl rfl rfl, E7.out.below⟩
                exact AllReadyH.nil
              exact AllReadyH.nil
            exact AllReadyH.nil
          refine AllReadyH.cons rfl (fun K hK => ?_) ?_
          · go_simp
            have hE := E3.out.box 34 (.slice none 0 0)
            simp only [List.cons_append, List.nil_append] at hE
            generalize (W3.alloc (.cells #[.slice none 0 0] 34)) = W4 at hE ⊢
            generalize W3.heap.size = G1 at hE ⊢
            have E4 := Lib.hid hE
            clear hE
            refine hK.out _ _ (HRNG.out _ _ E4.out) (fun hHeld => ?_)
            clear hK K
            try dsimp only [Act.put]
            refine wpAnyH_ready (rs := [6]) (by kernel_rfl) (by simp) ?_
            refine AllReadyH.cons rfl (fun K hK => ?_) ?_
            · go_simp
              refine (HS2.out _).mono ?_
              rintro e W5 ⟨u, rfl, ho, hb⟩
              obtain ⟨a2, C2, rfl⟩ := ownI_form ho (setsI_len _ n)
              have hE := E4.out.pushI hb ho
              simp only [List.cons_append, List.nil_append] at hE
              have E5 := Lib.hid hE
              clear hE hb ho
              go_wp2_with fail
              refine hK.out _ _ (HRNG.out _ _ E5.out) (fun hHeld => ?_)
              clear hK K
              try dsimp only [Act.put]
              refine wpAnyH_ready (rs := [9]) (by kernel_rfl) (by simp) ?_
              refine AllReadyH.cons rfl (fun K hK => ?_) ?_
              · have hcc := (E5.out.cell 2 rfl)
                have hff := (E5.out.boxed 2 rfl).frozen
                go_simp
                have hE := E5.out.setB 2 rfl (.slice a1 n C1)
                simp only [List.set_cons_succ, List.set_cons_zero] at hE
                have E6 := Lib.hid hE
                clear hE hcc hff
                generalize (W5.setCell ⟨G1, 0, none⟩ (.slice a1 n C1)) = W6 at E6 ⊢
                refine hK.out _ _ (HRNG.out _ _ E6.out) (fun hHeld => ?_)
                clear hK K
                try dsimp only [Act.put]
                refine wpAnyH_ready (rs := [10]) (by kernel_rfl) (by simp) ?_
                refine AllReadyH.cons rfl (fun K hK => ?_) ?_
                · have hcc := (E6.out.cell 0 rfl)
                  have hff := (E6.out.boxed 0 rfl).frozen
                  go_simp
                  have hE := E6.out.setB 0 rfl (.slice a2 n C2)
                  simp only [List.set_cons_zero] at hE
                  have E7 := Lib.hid hE
                  clear hE hcc hff
                  generalize (W6.setCell ⟨G2, 0, none⟩ (.slice a2 n C2)) = W7 at E7 ⊢
                  refine hK.out _ _ (HRNG.out _ _ E7.out) (fun hHeld => ?_)
                  clear hK K
                  try dsimp only [Act.put]
                  refine wpAnyH_done (by kernel_rfl) ?_ _
                  go_wp2_with fail
                  go_meet
                  exact ⟨G1, G2, a1, a2, C1, C2, rfl, rfl, lu_of E7.out 2 0 1 3 rfl rfl rfl rfl, E7.out.below⟩
                exact AllReadyH.nil
              exact AllReadyH.nil
            exact AllReadyH.nil
          exact AllReadyH.nil
        refine AllReadyH.cons rfl (fun K hK => ?_) ?_
        · go_simp
          have hE := E2.out.box 34 (.slice none 0 0)
          simp only [List.cons_append, List.nil_append] at hE
          generalize (W2.alloc (.cells #[.slice none 0 0] 34)) = W3 at hE ⊢
          generalize W2.heap.size = G1 at hE ⊢
          have E3 := Lib.hid hE
          clear hE
          refine hK.out _ _ (HRNG.out _ _ E3.out) (fun hHeld => ?_)
          clear hK K
          try dsimp only [Act.put]
          refine wpAnyH_ready (rs := [2]) (by kernel_rfl) (by simp) ?_
          refine AllReadyH.cons rfl (fun K hK => ?_) ?_
          · go_simp
            refine (HS1.out V _ HV.out).mono ?_
            rintro e W4 ⟨u, rfl, ho, hb⟩
            obtain ⟨a1, C1, rfl⟩ := ownI_form ho (setsI_len _ n)
            have hE := E3.out.pushI hb ho
            simp only [List.cons_append, List.nil_append] at hE
            have E4 := Lib.hid hE
            clear hE hb ho
            go_wp2_with fail
            refine hK.out _ _ (HRNG.out _ _ E4.out) (fun hHeld => ?_)
            clear hK K
            try dsimp only [Act.put]
            refine wpAnyH_ready (rs := [6]) (by kernel_rfl) (by simp) ?_
            refine AllReadyH.cons rfl (fun K hK => ?_) ?_
            · go_simp
              refine (HS2.out _).mono ?_
              rintro e W5 ⟨u, rfl, ho, hb⟩
              obtain ⟨a2, C2, rfl⟩ := ownI_form ho (setsI_len _ n)
              have hE := E4.out.pushI hb ho
              simp only [List.cons_append, List.nil_append] at hE
              have E5 := Lib.hid hE
              clear hE hb ho
              go_wp2_with fail
              refine hK.out _ _ (HRNG.out _ _ E5.out) (fun hHeld => ?_)
              clear hK K
              try dsimp only [Act.put]
              refine wpAnyH_ready (rs := [9]) (by kernel_rfl) (by simp) ?_
              refine AllReadyH.cons rfl (fun K hK => ?_) ?_
              · have hcc := (E5.out.cell 1 rfl)
                have hff := (E5.out.boxed 1 rfl).frozen
                go_simp
                have hE := E5.out.setB 1 rfl (.slice a1 n C1)
                simp only [List.set_cons_succ, List.set_cons_zero] at hE
                have E6 := Lib.hid hE
                clear hE hcc hff
                generalize (W5.setCell ⟨G1, 0, none⟩ (.slice a1 n C1)) = W6 at E6 ⊢
                refine hK.out _ _ (HRNG.out _ _ E6.out) (fun hHeld => ?_)
                clear hK K
                try dsimp only [Act.put]
                refine wpAnyH_ready (rs := [10]) (by kernel_rfl) (by simp) ?_
                refine AllReadyH.cons rfl (fun K hK => ?_) ?_
                · have hcc := (E6.out.cell 0 rfl)
                  have hff := (E6.out.boxed 0 rfl).frozen
                  go_simp
                  have hE := E6.out.setB 0 rfl (.slice a2 n C2)
                  simp only [List.set_cons_zero] at hE
                  have E7 := Lib.hid hE
                  clear hE hcc hff
                  generalize (W6.setCell ⟨G2, 0, none⟩ (.slice a2 n C2)) = W7 at E7 ⊢
                  refine hK.out _ _ (HRNG.out _ _ E7.out) (fun hHeld => ?_)
                  clear hK K
                  try dsimp only [Act.put]
                  refine wpAnyH_done (by kernel_rfl) ?_ _
                  go_wp2_with fail
                  go_meet
                  exact ⟨G1, G2, a1, a2, C1, C2, rfl, rfl, lu_of E7.out 1 0 2 3 rfl rfl rfl rfl, E7.out.below⟩
                exact AllReadyH.nil
              exact AllReadyH.nil
            exact AllReadyH.nil
          exact AllReadyH.nil
        exact AllReadyH.nil
      refine AllReadyH.cons rfl (fun K hK => ?_) ?_
      · go_simp
        have hE := E1.out.box 34 (.slice none 0 0)
        simp only [List.cons_append, List.nil_append] at hE
        generalize (W1.alloc (.cells #[.slice none 0 0] 34)) = W2 at hE ⊢
        generalize W1.heap.size = G1 at hE ⊢
        have E2 := Lib.hid hE
        clear hE
        refine hK.out _ _ (HRNG.out _ _ E2.out) (fun hHeld => ?_)
        clear hK K
        try dsimp only [Act.put]
        refine wpAnyH_ready (rs := [1]) (by kernel_rfl) (by simp) ?_
        refine AllReadyH.cons rfl (fun K hK => ?_) ?_
        · go_simp
          refine (HBK.out _ _ E2.out).mono ?_
          rintro e W3 ⟨rfl, hb⟩
          have E3 := Lib.hid (E2.out.step hb)
          clear hb
          obtain ⟨V, hV⟩ : ∃ V, V = Value.agg (gridCells (gridF (backRows rows))) := ⟨_, rfl⟩
          rw [← hV]
          have HV := Lib.hid hV
          clear hV
          go_wp2_with fail
          refine hK.out _ _ (HRNG.out _ _ E3.out) (fun hHeld => ?_)
          clear hK K
          try dsimp only [Act.put]
          refine wpAnyH_ready (rs := [2]) (by kernel_rfl) (by simp) ?_
          refine AllReadyH.cons rfl (fun K hK => ?_) ?_
          · go_simp
            refine (HS1.out V _ HV.out).mono ?_
            rintro e W4 ⟨u, rfl, ho, hb⟩
            obtain ⟨a1, C1, rfl⟩ := ownI_form ho (setsI_len _ n)
            have hE := E3.out.pushI hb ho
            simp only [List.cons_append, List.nil_append] at hE
            have E4 := Lib.hid hE
            clear hE hb ho
            go_wp2_with fail
            refine hK.out _ _ (HRNG.out _ _ E4.out) (fun hHeld => ?_)
            clear hK K
            try dsimp only [Act.put]
            refine wpAnyH_ready (rs := [6]) (by kernel_rfl) (by simp) ?_
            refine AllReadyH.cons rfl (fun K hK => ?_) ?_
            · go_simp
              refine (HS2.out _).mono ?_
              rintro e W5 ⟨u, rfl, ho, hb⟩
              obtain ⟨a2, C2, rfl⟩ := ownI_form ho (setsI_len _ n)
              have hE := E4.out.pushI hb ho
              simp only [List.cons_append, List.nil_append] at hE
              have E5 := Lib.hid hE
              clear hE hb ho
              go_wp2_with fail
              refine hK.out _ _ (HRNG.out _ _ E5.out) (fun hHeld => ?_)
              clear hK K
              try dsimp only [Act.put]
              refine wpAnyH_ready (rs := [9]) (by kernel_rfl) (by simp) ?_
              refine AllReadyH.cons rfl (fun K hK => ?_) ?_
              · have hcc := (E5.out.cell 1 rfl)
                have hff := (E5.out.boxed 1 rfl).frozen
                go_simp
                have hE := E5.out.setB 1 rfl (.slice a1 n C1)
                simp only [List.set_cons_succ, List.set_cons_zero] at hE
                have E6 := Lib.hid hE
                clear hE hcc hff
                generalize (W5.setCell ⟨G1, 0, none⟩ (.slice a1 n C1)) = W6 at E6 ⊢
                refine hK.out _ _ (HRNG.out _ _ E6.out) (fun hHeld => ?_)
                clear hK K
                try dsimp only [Act.put]
                refine wpAnyH_ready (rs := [10]) (by kernel_rfl) (by simp) ?_
                refine AllReadyH.cons rfl (fun K hK => ?_) ?_
                · have hcc := (E6.out.cell 0 rfl)
                  have hff := (E6.out.boxed 0 rfl).frozen
                  go_simp
                  have hE := E6.out.setB 0 rfl (.slice a2 n C2)
                  simp only [List.set_cons_zero] at hE
                  have E7 := Lib.hid hE
                  clear hE hcc hff
                  generalize (W6.setCell ⟨G2, 0, none⟩ (.slice a2 n C2)) = W7 at E7 ⊢
                  refine hK.out _ _ (HRNG.out _ _ E7.out) (fun hHeld => ?_)
                  clear hK K
                  try dsimp only [Act.put]
                  refine wpAnyH_done (by kernel_rfl) ?_ _
                  go_wp2_with fail
                  go_meet
                  exact ⟨G1, G2, a1, a2, C1, C2, rfl, rfl, lu_of E7.out 1 0 2 3 rfl rfl rfl rfl, E7.out.below⟩
                exact AllReadyH.nil
              exact AllReadyH.nil
            exact AllReadyH.nil
          exact AllReadyH.nil
        exact AllReadyH.nil
      exact AllReadyH.nil
    exact AllReadyH.nil
  obtain ⟨G1, G2, a1, a2, C1, C2, rfl, rfl, hlu, hbb⟩ := hcut
  have HLX := Lib.hid hlu
  have HLU := Lib.hid (hlu wc (fun _ _ _ => rfl) (Nat.le_refl _))
  have HBB := Lib.hid hbb
  clear hlu hbb
  have hcn := Boxed.cell (Boxed.new wc 83 .nilFunc)
  have hfn := Boxed.frozen (Boxed.new wc 83 .nilFunc)
  go_upto_region 4 with fail
  have hb4 := (Below.refl wc.heap.size wc).alloc (Nat.le_refl _) (.cells #[.func (.func 43) #[] #[.pointer (some ⟨G1, 0, none⟩), .pointer (some ⟨G2, 0, none⟩)]] 83)
  have hsc := Boxed.cell (Boxed.new wc 83 (.func (.func 43) #[] #[.pointer (some ⟨G1, 0, none⟩), .pointer (some ⟨G2, 0, none⟩)]))
  have HPM := Lib.hid (PM.mk (HLU.out.step hb4) hsc)
  have HSB := Lib.hid (show wA.heap.size ≤ wc.heap.size from HBB.out.size)
  have HL2 := Lib.hid (fun W' (hb : ∀ b, wA.heap.size ≤ b → b < wc.heap.size → W'.heap[b]? = (wc.alloc (.cells #[.func (.func 43) #[] #[.pointer (some ⟨G1, 0, none⟩), .pointer (some ⟨G2, 0, none⟩)]] 83)).heap[b]?) (hz : wc.heap.size ≤ W'.heap.size) => HLX.out W' (fun b h1 h2 => (hb b h1 h2).trans (hb4.block b h2)) hz)
  have HSZ := Lib.hid (show wc.heap.size < (wc.alloc (.cells #[.func (.func 43) #[] #[.pointer (some ⟨G1, 0, none⟩), .pointer (some ⟨G2, 0, none⟩)]] 83)).heap.size by simp)
  have HBD := Lib.hid (HBB.out.trans (hb4.mono HBB.out.size))
  clear hb4 hsc hcn hfn
  generalize (wc.alloc (.cells #[.func (.func 43) #[] #[.pointer (some ⟨G1, 0, none⟩), .pointer (some ⟨G2, 0, none⟩)]] 83)) = wd at HPM HBD HL2 HSZ ⊢
  generalize wc.heap.size = sb at HPM HSB HL2 HSZ ⊢
  have hl5 := HPM.out.lu.cu
  go_upto_region 5 with fail
  have hpd := PD.start wd n (.func (.func 45) #[] #[.pointer (some ⟨w.heap.size + 1, 0, none⟩), .pointer (some ⟨sb, 0, none⟩)]) (.func (.func 46) #[] #[.pointer (some ⟨w.heap.size + 1, 0, none⟩), .pointer (some ⟨sb, 0, none⟩)])
  clear hl5
  generalize (wd.alloc (.cells (pdCells n (.slice none 0 0) (.func (.func 45) #[] #[.pointer (some ⟨w.heap.size + 1, 0, none⟩), .pointer (some ⟨sb, 0, none⟩)]) (.func (.func 46) #[] #[.pointer (some ⟨w.heap.size + 1, 0, none⟩), .pointer (some ⟨sb, 0, none⟩)])) 45)) = we at hpd ⊢
  generalize wd.heap.size = pb at hpd ⊢
  have HPD := Lib.hid hpd
  clear hpd
  obtain ⟨M, hM, hMb, hp1, hm64⟩ := pow_i64 (show n ≤ 7 by have := HN.out; omega)
  have HM := Lib.hid hM
  obtain ⟨i0, hi0, hz0, hz1, hz2⟩ := info_parts infoInt
  have hup := Tryd.underlying45
  have hip : (Tryd.prog.info? 45).map (·.size) = some 4 := by kernel_rfl
  have HCL := Lib.hid (fun (s : Nat) W (hb : Below wd.heap.size wd W) (hs : s < 2 ^ 60) => (show Calls Tryd.prog 45 #[.int .i64 (s : Int), .pointer (some ⟨w.heap.size + 1, 0, none⟩), .pointer (some ⟨sb, 0, none⟩)] W (SaysI ((closL rows 0 s : Nat) : Int) W) by
    have h := lowerClosed_any (w.heap.size + 1) sb G1 G2 n s (gridF (backRows rows)) (gridF rows) a1 a2 C1 C2 W (HPM.out.step hb) (by have := HN.out; omega) (fun k _ => pow7_lt h7 (HOK.out.backSmall k)) (fun k _ => pow7_lt h7 (HOK.out.small k)) hs
    rw [HN.out] at h
    exact h))
  have HIS := Lib.hid (fun v x W => isSet_any n M v (.func (.func 45) #[] #[.pointer (some ⟨w.heap.size + 1, 0, none⟩), .pointer (some ⟨sb, 0, none⟩)]) (.func (.func 46) #[] #[.pointer (some ⟨w.heap.size + 1, 0, none⟩), .pointer (some ⟨sb, 0, none⟩)]) x W (by have := HN.out; omega) hM)
  clear hp1 hm64 hM
  go_wp2
  go_loopw [8] (fun sv wx => ∃ (s : Nat) (v : Value), 1 ≤ s ∧ s ≤ M ∧ sv = .int .i64 (s : Int) ∧ PD wd pb n v (.func (.func 45) #[] #[.pointer (some ⟨w.heap.size + 1, 0, none⟩), .pointer (some ⟨sb, 0, none⟩)]) (.func (.func 46) #[] #[.pointer (some ⟨w.heap.size + 1, 0, none⟩), .pointer (some ⟨sb, 0, none⟩)]) (setsTo rows 0 s) wx) (fun sv _ => M - (intOf sv).toNat)
  case atStart => exact ⟨1, _, Nat.le_refl _, hMb.1, rfl, by rw [setsTo_one]; exact HPD.out⟩
  case round =>
    obtain ⟨s, v, hs1, hsM, rfl, hpd⟩ := hrel
    have HP := Lib.hid hpd
    have hblk := hpd.blk
    clear hpd HPD
    have hld : pdCells n v (.func (.func 45) #[] #[.pointer (some ⟨w.heap.size + 1, 0, none⟩), .pointer (some ⟨sb, 0, none⟩)]) (.func (.func 46) #[] #[.pointer (some ⟨w.heap.size + 1, 0, none⟩), .pointer (some ⟨sb, 0, none⟩)]) = #[.int .i64 ((n : Nat) : Int), v, (.func (.func 45) #[] #[.pointer (some ⟨w.heap.size + 1, 0, none⟩), .pointer (some ⟨sb, 0, none⟩)]), (.func (.func 46) #[] #[.pointer (some ⟨w.heap.size + 1, 0, none⟩), .pointer (some ⟨sb, 0, none⟩)])] := rfl
    rw [hld] at hblk
    clear hld
    by_cases hlt : s < M
    · have hsz : decide (1 ≤ (s : Int) ∧ (s : Int) < (M : Int)) = true := decide_eq_true (by omega)
      have hcall := HIS.out v (s : Int) wr
      rw [hsz] at hcall
      have HCALL := Lib.hid hcall
      clear hcall hsz
      go_upto_region 8 with (first | (refine wpList_load_row rfl 45 (.tmp 7) rfl pb rfl 45 #[.int .i64 ((n : Nat) : Int), v, (.func (.func 45) #[] #[.pointer (some ⟨w.heap.size + 1, 0, none⟩), .pointer (some ⟨sb, 0, none⟩)]), (.func (.func 46) #[] #[.pointer (some ⟨w.heap.size + 1, 0, none⟩), .pointer (some ⟨sb, 0, none⟩)])] (0, 0) _ hblk hup rfl hip ?_) | (go_at_call 47; refine HCALL.out.mono ?_; clear HCALL; rintro e w2 ⟨rfl, hb2⟩; have HP2 := Lib.hid (HP.out.step hb2); clear hb2))
      clear hblk
      have hc2 := HP2.out.c2
      have hcl := HCL.out s w2 HP2.out.below (by omega)
      obtain ⟨c, hc⟩ : ∃ c, c = closL rows 0 s := ⟨_, rfl⟩
      rw [← hc] at hcl
      have HCC := Lib.hid hc
      have HCALL := Lib.hid hcl
      clear hcl hc
      by_cases hcs : c = s
      · have q1 : ((c : Int) == (s : Int)) = true := by rw [beq_iff_eq]; omega
        have q2 : (c == s) = true := by rw [beq_iff_eq]; exact hcs
        have HE := Lib.hid (setsTo_yes (rows := rows) (k := 0) hs1 (by rw [← HCC.out]; exact hcs))
        have hsl := setsTo_len rows 0 s
        clear hcs
        go_upto_region 9 with (go_at_call 45; refine HCALL.out.mono ?_; clear HCALL; rintro e w3 ⟨rfl, hb3⟩; have HP3 := Lib.hid (HP2.out.step hb3); clear hb3)
        clear hc2
        have hc1 := HP3.out.c1
        have hc1a := cell_alloc_any hc1
        have HOWN := Lib.hid HP3.out.own
        have hpb := HP3.out.lt
        have hwd := HP3.out.below.size
        go_wp2_with (at_builtin; refine wpList_append_lies _ rfl _ _ 41 rfl wd.heap.size 3 i0 (.int .i64 0) 1 8 Tryd.underlying41 hi0 hz0 hz1 hz2 rfl (by decide) v (setsTo rows 0 s).length (cellsI (setsTo rows 0 s)) (by rfl) (HOWN.out.alloc _) ⟨w3.heap.size, 0, none⟩ 1 1 [.int .i64 (s : Int)] (by rfl) rfl (World.news_of_block (heap_alloc_new w3 _)) (by simp [Value.oneCell']) (by omega) (by unfold maxLen; omega) (by omega) (by simp; omega) (w3.heap.size + 1) (by simp) ?_; intro g' cap' w4 hown hgrow hat hlt'; have hfar := HP3.out.far hgrow; have hc3 := hfar.1; have hf3 := hfar.2; clear hfar)
        go_roundw
        case rel =>
          have h := HP3.out.pushed hown hgrow
          rw [← HE.out] at h
          exact ⟨s + 1, .slice (some ⟨g', 0, none⟩) ((setsTo rows 0 s).length + 1) cap', by omega, by omega, by go_num, h⟩
        case measure => simp [intOf]; omega
      · have q1 : ((c : Int) == (s : Int)) = false := by rw [beq_eq_false_iff_ne]; omega
        have q2 : (c == s) = false := by rw [beq_eq_false_iff_ne]; exact hcs
        have HE := Lib.hid (setsTo_no (rows := rows) (k := 0) (m := s) (by rw [← HCC.out]; exact hcs))
        clear hcs
        go_wp2_with (go_at_call 45; refine HCALL.out.mono ?_; clear HCALL; rintro e w3 ⟨rfl, hb3⟩; have HP3 := Lib.hid (HP2.out.step hb3); clear hb3)
        go_roundw
        case rel => exact ⟨s + 1, _, by omega, by omega, by go_num, by rw [HE.out]; exact HP3.out⟩
        case measure => simp [intOf]; omega
    · obtain rfl : s = M := by omega
      have hsz : decide (1 ≤ (s : Int) ∧ (s : Int) < (s : Int)) = false := decide_eq_false (by omega)
      have hcall := HIS.out v (s : Int) wr
      rw [hsz] at hcall
      have HCALL := Lib.hid hcall
      clear hcall hsz
      have HW := Lib.hid (HBA.out.trans (HBD.out.mono HBA.out.size))
      go_upto_region 10 with (first | (refine wpList_load_row rfl 45 (.tmp 7) rfl pb rfl 45 #[.int .i64 ((n : Nat) : Int), v, (.func (.func 45) #[] #[.pointer (some ⟨w.heap.size + 1, 0, none⟩), .pointer (some ⟨sb, 0, none⟩)]), (.func (.func 46) #[] #[.pointer (some ⟨w.heap.size + 1, 0, none⟩), .pointer (some ⟨sb, 0, none⟩)])] (0, 0) _ hblk hup rfl hip ?_) | (go_at_call 47; refine HCALL.out.mono ?_; clear HCALL; rintro e w2 ⟨rfl, hb2⟩; have HP2 := Lib.hid (HP.out.step hb2); clear hb2))
      have hres : w2.heap[w.heap.size]? = some (.cells #[.int .i64 0, .slice none 0 0, .nilFunc, .nilFunc] 45 (0, 0)) := by
        have hlA := (Array.getElem?_eq_some_iff.1 HRA.out).1
        have hs1 := HBD.out.size
        rw [HP2.out.below.block _ (by omega), HBD.out.block _ hlA]
        exact HRA.out
      have hblk2 := HP2.out.blk
      have hld2 : pdCells n v (.func (.func 45) #[] #[.pointer (some ⟨w.heap.size + 1, 0, none⟩), .pointer (some ⟨sb, 0, none⟩)]) (.func (.func 46) #[] #[.pointer (some ⟨w.heap.size + 1, 0, none⟩), .pointer (some ⟨sb, 0, none⟩)]) = #[.int .i64 ((n : Nat) : Int), v, (.func (.func 45) #[] #[.pointer (some ⟨w.heap.size + 1, 0, none⟩), .pointer (some ⟨sb, 0, none⟩)]), (.func (.func 46) #[] #[.pointer (some ⟨w.heap.size + 1, 0, none⟩), .pointer (some ⟨sb, 0, none⟩)])] := rfl
      rw [hld2] at hblk2
      have hst := setRow_heap w2 w.heap.size _ #[.int .i64 ((n : Nat) : Int), v, (.func (.func 45) #[] #[.pointer (some ⟨w.heap.size + 1, 0, none⟩), .pointer (some ⟨sb, 0, none⟩)]), (.func (.func 46) #[] #[.pointer (some ⟨w.heap.size + 1, 0, none⟩), .pointer (some ⟨sb, 0, none⟩)])] _ _ hres
      have hv1 : v.oneCell' = true := by
        obtain ⟨_, ⟨rfl, _⟩ | ⟨_, _, _, rfl, _⟩⟩ := HP2.out.own
        · rfl
        · rfl
      have hone : (#[Value.int .i64 ((n : Nat) : Int), v, (.func (.func 45) #[] #[.pointer (some ⟨w.heap.size + 1, 0, none⟩), .pointer (some ⟨sb, 0, none⟩)]), (.func (.func 46) #[] #[.pointer (some ⟨w.heap.size + 1, 0, none⟩), .pointer (some ⟨sb, 0, none⟩)])]).all (·.oneCell') = true := by
        rw [Array.all_eq_true_iff_forall_mem]
        intro x hx
        simp only [List.mem_toArray, List.mem_cons, List.not_mem_nil, or_false] at hx
        rcases hx with rfl | rfl | rfl | rfl
        · rfl
        · exact hv1
        · rfl
        · rfl
      clear hv1
      have hlA : w.heap.size < wA.heap.size := (Array.getElem?_eq_some_iff.1 HRA.out).1
      have HRA2 := Lib.hid hlA
      clear hld2 hblk hlA
      go_wp2_with (first | (refine wpList_load_row rfl 45 (.tmp 7) rfl pb rfl 45 #[.int .i64 ((n : Nat) : Int), v, (.func (.func 45) #[] #[.pointer (some ⟨w.heap.size + 1, 0, none⟩), .pointer (some ⟨sb, 0, none⟩)]), (.func (.func 46) #[] #[.pointer (some ⟨w.heap.size + 1, 0, none⟩), .pointer (some ⟨sb, 0, none⟩)])] (0, 0) _ hblk2 hup rfl hip ?_) | (refine wpList_store_row rfl 45 (.tmp 2) (.tmp 39) rfl w.heap.size #[.int .i64 ((n : Nat) : Int), v, (.func (.func 45) #[] #[.pointer (some ⟨w.heap.size + 1, 0, none⟩), .pointer (some ⟨sb, 0, none⟩)]), (.func (.func 46) #[] #[.pointer (some ⟨w.heap.size + 1, 0, none⟩), .pointer (some ⟨sb, 0, none⟩)])] rfl rfl 45 #[.int .i64 0, .slice none 0 0, .nilFunc, .nilFunc] hres hip rfl hone ?_))
      refine bodyPost_ret (v := pwV n v 45 46 (w.heap.size + 1) sb) (results_cell_row rfl _ _ w.heap.size 45 _ (0, 0) _ rfl hst hup rfl hip) rfl ?_
      have hwd := HBD.out.size
      have hw2 := HP2.out.below.size
      have hra := HRA2.out
      have hsz := HSZ.out
      have hsb := HSB.out
      have hoth : ∀ b, wA.heap.size ≤ b → b < wd.heap.size → (w2.setRow w.heap.size #[.int .i64 ((n : Nat) : Int), v, (.func (.func 45) #[] #[.pointer (some ⟨w.heap.size + 1, 0, none⟩), .pointer (some ⟨sb, 0, none⟩)]), (.func (.func 46) #[] #[.pointer (some ⟨w.heap.size + 1, 0, none⟩), .pointer (some ⟨sb, 0, none⟩)])]).heap[b]? = wd.heap[b]? := fun b h1 h2 => (setRow_other w2 w.heap.size b _ (by omega)).trans (HP2.out.below.block b h2)
      have hown := OwnI.of_owns HP2.out.own (fun y hy => by
        obtain ⟨x, rfl, _, hx, _⟩ := setsTo_mem hy
        exact wf_int (by omega) (by omega)) (fun b e => (HP2.out.own.lt b e).2)
      rw [← HN.out]
      refine ⟨v, w.heap.size + 1, sb, rfl, ⟨G1, G2, a1, a2, C1, C2, ?_, ?_⟩, below_setRow' (HW.out.trans (HP2.out.below.mono (by omega))) (Nat.le_refl _) _⟩
      · have e : setsL rows 0 = setsTo rows 0 s := by
          unfold setsL
          rw [← HN.out, ← HM.out]
        rw [e]
        exact ((hown.wider (show w.heap.size ≤ wd.heap.size by omega) (Nat.le_refl _)).kept fun b eb => setRow_other w2 w.heap.size b _ (fun e2 => by
          have := (HP2.out.own.lt b eb).1
          omega)).wider (Nat.le_refl _) (by simp)
      · intro W' hb hz
        rw [size_setRow] at hb hz
        have hb' : ∀ b, wA.heap.size ≤ b → b < wd.heap.size → W'.heap[b]? = wd.heap[b]? := fun b h1 h2 => (hb b (by omega) (by omega)).trans (hoth b h1 h2)
        rw [← HN.out]
        exact ⟨HL2.out W' (fun b h1 h2 => hb' b h1 (by omega)) (by omega), (World.cell?_of_block (hb' sb hsb hsz)).trans HPM.out.sc⟩
end Go.Proofs.YtiaajegdaipdmaaDoor
