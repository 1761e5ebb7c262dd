/- The law FnCut: what is below an element has joins. -/
import Derived.Test.YtjfbjfclcpcaiaaDoorKsk
import Derived.Test.YtjfbjfclcpcaiaaDoorDrXk
import Derived.Test.YtjfbjfclcpcaiaaDoorSumQk
import Derived.Test.YtjfbjfclcpcaiaaDoorPb24
import Derived.Test.YtjfbjfclcpcaiaaDoorPb21
import Derived.Test.YtjfbjfclcpcaiaaDoorPb22
namespace Go.Proofs.YtjfbjfclcpcaiaaDoor
open Go.RowKit Go.Deep Go.Shelf

theorem ok_bulk {rows : Rows2} (h : Ok rows) : bulk rows ≤ 1048576 := by
  have hn := h.len
  have h1 : ∀ l : List (List Int), (∀ x ∈ l, x.length ≤ 200) → (l.map List.length).sum ≤ l.length * 200 := by
    intro l
    induction l with
    | nil => intro _; simp
    | cons y l ih =>
      intro hx
      have := ih fun x hx' => hx x (by simp [hx'])
      have := hx y (by simp)
      simp only [List.map_cons, List.sum_cons, List.length_cons]
      omega
  have h2 := h1 rows fun x hx => by
    obtain ⟨i, hi, rfl⟩ := List.getElem_of_mem hx
    have h3 : rows[i].length = (elems (gridF rows i)).length := by
      have e := congrArg List.length (h.elems hi)
      rw [List.length_map] at e
      exact e
    have h4 := List.Nodup.length_le_of_subset (l₁ := elems (gridF rows i)) (l₂ := List.range rows.length) ((elems_pairwise _).imp fun hab => Nat.ne_of_lt hab) (fun x hx => List.mem_range.2 (h.bit_lt ((mem_elems (h.lt i)).1 hx)).2)
    rw [List.length_range] at h4
    omega
  unfold bulk
  omega
theorem cut_short (rows : Rows2) (top : Int) : (cutL rows top).length ≤ 1048576 := by
  have := cut_bulk rows top
  unfold bulk at this
  omega

set_option maxRecDepth 100000 in
set_option maxHeartbeats 16000000 in
theorem lawCutP (v : Value) (w : World) (hv : CodeAt w.heap.size w v) (hT : Tab w) : Calls Tryd.prog 6 #[v] w (SaysN true w) := by
  have hdraw := drawCut_any v w hv
  obtain ⟨a, n, C, rfl, hnC, hCm, _⟩ := hv
  unfold maxLen at hCm
  have HTT := Lib.hid hT
  clear hT
  by_cases hn : 1048576 < n
  · have hz : (1048576 : Int) < (n : Int) := by omega
    clear hdraw
    go_enter Tryd.func6, Tryd.ntmps6
    go_wp2
    go_ret
    exact ⟨rfl, Below.refl _ _⟩
  · have hz : ¬ (1048576 : Int) < (n : Int) := by omega
    go_enter Tryd.func6, Tryd.ntmps6
    go_upto_region 4 with (go_at_call 32; refine hdraw.mono ?_; clear hdraw; rintro e w1 ⟨r0, u0, z1, rfl, hr0, hk0, hb⟩; obtain ⟨a0, C0, rfl⟩ := hr0.form; have HBW := Lib.hid hb; have HR0 := Lib.hid hr0.at; clear hb hr0)
    have HB0 := Lib.hid (show bulk r0 ≤ 1048576 by omega)
    clear hk0
    have H0 := Lib.hid (((Ks.start w).step HBW.out).push (i := .ord (.slice a0 r0.length C0) r0) HR0.out)
    have HX0 := Lib.hid (H0.out.box (H0.out.ord 0 rfl))
    have H1 : Hid (Ks w [.box (w1.heap.size) (.slice a0 r0.length C0) r0, .ord (.slice a0 r0.length C0) r0] (w1.alloc (.cells #[.slice a0 r0.length C0] 25))) := Lib.hid (by have h := HX0.out; (try simp only [World.size_alloc] at h); exact h)
    clear H0 HX0 HR0 HBW
    generalize (w1.alloc (.cells #[.slice a0 r0.length C0] 25)) = W1 at H1 ⊢
    generalize w1.heap.size = B at H1 ⊢
    have hc0 := H1.out.cell 0 rfl
    have hci := implCut_any (.slice a0 r0.length C0) r0 z1 W1 (H1.out.rows 0 rfl) (HTT.out.below H1.out.below) HB0.out
    go_upto_region 5 with (go_at_call 33; refine hci.mono ?_; clear hci; rintro e W2 ⟨v2, rfl, ho, hb⟩; have H2 := Lib.hid ((H1.out.step hb).box ho.at); obtain ⟨a2L, C2L, rfl⟩ := ho.form; clear ho hb)
    generalize W2.alloc (.cells #[.slice a2L (cutL r0 z1).length C2L] 25) = W2b at H2 ⊢
    generalize W2.heap.size = bo2 at H2 ⊢
    clear hc0
    have hc0 := H2.out.cell 1 rfl
    have hcs := specCut_any (.slice a0 r0.length C0) r0 z1 W2b (H2.out.rows 1 rfl) HB0.out
    go_upto_region 6 with (go_at_call 34; refine hcs.mono ?_; clear hcs; rintro e W3 ⟨v3, rfl, ho, hb⟩; have H3 := Lib.hid ((H2.out.step hb).box ho.at); obtain ⟨a3L, C3L, rfl⟩ := ho.form; clear ho hb)
    generalize W3.alloc (.cells #[.slice a3L (cutL r0 z1).length C3L] 25) = W3b at H3 ⊢
    generalize W3.heap.size = bo3 at H3 ⊢
    clear hc0
    clear H1 H2
    have hco2 := H3.out.cell 1 rfl
    have hco3 := H3.out.cell 0 rfl
    have HFACT := Lib.hid (fact_cut (rows := r0) (top := z1))
    have HRES0 := Lib.hid (show (cutL r0 z1).length ≤ 1048576 by exact cut_short r0 z1)
    have hres0 := HRES0.out
    cases hq : cutOk r0 z1 with
    | false =>
      clear HFACT hq
      go_wp2_with (first | (go_at_call 19; refine (sameOrderP_self (.slice a2L _ C2L) (.slice a3L _ C3L) (cutL r0 z1) _ (H3.out.rows 1 rfl) (H3.out.rows 0 rfl)).mono ?_; rintro e W4 ⟨rfl, hb⟩; have H4 := Lib.hid (H3.out.step hb); have hco2 := H4.out.cell 1 rfl; have hco3 := H4.out.cell 0 rfl; clear hb H3) | (go_at_call 19; refine (sameOrderP_self (.slice a2L _ C2L) (.slice a3L _ C3L) (cutL r0 z1) _ (H4.out.rows 1 rfl) (H4.out.rows 0 rfl)).mono ?_; rintro e W5 ⟨rfl, hb⟩; have H5 := Lib.hid (H4.out.step hb); have hco2 := H5.out.cell 1 rfl; have hco3 := H5.out.cell 0 rfl; clear hb H4))
      go_ret
      exact ⟨rfl, H5.out.below⟩
    | true =>
      obtain ⟨f1, f2, f3, f4⟩ := HFACT.out hq
      have HBL := Lib.hid (cut_bulk r0 z1)
      have HBB := Lib.hid (ok_bulk (ok_of_valid f3).back)
      have F1 := Lib.hid f1
      have F2 := Lib.hid f2
      have F3 := Lib.hid f3
      have F4 := Lib.hid f4
      clear HFACT hq f1 f2 f3 f4
      generalize hL : cutL r0 z1 = L at H3 HRES0 hres0 F1 F2 F3 F4 hco2 hco3 HBL HBB ⊢
      clear hL
      obtain ⟨N, hN⟩ : ∃ N, L.length = N := ⟨_, rfl⟩
      have HLN := Lib.hid hN
      rw [hN] at H3 F1 hres0 hco2 hco3 ⊢
      clear hN
      go_upto_region 8 with (go_at_call 19; refine (sameOrderP_self (.slice a2L _ C2L) (.slice a3L _ C3L) (L) _ (H3.out.rows 1 rfl) (H3.out.rows 0 rfl)).mono ?_; rintro e W4 ⟨rfl, hb⟩; have H4 := Lib.hid (H3.out.step hb); have hco2 := H4.out.cell 1 rfl; have hco3 := H4.out.cell 0 rfl; clear hb H3)
      clear hco3
      go_wp2
      go_loopw [10] (fun iv wr => ∃ i : Nat, i ≤ N ∧ iv = .int .i64 i ∧ Ks w [.box bo3 (.slice a3L N C3L) (L), .box bo2 (.slice a2L N C2L) (L), .box (B) (.slice a0 r0.length C0) r0, .ord (.slice a0 r0.length C0) r0] wr) (fun iv _ => N - (intOf iv).toNat)
      case atStart => exact ⟨0, Nat.zero_le _, rfl, H4.out⟩
      case round =>
        obtain ⟨i, hi, rfl, hh⟩ := hrel
        have HK := Lib.hid hh
        clear hh H4 hco2
        by_cases hlt : i < N
        · have hltz : (i : Int) < (N : Int) := by omega
          skip
          go_wp2
          go_loopw [11] (fun jv wr => ∃ j : Nat, j ≤ N ∧ jv = .int .i64 j ∧ Ks w [.box bo3 (.slice a3L N C3L) (L), .box bo2 (.slice a2L N C2L) (L), .box (B) (.slice a0 r0.length C0) r0, .ord (.slice a0 r0.length C0) r0] wr) (fun jv _ => N - (intOf jv).toNat)
          case atStart => exact ⟨0, Nat.zero_le _, rfl, HK.out⟩
          case round =>
            obtain ⟨j, hj, rfl, hh⟩ := hrel
            have HJ := Lib.hid hh
            clear hh HK
            by_cases hjl : j < N
            · have hjz : (j : Int) < (N : Int) := by omega
              have hco2 := (HJ.out.cell 1 rfl)
              have hcJ := implJoin_any (.slice a2L N C2L) L (i : Int) (j : Int) wr (HJ.out.rows 1 rfl) (HTT.out.below HJ.out.below) HBL.out
              have g := F1.out i j hlt hjl
              generalize joinB L (i : Int) (j : Int) = y at hcJ g
              have hd : ¬ y < 0 := by omega
              clear g
              go_wp2_with (go_at_call 27; refine hcJ.mono ?_; clear hcJ; rintro e w9 ⟨rfl, hb⟩; have H9 := Lib.hid (HJ.out.step hb); clear hb)
              go_roundw
              case rel => exact ⟨j + 1, by omega, by go_num, H9.out⟩
              case measure => simp [intOf]; omega
            · have hjz : ¬ (j : Int) < (N : Int) := by omega
              go_wp2
              go_roundw
              case rel => exact ⟨i + 1, by omega, by go_num, HJ.out⟩
              case measure => simp [intOf]; omega
        · have hltz : ¬ (i : Int) < (N : Int) := by omega
          have hco2 := (HK.out.cell 1 rfl)
          have hcB := implBack_any (.slice a2L N C2L) L wr (HK.out.rows 1 rfl) (HTT.out.below HK.out.below) HBL.out
          rw [F3.out, show backB L = backRows L by unfold backB; rw [if_pos F3.out]] at hcB
          have hbl : (backRows L).length = N := by rw [backRows_len]; exact HLN.out
          go_upto_region 18 with (go_at_call 35; refine hcB.mono ?_; clear hcB; rintro e w9 ⟨v9, rfl, ho, hb⟩; rw [hbl] at ho; have H9 := Lib.hid ((HK.out.step hb).box (rows := backRows L) (show RowsAt w9 v9 (backRows L) by rw [← hbl] at ho; exact ho.at)); obtain ⟨a9, C9, rfl⟩ := ho.form; clear ho hb)
          clear hco2 hbl
          generalize w9.alloc (.cells #[.slice a9 N C9] 25) = X9 at H9 ⊢
          generalize w9.heap.size = b9 at H9 ⊢
          have hco2 := (H9.out.cell 2 rfl)
          have hcD := implDom_any (.slice a2L N C2L) L X9 (H9.out.rows 2 rfl) (HTT.out.below H9.out.below) HBL.out
          rw [F2.out] at hcD
          have HLE := Lib.hid (fun W (h : RowsAt W (.slice a9 N C9) (backRows L)) (hT : Tab W) => implLeast_any (.slice a9 N C9) (backRows L) W h hT HBB.out)
          have hle := F4.out
          generalize leastB (backRows L) = y at HLE hle
          go_wp2_with (first | (go_at_call 21; refine hcD.mono ?_; clear hcD; rintro e w10 ⟨rfl, hb⟩; have H10 := Lib.hid (H9.out.step hb); have hc9 := (H10.out.cell 0 rfl); clear hb) | (go_at_call 23; refine (HLE.out w10 (H10.out.rows 0 rfl) (HTT.out.below H10.out.below)).mono ?_; rintro e w11 ⟨rfl, hb⟩; have H11 := Lib.hid (H10.out.step hb); clear hb))
          go_ret
          exact ⟨rfl, H11.out.below⟩
end Go.Proofs.YtjfbjfclcpcaiaaDoor
