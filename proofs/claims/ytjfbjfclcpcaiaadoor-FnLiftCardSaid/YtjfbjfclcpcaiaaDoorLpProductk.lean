/- The law FnProduct: products go part by part. -/
import Derived.Test.YtjfbjfclcpcaiaaDoorKsk
import Derived.Test.YtjfbjfclcpcaiaaDoorDrXk
import Derived.Test.YtjfbjfclcpcaiaaDoorProdQk
import Derived.Test.YtjfbjfclcpcaiaaDoorPb24
import Derived.Test.YtjfbjfclcpcaiaaDoorPb33
import Derived.Test.YtjfbjfclcpcaiaaDoorPb22
import Derived.Test.YtjfbjfclcpcaiaaDoorPb21
namespace Go.Proofs.YtjfbjfclcpcaiaaDoor
open Go.RowKit Go.Deep Go.Shelf

theorem prod_all {rows rows' : Rows2} (h : prodOk rows rows' = true) : domB (prodL rows rows') = true ∧ (0 < rows.length ∧ 0 < rows'.length ∧ rows.length * rows'.length ≤ 200 ∧ (prodL rows rows').length = rows.length * rows'.length) ∧ heightB (prodL rows rows') = heightB rows + heightB rows' - 1 ∧
    (∀ x y : Nat, x < rows.length * rows'.length → y < rows.length * rows'.length → joinB (prodL rows rows') x y =
      if joinB rows ((x / rows'.length : Nat) : Int) ((y / rows'.length : Nat) : Int) < 0 ∨ joinB rows' ((x % rows'.length : Nat) : Int) ((y % rows'.length : Nat) : Int) < 0 then -1
      else joinB rows ((x / rows'.length : Nat) : Int) ((y / rows'.length : Nat) : Int) * (rows'.length : Int) + joinB rows' ((x % rows'.length : Nat) : Int) ((y % rows'.length : Nat) : Int)) := by
  obtain ⟨⟨hd, hd'⟩, hl⟩ := prod_parts h
  exact ⟨prod_dom h, ⟨(domB_iff.1 hd).1.len.1, (domB_iff.1 hd').1.len.1, hl, prod_len h⟩, prod_height h, fun x y hx hy => prod_join h hx hy⟩
theorem joinB_range {rows : Rows2} (h : Ok rows) (a b : Int) : -1 ≤ joinB rows a b ∧ joinB rows a b < 200 := by
  have hn := h.len
  rcases Int.lt_or_le (joinB rows a b) 0 with h0 | h0
  · unfold joinB at h0 ⊢
    by_cases hh : hasB rows a b = true
    · rw [if_pos hh] at h0 ⊢
      have := (joinI_bounds h (a := a.toNat) (by have := ((has_iff h a b).1 hh).1; omega) b.toNat).1
      omega
    · rw [if_neg hh]; omega
  · obtain ⟨i, j, c, _, _, hi, hj, hc, e⟩ := joinB_some h h0
    have := (joinI_bounds h hi j).2
    omega
theorem height_nat {rows : Rows2} (h : Ok rows) : ∃ k : Nat, heightB rows = (k : Int) ∧ k ≤ 200 := ⟨heightF rows, height_of h, by have := (fact_height h).2.1; have := h.len; omega⟩
theorem sum_wraps {h0 h1 : Nat} (l0 : h0 ≤ 200) (l1 : h1 ≤ 200) : (IntKind.i64.wrap ((h0 : Int) + (h1 : Int)) = (h0 : Int) + (h1 : Int) ∧ IntKind.i64.wrap ((h0 : Int) + (h1 : Int) - 1) = (h0 : Int) + (h1 : Int) - 1) ∧ wrap64 ((h0 : Int) + (h1 : Int)) = (h0 : Int) + (h1 : Int) ∧ wrap64 ((h0 : Int) + (h1 : Int) - 1) = (h0 : Int) + (h1 : Int) - 1 :=
  ⟨⟨IntWalk.i64_in _ (by omega), IntWalk.i64_in _ (by omega)⟩, IntWalk.wrap64_in _ (by omega), IntWalk.wrap64_in _ (by omega)⟩
theorem due_wraps {x y : Int} {n : Nat} (hx : -1 ≤ x ∧ x < 200) (hy : -1 ≤ y ∧ y < 200) (hn : n ≤ 200) : (IntKind.i64.wrap (x * (n : Int)) = x * (n : Int) ∧ IntKind.i64.wrap (x * (n : Int) + y) = x * (n : Int) + y) ∧ wrap64 (x * (n : Int)) = x * (n : Int) ∧ wrap64 (x * (n : Int) + y) = x * (n : Int) + y := by
  have h1 := Int.mul_le_mul_of_nonneg_right (show x ≤ 200 by omega) (show (0 : Int) ≤ (n : Int) by omega)
  have h2 := Int.mul_le_mul_of_nonneg_right hx.1 (show (0 : Int) ≤ (n : Int) by omega)
  generalize x * (n : Int) = z at h1 h2
  exact ⟨⟨IntWalk.i64_in _ (by omega), IntWalk.i64_in _ (by omega)⟩, IntWalk.wrap64_in _ (by omega), IntWalk.wrap64_in _ (by omega)⟩
theorem prod_short (rows rows' : Rows2) : (prodL rows rows').length ≤ 1048576 := by
  have := prod_bulk rows rows'
  unfold bulk at this
  omega

set_option maxRecDepth 100000 in
set_option maxHeartbeats 16000000 in
theorem lawProductP (v vm : Value) (w : World) (hv : CodeAt w.heap.size w v) (hvm : CodeAt w.heap.size w vm) (hT : Tab w) : Calls Tryd.prog 4 #[v, vm] w (SaysN true w) := by
  have hdraw := drawProd2_any v w hv
  obtain ⟨a, n, C, rfl, hnC, hCm, _⟩ := hv
  obtain ⟨am, nm, Cm, rfl, hnCm, hCmm, _⟩ := hvm
  unfold maxLen at hCm hCmm
  have HTT := Lib.hid hT
  clear hT
  by_cases hn : 1048576 < n
  · have hz : (1048576 : Int) < (n : Int) := by omega
    clear hdraw
    go_enter Tryd.func4, Tryd.ntmps4
    go_wp2
    go_ret
    exact ⟨rfl, Below.refl _ _⟩
  · have hz : ¬ (1048576 : Int) < (n : Int) := by omega
    by_cases hnm : 1048576 < nm
    · have hzm : (1048576 : Int) < (nm : Int) := by omega
      clear hdraw
      go_enter Tryd.func4, Tryd.ntmps4
      go_wp2
      go_ret
      exact ⟨rfl, Below.refl _ _⟩
    · have hzm : ¬ (1048576 : Int) < (nm : Int) := by omega
      go_enter Tryd.func4, Tryd.ntmps4
      go_upto_region 4 with (go_at_call 24; refine hdraw.mono ?_; clear hdraw; rintro e w1 ⟨r0, u0, r1, u1, rfl, hr0, hr1, hk0, hk1, hb⟩; obtain ⟨a0, C0, rfl⟩ := hr0.form; obtain ⟨a1, C1, rfl⟩ := hr1.form; have HBW := Lib.hid hb; have HR0 := Lib.hid hr0.at; have HR1 := Lib.hid hr1.at; clear hb hr0 hr1)
      have HB0 := Lib.hid (show bulk r0 ≤ 1048576 by omega)
      have HB1 := Lib.hid (show bulk r1 ≤ 1048576 by omega)
      clear hk0 hk1
      have H0 := Lib.hid ((((Ks.start w).step HBW.out).push (i := .ord (.slice a0 r0.length C0) r0) HR0.out).push (i := .ord (.slice a1 r1.length C1) r1) HR1.out)
      have HX0 := Lib.hid (H0.out.box (H0.out.ord 1 rfl))
      have HX1 := Lib.hid (HX0.out.box (HX0.out.ord 1 rfl))
      have H1 : Hid (Ks w [.box (w1.heap.size + 1) (.slice a1 r1.length C1) r1, .box (w1.heap.size) (.slice a0 r0.length C0) r0, .ord (.slice a1 r1.length C1) r1, .ord (.slice a0 r0.length C0) r0] ((w1.alloc (.cells #[.slice a0 r0.length C0] 25)).alloc (.cells #[.slice a1 r1.length C1] 25))) := Lib.hid (by have h := HX1.out; (try simp only [World.size_alloc] at h); exact h)
      clear H0 HX0 HX1 HR0 HR1 HBW
      generalize ((w1.alloc (.cells #[.slice a0 r0.length C0] 25)).alloc (.cells #[.slice a1 r1.length C1] 25)) = W1 at H1 ⊢
      generalize w1.heap.size = B at H1 ⊢
      have hc0 := H1.out.cell 1 rfl
      have hc1 := H1.out.cell 0 rfl
      have hci := implProd_any (.slice a0 r0.length C0) (.slice a1 r1.length C1) r0 r1 W1 (H1.out.rows 1 rfl) (H1.out.rows 0 rfl) (HTT.out.below H1.out.below) HB0.out HB1.out
      go_upto_region 5 with (go_at_call 25; refine hci.mono ?_; clear hci; rintro e W2 ⟨v2, rfl, ho, hb⟩; have H2 := Lib.hid ((H1.out.step hb).box ho.at); obtain ⟨a2L, C2L, rfl⟩ := ho.form; clear ho hb)
      generalize W2.alloc (.cells #[.slice a2L (prodL r0 r1).length C2L] 25) = W2b at H2 ⊢
      generalize W2.heap.size = bo2 at H2 ⊢
      clear hc0 hc1
      have hc0 := H2.out.cell 2 rfl
      have hc1 := H2.out.cell 1 rfl
      have hcs := specProd_any (.slice a0 r0.length C0) (.slice a1 r1.length C1) r0 r1 W2b (H2.out.rows 2 rfl) (H2.out.rows 1 rfl) HB0.out HB1.out
      go_upto_region 6 with (go_at_call 26; refine hcs.mono ?_; clear hcs; rintro e W3 ⟨v3, rfl, ho, hb⟩; have H3 := Lib.hid ((H2.out.step hb).box ho.at); obtain ⟨a3L, C3L, rfl⟩ := ho.form; clear ho hb)
      generalize W3.alloc (.cells #[.slice a3L (prodL r0 r1).length C3L] 25) = W3b at H3 ⊢
      generalize W3.heap.size = bo3 at H3 ⊢
      clear hc0 hc1
      clear H1 H2
      have hco2 := H3.out.cell 1 rfl
      have hco3 := H3.out.cell 0 rfl
      have HFACT := Lib.hid (prod_all (rows := r0) (rows' := r1))
      have HRES0 := Lib.hid (show (prodL r0 r1).length ≤ 1048576 by exact prod_short r0 r1)
      have hres0 := HRES0.out
      cases hq : prodOk r0 r1 with
      | false =>
        clear HFACT hq
        go_wp2_with (first | (go_at_call 19; refine (sameOrderP_self (.slice a2L _ C2L) (.slice a3L _ C3L) (prodL r0 r1) _ (H3.out.rows 1 rfl) (H3.out.rows 0 rfl)).mono ?_; rintro e W4 ⟨rfl, hb⟩; have H4 := Lib.hid (H3.out.step hb); have hco2 := H4.out.cell 1 rfl; have hco3 := H4.out.cell 0 rfl; clear hb H3) | (go_at_call 19; refine (sameOrderP_self (.slice a2L _ C2L) (.slice a3L _ C3L) (prodL r0 r1) _ (H4.out.rows 1 rfl) (H4.out.rows 0 rfl)).mono ?_; rintro e W5 ⟨rfl, hb⟩; have H5 := Lib.hid (H4.out.step hb); have hco2 := H5.out.cell 1 rfl; have hco3 := H5.out.cell 0 rfl; clear hb H4))
        go_ret
        exact ⟨rfl, H5.out.below⟩
      | true =>
        obtain ⟨f1, ⟨n0, n1, n2, f2⟩, f3, f4⟩ := HFACT.out hq
        have HBL := Lib.hid (prod_bulk r0 r1)
        have F1 := Lib.hid f1
        have F3 := Lib.hid f3
        have F4 := Lib.hid f4
        have HOK := Lib.hid (show Ok r0 ∧ Ok r1 by
          obtain ⟨⟨hd, hd'⟩, _⟩ := prod_parts hq
          exact ⟨(domB_iff.1 hd).1, (domB_iff.1 hd').1⟩)
        have HN := Lib.hid (And.intro n0 (And.intro n1 n2))
        clear HFACT hq f1 f3 f4
        generalize hL : prodL r0 r1 = L at H3 HRES0 hres0 F1 F3 F4 f2 hco2 hco3 HBL ⊢
        clear hL
        obtain ⟨N, hN⟩ : ∃ N, N = r0.length * r1.length := ⟨_, rfl⟩
        rw [← hN] at f2
        have hNp : 0 < N := by rw [hN]; exact Nat.mul_pos n0 n1
        have HNN := Lib.hid hN
        have hNe : ((N : Int) == 0) = false := by rw [beq_eq_false_iff_ne]; omega
        rw [f2] at H3 hco2 hco3 ⊢
        have hN2 : N ≤ 200 := by rw [hN]; exact n2
        clear hN f2 n0 n1 n2
        go_upto_region 8 with (go_at_call 19; refine (sameOrderP_self (.slice a2L _ C2L) (.slice a3L _ C3L) (L) _ (H3.out.rows 1 rfl) (H3.out.rows 0 rfl)).mono ?_; rintro e W4 ⟨rfl, hb⟩; have H4 := Lib.hid (H3.out.step hb); have hco2 := H4.out.cell 1 rfl; have hco3 := H4.out.cell 0 rfl; clear hb H3)
        clear hco3
        have hc1 := (H4.out.cell 2 rfl)
        go_upto_region 11 with fail
        have hn1 : 0 < r1.length := HN.out.2.1
        have hn1e : ((r1.length : Int) == 0) = false := by rw [beq_eq_false_iff_ne]; omega
        obtain ⟨x, hx, hxN⟩ : ∃ x : Nat, (nm : Int) % (N : Int) = (x : Int) ∧ x < N := ⟨nm % N, by simp, Nat.mod_lt _ hNp⟩
        obtain ⟨y, hy, hyN⟩ : ∃ y : Nat, (nm : Int) * 7 % (N : Int) = (y : Int) ∧ y < N := ⟨nm * 7 % N, by simp, Nat.mod_lt _ hNp⟩
        rw [hx, hy]
        clear hx hy
        have hJ := F4.out x y (by rw [← HNN.out]; exact hxN) (by rw [← HNN.out]; exact hyN)
        have hdv : ∀ z : Nat, z < N → wrap64 ((z : Int) / (r1.length : Int)) = ((z / r1.length : Nat) : Int) ∧ (z : Int) % (r1.length : Int) = ((z % r1.length : Nat) : Int) := fun z hz => by
          have h1 : (z : Int) / (r1.length : Int) = ((z / r1.length : Nat) : Int) := by simp
          have h2 := Nat.div_le_self z r1.length
          refine ⟨?_, by simp⟩
          rw [h1]
          generalize z / r1.length = q at h2
          exact IntWalk.wrap64_in (q : Int) (by omega)
        obtain ⟨ex1, ex2⟩ := hdv x hxN
        obtain ⟨ey1, ey2⟩ := hdv y hyN
        have hbx := joinB_range HOK.out.1 ((x / r1.length : Nat) : Int) ((y / r1.length : Nat) : Int)
        have hby := joinB_range HOK.out.2 ((x % r1.length : Nat) : Int) ((y % r1.length : Nat) : Int)
        have HX := fun W (h : Ks w [.box bo3 (.slice a3L N C3L) (L), .box bo2 (.slice a2L N C2L) (L), .box (B + 1) (.slice a1 r1.length C1) r1, .box (B) (.slice a0 r0.length C0) r0, .ord (.slice a1 r1.length C1) r1, .ord (.slice a0 r0.length C0) r0] W) => implJoin_any (.slice a0 r0.length C0) r0 ((x / r1.length : Nat) : Int) ((y / r1.length : Nat) : Int) W (h.rows 3 rfl) (HTT.out.below h.below) HB0.out
        have HY := fun W (h : Ks w [.box bo3 (.slice a3L N C3L) (L), .box bo2 (.slice a2L N C2L) (L), .box (B + 1) (.slice a1 r1.length C1) r1, .box (B) (.slice a0 r0.length C0) r0, .ord (.slice a1 r1.length C1) r1, .ord (.slice a0 r0.length C0) r0] W) => implJoin_any (.slice a1 r1.length C1) r1 ((x % r1.length : Nat) : Int) ((y % r1.length : Nat) : Int) W (h.rows 2 rfl) (HTT.out.below h.below) HB1.out
        have HOJ := fun W (h : Ks w [.box bo3 (.slice a3L N C3L) (L), .box bo2 (.slice a2L N C2L) (L), .box (B + 1) (.slice a1 r1.length C1) r1, .box (B) (.slice a0 r0.length C0) r0, .ord (.slice a1 r1.length C1) r1, .ord (.slice a0 r0.length C0) r0] W) => implJoin_any (.slice a2L N C2L) L (x : Int) (y : Int) W (h.rows 1 rfl) (HTT.out.below h.below) HBL.out
        rw [hJ] at HOJ
        generalize ((x / r1.length : Nat) : Int) = xq at ex1 hbx HX HOJ
        generalize ((y / r1.length : Nat) : Int) = yq at ey1 hbx HX HOJ
        generalize ((x % r1.length : Nat) : Int) = xr at ex2 hby HY HOJ
        generalize ((y % r1.length : Nat) : Int) = yr at ey2 hby HY HOJ
        generalize joinB r0 xq yq = jx at hbx HX HOJ
        generalize joinB r1 xr yr = jy at hby HY HOJ
        clear hJ hdv
        have hq0 := fun d os => cell_regrown (H4.out.cell 3 rfl) d os
        have hcX := fun d os => Calls.regrown_of (d := d) (os := os) (HX _ (H4.out.step (below_regrown W4 d os)))
        refine wp_region_quiet_below (by kernel_rfl) (by kernel_rfl) ?_
        repeat (first | go_big_quiet_step (first | (go_at_call 27; exact hcX _ _)))
        refine wpQuiet_nil ?_
        intro _ hw'
        obtain ⟨⟨dq, osq⟩, hw''⟩ := hw'
        subst hw''
        have H5 := Lib.hid (H4.out.step (below_regrown W4 dq osq))
        clear hcX hq0 HX H4 hco2 hc1
        generalize «Sort».grow (redrawn W4 dq) osq = W5 at H5 ⊢
        have hq0 := fun d os => cell_regrown (H5.out.cell 2 rfl) d os
        have hcY := fun d os => Calls.regrown_of (d := d) (os := os) (HY _ (H5.out.step (below_regrown W5 d os)))
        go_upto_region 12 with fail
        refine wp_region_quiet_below (by kernel_rfl) (by kernel_rfl) ?_
        repeat (first | go_big_quiet_step (first | (go_at_call 27; exact hcY _ _)))
        refine wpQuiet_nil ?_
        intro _ hw'
        obtain ⟨⟨dq, osq⟩, hw''⟩ := hw'
        subst hw''
        have H6 := Lib.hid (H5.out.step (below_regrown W5 dq osq))
        clear hcY hq0 HY H5
        generalize «Sort».grow (redrawn W5 dq) osq = W6 at H6 ⊢
        obtain ⟨h0, e0, l0⟩ := height_nat HOK.out.1
        obtain ⟨h1, e1, l1⟩ := height_nat HOK.out.2
        have hq0 := fun d os => cell_regrown (H6.out.cell 3 rfl) d os
        have hq1 := fun d os => cell_regrown (H6.out.cell 2 rfl) d os
        have hq2 := fun d os => cell_regrown (H6.out.cell 1 rfl) d os
        have hst := fun d os => H6.out.step (below_regrown W6 d os)
        have hcD := fun d os => Calls.regrown_of (d := d) (os := os) (implDom_any (.slice a2L N C2L) L _ ((hst d os).rows 1 rfl) (HTT.out.below (hst d os).below) HBL.out)
        have hcJ := fun d os => Calls.regrown_of (d := d) (os := os) (HOJ _ (hst d os))
        have hcH := fun d os => Calls.regrown_of (d := d) (os := os) (implHeight_any (.slice a2L N C2L) L _ ((hst d os).rows 1 rfl) (HTT.out.below (hst d os).below) HBL.out)
        have hcH0 := fun d os => Calls.regrown_of (d := d) (os := os) (implHeight_any (.slice a0 r0.length C0) r0 _ ((hst d os).rows 3 rfl) (HTT.out.below (hst d os).below) HB0.out)
        have hcH1 := fun d os => Calls.regrown_of (d := d) (os := os) (implHeight_any (.slice a1 r1.length C1) r1 _ ((hst d os).rows 2 rfl) (HTT.out.below (hst d os).below) HB1.out)
        simp only [F1.out] at hcD
        simp only [F3.out, e0, e1] at hcH
        simp only [e0] at hcH0
        simp only [e1] at hcH1
        clear HOJ hst e0 e1 ex1 ex2 ey1 ey2 hn1e
        obtain ⟨⟨hw1, hw2⟩, hw3, hw4⟩ := sum_wraps l0 l1
        have hrl : r1.length ≤ 200 := by
          have h1 := HN.out.2.2
          have h2 := HN.out.1
          have h3 := Nat.mul_le_mul_right r1.length (show 1 ≤ r0.length from h2)
          omega
        obtain ⟨⟨hv1, hv2⟩, hv3, hv4⟩ := due_wraps hbx hby hrl
        clear hbx hby hrl
        by_cases hxy : jx < 0 ∨ jy < 0
        · simp only [if_pos hxy] at hcJ
          clear hv1 hv2 hv3 hv4
          by_cases hx0 : jx < 0
          · clear hxy
            go_upto_region 16 with fail
            refine wp_region_quiet_below (by kernel_rfl) (by kernel_rfl) ?_
            repeat (first | rw [beq_self_eq_true] | rw [Bool.not_true] | rw [Bool.not_false] | go_big_quiet_step (first | (go_at_call_of 21 (#[Value.agg #[Value.slice a2L N C2L]]); exact hcD _ _) | (go_at_call_of 27 (#[Value.agg #[Value.slice a2L N C2L], Value.int .i64 (x : Int), Value.int .i64 (y : Int)]); exact hcJ _ _) | (go_at_call_of 22 (#[Value.agg #[Value.slice a2L N C2L]]); exact hcH _ _) | (go_at_call_of 22 (#[Value.agg #[Value.slice a0 r0.length C0]]); exact hcH0 _ _) | (go_at_call_of 22 (#[Value.agg #[Value.slice a1 r1.length C1]]); exact hcH1 _ _)))
            refine wpQuiet_nil ?_
            intro _ hw'
            obtain ⟨⟨dq, osq⟩, hw''⟩ := hw'
            subst hw''
            clear hcD hcJ hcH hcH0 hcH1 hq0 hq1 hq2
            go_wp2
            go_ret
            exact ⟨rfl, (H6.out.step (below_regrown W6 dq osq)).below⟩
          · have hy0 : jy < 0 := by omega
            clear hxy
            go_upto_region 16 with fail
            refine wp_region_quiet_below (by kernel_rfl) (by kernel_rfl) ?_
            repeat (first | rw [beq_self_eq_true] | rw [Bool.not_true] | rw [Bool.not_false] | go_big_quiet_step (first | (go_at_call_of 21 (#[Value.agg #[Value.slice a2L N C2L]]); exact hcD _ _) | (go_at_call_of 27 (#[Value.agg #[Value.slice a2L N C2L], Value.int .i64 (x : Int), Value.int .i64 (y : Int)]); exact hcJ _ _) | (go_at_call_of 22 (#[Value.agg #[Value.slice a2L N C2L]]); exact hcH _ _) | (go_at_call_of 22 (#[Value.agg #[Value.slice a0 r0.length C0]]); exact hcH0 _ _) | (go_at_call_of 22 (#[Value.agg #[Value.slice a1 r1.length C1]]); exact hcH1 _ _)))
            refine wpQuiet_nil ?_
            intro _ hw'
            obtain ⟨⟨dq, osq⟩, hw''⟩ := hw'
            subst hw''
            clear hcD hcJ hcH hcH0 hcH1 hq0 hq1 hq2
            go_wp2
            go_ret
            exact ⟨rfl, (H6.out.step (below_regrown W6 dq osq)).below⟩
        · simp only [if_neg hxy] at hcJ
          have hx0 : ¬ jx < 0 := fun h => hxy (.inl h)
          have hy0 : ¬ jy < 0 := fun h => hxy (.inr h)
          clear hxy
          go_upto_region 16 with fail
          refine wp_region_quiet_below (by kernel_rfl) (by kernel_rfl) ?_
          repeat (first | rw [beq_self_eq_true] | rw [Bool.not_true] | rw [Bool.not_false] | go_big_quiet_step (first | (go_at_call_of 21 (#[Value.agg #[Value.slice a2L N C2L]]); exact hcD _ _) | (go_at_call_of 27 (#[Value.agg #[Value.slice a2L N C2L], Value.int .i64 (x : Int), Value.int .i64 (y : Int)]); exact hcJ _ _) | (go_at_call_of 22 (#[Value.agg #[Value.slice a2L N C2L]]); exact hcH _ _) | (go_at_call_of 22 (#[Value.agg #[Value.slice a0 r0.length C0]]); exact hcH0 _ _) | (go_at_call_of 22 (#[Value.agg #[Value.slice a1 r1.length C1]]); exact hcH1 _ _)))
          refine wpQuiet_nil ?_
          intro _ hw'
          obtain ⟨⟨dq, osq⟩, hw''⟩ := hw'
          subst hw''
          clear hcD hcJ hcH hcH0 hcH1 hq0 hq1 hq2
          go_wp2
          go_ret
          exact ⟨rfl, (H6.out.step (below_regrown W6 dq osq)).below⟩
end Go.Proofs.YtjfbjfclcpcaiaaDoor
