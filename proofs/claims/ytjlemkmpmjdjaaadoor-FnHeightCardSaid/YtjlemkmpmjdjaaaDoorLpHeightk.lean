/- The law FnHeight: heights are told by covers. -/
import Derived.Test.YtjlemkmpmjdjaaaDoorPa29
import Derived.Test.YtjlemkmpmjdjaaaDoorPa23
import Derived.Test.YtjlemkmpmjdjaaaDoorImplHeightk
import Derived.Test.YtjlemkmpmjdjaaaDoorPa21
namespace Go.Proofs.YtjlemkmpmjdjaaaDoor
open Go.RowKit Go.Deep Go.Shelf

set_option maxRecDepth 100000 in
set_option maxHeartbeats 8000000 in
theorem lawHeight (v : Value) (w : World) (hv : CodeAt w.heap.size w v) (hT : Tab w) : Calls Tryd.prog 10 #[v] w (SaysN true w) := by
  have hdraw := drawHeight_any v w hv
  obtain ⟨a, n, C, rfl, hnC, hCm, _⟩ := hv
  unfold maxLen at hCm
  have HTT := Lib.hid hT
  clear hT
  by_cases hn : 1048576 < n
  · have hz : (1048576 : Int) < (n : Int) := by omega
    clear hdraw
    go_enter Tryd.func10, Tryd.ntmps10
    go_wp2
    go_ret
    exact ⟨rfl, Below.refl _ _⟩
  · have hz : ¬ (1048576 : Int) < (n : Int) := by omega
    go_enter Tryd.func10, Tryd.ntmps10
    go_upto_region 4 with (go_at_call 40; refine hdraw.mono ?_; clear hdraw; rintro e w1 ⟨rows, u, rfl, ho, hbk, hb⟩; have H1 := Lib.hid (HoldO.start ho.at hb); obtain ⟨au, Cu, rfl⟩ := ho.form; clear ho hb)
    generalize w1.alloc (.cells #[.slice au rows.length Cu] 25) = w2 at H1 ⊢
    generalize w1.heap.size = B at H1 ⊢
    have hbk2 : bulk rows ≤ 1048576 := by omega
    have HS := Lib.hid (fun W (h : HoldO w B (.slice au rows.length Cu) rows W) => specHeight_any _ rows W h.rows hbk2)
    have HC := Lib.hid (fun W (h : HoldO w B (.slice au rows.length Cu) rows W) => implCovers_any _ rows W h.rows (HTT.out.below h.below) hbk2)
    have hci := implHeight_any _ rows w2 H1.out.rows (HTT.out.below H1.out.below) hbk2
    have HLEN := Lib.hid (show rows.length ≤ 1048576 by unfold bulk at hbk2; omega)
    have hc1 := H1.out.box.cell
    have hcs := fun W h => HS.out W h
    have hcc := fun W h => HC.out W h
    unfold heightB at hci hcs
    clear HS HC
    by_cases hq : validB rows = true
    · rw [if_pos hq] at hci hcs
      have hok := ok_of_valid hq
      obtain ⟨f1, f2, f3⟩ := fact_height hok
      have hL : ∀ q, q < rows.length → rowsF (coverB rows) q = coversI rows q := fun q hq' => by
        have hl : q < (coverB rows).length := by unfold coverB; rw [if_pos hq]; simpa using hq'
        rw [rowsF_lt hl]
        unfold coverB
        simp [hq]
      have hLl : (coverB rows).length = rows.length := by unfold coverB; rw [if_pos hq]; simp
      have F3 : Hid (heightF rows = 1 ↔ ∀ i, i < rows.length → ¬ 0 < (rowsF (coverB rows) i).length) := Lib.hid (f3.trans ⟨fun h i hi => by rw [hL i hi, h i hi]; exact Nat.lt_irrefl 0, fun h i hi => by
        have := h i hi
        rw [hL i hi] at this
        exact List.length_eq_zero_iff.1 (by omega)⟩)
      have hcl : ∀ q, (rowsF (coverB rows) q).length ≤ 1048576 := fun q => by
        by_cases hq2 : q < rows.length
        · rw [hL q hq2]
          have := covN_le rows q rows[q].length
          rw [covN_done hq2] at this
          have := bulk_row hq2
          omega
        · unfold rowsF
          rw [List.getD_eq_getElem?_getD, List.getElem?_eq_none (by omega)]
          exact Nat.zero_le _
      rw [hq] at hcc
      have HLL := Lib.hid hLl
      have HCL := Lib.hid hcl
      generalize coverB rows = L at hcc F3 HLL HCL
      generalize heightF rows = H at hci hcs f1 f2 F3
      have hmm : ((H : Int) != (H : Int)) = false := bne_self_eq_false _
      have hnl : ¬ ((H : Int) < 0) := by omega
      clear f3 hq hok hL hLl hcl
      go_upto_region 10 with (first | (go_at_call 41; refine hci.mono ?_; clear hci; rintro e w3 ⟨rfl, hb⟩; have H2 := Lib.hid (H1.out.step hb); have hc2 := H2.out.box.cell; clear hb) | (go_at_call 42; refine (hcs w3 H2.out).mono ?_; clear hcs; rintro e w4 ⟨rfl, hb⟩; have H3 := Lib.hid (H2.out.step hb); have hc3 := H3.out.box.cell; clear hb) | (go_at_call 33; refine (hcc w4 H3.out).mono ?_; clear hcc; rintro e w5 ⟨u5, rfl, ho, hb⟩; rw [HLL.out] at ho; obtain ⟨a5, C5, rfl⟩ := ho.form; have H4 := Lib.hid (H3.out.step hb); have O4 := Lib.hid ho; clear hb ho))
      obtain ⟨wo, hwo⟩ : ∃ wo : World, wo = w5 := ⟨_, rfl⟩
      have R4 : Hid (∀ W, Below w5.heap.size w5 W → ∀ q (hq : q < rows.length), ∃ b o A1 C1, a5 = some ⟨b, o, none⟩ ∧ W.cell? ⟨b, o + q, none⟩ = some (.slice A1 (rowsF L q).length C1)) := Lib.hid (fun W hb q hq => by
        obtain hnil | ⟨g, C, f, e, k1, k2, k3, k4, k5, k6, k7⟩ := O4.out
        · have := hnil.2; omega
        · cases e
          obtain ⟨A1, C1, e1⟩ := (k6 q hq).form
          refine ⟨g, 0, A1, C1, rfl, ?_⟩
          rw [Nat.zero_add, hb.cell (p := ⟨g, q, none⟩) k5.lt, k5.cell (by omega), e1])
      go_wp2
      go_loopw [8, 9] (fun sv iv wr => ∃ (i : Nat) (s : Bool), i ≤ rows.length ∧ iv = .int .i64 i ∧ sv = .bool s ∧ (s = true ↔ ∃ q, q < i ∧ 0 < (rowsF L q).length) ∧ Below w5.heap.size w5 wr) (fun _ iv _ => rows.length - (intOf iv).toNat)
      case atStart => exact ⟨0, false, Nat.zero_le _, rfl, rfl, ⟨fun h => (by cases h), fun ⟨_, h, _⟩ => absurd h (Nat.not_lt_zero _)⟩, Below.refl _ _⟩
      case round =>
        obtain ⟨i, s, hi, rfl, rfl, hs, hb⟩ := hrel
        have HSS := Lib.hid hs
        have HBB := Lib.hid hb
        have HH := Lib.hid (H4.out.step hb)
        have hc5 := HH.out.box.cell
        have hl1 := HLEN.out
        clear hs hb hc1 hc2 hc3
        by_cases hlt : i < rows.length
        · have hltz : (i : Int) < (rows.length : Int) := by omega
          obtain ⟨b, o, A1, C1, rfl, hcr⟩ := R4.out wr HBB.out i hlt
          have HST := Lib.hid (show ∀ t : Bool, (t = true ↔ s = true ∨ 0 < (rowsF L i).length) → (t = true ↔ ∃ q, q < i + 1 ∧ 0 < (rowsF L q).length) from fun t ht => by
            rw [ht, HSS.out]
            constructor
            · rintro (⟨q, h1, h2⟩ | h)
              · exact ⟨q, by omega, h2⟩
              · exact ⟨i, by omega, h⟩
            · rintro ⟨q, h1, h2⟩
              by_cases e : q = i
              · subst e; exact .inr h2
              · exact .inl ⟨q, by omega, h2⟩)
          have hcl := HCL.out i
          generalize (rowsF L i).length = m at hcr HST hcl
          cases s with
          | true =>
            clear hcr
            go_wp2
            go_roundw
            case rel => exact ⟨i + 1, true, by omega, by go_num, rfl, HST.out true (by simp), HBB.out⟩
            case measure => simp [intOf]; omega
          | false =>
            by_cases hm : 0 < m
            · have hmz : (0 : Int) < (m : Int) := by omega
              have HM := Lib.hid hm
              go_wp2
              go_roundw
              case rel => exact ⟨i + 1, true, by omega, by go_num, rfl, HST.out true (by simp [HM.out]), HBB.out⟩
              case measure => simp [intOf]; omega
            · obtain rfl : m = 0 := by omega
              go_wp2
              go_roundw
              case rel => exact ⟨i + 1, false, by omega, by go_num, rfl, HST.out false (by simp), HBB.out⟩
              case measure => simp [intOf]; omega
        · obtain rfl : i = rows.length := by omega
          have hltz : ¬ (rows.length : Int) < (rows.length : Int) := by omega
          have hz1 : (1 : Int) ≤ (H : Int) := by omega
          have hz2 : (H : Int) ≤ (rows.length : Int) := by omega
          have hfin : ((H : Int) == 1) = !s := by
            rw [Bool.eq_iff_iff, beq_iff_eq]
            have h1 : (H : Int) = 1 ↔ H = 1 := by omega
            rw [h1, F3.out]
            cases s with
            | true =>
              obtain ⟨q, hq1, hq2⟩ := HSS.out.1 rfl
              exact ⟨fun h => absurd hq2 (h q hq1), fun h => by cases h⟩
            | false => exact ⟨fun _ => rfl, fun _ q hq1 hq2 => by have := HSS.out.2 ⟨q, hq1, hq2⟩; cases this⟩
          have hbb : ∀ t : Bool, (t == t) = true := fun t => by cases t <;> rfl
          cases s with
          | true =>
            have hf : ((H : Int) == 1) = false := hfin
            clear hfin
            go_wp2
            go_ret
            exact ⟨rfl, HH.out.below⟩
          | false =>
            have hf : ((H : Int) == 1) = true := hfin
            clear hfin
            go_wp2
            go_ret
            exact ⟨rfl, HH.out.below⟩
    · rw [if_neg hq] at hci hcs
      clear hcc hq
      go_wp2_with (first | (go_at_call 41; refine hci.mono ?_; clear hci; rintro e w3 ⟨rfl, hb⟩; have H2 := Lib.hid (H1.out.step hb); have hc2 := H2.out.box.cell; clear hb) | (go_at_call 42; refine (hcs w3 H2.out).mono ?_; clear hcs; rintro e w4 ⟨rfl, hb⟩; have H3 := Lib.hid (H2.out.step hb); clear hb))
      go_ret
      exact ⟨rfl, H3.out.below⟩
end Go.Proofs.YtjlemkmpmjdjaaaDoor
