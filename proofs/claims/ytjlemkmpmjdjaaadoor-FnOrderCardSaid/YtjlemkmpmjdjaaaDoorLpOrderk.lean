/- The law FnOrder: orders are told by OrderBelow. -/
import Derived.Test.YtjlemkmpmjdjaaaDoorPa29
import Derived.Test.YtjlemkmpmjdjaaaDoorPa23
import Derived.Test.YtjlemkmpmjdjaaaDoorPa13
namespace Go.Proofs.YtjlemkmpmjdjaaaDoor
open Go.RowKit Go.Deep Go.Shelf

set_option maxRecDepth 100000 in
set_option maxHeartbeats 8000000 in
theorem lawOrder (v : Value) (w : World) (hv : CodeAt w.heap.size w v) (hT : Tab w) : Calls Tryd.prog 3 #[v] w (SaysN true w) := by
  have hdraw := drawValid_any v w hv
  obtain ⟨a, n, C, rfl, hnC, hCm, _⟩ := hv
  unfold maxLen at hCm
  have HTT := Lib.hid hT
  clear hT
  by_cases hn : 1048576 < n
  · have hz : (1048576 : Int) < (n : Int) := by omega
    clear hdraw
    go_enter Tryd.func3, Tryd.ntmps3
    go_wp2
    go_ret
    exact ⟨rfl, Below.refl _ _⟩
  · have hz : ¬ (1048576 : Int) < (n : Int) := by omega
    go_enter Tryd.func3, Tryd.ntmps3
    go_upto_region 4 with (go_at_call 16; refine hdraw.mono ?_; clear hdraw; rintro e w1 ⟨rows, u, rfl, ho, hbk, hb⟩; have H1 := Lib.hid (HoldO.start ho.at hb); obtain ⟨au, Cu, rfl⟩ := ho.form; clear ho hb)
    generalize w1.alloc (.cells #[.slice au rows.length Cu] 25) = w2 at H1 ⊢
    generalize w1.heap.size = B at H1 ⊢
    have hbk2 : bulk rows ≤ 1048576 := by omega
    have HV := Lib.hid (fun W (h : HoldO w B (.slice au rows.length Cu) rows W) => implValid_any _ rows W h.rows (HTT.out.below h.below) hbk2)
    have HS := Lib.hid (fun W (h : HoldO w B (.slice au rows.length Cu) rows W) => specValid_any _ rows W h.rows hbk2)
    have HLEN := Lib.hid (show rows.length ≤ 1048576 by unfold bulk at hbk2; omega)
    have hc1 := H1.out.box.cell
    cases hq : validB rows with
    | false =>
      have hci := HV.out w2 H1.out
      have hcs := fun W h => HS.out W h
      rw [hq] at hci hcs
      clear hq HV HS
      go_wp2_with (first | (go_at_call 17; refine hci.mono ?_; clear hci; rintro e w3 ⟨rfl, hb⟩; have H2 := Lib.hid (H1.out.step hb); have hc2 := H2.out.box.cell; clear hb) | (go_at_call 18; refine (hcs w3 H2.out).mono ?_; clear hcs; rintro e w4 ⟨rfl, hb⟩; have H3 := Lib.hid (H2.out.step hb); clear hb))
      go_ret
      exact ⟨rfl, H3.out.below⟩
    | true =>
      have hok := ok_of_valid hq
      have hci := HV.out w2 H1.out
      have hcs := fun W h => HS.out W h
      rw [hq] at hci hcs
      have HB0 := Lib.hid (fun (i j : Nat) (hi : i < rows.length) (hj : j < rows.length) W (h : HoldO w B (.slice au rows.length Cu) rows W) => show Calls Tryd.prog 19 #[.agg #[.slice au rows.length Cu], .int .i64 (i : Int), .int .i64 (j : Int)] W (SaysN (decide ((j : Int) ∈ rows[i])) W) by
        have := implBelow_any _ rows i j W h.rows (HTT.out.below h.below) hbk2
        rw [below_at hok hi hj, show Lq rows i j = (gridF rows i).testBit j from rfl, hok.bit hi] at this
        exact this)
      have HASC := Lib.hid (fun i (hi : i < rows.length) => hok.asc i hi)
      have HLI := Lib.hid (fun i (hi : i < rows.length) => show rows[i].length ≤ 1048576 by have := bulk_row hi; omega)
      clear hq HV HS hok
      go_upto_region 8 with (first | (go_at_call 17; refine hci.mono ?_; clear hci; rintro e w3 ⟨rfl, hb⟩; have H2 := Lib.hid (H1.out.step hb); have hc2 := H2.out.box.cell; clear hb) | (go_at_call 18; refine (hcs w3 H2.out).mono ?_; clear hcs; rintro e w4 ⟨rfl, hb⟩; have H3 := Lib.hid (H2.out.step hb); have hc3 := H3.out.box.cell; clear hb))
      go_wp2
      go_loopw [6] (fun iv wr => ∃ i : Nat, i ≤ rows.length ∧ iv = .int .i64 i ∧ HoldO w B (.slice au rows.length Cu) rows wr) (fun iv _ => rows.length - (intOf iv).toNat)
      case atStart => exact ⟨0, Nat.zero_le _, rfl, H3.out⟩
      case round =>
        obtain ⟨i, hi, rfl, hh⟩ := hrel
        have HK := Lib.hid hh
        have hc4 := hh.box.cell
        have hl1 := HLEN.out
        clear hh H1 H2 H3 hc1 hc2 hc3
        by_cases hlt : i < rows.length
        · have hltz : (i : Int) < (rows.length : Int) := by omega
          go_wp2
          go_loopw [7, 8] (fun kv jv wr => ∃ k j : Nat, j ≤ rows.length ∧ jv = .int .i64 j ∧ kv = .int .i64 k ∧ k ≤ rows[i].length ∧ (∀ q (hq : q < rows[i].length), q < k → rows[i][q] < (j : Int)) ∧ (∀ q (hq : q < rows[i].length), k ≤ q → (j : Int) ≤ rows[i][q]) ∧ HoldO w B (.slice au rows.length Cu) rows wr) (fun _ jv _ => rows.length - (intOf jv).toNat)
          case atStart => exact ⟨0, 0, Nat.zero_le _, rfl, rfl, Nat.zero_le _, fun _ _ h => absurd h (Nat.not_lt_zero _), fun q hq _ => ((HASC.out i hlt).2 _ (List.getElem_mem hq)).1, HK.out⟩
          case round =>
            obtain ⟨k, j, hj, rfl, rfl, hk, hlo, hhi, hh⟩ := hrel
            have HJ := Lib.hid hh
            have HLO := Lib.hid hlo
            have HHI := Lib.hid hhi
            have hc5 := hh.box.cell
            have hli := HLI.out i hlt
            clear hlo hhi HK hc4
            by_cases hjl : j < rows.length
            · have hjz : (j : Int) < (rows.length : Int) := by omega
              have hcb := HB0.out i j hlt hjl
              obtain ⟨b0, o0, u, e, hcu, hu⟩ := (by obtain ⟨A0, C0, e0, _, _, hx⟩ := hh.rows; cases e0; exact hx i hlt : ∃ b o u, au = some ⟨b, o, none⟩ ∧ wr.cell? ⟨b, o + i, none⟩ = some u ∧ IntsAt wr u rows[i])
              cases e
              obtain ⟨A1, C1, rfl, hC1, hm1, _, hy⟩ := hu
              unfold maxLen at hm1
              clear hh
              have hsd := search_done (l := rows[i]) (b := (j : Int)) (k := k) (HASC.out i hlt).1 HLO.out HHI.out hk
              by_cases hkl : k < rows[i].length
              · have hkz : (k : Int) < (rows[i].length : Int) := by omega
                obtain ⟨b1, o1, rfl, hcx⟩ := hy k hkl
                by_cases he : rows[i][k] = (j : Int)
                · rw [decide_eq_true (hsd.1 ⟨hkl, he⟩)] at hcb
                  have HE := Lib.hid he
                  rw [he] at hcx
                  clear hsd he hy
                  go_wp2_with (go_at_call 19; refine (hcb _ HJ.out).mono ?_; clear hcb; rintro e w5 ⟨rfl, hb⟩; have H5 := Lib.hid (HJ.out.step hb); clear hb)
                  go_roundw
                  case rel =>
                    refine ⟨k + 1, j + 1, by omega, by go_num, by go_num, by omega, fun q hq hqk => ?_, fun q hq hqk => ?_, H5.out⟩
                    · by_cases e : q = k
                      · subst e; rw [HE.out]; omega
                      · have := HLO.out q hq (by omega); omega
                    · have := (HASC.out i hlt).1 k q (by omega) hq
                      rw [HE.out] at this
                      omega
                  case measure => simp [intOf]; omega
                · have hnm : (j : Int) ∉ rows[i] := fun h => by obtain ⟨_, h2⟩ := hsd.2 h; exact he h2
                  rw [decide_eq_false hnm] at hcb
                  have HE := Lib.hid he
                  have hbe : (rows[i][k] == (j : Int)) = false := by rw [beq_eq_false_iff_ne]; exact he
                  clear hsd he hy hnm
                  generalize rows[i][k] = x at hcx hbe
                  go_wp2_with (go_at_call 19; refine (hcb _ HJ.out).mono ?_; clear hcb; rintro e w5 ⟨rfl, hb⟩; have H5 := Lib.hid (HJ.out.step hb); clear hb)
                  go_roundw
                  case rel =>
                    refine ⟨k, j + 1, by omega, by go_num, by go_num, by omega, fun q hq hqk => by have := HLO.out q hq hqk; omega, fun q hq hqk => ?_, H5.out⟩
                    by_cases e : q = k
                    · subst e
                      have := HHI.out q hq (Nat.le_refl _)
                      have := HE.out
                      omega
                    · have h1 := (HASC.out i hlt).1 k q (by omega) hq
                      have h2 := HHI.out k hkl (Nat.le_refl _)
                      omega
                  case measure => simp [intOf]; omega
              · obtain rfl : k = rows[i].length := by omega
                have hkz : ¬ (rows[i].length : Int) < (rows[i].length : Int) := by omega
                have hnm : (j : Int) ∉ rows[i] := fun h => by obtain ⟨h1, _⟩ := hsd.2 h; omega
                rw [decide_eq_false hnm] at hcb
                clear hsd hnm hy
                go_wp2_with (go_at_call 19; refine (hcb _ HJ.out).mono ?_; clear hcb; rintro e w5 ⟨rfl, hb⟩; have H5 := Lib.hid (HJ.out.step hb); clear hb)
                go_roundw
                case rel => exact ⟨rows[i].length, j + 1, by omega, by go_num, rfl, Nat.le_refl _, fun q hq hqk => by have := HLO.out q hq hqk; omega, fun q hq hqk => by omega, H5.out⟩
                case measure => simp [intOf]; omega
            · obtain rfl : j = rows.length := by omega
              have hjz : ¬ (rows.length : Int) < (rows.length : Int) := by omega
              clear hh
              go_wp2
              go_roundw
              case rel => exact ⟨i + 1, by omega, by go_num, HJ.out⟩
              case measure => simp [intOf]; omega
        · obtain rfl : i = rows.length := by omega
          go_wp2
          go_ret
          exact ⟨rfl, HK.out.below⟩
end Go.Proofs.YtjlemkmpmjdjaaaDoor
