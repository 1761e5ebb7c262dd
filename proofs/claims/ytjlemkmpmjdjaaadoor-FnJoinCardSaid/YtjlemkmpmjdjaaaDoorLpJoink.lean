/- The law FnJoin: a join is the least one above both. -/
import Derived.Test.YtjlemkmpmjdjaaaDoorPa33
import Derived.Test.YtjlemkmpmjdjaaaDoorPa23
import Derived.Test.YtjlemkmpmjdjaaaDoorPa13
import Derived.Test.YtjlemkmpmjdjaaaDoorPa21
namespace Go.Proofs.YtjlemkmpmjdjaaaDoor
open Go.RowKit Go.Deep Go.Shelf

set_option maxRecDepth 100000 in
set_option maxHeartbeats 8000000 in
theorem lawJoin (v : Value) (w : World) (hv : CodeAt w.heap.size w v) (hT : Tab w) : Calls Tryd.prog 6 #[v] w (SaysN true w) := by
  have hdraw := drawJoin_any v w hv
  obtain ⟨a, n, C, rfl, hnC, hCm, _⟩ := hv
  unfold maxLen at hCm
  have HTT := Lib.hid hT
  clear hT
  by_cases hn : 1048576 < n
  · have hz : (1048576 : Int) < (n : Int) := by omega
    clear hdraw
    go_enter Tryd.func6, Tryd.ntmps6
    go_wp2
    go_ret
    exact ⟨rfl, Below.refl _ _⟩
  · have hz : ¬ (1048576 : Int) < (n : Int) := by omega
    go_enter Tryd.func6, Tryd.ntmps6
    go_upto_region 4 with (go_at_call 27; refine hdraw.mono ?_; clear hdraw; rintro e w1 ⟨rows, u, x, y, rfl, ho, hbk, hb⟩; obtain ⟨au, Cu, rfl⟩ := ho.form; have H1 := Lib.hid (HoldO.start ho.at hb); clear ho hb)
    generalize w1.alloc (.cells #[.slice au rows.length Cu] 25) = w2 at H1 ⊢
    generalize w1.heap.size = B at H1 ⊢
    have hbk2 : bulk rows ≤ 1048576 := by omega
    have hc1 := H1.out.box.cell
    have HLEN := Lib.hid (show rows.length ≤ 1048576 by unfold bulk at hbk2; omega)
    have HCB := Lib.hid (fun W (h : HoldO w B (.slice au rows.length Cu) rows W) a b => implBelow_any _ rows a b W h.rows (HTT.out.below h.below) hbk2)
    have HCJ := Lib.hid (fun W (h : HoldO w B (.slice au rows.length Cu) rows W) a b => implJoin_any _ rows a b W h.rows (HTT.out.below h.below) hbk2)
    have hci := HCJ.out w2 H1.out x y
    have hcs := fun W (h : HoldO w B (.slice au rows.length Cu) rows W) => specJoin_any _ rows x y W h.rows hbk2
    have HCS := Lib.hid hcs
    have hfact := fact_join (rows := rows) (a := x) (b := y)
    have hcj2 := fun W h => HCJ.out W h y x
    clear hcs
    generalize joinB rows x y = m at hci HCS hfact
    by_cases hm : m < 0
    · clear hfact hcj2
      go_wp2_with (first | (go_at_call 22; refine hci.mono ?_; clear hci; rintro e w3 ⟨rfl, hb⟩; have H2 := Lib.hid (H1.out.step hb); have hc2 := H2.out.box.cell; clear hb) | (go_at_call 28; refine (HCS.out w3 H2.out).mono ?_; rintro e w4 ⟨rfl, hb⟩; have H3 := Lib.hid (H2.out.step hb); clear hb))
      go_ret
      exact ⟨rfl, H3.out.below⟩
    · obtain ⟨f0, f1, f2, f3⟩ := hfact (by omega)
      have F0 := Lib.hid f0
      have hne : (m != m) = false := bne_self_eq_false m
      have hmm : (m == m) = true := beq_self_eq_true m
      have hb1 := fun W h => HCB.out W h x m
      have hb2 := fun W h => HCB.out W h y m
      rw [f1] at hb1
      rw [f2] at hb2
      rw [f3] at hcj2
      have HB1 := Lib.hid hb1
      have HB2 := Lib.hid hb2
      have HJ2 := Lib.hid hcj2
      clear f0 f1 f2 f3 hfact hb1 hb2 hcj2
      go_upto_region 8 with (first | (go_at_call 22; refine hci.mono ?_; clear hci; rintro e w3 ⟨rfl, hb⟩; have H2 := Lib.hid (H1.out.step hb); have hc2 := H2.out.box.cell; clear hb) | (go_at_call 28; refine (HCS.out w3 H2.out).mono ?_; rintro e w4 ⟨rfl, hb⟩; have H3 := Lib.hid (H2.out.step hb); have hc3 := H3.out.box.cell; clear hb))
      go_wp2
      go_loopw [8] (fun iv wr => ∃ i : Nat, i ≤ rows.length ∧ iv = .int .i64 i ∧ HoldO w B (.slice au rows.length Cu) rows wr) (fun iv _ => rows.length - (intOf iv).toNat)
      case atStart => exact ⟨0, Nat.zero_le _, rfl, H3.out⟩
      case round =>
        obtain ⟨i, hi, rfl, hh⟩ := hrel
        have HK := Lib.hid hh
        have hc4 := hh.box.cell
        have hl1 := HLEN.out
        clear hh H1 H2 H3 hc1 hc2 hc3
        by_cases hlt : i < rows.length
        · have hltz : (i : Int) < (rows.length : Int) := by omega
          have k1 := HCB.out wr HK.out x i
          have k2 := fun W h => HCB.out W h y i
          have k3 := fun W h => HCB.out W h m i
          have hf := F0.out i hlt
          cases q1 : belowB rows x i with
          | false =>
            rw [q1] at k1
            clear q1 hf k2 k3
            go_wp2_with (go_at_call 19; refine k1.mono ?_; clear k1; rintro e w5 ⟨rfl, hb⟩; have H5 := Lib.hid (HK.out.step hb); clear hb)
            go_roundw
            case rel => exact ⟨i + 1, by omega, by go_num, H5.out⟩
            case measure => simp [intOf]; omega
          | true =>
            rw [q1] at k1
            cases q2 : belowB rows y i with
            | false =>
              rw [q2] at k2
              clear q1 q2 hf k3
              go_wp2_with (first | (go_at_call 19; refine k1.mono ?_; clear k1; rintro e w5 ⟨rfl, hb⟩; have H5 := Lib.hid (HK.out.step hb); have hc5 := H5.out.box.cell; clear hb) | (go_at_call 19; refine (k2 _ H5.out).mono ?_; clear k2; rintro e w6 ⟨rfl, hb⟩; have H6 := Lib.hid (H5.out.step hb); clear hb))
              go_roundw
              case rel => exact ⟨i + 1, by omega, by go_num, H6.out⟩
              case measure => simp [intOf]; omega
            | true =>
              rw [q2] at k2
              have k3' := k3
              rw [hf q1 q2] at k3'
              clear q1 q2 hf k3
              go_wp2_with (first | (go_at_call 19; refine k1.mono ?_; clear k1; rintro e w5 ⟨rfl, hb⟩; have H5 := Lib.hid (HK.out.step hb); have hc5 := H5.out.box.cell; clear hb) | (go_at_call 19; refine (k2 _ H5.out).mono ?_; clear k2; rintro e w6 ⟨rfl, hb⟩; have H6 := Lib.hid (H5.out.step hb); have hc6 := H6.out.box.cell; clear hb) | (go_at_call 19; refine (k3' _ H6.out).mono ?_; clear k3'; rintro e w7 ⟨rfl, hb⟩; have H7 := Lib.hid (H6.out.step hb); clear hb))
              go_roundw
              case rel => exact ⟨i + 1, by omega, by go_num, H7.out⟩
              case measure => simp [intOf]; omega
        · obtain rfl : i = rows.length := by omega
          have hb1 := HB1.out
          have hb2 := HB2.out
          have hj2 := HJ2.out
          go_wp2_with (first | (go_at_call 19; refine (hb1 _ HK.out).mono ?_; clear hb1; rintro e w5 ⟨rfl, hb⟩; have H5 := Lib.hid (HK.out.step hb); have hc5 := H5.out.box.cell; clear hb) | (go_at_call 19; refine (hb2 _ H5.out).mono ?_; clear hb2; rintro e w6 ⟨rfl, hb⟩; have H6 := Lib.hid (H5.out.step hb); have hc6 := H6.out.box.cell; clear hb) | (go_at_call 22; refine (hj2 _ H6.out).mono ?_; clear hj2; rintro e w7 ⟨rfl, hb⟩; have H7 := Lib.hid (H6.out.step hb); clear hb))
          go_ret
          exact ⟨rfl, H7.out.below⟩
end Go.Proofs.YtjlemkmpmjdjaaaDoor
