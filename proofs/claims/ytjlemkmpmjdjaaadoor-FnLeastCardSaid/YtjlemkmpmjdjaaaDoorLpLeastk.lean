/- The law FnLeast: the least element is below all. -/
import Derived.Test.YtjlemkmpmjdjaaaDoorPa29
import Derived.Test.YtjlemkmpmjdjaaaDoorPa23
import Derived.Test.YtjlemkmpmjdjaaaDoorPa21
import Derived.Test.YtjlemkmpmjdjaaaDoorPa13
namespace Go.Proofs.YtjlemkmpmjdjaaaDoor
open Go.RowKit Go.Deep Go.Shelf

set_option maxRecDepth 100000 in
set_option maxHeartbeats 8000000 in
theorem lawLeast (v : Value) (w : World) (hv : CodeAt w.heap.size w v) (hT : Tab w) : Calls Tryd.prog 5 #[v] w (SaysN true w) := by
  have hdraw := drawLeast_any v w hv
  obtain ⟨a, n, C, rfl, hnC, hCm, _⟩ := hv
  unfold maxLen at hCm
  have HTT := Lib.hid hT
  clear hT
  by_cases hn : 1048576 < n
  · have hz : (1048576 : Int) < (n : Int) := by omega
    clear hdraw
    go_enter Tryd.func5, Tryd.ntmps5
    go_wp2
    go_ret
    exact ⟨rfl, Below.refl _ _⟩
  · have hz : ¬ (1048576 : Int) < (n : Int) := by omega
    go_enter Tryd.func5, Tryd.ntmps5
    go_upto_region 4 with (go_at_call 24; refine hdraw.mono ?_; clear hdraw; rintro e w1 ⟨rows, u, rfl, ho, hbk, hb⟩; have H1 := Lib.hid (HoldO.start ho.at hb); obtain ⟨au, Cu, rfl⟩ := ho.form; clear ho hb)
    generalize w1.alloc (.cells #[.slice au rows.length Cu] 25) = w2 at H1 ⊢
    generalize w1.heap.size = B at H1 ⊢
    have hbk2 : bulk rows ≤ 1048576 := by omega
    have hci := implLeast_any _ rows w2 H1.out.rows (HTT.out.below H1.out.below) hbk2
    have hcs := fun W (h : RowsAt W (.slice au rows.length Cu) rows) => specLeast_any _ rows W h hbk2
    have hcB := fun W (h : RowsAt W (.slice au rows.length Cu) rows) (hT : Tab W) a b => implBelow_any _ rows a b W h hT hbk2
    have hcJ := fun W (h : RowsAt W (.slice au rows.length Cu) rows) (hT : Tab W) a b => implJoin_any _ rows a b W h hT hbk2
    have hlaw := fact_least (rows := rows)
    have HLEN := Lib.hid (show rows.length ≤ 1048576 by unfold bulk at hbk2; omega)
    generalize leastB rows = m at hci hcs hlaw
    have HCS := Lib.hid hcs
    have HCB := Lib.hid hcB
    have HCJ := Lib.hid hcJ
    have hc1 := H1.out.box.cell
    clear hcs hcB hcJ
    by_cases hm : m < 0
    · clear hlaw
      go_wp2_with (first | (go_at_call 25; refine hci.mono ?_; clear hci; rintro e w3 ⟨rfl, hb⟩; have H2 := Lib.hid (H1.out.step hb); have hc2 := H2.out.box.cell; clear hb) | (go_at_call 26; refine (HCS.out w3 H2.out.rows).mono ?_; rintro e w4 ⟨rfl, hb⟩; have H3 := Lib.hid (H2.out.step hb); clear hb))
      go_ret
      exact ⟨rfl, H3.out.below⟩
    · obtain ⟨hpos, hall⟩ := hlaw (by omega)
      have HALL := Lib.hid hall
      have hmf : ¬ m < 0 := hm
      have hposz : (0 : Int) < (rows.length : Int) := by omega
      have hne : (m != m) = false := bne_self_eq_false m
      clear hlaw hall hm
      go_wp2_with (first | (go_at_call 25; refine hci.mono ?_; clear hci; rintro e w3 ⟨rfl, hb⟩; have H2 := Lib.hid (H1.out.step hb); have hc2 := H2.out.box.cell; clear hb) | (go_at_call 26; refine (HCS.out w3 H2.out.rows).mono ?_; rintro e w4 ⟨rfl, hb⟩; have H3 := Lib.hid (H2.out.step hb); have hc3 := H3.out.box.cell; clear hb))
      go_loopw [6] (fun iv wr => ∃ i : Nat, i ≤ rows.length ∧ iv = .int .i64 i ∧ HoldO w B (.slice au rows.length Cu) rows wr) (fun iv _ => rows.length - (intOf iv).toNat)
      case atStart => exact ⟨0, Nat.zero_le _, rfl, H3.out⟩
      case round =>
        obtain ⟨i, hi, rfl, hh⟩ := hrel
        have HK := Lib.hid hh
        have hc4 := hh.box.cell
        have hl1 := HLEN.out
        clear hh H1 H2 H3 hc1 hc2 hc3
        by_cases hlt : i < rows.length
        · have hltz : (i : Int) < (rows.length : Int) := by omega
          obtain ⟨e1, e2⟩ := HALL.out i hlt
          have hcb := HCB.out wr HK.out.rows (HTT.out.below HK.out.below) m i
          have hcj := fun W (h : RowsAt W (.slice au rows.length Cu) rows) (hT : Tab W) => HCJ.out W h hT m i
          rw [e1] at hcb
          rw [e2] at hcj
          have hne2 : ((i : Int) != (i : Int)) = false := bne_self_eq_false _
          clear e1 e2
          go_wp2_with (first | (go_at_call 19; refine hcb.mono ?_; clear hcb; rintro e w5 ⟨rfl, hb⟩; have H5 := Lib.hid (HK.out.step hb); have hc5 := H5.out.box.cell; clear hb) | (go_at_call 22; refine (hcj _ H5.out.rows (HTT.out.below H5.out.below)).mono ?_; clear hcj; rintro e w6 ⟨rfl, hb⟩; have H6 := Lib.hid (H5.out.step hb); clear hb))
          go_roundw
          case rel => exact ⟨i + 1, by omega, by go_num, H6.out⟩
          case measure => simp [intOf]; omega
        · obtain rfl : i = rows.length := by omega
          go_wp2
          go_ret
          exact ⟨rfl, HK.out.below⟩
end Go.Proofs.YtjlemkmpmjdjaaaDoor
