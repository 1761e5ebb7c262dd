/- The law FnBelow: what is below is the meet, and what is above the join. -/
import Derived.Test.YtjlemkmpmjdjaaaDoorPa33
import Derived.Test.YtjlemkmpmjdjaaaDoorPa23
import Derived.Test.YtjlemkmpmjdjaaaDoorPa13
import Derived.Test.YtjlemkmpmjdjaaaDoorPa21
namespace Go.Proofs.YtjlemkmpmjdjaaaDoor
open Go.RowKit Go.Deep Go.Shelf

set_option maxRecDepth 100000 in
set_option maxHeartbeats 8000000 in
theorem lawBelow (v : Value) (w : World) (hv : CodeAt w.heap.size w v) (hT : Tab w) : Calls Tryd.prog 4 #[v] w (SaysN true w) := by
  have hdraw := drawBelow_any v w hv
  obtain ⟨a, n, C, rfl, hnC, hCm, _⟩ := hv
  unfold maxLen at hCm
  have HTT := Lib.hid hT
  clear hT
  by_cases hn : 1048576 < n
  · have hz : (1048576 : Int) < (n : Int) := by omega
    clear hdraw
    go_enter Tryd.func4, Tryd.ntmps4
    go_wp2
    go_ret
    exact ⟨rfl, Below.refl _ _⟩
  · have hz : ¬ (1048576 : Int) < (n : Int) := by omega
    go_enter Tryd.func4, Tryd.ntmps4
    go_upto_region 4 with (go_at_call 20; refine hdraw.mono ?_; clear hdraw; rintro e w1 ⟨rows, u, x, y, rfl, ho, hbk, hb⟩; obtain ⟨au, Cu, rfl⟩ := ho.form; have H1 := Lib.hid (HoldO.start ho.at hb); clear ho hb)
    generalize w1.alloc (.cells #[.slice au rows.length Cu] 25) = w2 at H1 ⊢
    generalize w1.heap.size = B at H1 ⊢
    have hbk2 : bulk rows ≤ 1048576 := by omega
    have hc1 := H1.out.box.cell
    have HLEN := Lib.hid (show rows.length ≤ 1048576 by unfold bulk at hbk2; omega)
    have HCB := Lib.hid (fun W (h : HoldO w B (.slice au rows.length Cu) rows W) a b => implBelow_any _ rows a b W h.rows (HTT.out.below h.below) hbk2)
    have HCJ := Lib.hid (fun W (h : HoldO w B (.slice au rows.length Cu) rows W) a b => implJoin_any _ rows a b W h.rows (HTT.out.below h.below) hbk2)
    have HCM := Lib.hid (fun W (h : HoldO w B (.slice au rows.length Cu) rows W) a b => implMeet_any _ rows a b W h.rows (HTT.out.below h.below) hbk2)
    have hci := HCB.out w2 H1.out x y
    have hcs := fun W (h : HoldO w B (.slice au rows.length Cu) rows W) => specBelow_any _ rows x y W h.rows hbk2
    have HCS := Lib.hid hcs
    have hfact := fact_below (rows := rows) (a := x) (b := y)
    clear hcs
    cases hq : belowB rows x y with
    | false =>
      rw [hq] at hci HCS
      clear hq hfact
      go_wp2_with (first | (go_at_call 19; refine hci.mono ?_; clear hci; rintro e w3 ⟨rfl, hb⟩; have H2 := Lib.hid (H1.out.step hb); have hc2 := H2.out.box.cell; clear hb) | (go_at_call 21; refine (HCS.out w3 H2.out).mono ?_; rintro e w4 ⟨rfl, hb⟩; have H3 := Lib.hid (H2.out.step hb); clear hb))
      go_ret
      exact ⟨rfl, H3.out.below⟩
    | true =>
      obtain ⟨f1, f2, f3⟩ := hfact hq
      have e1 : ((joinB rows x y) == y) = true := by rw [f1]; exact beq_self_eq_true _
      have hcj := fun W h => HCJ.out W h x y
      have hcm := fun W h => HCM.out W h x y
      have hcb := fun W h => HCB.out W h y x
      rw [hq] at hci HCS
      rw [f1] at hcj
      rw [f2] at hcm
      rw [f3] at hcb
      have hyy : (y == y) = true := beq_self_eq_true y
      have hxx : (x == x) = true := beq_self_eq_true x
      have hxy : (decide (x = y) == (x == y)) = true := by rw [beq_iff_eq]; rfl
      clear f1 f2 f3 e1 hq hfact HCB HCJ HCM
      go_wp2_with (first | (go_at_call 19; refine hci.mono ?_; clear hci; rintro e w3 ⟨rfl, hb⟩; have H2 := Lib.hid (H1.out.step hb); have hc2 := H2.out.box.cell; clear hb) | (go_at_call 21; refine (HCS.out w3 H2.out).mono ?_; clear HCS; rintro e w4 ⟨rfl, hb⟩; have H3 := Lib.hid (H2.out.step hb); have hc3 := H3.out.box.cell; clear hb) | (go_at_call 22; refine (hcj _ H3.out).mono ?_; clear hcj; rintro e w5 ⟨rfl, hb⟩; have H4 := Lib.hid (H3.out.step hb); have hc4 := H4.out.box.cell; clear hb) | (go_at_call 23; refine (hcm _ H4.out).mono ?_; clear hcm; rintro e w6 ⟨rfl, hb⟩; have H5 := Lib.hid (H4.out.step hb); have hc5 := H5.out.box.cell; clear hb) | (go_at_call 19; refine (hcb _ H5.out).mono ?_; clear hcb; rintro e w7 ⟨rfl, hb⟩; have H6 := Lib.hid (H5.out.step hb); clear hb))
      go_ret
      exact ⟨rfl, H6.out.below⟩
end Go.Proofs.YtjlemkmpmjdjaaaDoor
