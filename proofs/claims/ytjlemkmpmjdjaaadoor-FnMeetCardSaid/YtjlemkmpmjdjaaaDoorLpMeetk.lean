/- The law FnMeet: a meet is a join turned round. -/
import Derived.Test.YtjlemkmpmjdjaaaDoorPa33
import Derived.Test.YtjlemkmpmjdjaaaDoorPa23
import Derived.Test.YtjlemkmpmjdjaaaDoorPa13
import Derived.Test.YtjlemkmpmjdjaaaDoorPa21
import Derived.Test.YtjlemkmpmjdjaaaDoorPa20
namespace Go.Proofs.YtjlemkmpmjdjaaaDoor
open Go.RowKit Go.Deep Go.Shelf

set_option maxRecDepth 100000 in
set_option maxHeartbeats 8000000 in
theorem lawMeet (v : Value) (w : World) (hv : CodeAt w.heap.size w v) (hT : Tab w) : Calls Tryd.prog 7 #[v] w (SaysN true w) := by
  have hdraw := drawMeet_any v w hv
  obtain ⟨a, n, C, rfl, hnC, hCm, _⟩ := hv
  unfold maxLen at hCm
  have HTT := Lib.hid hT
  clear hT
  by_cases hn : 1048576 < n
  · have hz : (1048576 : Int) < (n : Int) := by omega
    clear hdraw
    go_enter Tryd.func7, Tryd.ntmps7
    go_wp2
    go_ret
    exact ⟨rfl, Below.refl _ _⟩
  · have hz : ¬ (1048576 : Int) < (n : Int) := by omega
    go_enter Tryd.func7, Tryd.ntmps7
    go_upto_region 4 with (go_at_call 29; refine hdraw.mono ?_; clear hdraw; rintro e w1 ⟨rows, u, x, y, rfl, ho, hbk, hb⟩; obtain ⟨au, Cu, rfl⟩ := ho.form; have H1 := Lib.hid (HoldO.start ho.at hb); clear ho hb)
    generalize w1.alloc (.cells #[.slice au rows.length Cu] 25) = w2 at H1 ⊢
    generalize w1.heap.size = B at H1 ⊢
    have hbk2 : bulk rows ≤ 1048576 := by omega
    have hc1 := H1.out.box.cell
    have HLEN := Lib.hid (show rows.length ≤ 1048576 by unfold bulk at hbk2; omega)
    have HCJ := Lib.hid (fun W (h : HoldO w B (.slice au rows.length Cu) rows W) a b => implJoin_any _ rows a b W h.rows (HTT.out.below h.below) hbk2)
    have HCM := Lib.hid (fun W (h : HoldO w B (.slice au rows.length Cu) rows W) a b => implMeet_any _ rows a b W h.rows (HTT.out.below h.below) hbk2)
    have HCK := Lib.hid (fun W (h : HoldO w B (.slice au rows.length Cu) rows W) => implBack_any _ rows W h.rows (HTT.out.below h.below) hbk2)
    have hci := HCM.out w2 H1.out x y
    have HCS := Lib.hid (fun W (h : HoldO w B (.slice au rows.length Cu) rows W) => specMeet_any _ rows x y W h.rows hbk2)
    have hfact := fact_meet (rows := rows) (a := x) (b := y)
    have hval := meetB_valid (rows := rows) (a := x) (b := y)
    clear HCJ
    generalize meetB rows x y = m at hci HCS hfact hval
    by_cases hm : m < 0
    · clear hfact hval
      go_wp2_with (first | (go_at_call 23; refine hci.mono ?_; clear hci; rintro e w3 ⟨rfl, hb⟩; have H2 := Lib.hid (H1.out.step hb); have hc2 := H2.out.box.cell; clear hb) | (go_at_call 30; refine (HCS.out w3 H2.out).mono ?_; rintro e w4 ⟨rfl, hb⟩; have H3 := Lib.hid (H2.out.step hb); clear hb))
      go_ret
      exact ⟨rfl, H3.out.below⟩
    · obtain ⟨f0, f1, f2, f3⟩ := hfact (by omega)
      have hok := hval (by omega)
      have hback : backB rows = backRows rows := by unfold backB; rw [if_pos f0]
      have hbb := hok.back.bulk
      have hne : (m != m) = false := bne_self_eq_false m
      have hmm : (m == m) = true := beq_self_eq_true m
      have hck := fun W h => HCK.out W h
      rw [f0, hback] at hck
      have hcj := fun (v : Value) W (hv : RowsAt W v (backRows rows)) (hT : Tab W) => implJoin_any v (backRows rows) x y W hv hT hbb
      rw [f1] at hcj
      have hm1 := fun W h => HCM.out W h m x
      have hm2 := fun W h => HCM.out W h y m
      rw [f2] at hm1
      rw [f3] at hm2
      clear f0 f1 f2 f3 hfact hval HCK HCM hback hok
      generalize backRows rows = R at hck hcj hbb
      have HJ := Lib.hid hcj
      clear hcj hbb
      go_upto_region 9 with (first | (go_at_call 23; refine hci.mono ?_; clear hci; rintro e w3 ⟨rfl, hb⟩; have H2 := Lib.hid (H1.out.step hb); have hc2 := H2.out.box.cell; clear hb) | (go_at_call 30; refine (HCS.out w3 H2.out).mono ?_; clear HCS; rintro e w4 ⟨rfl, hb⟩; have H3 := Lib.hid (H2.out.step hb); have hc3 := H3.out.box.cell; clear hb) | (go_at_call 31; refine (hck _ H3.out).mono ?_; clear hck; rintro e w5 ⟨u5, rfl, ho, hb⟩; obtain ⟨a5, C5, rfl⟩ := ho.form; have H4 := Lib.hid (H3.out.step hb); have HR := Lib.hid ho.at; clear hb ho))
      obtain ⟨w6, hw6⟩ : ∃ w6 : World, w6 = w5.alloc (.cells #[.slice a5 R.length C5] 25) := ⟨_, rfl⟩
      have hb6 : Below w5.heap.size w5 w6 := by rw [hw6]; exact (Below.refl _ _).alloc (Nat.le_refl _) _
      have B6 : Hid (Boxed w6 w5.heap.size 25 (.slice a5 R.length C5)) := Lib.hid (by rw [hw6]; exact Boxed.new _ _ _)
      have H6 := Lib.hid (H4.out.step hb6)
      have R6 := Lib.hid (HR.out.below hb6)
      rw [← hw6]
      clear hw6 hb6 H1 H2 H3 H4 HR hc1 hc2 hc3
      generalize w5.heap.size = Z at B6 ⊢
      have hc6 := H6.out.box.cell
      have hz6 := B6.out.cell
      go_wp2_with (first | (go_at_call 22; refine (HJ.out _ _ R6.out (HTT.out.below H6.out.below)).mono ?_; rintro e w7 ⟨rfl, hb⟩; have H7 := Lib.hid (H6.out.step hb); have hc7 := H7.out.box.cell; clear hb) | (go_at_call 23; refine (hm1 _ H7.out).mono ?_; clear hm1; rintro e w8 ⟨rfl, hb⟩; have H8 := Lib.hid (H7.out.step hb); have hc8 := H8.out.box.cell; clear hb) | (go_at_call 23; refine (hm2 _ H8.out).mono ?_; clear hm2; rintro e w9 ⟨rfl, hb⟩; have H9 := Lib.hid (H8.out.step hb); clear hb))
      go_ret
      exact ⟨rfl, H9.out.below⟩
end Go.Proofs.YtjlemkmpmjdjaaaDoor
