/- The law FnFlat: flat domains are flat. -/
import Derived.Test.YtjlemkmpmjdjaaaDoorPa33
import Derived.Test.YtjlemkmpmjdjaaaDoorPa23
import Derived.Test.YtjlemkmpmjdjaaaDoorPa30
import Derived.Test.YtjlemkmpmjdjaaaDoorPa22
import Derived.Test.YtjlemkmpmjdjaaaDoorImplHeightk
import Derived.Test.YtjlemkmpmjdjaaaDoorLpCoversk
namespace Go.Proofs.YtjlemkmpmjdjaaaDoor
open Go.RowKit Go.Deep Go.Shelf

/-- A number that is drawn. -/
def IntN (w : World) (e : Ending) (w' : World) : Prop := ∃ z : Int, e = .returned (.int .i64 z) ∧ Below w.heap.size w w'

set_option maxRecDepth 100000 in
set_option maxHeartbeats 4000000 in
theorem drawDomFlat_any (v : Value) (w : World) (hv : CodeAt w.heap.size w v) : Calls Tryd.prog 46 #[v] w (IntN w) := by
  have hopen := l6Open_any v w hv
  clear hv
  go_enter Tryd.func46, Tryd.ntmps46
  go_wp2_with (first | (go_at_call 65; refine hopen.mono ?_; clear hopen; rintro e w1 ⟨u, rfl, hrd, hb, _⟩; have HB := Lib.hid hb; have D1 := Lib.hid (Dr.start hrd); clear hrd hb) | (go_at_call 88; refine (pick_any _ _ _ _ _ D1.out.rd (by omega)).mono ?_; rintro e w2 ⟨⟨k1, rfl, h1, _⟩, d⟩; have D2 := Lib.hid (D1.out.trans d); have K1 := h1 (by omega); clear D1 d h1) | (go_at_call 88; refine (pick_any _ _ _ _ _ D2.out.rd (by omega)).mono ?_; rintro e w3 ⟨⟨k2, rfl, h2, _⟩, d⟩; have D3 := Lib.hid (D2.out.trans d); have K2 := h2 (by omega); clear D2 d h2) | (go_at_call 88; refine (pick_any _ _ _ _ _ D3.out.rd (by omega)).mono ?_; rintro e w4 ⟨⟨k3, rfl, h3, _⟩, d⟩; have D4 := Lib.hid (D3.out.trans d); have K3 := h3 (by omega); clear D3 d h3))
  go_ret
  exact ⟨_, rfl, HB.out.trans D4.out.turned.below⟩

theorem flat_q {N a b : Nat} (ha : a < N) : Lq (madeL flatB N) a b = (decide (b < N) && flatB a b) := made_bit flatB ha b
/-- FnFlat. -/
theorem fact_flat {z : Int} (hz : flatOk z = true) : domB (flatL z) = true ∧ ((flatL z).length : Int) = z + 1 ∧ heightB (flatL z) = if z = 0 then 1 else 2 := by
  obtain ⟨h0, h1⟩ := of_decide_eq_true hz
  obtain ⟨n, rfl⟩ : ∃ n : Nat, z = (n : Int) := ⟨z.toNat, by omega⟩
  have he : flatL (n : Int) = madeL flatB (n + 1) := by unfold flatL; rw [if_pos hz]; simp
  rw [he]
  have hok := flat_ok (N := n + 1) (by omega) (by omega)
  have hlen : (madeL flatB (n + 1)).length = n + 1 := madeL_len _ _
  have hfB : ∀ a b, flatB a b = true ↔ a = 0 ∨ a = b := fun a b => by unfold flatB; rw [Bool.or_eq_true, decide_eq_true_iff, decide_eq_true_iff]
  refine ⟨?_, by omega, ?_⟩
  · refine made_dom (by omega) (by omega) (fun a _ => (hfB a a).2 (.inr rfl)) (fun a b _ _ h hne => ?_) (fun a b c _ _ _ h h' => ?_) ⟨0, by omega, fun k _ => (hfB 0 k).2 (.inl rfl)⟩ (fun a b ha hb ⟨c, hc, h, h'⟩ => ?_)
    · cases hq : flatB b a with
      | false => rfl
      | true =>
        have e1 := (hfB a b).1 h
        have e2 := (hfB b a).1 hq
        omega
    · have e1 := (hfB a b).1 h
      have e2 := (hfB b c).1 h'
      exact (hfB a c).2 (by omega)
    · have e1 := (hfB a c).1 h
      have e2 := (hfB b c).1 h'
      by_cases hb0 : b = 0
      · refine ⟨a, ha, fun k _ => ?_⟩
        rw [(hfB b k).2 (.inl hb0), Bool.and_true]
      · refine ⟨b, hb, fun k _ => ?_⟩
        rw [Bool.eq_iff_iff, Bool.and_eq_true, hfB, hfB]
        constructor
        · rintro (h3 | h3)
          · exact absurd h3 hb0
          · exact ⟨by omega, .inr h3⟩
        · exact fun h3 => h3.2
  · have hv : validB (madeL flatB (n + 1)) = true := valid_of_ok hok
    unfold heightB
    rw [if_pos hv]
    obtain ⟨f1, f2, _⟩ := fact_height hok
    by_cases hn : n = 0
    · rw [if_pos (by omega)]
      omega
    · rw [if_neg (by omega)]
      have g1 : Lq (madeL flatB (n + 1)) 0 1 = true := by rw [flat_q (by omega), decide_eq_true (by omega), (hfB 0 1).2 (.inl rfl)]; rfl
      have g2 := rank_lt hok g1 (by omega)
      have g3 := rank_pos hok (i := 1) (by omega)
      have g4 := height_ge hok (i := 0) (by omega)
      have g5 : heightF (madeL flatB (n + 1)) ≤ 2 := by
        apply Classical.byContradiction
        intro hno
        obtain ⟨i, hi, ei⟩ := height_at hok
        obtain ⟨k, q1, q2, q3⟩ := rank_step hok hi (by omega)
        have hk := (hok.bit_lt q1).2
        obtain ⟨m, p1, p2, p3⟩ := rank_step hok hk (by omega)
        rw [flat_q (by omega), Bool.and_eq_true, hfB] at q1 p1
        omega
      omega

set_option maxRecDepth 100000 in
set_option maxHeartbeats 8000000 in
theorem lawFlatP (v : Value) (w : World) (hv : CodeAt w.heap.size w v) (hT : Tab w) : Calls Tryd.prog 12 #[v] w (SaysN true w) := by
  have hdraw := drawDomFlat_any v w hv
  obtain ⟨a, n, C, rfl, hnC, hCm, _⟩ := hv
  unfold maxLen at hCm
  have HTT := Lib.hid hT
  clear hT
  by_cases hn : 1048576 < n
  · have hz : (1048576 : Int) < (n : Int) := by omega
    clear hdraw
    go_enter Tryd.func12, Tryd.ntmps12
    go_wp2
    go_ret
    exact ⟨rfl, Below.refl _ _⟩
  · have hz : ¬ (1048576 : Int) < (n : Int) := by omega
    go_enter Tryd.func12, Tryd.ntmps12
    go_upto_region 4 with (go_at_call 46; refine hdraw.mono ?_; clear hdraw; rintro e w1 ⟨z, rfl, hb⟩; have HB := Lib.hid hb; clear hb)
    have hci := implFlat_any z w1 (HTT.out.below HB.out)
    have hfact := fact_flat (z := z)
    have HFB := Lib.hid (flat_bulk z)
    have HLEN := Lib.hid (show (flatL z).length ≤ 1048576 by have := flat_bulk z; unfold bulk at this; omega)
    go_upto_region 5 with (go_at_call 47; refine hci.mono ?_; clear hci; rintro e w2 ⟨v2, rfl, ho2, hb⟩; have H2 := Lib.hid (HoldO.start (w := w) ho2.at (HB.out.trans (hb.mono HB.out.size))); obtain ⟨a2, C2, rfl⟩ := ho2.form; clear hb ho2)
    generalize w2.alloc (.cells #[.slice a2 (flatL z).length C2] 25) = w3 at H2 ⊢
    generalize w2.heap.size = B at H2 ⊢
    have hcs := specFlat_any z w3
    go_upto_region 6 with (go_at_call 48; refine hcs.mono ?_; clear hcs; rintro e w4 ⟨v4, rfl, ho4, hb⟩; have H4 := Lib.hid (HoldX.start (H2.out.step hb) (H2.out.step hb).rows ho4.at); obtain ⟨a4, C4, rfl⟩ := ho4.form; clear hb ho4)
    generalize w4.alloc (.cells #[.slice a4 (flatL z).length C4] 25) = w5 at H4 ⊢
    generalize w4.heap.size = B4 at H4 ⊢
    have hc1 := H4.out.hold.box.cell
    have hc2 := H4.out.box.cell
    have hcd := implDom_any (.slice a2 (flatL z).length C2) (flatL z)
    have hch := implHeight_any (.slice a2 (flatL z).length C2) (flatL z)
    have hl1 := HLEN.out
    cases hq : flatOk z with
    | false =>
      clear hfact hcd hch
      generalize flatL z = rows at H2 H4 HFB HLEN hc1 hc2 hl1 ⊢
      go_wp2_with (first | (go_at_call 37; refine (sameOrder_self _ _ rows _ H4.out.hold.rows H4.out.made).mono ?_; rintro e w6 ⟨rfl, hb⟩; have H6 := Lib.hid (H4.out.step hb); have hc3 := H6.out.hold.box.cell; have hc4 := H6.out.box.cell; clear hb H4) | (go_at_call 37; refine (sameOrder_self _ _ rows _ H6.out.hold.rows H6.out.made).mono ?_; rintro e w7 ⟨rfl, hb⟩; have H7 := Lib.hid (H6.out.step hb); clear hb H6))
      go_ret
      exact ⟨rfl, H7.out.hold.below⟩
    | true =>
      obtain ⟨f1, f2, f3⟩ := hfact hq
      have hzr : 0 ≤ z ∧ z ≤ 199 := of_decide_eq_true hq
      have HCD := Lib.hid (fun W (h : HoldX w B (.slice a2 (flatL z).length C2) (flatL z) (.slice a2 (flatL z).length C2) (flatL z) B4 (.slice a4 (flatL z).length C4) W) => hcd W h.hold.rows (HTT.out.below h.hold.below) HFB.out)
      have HCH := Lib.hid (fun W (h : HoldX w B (.slice a2 (flatL z).length C2) (flatL z) (.slice a2 (flatL z).length C2) (flatL z) B4 (.slice a4 (flatL z).length C4) W) => hch W h.hold.rows (HTT.out.below h.hold.below) HFB.out)
      rw [f1] at HCD
      rw [f3] at HCH
      have F2 := Lib.hid f2
      clear hfact hcd hch hq f1 f2 f3
      generalize flatL z = rows at H2 H4 HFB HLEN hc1 hc2 hl1 HCD HCH F2 ⊢
      have hw1 : IntKind.i64.wrap (z + 1) = z + 1 := IntWalk.i64_in _ (by omega)
      have hbe : ((rows.length : Int) == z + 1) = true := by rw [F2.out]; exact beq_self_eq_true _
      by_cases hz0 : z = 0
      · rw [if_pos hz0] at HCH
        have hze : (z == 0) = true := by rw [hz0]; rfl
        clear hz0
        go_wp2_with (first | (go_at_call 37; refine (sameOrder_self _ _ rows _ H4.out.hold.rows H4.out.made).mono ?_; rintro e w6 ⟨rfl, hb⟩; have H6 := Lib.hid (H4.out.step hb); have hc3 := H6.out.hold.box.cell; clear hb H4) | (go_at_call 44; refine (HCD.out _ H6.out).mono ?_; rintro e w7 ⟨rfl, hb⟩; have H7 := Lib.hid (H6.out.step hb); have hc5 := H7.out.hold.box.cell; clear hb H6) | (go_at_call 41; refine (HCH.out _ H7.out).mono ?_; rintro e w8 ⟨rfl, hb⟩; have H8 := Lib.hid (H7.out.step hb); clear hb H7))
        go_ret
        exact ⟨rfl, H8.out.hold.below⟩
      · rw [if_neg hz0] at HCH
        have hze : (z == 0) = false := by rw [beq_eq_false_iff_ne]; exact hz0
        clear hz0
        go_wp2_with (first | (go_at_call 37; refine (sameOrder_self _ _ rows _ H4.out.hold.rows H4.out.made).mono ?_; rintro e w6 ⟨rfl, hb⟩; have H6 := Lib.hid (H4.out.step hb); have hc3 := H6.out.hold.box.cell; clear hb H4) | (go_at_call 44; refine (HCD.out _ H6.out).mono ?_; rintro e w7 ⟨rfl, hb⟩; have H7 := Lib.hid (H6.out.step hb); have hc5 := H7.out.hold.box.cell; clear hb H6) | (go_at_call 41; refine (HCH.out _ H7.out).mono ?_; rintro e w8 ⟨rfl, hb⟩; have H8 := Lib.hid (H7.out.step hb); clear hb H7))
        go_ret
        exact ⟨rfl, H8.out.hold.below⟩
end Go.Proofs.YtjlemkmpmjdjaaaDoor
