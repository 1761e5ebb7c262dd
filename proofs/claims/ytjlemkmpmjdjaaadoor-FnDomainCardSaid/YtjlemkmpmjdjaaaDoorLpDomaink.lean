/- The law FnDomain: domains have joins and meets. -/
import Derived.Test.YtjlemkmpmjdjaaaDoorPa33
import Derived.Test.YtjlemkmpmjdjaaaDoorPa23
import Derived.Test.YtjlemkmpmjdjaaaDoorPa22
import Derived.Test.YtjlemkmpmjdjaaaDoorPa13
import Derived.Test.YtjlemkmpmjdjaaaDoorPa21
namespace Go.Proofs.YtjlemkmpmjdjaaaDoor
open Go.RowKit Go.Deep Go.Shelf

set_option maxRecDepth 100000 in
set_option maxHeartbeats 8000000 in
theorem lawDomain (v : Value) (w : World) (hv : CodeAt w.heap.size w v) (hT : Tab w) : Calls Tryd.prog 11 #[v] w (SaysN true w) := by
  have hdraw := drawDomainIs_any v w hv
  obtain ⟨a, n, C, rfl, hnC, hCm, _⟩ := hv
  unfold maxLen at hCm
  have HTT := Lib.hid hT
  clear hT
  by_cases hn : 1048576 < n
  · have hz : (1048576 : Int) < (n : Int) := by omega
    clear hdraw
    go_enter Tryd.func11, Tryd.ntmps11
    go_wp2
    go_ret
    exact ⟨rfl, Below.refl _ _⟩
  · have hz : ¬ (1048576 : Int) < (n : Int) := by omega
    go_enter Tryd.func11, Tryd.ntmps11
    go_upto_region 4 with (go_at_call 43; refine hdraw.mono ?_; clear hdraw; rintro e w1 ⟨rows, u, rfl, ho, hbk, hb⟩; have H1 := Lib.hid (HoldO.start ho.at hb); obtain ⟨au, Cu, rfl⟩ := ho.form; clear ho hb)
    generalize w1.alloc (.cells #[.slice au rows.length Cu] 25) = w2 at H1 ⊢
    generalize w1.heap.size = B at H1 ⊢
    have hbk2 : bulk rows ≤ 1048576 := by omega
    have HS := Lib.hid (fun W (h : HoldO w B (.slice au rows.length Cu) rows W) => specDom_any _ rows W h.rows hbk2)
    have hci := implDom_any _ rows w2 H1.out.rows (HTT.out.below H1.out.below) hbk2
    have HCB := Lib.hid (fun W (h : HoldO w B (.slice au rows.length Cu) rows W) a b => implBelow_any _ rows a b W h.rows (HTT.out.below h.below) hbk2)
    have HCJ := Lib.hid (fun W (h : HoldO w B (.slice au rows.length Cu) rows W) a b => implJoin_any _ rows a b W h.rows (HTT.out.below h.below) hbk2)
    have HCM := Lib.hid (fun W (h : HoldO w B (.slice au rows.length Cu) rows W) a b => implMeet_any _ rows a b W h.rows (HTT.out.below h.below) hbk2)
    have HCL := Lib.hid (fun W (h : HoldO w B (.slice au rows.length Cu) rows W) => implLeast_any _ rows W h.rows (HTT.out.below h.below) hbk2)
    have HLEN := Lib.hid (show rows.length ≤ 1048576 by unfold bulk at hbk2; omega)
    have hc1 := H1.out.box.cell
    have hcs := fun W h => HS.out W h
    clear HS
    cases hq : domB rows with
    | false =>
      rw [hq] at hci hcs
      clear hq
      go_wp2_with (first | (go_at_call 44; refine hci.mono ?_; clear hci; rintro e w3 ⟨rfl, hb⟩; have H2 := Lib.hid (H1.out.step hb); have hc2 := H2.out.box.cell; clear hb) | (go_at_call 45; refine (hcs w3 H2.out).mono ?_; clear hcs; rintro e w4 ⟨rfl, hb⟩; have H3 := Lib.hid (H2.out.step hb); clear hb))
      go_ret
      exact ⟨rfl, H3.out.below⟩
    | true =>
      obtain ⟨f1, f2⟩ := fact_domain hq
      have F1 := Lib.hid f1
      have F2 := Lib.hid f2
      rw [hq] at hci hcs
      clear hq f1 f2
      go_upto_region 8 with (first | (go_at_call 44; refine hci.mono ?_; clear hci; rintro e w3 ⟨rfl, hb⟩; have H2 := Lib.hid (H1.out.step hb); have hc2 := H2.out.box.cell; clear hb) | (go_at_call 45; refine (hcs w3 H2.out).mono ?_; clear hcs; rintro e w4 ⟨rfl, hb⟩; have H3 := Lib.hid (H2.out.step hb); have hc3 := H3.out.box.cell; clear hb))
      go_wp2
      go_loopw [6] (fun iv wr => ∃ i : Nat, i ≤ rows.length ∧ iv = .int .i64 i ∧ HoldO w B (.slice au rows.length Cu) rows wr) (fun iv _ => rows.length - (intOf iv).toNat)
      case atStart => exact ⟨0, Nat.zero_le _, rfl, H3.out⟩
      case round =>
        obtain ⟨i, hi, rfl, hh⟩ := hrel
        have HK := Lib.hid hh
        have hc4 := hh.box.cell
        have hl1 := HLEN.out
        clear hh H1 H2 H3 hc1 hc2 hc3
        by_cases hlt : i < rows.length
        · have hltz : (i : Int) < (rows.length : Int) := by omega
          go_wp2
          go_loopw [7] (fun jv wr => ∃ j : Nat, j ≤ i ∧ jv = .int .i64 j ∧ HoldO w B (.slice au rows.length Cu) rows wr) (fun jv _ => i - (intOf jv).toNat)
          case atStart => exact ⟨0, Nat.zero_le _, rfl, HK.out⟩
          case round =>
            obtain ⟨j, hj, rfl, hh⟩ := hrel
            have HJ := Lib.hid hh
            have hc5 := hh.box.cell
            clear hh HK hc4
            by_cases hjl : j < i
            · have hjz : (j : Int) < (i : Int) := by omega
              have hjr : j < rows.length := by omega
              go_wp2
              go_loopw [8, 9] (fun sv cv wr => ∃ (c : Nat) (s : Bool), c ≤ rows.length ∧ cv = .int .i64 c ∧ sv = .bool s ∧ (s = true ↔ ∃ q : Nat, q < c ∧ belowB rows i q = true ∧ belowB rows j q = true) ∧ HoldO w B (.slice au rows.length Cu) rows wr) (fun _ cv _ => rows.length - (intOf cv).toNat)
              case atStart => exact ⟨0, false, Nat.zero_le _, rfl, rfl, ⟨fun h => (by cases h), fun ⟨_, h, _⟩ => absurd h (Nat.not_lt_zero _)⟩, HJ.out⟩
              case round =>
                obtain ⟨c, s, hc, rfl, rfl, hs, hh⟩ := hrel
                have HC := Lib.hid hh
                have HSS := Lib.hid hs
                have hc6 := hh.box.cell
                clear hh hs HJ hc5
                by_cases hcl : c < rows.length
                · have hcz : (c : Int) < (rows.length : Int) := by omega
                  have HST := Lib.hid (show ∀ t : Bool, (t = true ↔ s = true ∨ (belowB rows i c = true ∧ belowB rows j c = true)) → (t = true ↔ ∃ q : Nat, q < c + 1 ∧ belowB rows i q = true ∧ belowB rows j q = true) from fun t ht => by
                    rw [ht, HSS.out]
                    constructor
                    · rintro (⟨q, h1, h2⟩ | h)
                      · exact ⟨q, by omega, h2⟩
                      · exact ⟨c, by omega, h⟩
                    · rintro ⟨q, h1, h2⟩
                      by_cases e : q = c
                      · subst e; exact .inr h2
                      · exact .inl ⟨q, by omega, h2⟩)
                  have k1 := HCB.out wr HC.out i c
                  have k2 := fun W h => HCB.out W h j c
                  cases s with
                  | true =>
                    clear k1 k2
                    go_wp2
                    go_roundw
                    case rel => exact ⟨c + 1, true, by omega, by go_num, rfl, HST.out true (by simp), HC.out⟩
                    case measure => simp [intOf]; omega
                  | false =>
                    cases q1 : belowB rows i c with
                    | false =>
                      rw [q1] at k1 HST
                      clear q1 k2
                      go_wp2_with (go_at_call 19; refine k1.mono ?_; clear k1; rintro e w5 ⟨rfl, hb⟩; have H5 := Lib.hid (HC.out.step hb); clear hb)
                      go_roundw
                      case rel => exact ⟨c + 1, false, by omega, by go_num, rfl, HST.out false (by simp), H5.out⟩
                      case measure => simp [intOf]; omega
                    | true =>
                      rw [q1] at k1 HST
                      clear q1
                      generalize hqt : belowB rows j c = t at k2 HST
                      clear hqt
                      go_wp2_with (first | (go_at_call 19; refine k1.mono ?_; clear k1; rintro e w5 ⟨rfl, hb⟩; have H5 := Lib.hid (HC.out.step hb); have hc7 := H5.out.box.cell; clear hb) | (go_at_call 19; refine (k2 _ H5.out).mono ?_; clear k2; rintro e w6 ⟨rfl, hb⟩; have H6 := Lib.hid (H5.out.step hb); clear hb))
                      go_roundw
                      case rel => exact ⟨c + 1, t, by omega, by go_num, rfl, HST.out t (by simp), H6.out⟩
                      case measure => simp [intOf]; omega
                · obtain rfl : c = rows.length := by omega
                  have hcz : ¬ (rows.length : Int) < (rows.length : Int) := by omega
                  obtain ⟨g1, g2⟩ := F2.out i j hlt hjr
                  have g3 : (0 ≤ joinB rows i j) ↔ s = true := g2.trans HSS.out.symm
                  have k1 := HCM.out wr HC.out i j
                  have k2 := fun W h => HCJ.out W h i j
                  generalize meetB rows i j = m at g1 k1
                  generalize joinB rows i j = x at g3 k2
                  have hm0 : ¬ m < 0 := by omega
                  cases s with
                  | true =>
                    have hx0 : 0 ≤ x := g3.2 rfl
                    clear g1 g2 g3
                    go_wp2_with (first | (go_at_call 23; refine k1.mono ?_; clear k1; rintro e w5 ⟨rfl, hb⟩; have H5 := Lib.hid (HC.out.step hb); have hc7 := H5.out.box.cell; clear hb) | (go_at_call 22; refine (k2 _ H5.out).mono ?_; clear k2; rintro e w6 ⟨rfl, hb⟩; have H6 := Lib.hid (H5.out.step hb); clear hb))
                    go_roundw
                    case rel => exact ⟨j + 1, by omega, by go_num, H6.out⟩
                    case measure => simp [intOf]; omega
                  | false =>
                    have hx0 : ¬ 0 ≤ x := fun h => by have := g3.1 h; cases this
                    clear g1 g2 g3
                    go_wp2_with (first | (go_at_call 23; refine k1.mono ?_; clear k1; rintro e w5 ⟨rfl, hb⟩; have H5 := Lib.hid (HC.out.step hb); have hc7 := H5.out.box.cell; clear hb) | (go_at_call 22; refine (k2 _ H5.out).mono ?_; clear k2; rintro e w6 ⟨rfl, hb⟩; have H6 := Lib.hid (H5.out.step hb); clear hb))
                    go_roundw
                    case rel => exact ⟨j + 1, by omega, by go_num, H6.out⟩
                    case measure => simp [intOf]; omega
            · obtain rfl : j = i := by omega
              have hjz : ¬ (j : Int) < (j : Int) := by omega
              go_wp2
              go_roundw
              case rel => exact ⟨j + 1, by omega, by go_num, HJ.out⟩
              case measure => simp [intOf]; omega
        · obtain rfl : i = rows.length := by omega
          have hltz : ¬ (rows.length : Int) < (rows.length : Int) := by omega
          have k1 := HCL.out wr HK.out
          have g1 := F1.out
          generalize leastB rows = m at k1 g1
          go_wp2_with (go_at_call 25; refine k1.mono ?_; clear k1; rintro e w5 ⟨rfl, hb⟩; have H5 := Lib.hid (HK.out.step hb); clear hb)
          go_ret
          exact ⟨rfl, H5.out.below⟩
end Go.Proofs.YtjlemkmpmjdjaaaDoor
