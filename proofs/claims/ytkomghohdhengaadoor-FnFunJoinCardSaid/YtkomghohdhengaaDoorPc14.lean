/- The model's DomainIs. -/
import Derived.Test.YtkomghohdhengaaDoorPc10
import Derived.Test.YtkomghohdhengaaDoorPc8
import Derived.StillTailTactics
namespace Go.Proofs.YtkomghohdhengaaDoor
open Go.RowKit Go.Deep

/-- Two elements that are bounded and have no join. -/
def badB (rows : Rows2) (a b : Nat) : Bool := boundedI rows a b && decide (joinI rows a b < 0)
def domI (rows : Rows2) : Bool := decide (0 ≤ leastI rows) && (List.range rows.length).all fun a => (List.range a).all fun b => !badB rows a b
theorem domI_least {rows : Rows2} (h : leastI rows < 0) : domI rows = false := by
  unfold domI
  rw [decide_eq_false (by omega)]
  rfl
theorem domI_bad {rows : Rows2} {a b : Nat} (ha : a < rows.length) (hb : b < a) (h : badB rows a b = true) : domI rows = false := by
  unfold domI
  rw [Bool.and_eq_false_iff]
  right
  rw [List.all_eq_false]
  refine ⟨a, List.mem_range.2 ha, ?_⟩
  rw [Bool.not_eq_true, List.all_eq_false]
  exact ⟨b, List.mem_range.2 hb, by rw [h]; simp⟩
theorem domI_yes {rows : Rows2} (h : 0 ≤ leastI rows) (hall : ∀ a, a < rows.length → ∀ b, b < a → badB rows a b = false) : domI rows = true := by
  unfold domI
  rw [decide_eq_true h, Bool.true_and, List.all_eq_true]
  intro a ha
  rw [List.all_eq_true]
  intro b hb
  rw [hall a (List.mem_range.1 ha) b (List.mem_range.1 hb)]
  rfl
/-- What DomainIs answers. -/
noncomputable def domB (rows : Rows2) : Bool := validB rows && domI rows

theorem bounded_yes {rows : Rows2} {i j k : Nat} (hi : i < rows.length) (hk : k < rows[i].length) (h : upB rows j rows[i][k] = true) : boundedI rows i j = true := by
  unfold boundedI
  rw [getD_at [] hi, List.any_eq_true]
  exact ⟨_, List.getElem_mem hk, h⟩
theorem bounded_no {rows : Rows2} {i j : Nat} (hi : i < rows.length) (h : ∀ k (hk : k < rows[i].length), upB rows j rows[i][k] = false) : boundedI rows i j = false := by
  unfold boundedI
  rw [getD_at [] hi, List.any_eq_false]
  intro c hc
  obtain ⟨k, hk, rfl⟩ := List.getElem_of_mem hc
  rw [h k hk]
  simp

set_option maxRecDepth 100000 in
set_option maxHeartbeats 4000000 in
theorem l1Bounded_any (v : Value) (rows : Rows2) (x y : Int) (i j : Nat) (w : World) (hv : RowsAt w v rows) (hn : bulk rows ≤ 1048576) (hl : listsB rows = true) (hx : x = i) (hy : y = j) (hi : i < rows.length) (hj : j < rows.length) :
    Calls Tryd.prog 151 #[.agg #[v], .int .i64 x, .int .i64 y] w (SaysN (boundedI rows i j) w) := by
  subst hx hy
  have hH := Held.start w 25 hv
  have hlen : rows.length ≤ 1048576 := by unfold bulk at hn; omega
  obtain ⟨A, C, rfl, hC, hm, hx⟩ := hv
  unfold maxLen at hm
  obtain ⟨b0, o0, _, rfl, _, _⟩ := hx i hi
  have hli : rows[i].length ≤ 1048576 := by have := bulk_row hi; omega
  have HH := Lib.hid hH
  clear hH hx
  go_enter Tryd.func151, Tryd.ntmps151
  go_wp2
  go_loopw [7] (fun kv wr => ∃ k : Nat, k ≤ rows[i].length ∧ kv = .int .i64 k ∧ (∀ q (hq : q < rows[i].length), q < k → upB rows j rows[i][q] = false) ∧ Held w (.slice (some ⟨b0, o0, none⟩) rows.length C) rows wr) (fun kv _ => rows[i].length - (intOf kv).toNat)
  case atStart => exact ⟨0, Nat.zero_le _, rfl, fun _ _ h => absurd h (Nat.not_lt_zero _), HH.out⟩
  case round =>
    obtain ⟨k, hk, rfl, hno, hh⟩ := hrel
    have HNO := Lib.hid hno
    have hcell := hh.1
    obtain ⟨A1, C1, hC1, hm1, hc, hyy⟩ := hh.2.1.row hi
    unfold maxLen at hm1
    have HK := Lib.hid hh
    clear hno hh HH
    by_cases hlt : k < rows[i].length
    · obtain ⟨b1, o1, rfl, hc1⟩ := hyy k hlt
      clear hyy
      cases hup : upB rows j rows[i][k] with
      | true =>
        have HCALL := Lib.hid (le_call (HK.out.drew).2.1 hl hn j rows[i][k] (by omega) (by omega) (r := true) (by simpa using hup))
        have HE := Lib.hid (bounded_yes hi hlt hup)
        clear hup
        go_wp2
        go_still_tail 10, (by kernel_rfl)
        go_wp2_with (go_at_call 98; refine HCALL.out.mono ?_; clear HCALL; rintro e w3 ⟨rfl, hb3⟩; have H3 := Lib.hid (HK.out.drew.below hb3); clear hb3)
        go_ret
        exact ⟨by rw [HE.out]; rfl, H3.out.2.2.1⟩
      | false =>
        have HCALL := Lib.hid (le_call (HK.out.drew).2.1 hl hn j rows[i][k] (by omega) (by omega) (r := false) (by simpa using hup))
        have HU := Lib.hid hup
        clear hup
        go_wp2
        go_still_tail 10, (by kernel_rfl)
        go_wp2_with (go_at_call 98; refine HCALL.out.mono ?_; clear HCALL; rintro e w3 ⟨rfl, hb3⟩; have H3 := Lib.hid (HK.out.drew.below hb3); clear hb3)
        go_roundw
        case rel =>
          refine ⟨k + 1, by omega, by go_num, fun q hq hlt' => ?_, H3.out⟩
          by_cases e : q = k
          · subst e; exact HU.out
          · exact HNO.out q hq (by omega)
        case measure => simp [intOf]; omega
    · have HE := Lib.hid (bounded_no hi fun q hq => HNO.out q hq (by omega))
      go_wp2
      go_ret
      exact ⟨by rw [HE.out]; rfl, HK.out.2.2.1⟩

set_option maxRecDepth 100000 in
set_option maxHeartbeats 4000000 in
theorem specDom_any (v : Value) (rows : Rows2) (w : World) (hv : RowsAt w v rows) (hn : bulk rows ≤ 1048576) :
    Calls Tryd.prog 109 #[.agg #[v]] w (SaysN (domB rows) w) := by
  have hH := Held.start w 25 hv
  have hcall := specValid_any v rows _ hH.2.1 hn
  have hlen : rows.length ≤ 1048576 := by unfold bulk at hn; omega
  obtain ⟨A, C, rfl, hC, hm, _⟩ := hv
  unfold maxLen at hm
  have HH := Lib.hid hH
  clear hH
  unfold domB
  cases hval : validB rows with
  | false =>
    rw [hval] at hcall
    rw [Bool.false_and]
    clear hval
    go_enter Tryd.func109, Tryd.ntmps109
    go_wp2_with (go_at_call 125; refine hcall.mono ?_; clear hcall; rintro e w1 ⟨rfl, hb1⟩; have H1 := Lib.hid (HH.out.below hb1); have hc1 := H1.out.1; clear hb1)
    go_ret
    exact ⟨rfl, H1.out.2.2.1⟩
  | true =>
    rw [hval] at hcall
    rw [Bool.true_and]
    have hl := valid_lists hval
    clear hval
    by_cases hle : leastI rows < 0
    · have HE := Lib.hid (domI_least hle)
      have hle2 : ¬ 0 ≤ leastI rows := by omega
      go_enter Tryd.func109, Tryd.ntmps109
      go_wp2_with (first | (go_at_call 125; refine hcall.mono ?_; clear hcall; rintro e w1 ⟨rfl, hb1⟩; have H1 := Lib.hid (HH.out.below hb1); have hc1 := H1.out.1; clear hb1) | (go_at_call 97; refine (l1Least_any _ rows _ H1.out.2.1 hn).mono ?_; rintro e w2 ⟨rfl, hb2⟩; have H2 := Lib.hid (H1.out.below hb2); clear hb2))
      go_ret
      exact ⟨by rw [HE.out]; rfl, H2.out.2.2.1⟩
    · have hle2 : 0 ≤ leastI rows := by omega
      have HLE := Lib.hid hle2
      go_enter Tryd.func109, Tryd.ntmps109
      go_wp2_with (first | (go_at_call 125; refine hcall.mono ?_; clear hcall; rintro e w1 ⟨rfl, hb1⟩; have H1 := Lib.hid (HH.out.below hb1); have hc1 := H1.out.1; clear hb1) | (go_at_call 97; refine (l1Least_any _ rows _ H1.out.2.1 hn).mono ?_; rintro e w2 ⟨rfl, hb2⟩; have H2 := Lib.hid (H1.out.below hb2); clear hb2))
      go_loopw [3] (fun av wr => ∃ a : Nat, a ≤ rows.length ∧ av = .int .i64 a ∧ (∀ q, q < a → ∀ b, b < q → badB rows q b = false) ∧ Held w (.slice A rows.length C) rows wr) (fun av _ => rows.length - (intOf av).toNat)
      case atStart => exact ⟨0, Nat.zero_le _, rfl, fun _ h => absurd h (Nat.not_lt_zero _), H2.out⟩
      case round =>
        obtain ⟨a, ha, rfl, hg, hh⟩ := hrel
        have HG := Lib.hid hg
        have HA := Lib.hid hh
        have hcell := hh.1
        clear hg hh H2
        by_cases hal : a < rows.length
        · go_wp2
          go_loopw [4] (fun bv wr => ∃ b : Nat, b ≤ a ∧ bv = .int .i64 b ∧ (∀ q, q < b → badB rows a q = false) ∧ Held w (.slice A rows.length C) rows wr) (fun bv _ => a - (intOf bv).toNat)
          case atStart => exact ⟨0, Nat.zero_le _, rfl, fun _ h => absurd h (Nat.not_lt_zero _), HA.out⟩
          case round =>
            obtain ⟨b, hb, rfl, hg, hh⟩ := hrel
            have HG2 := Lib.hid hg
            have HB := Lib.hid hh
            have hcell := hh.1
            clear hg hh
            by_cases hbl : b < a
            · have hcall := l1Bounded_any _ rows a b a b _ HB.out.2.1 hn hl rfl rfl hal (by omega)
              cases hbd : boundedI rows a b with
              | false =>
                rw [hbd] at hcall
                have HE := Lib.hid (show badB rows a b = false by unfold badB; rw [hbd]; rfl)
                clear hbd
                go_wp2_with (go_at_call 151; refine hcall.mono ?_; clear hcall; rintro e w3 ⟨rfl, hb3⟩; have HB3 := Lib.hid (HB.out.below hb3); clear hb3)
                go_roundw
                case rel =>
                  refine ⟨b + 1, by omega, by go_num, fun q hq => ?_, HB3.out⟩
                  by_cases e : q = b
                  · subst e; exact HE.out
                  · exact HG2.out q (by omega)
                case measure => simp [intOf]; omega
              | true =>
                rw [hbd] at hcall
                by_cases hj : joinI rows a b < 0
                · have hj2 : ¬ 0 ≤ joinI rows a b := by omega
                  have HE := Lib.hid (domI_bad hal hbl (show badB rows a b = true by unfold badB; rw [hbd, decide_eq_true hj]; rfl))
                  clear hbd
                  go_wp2_with (first | (go_at_call 151; refine hcall.mono ?_; clear hcall; rintro e w3 ⟨rfl, hb3⟩; have HB3 := Lib.hid (HB.out.below hb3); have hcell := HB3.out.1; clear hb3) | (go_at_call 132; refine (l1Join_any _ rows a b a b _ HB3.out.2.1 hn hl rfl rfl hal (by omega)).mono ?_; rintro e w4 ⟨rfl, hb4⟩; have HB4 := Lib.hid (HB3.out.below hb4); clear hb4))
                  go_ret
                  exact ⟨by rw [HE.out]; rfl, HB4.out.2.2.1⟩
                · have hj2 : 0 ≤ joinI rows a b := by omega
                  have HE := Lib.hid (show badB rows a b = false by unfold badB; rw [hbd, decide_eq_false hj]; rfl)
                  clear hbd
                  go_wp2_with (first | (go_at_call 151; refine hcall.mono ?_; clear hcall; rintro e w3 ⟨rfl, hb3⟩; have HB3 := Lib.hid (HB.out.below hb3); have hcell := HB3.out.1; clear hb3) | (go_at_call 132; refine (l1Join_any _ rows a b a b _ HB3.out.2.1 hn hl rfl rfl hal (by omega)).mono ?_; rintro e w4 ⟨rfl, hb4⟩; have HB4 := Lib.hid (HB3.out.below hb4); clear hb4))
                  go_roundw
                  case rel =>
                    refine ⟨b + 1, by omega, by go_num, fun q hq => ?_, HB4.out⟩
                    by_cases e : q = b
                    · subst e; exact HE.out
                    · exact HG2.out q (by omega)
                  case measure => simp [intOf]; omega
            · obtain rfl : b = a := by omega
              go_wp2
              go_roundw
              case rel =>
                refine ⟨b + 1, by omega, by go_num, fun q hq => ?_, HB.out⟩
                by_cases e : q = b
                · subst e; exact HG2.out
                · exact HG.out q (by omega)
              case measure => simp [intOf]; omega
        · obtain rfl : a = rows.length := by omega
          have HE := Lib.hid (domI_yes HLE.out HG.out)
          go_wp2
          go_ret
          exact ⟨by rw [HE.out]; rfl, HA.out.2.2.1⟩
end Go.Proofs.YtkomghohdhengaaDoor


