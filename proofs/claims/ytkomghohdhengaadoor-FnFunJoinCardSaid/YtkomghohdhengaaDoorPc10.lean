/- The model's joins (l1Join). -/
import Derived.Test.YtkomghohdhengaaDoorPc8
import Derived.Test.YtkomghohdhengaaDoorPc5
namespace Go.Proofs.YtkomghohdhengaaDoor
open Go.RowKit Go.Deep

theorem joinI_at {rows : Rows2} {i j k : Nat} (hi : i < rows.length) (hk : k < rows[i].length) (h : joinTest rows i j rows[i][k] = true) (hq : ∀ q (hq : q < rows[i].length), q < k → joinTest rows i j rows[i][q] = false) : joinI rows i j = rows[i][k] := by
  unfold joinI
  rw [getD_at [] hi]
  have e : rows[i].find? (joinTest rows i j) = some rows[i][k] := by
    rw [List.find?_eq_some_iff_getElem]
    exact ⟨h, k, hk, rfl, fun q hlt => by rw [hq q (by omega) hlt]; rfl⟩
  rw [e]
theorem joinI_none {rows : Rows2} {i j : Nat} (hi : i < rows.length) (hq : ∀ q (hq : q < rows[i].length), joinTest rows i j rows[i][q] = false) : joinI rows i j = -1 := by
  unfold joinI
  rw [getD_at [] hi]
  have e : rows[i].find? (joinTest rows i j) = none := by
    rw [List.find?_eq_none]
    intro c hc
    obtain ⟨q, hq', rfl⟩ := List.getElem_of_mem hc
    rw [hq q hq']
    simp
  rw [e]
/-- One element of row i: below c, if it is above j. -/
def leastAt (rows : Rows2) (j c : Nat) (e : Int) : Bool := !upB rows j e || upB rows c e
theorem joinTest_no {rows : Rows2} {i j c : Nat} (h : upB rows j c = false) : joinTest rows i j c = false := by unfold joinTest; rw [h]; rfl
theorem joinTest_yes {rows : Rows2} {i j c : Nat} (hi : i < rows.length) (h : upB rows j c = true) (ha : ∀ q (hq : q < rows[i].length), leastAt rows j c rows[i][q] = true) : joinTest rows i j c = true := by
  unfold joinTest
  rw [h, Bool.true_and, getD_at [] hi, List.all_eq_true]
  intro e he
  obtain ⟨q, hq, rfl⟩ := List.getElem_of_mem he
  exact ha q hq
theorem joinTest_bad {rows : Rows2} {i j c q : Nat} (hi : i < rows.length) (hq : q < rows[i].length) (h : leastAt rows j c rows[i][q] = false) : joinTest rows i j c = false := by
  unfold joinTest
  rw [Bool.and_eq_false_iff]
  right
  rw [List.all_eq_false, getD_at [] hi]
  exact ⟨_, List.getElem_mem hq, by rw [show (!upB rows j rows[i][q] || upB rows (c : Int).toNat rows[i][q]) = leastAt rows j c rows[i][q] from rfl, h]; simp⟩

/-- A row of rows that read. -/
theorem RowsAt.row {W : World} {b0 o0 C : Nat} {rows : Rows2} (h : RowsAt W (.slice (some ⟨b0, o0, none⟩) rows.length C) rows) {i : Nat} (hi : i < rows.length) :
    ∃ A1 C1, rows[i].length ≤ C1 ∧ C1 ≤ maxLen ∧ W.cell? ⟨b0, o0 + i, none⟩ = some (.slice A1 rows[i].length C1) ∧ ∀ k (hk : k < rows[i].length), ∃ b1 o1, A1 = some ⟨b1, o1, none⟩ ∧ W.cell? ⟨b1, o1 + k, none⟩ = some (.int .i64 rows[i][k]) := by
  obtain ⟨a, C', e, _, _, hx⟩ := h
  cases e
  obtain ⟨_, _, u, e1, hc, hu⟩ := hx i hi
  cases e1
  obtain ⟨A1, C1, rfl, h1, h2, _, hy⟩ := hu
  exact ⟨A1, C1, h1, h2, hc, hy⟩

set_option maxRecDepth 100000 in
set_option maxHeartbeats 4000000 in
theorem l1Join_any (v : Value) (rows : Rows2) (x y : Int) (i j : Nat) (w : World) (hv : RowsAt w v rows) (hn : bulk rows ≤ 1048576) (hl : listsB rows = true) (hx : x = i) (hy : y = j) (hi : i < rows.length) (hj : j < rows.length) :
    Calls Tryd.prog 132 #[.agg #[v], .int .i64 x, .int .i64 y] w (SaysI (joinI rows i j) w) := by
  subst hx hy
  have hH := Held.start w 25 hv
  have hlen : rows.length ≤ 1048576 := by unfold bulk at hn; omega
  obtain ⟨A, C, rfl, hC, hm, hx⟩ := hv
  unfold maxLen at hm
  obtain ⟨b0, o0, _, rfl, _, _⟩ := hx i hi
  have hli : rows[i].length ≤ 1048576 := by have := bulk_row hi; omega
  have HH := Lib.hid hH
  clear hH hx
  go_enter Tryd.func132, Tryd.ntmps132
  go_wp2
  go_loopw [7] (fun kv wr => ∃ k : Nat, k ≤ rows[i].length ∧ kv = .int .i64 k ∧ (∀ q (hq : q < rows[i].length), q < k → joinTest rows i j rows[i][q] = false) ∧ Held w (.slice (some ⟨b0, o0, none⟩) rows.length C) rows wr) (fun kv _ => rows[i].length - (intOf kv).toNat)
  case atStart => exact ⟨0, Nat.zero_le _, rfl, fun _ _ h => absurd h (Nat.not_lt_zero _), HH.out⟩
  case round =>
    obtain ⟨k, hk, rfl, hno, hh⟩ := hrel
    have HNO := Lib.hid hno
    have hcell := hh.1
    obtain ⟨A1, C1, hC1, hm1, hc, hyy⟩ := hh.2.1.row hi
    unfold maxLen at hm1
    have HK := Lib.hid hh
    clear hno hh HH
    by_cases hlt : k < rows[i].length
    · obtain ⟨b1, o1, rfl, hc1⟩ := hyy k hlt
      have hrange := (lists_at hl i hi).2 _ (List.getElem_mem hlt)
      obtain ⟨cn, hcn⟩ : ∃ cn : Nat, rows[i][k] = (cn : Int) := ⟨rows[i][k].toNat, by omega⟩
      rw [hcn] at hc1 hrange
      have hcl : cn < rows.length := by omega
      have HCN := Lib.hid hcn
      clear hyy hcn hrange
      cases hup : upB rows j cn with
      | false =>
        have hcall := le_call HK.out.2.1 hl hn j cn (by omega) (by omega) (r := false) (by rw [Int.toNat_natCast]; exact hup)
        have HT := Lib.hid (joinTest_no (i := i) hup)
        clear hup
        go_wp2_with (go_at_call 98; refine hcall.mono ?_; clear hcall; rintro e w2 ⟨rfl, hb2⟩; have HK2 := Lib.hid (HK.out.below hb2); clear hb2)
        go_roundw
        case rel =>
          refine ⟨k + 1, by omega, by go_num, fun q hq hlt' => ?_, HK2.out⟩
          by_cases e : q = k
          · subst e; rw [HCN.out]; exact HT.out
          · exact HNO.out q hq (by omega)
        case measure => simp [intOf]; omega
      | true =>
        have hcall := le_call HK.out.2.1 hl hn j cn (by omega) (by omega) (r := true) (by rw [Int.toNat_natCast]; exact hup)
        have HU := Lib.hid hup
        clear hup
        go_wp2_with (go_at_call 98; refine hcall.mono ?_; clear hcall; rintro e w2 ⟨rfl, hb2⟩; have HK2 := Lib.hid (HK.out.below hb2); clear hb2 hc hc1 hcell)
        go_loopw [9, 10] (fun lv mv wr => ∃ (m : Nat) (t : Bool), m ≤ rows[i].length ∧ mv = .int .i64 m ∧ lv = .bool t ∧ (t = true → ∀ q (hq : q < rows[i].length), q < m → leastAt rows j cn rows[i][q] = true) ∧ (t = false → ∃ q, ∃ hq : q < rows[i].length, leastAt rows j cn rows[i][q] = false) ∧ Held w (.slice (some ⟨b0, o0, none⟩) rows.length C) rows wr) (fun _ mv _ => rows[i].length - (intOf mv).toNat)
        case atStart => exact ⟨0, true, Nat.zero_le _, rfl, rfl, fun _ _ _ h => absurd h (Nat.not_lt_zero _), fun h => (by cases h), HK2.out⟩
        case round =>
          obtain ⟨m, t, hm2, rfl, rfl, ht1, ht2, hh⟩ := hrel
          have HT1 := Lib.hid ht1
          have HT2 := Lib.hid ht2
          have hcell := hh.1
          obtain ⟨_, _, hC2, hm3, hc, hyy⟩ := hh.2.1.row hi
          unfold maxLen at hm3
          have HM := Lib.hid hh
          clear ht1 ht2 hh HK2 HK
          cases t with
          | false =>
            by_cases hml : m < rows[i].length
            all_goals
              go_wp2
              go_roundw
              case rel =>
                refine ⟨k + 1, by omega, by go_num, fun q hq hlt' => ?_, HM.out⟩
                by_cases e : q = k
                · subst e
                  obtain ⟨q', hq', hb⟩ := HT2.out rfl
                  rw [HCN.out]; exact joinTest_bad hi hq' hb
                · exact HNO.out q hq (by omega)
              case measure => simp [intOf]; omega
          | true =>
            by_cases hml : m < rows[i].length
            · obtain ⟨b2, o2, rfl, hc2⟩ := hyy m hml
              have hre := (lists_at hl i hi).2 _ (List.getElem_mem hml)
              obtain ⟨en, hen⟩ : ∃ en : Nat, rows[i][m] = (en : Int) := ⟨rows[i][m].toNat, by omega⟩
              rw [hen] at hc2 hre
              have HEN := Lib.hid hen
              clear hyy hen hre
              cases hu1 : upB rows j en with
              | false =>
                have hcall := le_call HM.out.2.1 hl hn j en (by omega) (by omega) (r := false) (by rw [Int.toNat_natCast]; exact hu1)
                have HL := Lib.hid (show leastAt rows j cn rows[i][m] = true by unfold leastAt; rw [HEN.out, hu1]; rfl)
                clear hu1
                go_wp2_with (go_at_call 98; refine hcall.mono ?_; clear hcall; rintro e w3 ⟨rfl, hb3⟩; have HM3 := Lib.hid (HM.out.below hb3); have hcell := HM3.out.1; clear hb3)
                go_roundw
                case rel =>
                  refine ⟨m + 1, true, by omega, by go_num, rfl, fun _ q hq hlt' => ?_, fun h => (by cases h), HM3.out⟩
                  by_cases e : q = m
                  · subst e; exact HL.out
                  · exact HT1.out (by trivial) q hq (by omega)
                case measure => simp [intOf]; omega
              | true =>
                have hcall := le_call HM.out.2.1 hl hn j en (by omega) (by omega) (r := true) (by rw [Int.toNat_natCast]; exact hu1)
                cases hu2 : upB rows cn en with
                | false =>
                  have HL := Lib.hid (show leastAt rows j cn rows[i][m] = false by unfold leastAt; rw [HEN.out, hu1, hu2]; rfl)
                  have HU2 := Lib.hid hu2
                  clear hu1 hu2
                  go_wp2_with fail
                  refine hcall.mono ?_
                  clear hcall
                  rintro e w3 ⟨rfl, hb3⟩
                  have HM3 := Lib.hid (HM.out.below hb3)
                  have hcell := HM3.out.1
                  have hcall := le_call HM3.out.2.1 hl hn cn en (by omega) (by omega) (r := false) (by rw [Int.toNat_natCast]; exact HU2.out)
                  clear hb3
                  go_wp2_with fail
                  refine hcall.mono ?_
                  clear hcall
                  rintro e w4 ⟨rfl, hb4⟩
                  have HM4 := Lib.hid (HM3.out.below hb4)
                  clear hb4
                  go_wp2_with fail
                  go_roundw
                  case rel => exact ⟨m + 1, false, by omega, by go_num, rfl, fun h => (by cases h), fun _ => ⟨m, hml, HL.out⟩, HM4.out⟩
                  case measure => simp [intOf]; omega
                | true =>
                  have HL := Lib.hid (show leastAt rows j cn rows[i][m] = true by unfold leastAt; rw [HEN.out, hu1, hu2]; rfl)
                  have HU2 := Lib.hid hu2
                  clear hu1 hu2
                  go_wp2_with fail
                  refine hcall.mono ?_
                  clear hcall
                  rintro e w3 ⟨rfl, hb3⟩
                  have HM3 := Lib.hid (HM.out.below hb3)
                  have hcell := HM3.out.1
                  have hcall := le_call HM3.out.2.1 hl hn cn en (by omega) (by omega) (r := true) (by rw [Int.toNat_natCast]; exact HU2.out)
                  clear hb3
                  go_wp2_with fail
                  refine hcall.mono ?_
                  clear hcall
                  rintro e w4 ⟨rfl, hb4⟩
                  have HM4 := Lib.hid (HM3.out.below hb4)
                  clear hb4
                  go_wp2_with fail
                  go_roundw
                  case rel =>
                    refine ⟨m + 1, true, by omega, by go_num, rfl, fun _ q hq hlt' => ?_, fun h => (by cases h), HM4.out⟩
                    by_cases e : q = m
                    · subst e; exact HL.out
                    · exact HT1.out (by trivial) q hq (by omega)
                  case measure => simp [intOf]; omega
            · have HE := Lib.hid (joinI_at hi hlt (by rw [HCN.out]; exact joinTest_yes hi HU.out (fun q hq => HT1.out rfl q hq (by omega))) HNO.out)
              go_wp2
              go_ret
              exact ⟨by rw [HE.out, HCN.out]; rfl, HM.out.2.2.1⟩
    · have HE := Lib.hid (joinI_none hi fun q hq => HNO.out q hq (by omega))
      go_wp2
      go_ret
      exact ⟨by rw [HE.out]; rfl, HK.out.2.2.1⟩
end Go.Proofs.YtkomghohdhengaaDoor


