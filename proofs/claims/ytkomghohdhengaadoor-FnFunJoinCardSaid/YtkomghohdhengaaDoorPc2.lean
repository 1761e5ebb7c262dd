/- The model's look-up by halves (l1Le) and its checks of lists (l6In, l1Lists, OrderValid). -/
import Derived.Test.YtkomghohdhengaaDoorProg
import Derived.Test.YtkomghohdhengaaDoorPc1
namespace Go.Proofs.YtkomghohdhengaaDoor
open Go.RowKit Go.Deep

theorem l6In_any (x lo hi : Int) (w : World) : Calls Tryd.prog 123 #[.int .i64 x, .int .i64 lo, .int .i64 hi] w fun e w' => e = .returned (.bool (decide (lo ≤ x) && decide (x ≤ hi))) ∧ w = w' := by
  by_cases h1 : lo ≤ x
  · by_cases h2 : x ≤ hi
    · rw [decide_eq_true h1, decide_eq_true h2]
      go_enter Tryd.func123, Tryd.ntmps123
      go_wp2
      go_ret
      exact ⟨rfl, rfl⟩
    · rw [decide_eq_true h1, decide_eq_false h2]
      go_enter Tryd.func123, Tryd.ntmps123
      go_wp2
      go_ret
      exact ⟨rfl, rfl⟩
  · rw [decide_eq_false h1]
    go_enter Tryd.func123, Tryd.ntmps123
    go_wp2
    go_ret
    exact ⟨rfl, rfl⟩

set_option maxHeartbeats 1000000 in
theorem l1Le_any (v : Value) (rows : Rows2) (a : Int) (i : Nat) (b : Int) (w : World) (hv : RowsAt w v rows) (hi : i < rows.length) (ha : a = i) (hs : Asc rows[i]) (hn : bulk rows ≤ 1048576) :
    Calls Tryd.prog 98 #[.agg #[v], .int .i64 a, .int .i64 b] w (SaysN (upB rows i b) w) := by
  subst ha
  obtain ⟨A, C, rfl, hC, hm, hx⟩ := hv
  obtain ⟨b0, o0, u, rfl, hc, hu⟩ := hx i hi
  obtain ⟨A1, C1, rfl, hC1, hm1, _, hy⟩ := hu
  unfold maxLen at hm hm1
  have hlt0 := cell_lt hc
  have hc0 : (w.alloc (.cells #[.slice (some ⟨b0, o0, none⟩) rows.length C] 25)).cell? ⟨b0, o0 + i, none⟩ = some (.slice A1 rows[i].length C1) := by
    rw [((Below.refl _ w).alloc (Nat.le_refl _) _).cell (p := ⟨b0, o0 + i, none⟩) hlt0]; exact hc
  have hlen : rows[i].length ≤ 1048576 := by have := bulk_row hi; omega
  have hup : upB rows i b = decide (b ∈ rows[i]) := by unfold upB; rw [getD_lt [] hi]
  rw [hup]
  have HS := Lib.hid hs
  clear hx hup hn hs hc
  go_enter Tryd.func98, Tryd.ntmps98
  go_wp2
  go_loop [7, 8] (fun lo hi => ∃ l h : Nat, l ≤ h ∧ h ≤ rows[i].length ∧ lo = .int .i64 l ∧ hi = .int .i64 h ∧ (∀ j (hj : j < rows[i].length), j < l → rows[i][j] < b) ∧ (∀ j (hj : j < rows[i].length), h ≤ j → b ≤ rows[i][j])) (fun lo hi => (intOf hi).toNat - (intOf lo).toNat)
  case atStart => exact ⟨0, _, Nat.zero_le _, Nat.le_refl _, rfl, rfl, fun j _ h => absurd h (Nat.not_lt_zero _), fun j hj h => absurd hj (by omega)⟩
  case round =>
    obtain ⟨l, h, hlh, hh, rfl, rfl, h1, h2⟩ := hrel
    have H1 := Lib.hid h1
    have H2 := Lib.hid h2
    clear h1 h2
    by_cases hlt : l < h
    · have hm1' : l ≤ (l + h) / 2 := by omega
      have hm2' : (l + h) / 2 < h := by omega
      obtain ⟨b1, o1, rfl, hc1⟩ := hy ((l + h) / 2) (by omega)
      have hlt1 := cell_lt hc1
      replace hc1 : (w.alloc (.cells #[.slice (some ⟨b0, o0, none⟩) rows.length C] 25)).cell? ⟨b1, o1 + (l + h) / 2, none⟩ = some (.int .i64 (rows[i][(l + h) / 2]'(by omega))) := by
        rw [((Below.refl _ w).alloc (Nat.le_refl _) _).cell (p := ⟨b1, o1 + (l + h) / 2, none⟩) hlt1]; exact hc1
      clear hy
      by_cases hb : rows[i][(l + h) / 2]'(by omega) < b
      · have HB := Lib.hid hb
        go_wp2
        go_round
        case rel =>
          refine ⟨(l + h) / 2 + 1, h, by omega, by omega, by go_num, rfl, fun j hj hj2 => ?_, H2.out⟩
          by_cases e : j = (l + h) / 2
          · subst e; exact HB.out
          · have := HS.out j ((l + h) / 2) (by omega) (by omega); have := HB.out; omega
        case measure => simp [intOf]; omega
      · have HB := Lib.hid hb
        go_wp2
        go_round
        case rel =>
          refine ⟨l, (l + h) / 2, by omega, by omega, rfl, by go_num, H1.out, fun j hj hj2 => ?_⟩
          by_cases e : j = (l + h) / 2
          · subst e; have := HB.out; omega
          · have := HS.out ((l + h) / 2) j (by omega) hj; have := HB.out; omega
        case measure => simp [intOf]; omega
    · obtain rfl : l = h := by omega
      have hd := search_done HS.out H1.out H2.out hh
      by_cases hk : l < rows[i].length
      · obtain ⟨b1, o1, rfl, hc1⟩ := hy l hk
        have hlt1 := cell_lt hc1
        replace hc1 : (w.alloc (.cells #[.slice (some ⟨b0, o0, none⟩) rows.length C] 25)).cell? ⟨b1, o1 + l, none⟩ = some (.int .i64 rows[i][l]) := by
          rw [((Below.refl _ w).alloc (Nat.le_refl _) _).cell (p := ⟨b1, o1 + l, none⟩) hlt1]; exact hc1
        by_cases hb : rows[i][l] = b
        · have e : decide (b ∈ rows[i]) = true := decide_eq_true (hd.1 ⟨hk, hb⟩)
          have hb' : (rows[i][l] == b) = true := by simpa using hb
          have HE := Lib.hid e
          clear e hb hd hy
          go_wp2
          go_ret
          exact ⟨by rw [HE.out]; rfl, (Below.refl _ w).alloc (Nat.le_refl _) _⟩
        · have e : decide (b ∈ rows[i]) = false := decide_eq_false (fun hh => by obtain ⟨_, h⟩ := hd.2 hh; exact hb h)
          have hb' : (rows[i][l] == b) = false := by simpa using hb
          have HE := Lib.hid e
          clear e hb hd hy
          go_wp2
          go_ret
          exact ⟨by rw [HE.out]; rfl, (Below.refl _ w).alloc (Nat.le_refl _) _⟩
      · have e : decide (b ∈ rows[i]) = false := decide_eq_false (fun hh => by obtain ⟨h, _⟩ := hd.2 hh; exact hk h)
        have HE := Lib.hid e
        clear e hd hy
        go_wp2
        go_ret
        exact ⟨by rw [HE.out]; rfl, (Below.refl _ w).alloc (Nat.le_refl _) _⟩

theorem l6In_yes (x lo hi : Int) (w : World) (h1 : lo ≤ x) (h2 : x ≤ hi) : Calls Tryd.prog 123 #[.int .i64 x, .int .i64 lo, .int .i64 hi] w fun e w' => e = .returned (.bool true) ∧ w' = w :=
  (l6In_any x lo hi w).mono fun e w' ⟨he, hw⟩ => ⟨by rw [he, decide_eq_true h1, decide_eq_true h2]; rfl, hw.symm⟩
theorem l6In_no (x lo hi : Int) (w : World) (h : ¬ (lo ≤ x ∧ x ≤ hi)) : Calls Tryd.prog 123 #[.int .i64 x, .int .i64 lo, .int .i64 hi] w fun e w' => e = .returned (.bool false) ∧ w' = w :=
  (l6In_any x lo hi w).mono fun e w' ⟨he, hw⟩ => ⟨by
    rw [he]
    have : (decide (lo ≤ x) && decide (x ≤ hi)) = false := by
      rw [Bool.and_eq_false_iff, decide_eq_false_iff_not, decide_eq_false_iff_not]; omega
    rw [this], hw.symm⟩

theorem IntsAt.drewN {w : World} {v : Value} {xs : List Int} (h : IntsAt w v xs) (n : Nat) : IntsAt (w.drewN n) v xs := h
theorem RowsAt.drewN {w : World} {v : Value} {rows : Rows2} (h : RowsAt w v rows) (n : Nat) : RowsAt (w.drewN n) v rows := h

theorem i64_sub1 (n : Nat) (h : n ≤ 1048576) : IntKind.i64.wrap ((n : Int) - 1) = (n : Int) - 1 := IntWalk.i64_in _ (by omega)

set_option maxHeartbeats 2000000 in
theorem l1Lists_any (v : Value) (rows : Rows2) (w : World) (hv : RowsAt w v rows) (hn : bulk rows ≤ 1048576) :
    Calls Tryd.prog 157 #[.agg #[v]] w (SaysN (listsB rows) w) := by
  have b1 : Below w.heap.size w (w.alloc (.cells #[v] 25)) := (Below.refl _ w).alloc (Nat.le_refl _) _
  have hv1 := hv.below b1
  have hcell : (w.alloc (.cells #[v] 25)).cell? ⟨w.heap.size, 0, none⟩ = some v := (World.rowIs_alloc w #[v] 25 (fun _ => v) (fun i hi => by simp at hi; subst hi; rfl)).cell (by simp)
  have hlen : rows.length ≤ 1048576 := by unfold bulk at hn; omega
  obtain ⟨A, C, rfl, hC, hm, _⟩ := hv
  obtain ⟨_, _, _, _, _, hx⟩ := hv1
  unfold maxLen at hm
  go_enter Tryd.func157, Tryd.ntmps157
  go_wp2
  obtain ⟨wB, hB⟩ : ∃ wB, wB = w.alloc (.cells #[.slice A rows.length C] 25) := ⟨_, rfl⟩
  rw [← hB] at b1 hcell hx ⊢
  clear hB
  have HX := Lib.hid hx
  have HC := Lib.hid hcell
  have HB := Lib.hid b1
  clear hx hcell b1
  go_loopw [4] (fun i wr => ∃ k n : Nat, k ≤ rows.length ∧ i = .int .i64 k ∧ (∀ j (hj : j < rows.length), j < k → ascB rows.length rows[j] = true) ∧ wr = wB.drewN n) (fun i _ => rows.length - (intOf i).toNat)
  case atStart => exact ⟨0, 0, Nat.zero_le _, rfl, fun _ _ h => absurd h (Nat.not_lt_zero _), rfl⟩
  case round =>
    obtain ⟨i, n, hi, rfl, hp, hw⟩ := hrel
    have HP := Lib.hid hp
    have HW := Lib.hid hw
    have hcell : wr.cell? ⟨w.heap.size, 0, none⟩ = some (.slice A rows.length C) := by rw [hw]; exact HC.out
    clear hp hw
    by_cases hlt : i < rows.length
    · obtain ⟨b0, o0, u, rfl, hc, hu⟩ := HX.out i hlt
      replace hc : wr.cell? ⟨b0, o0 + i, none⟩ = some u := by rw [HW.out]; exact hc
      replace hu : IntsAt wr u rows[i] := by rw [HW.out]; exact hu
      obtain ⟨A1, C1, rfl, hC1, hm1, _, hy⟩ := hu
      unfold maxLen at hm1
      have hli : rows[i].length ≤ 1048576 := by have := bulk_row hlt; omega
      have HY := Lib.hid hy
      clear hy
      go_wp2
      obtain ⟨wo, hwo⟩ : ∃ wo : World, wo = wr := ⟨_, rfl⟩
      rw [← hwo] at hcell hc HW HY ⊢
      clear hwo
      have HC' := Lib.hid hcell
      have HC2 := Lib.hid hc
      clear hcell hc
      go_loopw [5] (fun kv wr => ∃ k m : Nat, k ≤ rows[i].length ∧ kv = .int .i64 k ∧ AscPre rows.length rows[i] k ∧ wr = wo.drewN m) (fun kv _ => rows[i].length - (intOf kv).toNat)
      case atStart => exact ⟨0, 0, Nat.zero_le _, rfl, AscPre.zero _ _, rfl⟩
      case round =>
        obtain ⟨k, m, hk, rfl, hpre, hw⟩ := hrel
        have HP' := Lib.hid hpre
        have HW' := Lib.hid hw
        have hcell : wr.cell? ⟨w.heap.size, 0, none⟩ = some (.slice (some ⟨b0, o0, none⟩) rows.length C) := by rw [hw]; exact HC'.out
        have hc : wr.cell? ⟨b0, o0 + i, none⟩ = some (.slice A1 rows[i].length C1) := by rw [hw]; exact HC2.out
        clear hpre hw
        by_cases hkl : k < rows[i].length
        · obtain ⟨b1, o1, rfl, hc1⟩ := HY.out k hkl
          replace hc1 : wr.cell? ⟨b1, o1 + k, none⟩ = some (.int .i64 rows[i][k]) := by rw [HW'.out]; exact hc1
          have hs1 := i64_sub1 rows.length hlen
          by_cases hin : 0 ≤ rows[i][k] ∧ rows[i][k] ≤ (rows.length : Int) - 1
          · have HIN := Lib.hid hin
            have hcall : ∀ j, Calls Tryd.prog 123 #[.int .i64 rows[i][k], .int .i64 0, .int .i64 ((rows.length : Int) - 1)] (wr.drewN j) fun e w'' => e = .returned (.bool true) ∧ ∃ j', w'' = wr.drewN j' := fun j =>
              Calls.quiet_of_same (l6In_yes _ _ _ _ hin.1 hin.2)
            clear hin
            by_cases hk0 : 0 < k
            · obtain ⟨b1', o1', e1, hc2⟩ := HY.out (k - 1) (by omega)
              cases e1
              replace hc2 : wr.cell? ⟨b1, o1 + (k - 1), none⟩ = some (.int .i64 (rows[i][k - 1]'(by omega))) := by rw [HW'.out]; exact hc2
              have hs2 := i64_sub1 k (by omega)
              have hs3 : ((k : Int) - 1).toNat = k - 1 := by omega
              have hk0' : decide ((0 : Int) < (k : Int)) = true := decide_eq_true (by omega)
              have hs4 : (0 : Int) ≤ (k : Int) - 1 := by omega
              by_cases hle : rows[i][k] ≤ rows[i][k - 1]'(by omega)
              · have hle' : decide (rows[i][k] ≤ rows[i][k - 1]'(by omega)) = true := decide_eq_true hle
                have HE := Lib.hid (listsB_no hlt (ascB_no_step hkl hk0 hle))
                clear hle
                go_wp2
                go_quiet ((go_at_call 123; exact hcall _))
                go_wp2
                go_ret
                exact ⟨by rw [HE.out]; rfl, by rw [HW'.out, HW.out]; exact HB.out.trans ((below_drewN' _ _ _).trans ((below_drewN' _ _ _).trans (below_drewN' _ _ _)))⟩
              · have hle' : decide (rows[i][k] ≤ rows[i][k - 1]'(by omega)) = false := decide_eq_false hle
                have HL := Lib.hid hle
                clear hle
                go_wp2
                go_quiet ((go_at_call 123; exact hcall _))
                go_wp2
                go_roundw
                case rel => exact ⟨k + 1, _, by omega, by go_num, HP'.out.succ hkl HIN.out.1 HIN.out.2 (fun _ => by have := HL.out; omega), by rw [HW'.out, World.drewN_drewN]⟩
                case measure => simp [intOf]; omega
            · have hk0' : decide (0 < k) = false := decide_eq_false (by omega)
              have HK := Lib.hid hk0
              clear hk0
              go_wp2
              go_quiet ((go_at_call 123; exact hcall _))
              go_wp2
              go_roundw
              case rel => exact ⟨k + 1, _, by omega, by go_num, HP'.out.succ hkl HIN.out.1 HIN.out.2 (fun h => absurd h HK.out), by rw [HW'.out, World.drewN_drewN]⟩
              case measure => simp [intOf]; omega
          · have hcall : ∀ j, Calls Tryd.prog 123 #[.int .i64 rows[i][k], .int .i64 0, .int .i64 ((rows.length : Int) - 1)] (wr.drewN j) fun e w'' => e = .returned (.bool false) ∧ ∃ j', w'' = wr.drewN j' := fun j =>
              Calls.quiet_of_same (l6In_no _ _ _ _ hin)
            have HE := Lib.hid (listsB_no hlt (ascB_no_range hkl hin))
            clear hin
            go_wp2
            go_quiet ((go_at_call 123; exact hcall _))
            go_wp2
            go_ret
            exact ⟨by rw [HE.out]; rfl, by rw [HW'.out, HW.out]; exact HB.out.trans ((below_drewN' _ _ _).trans ((below_drewN' _ _ _).trans (below_drewN' _ _ _)))⟩
        · obtain rfl : k = rows[i].length := by omega
          go_wp2
          go_roundw
          case rel => exact ⟨i + 1, _, by omega, by go_num, fun j hj hlt' => by
            by_cases e : j = i
            · subst e; exact HP'.out.done
            · exact HP.out j hj (by omega), by rw [HW'.out, HW.out, World.drewN_drewN]⟩
          case measure => simp [intOf]; omega
    · obtain rfl : i = rows.length := by omega
      have HE := Lib.hid (listsB_all fun i hi => HP.out i hi hi)
      go_wp2_with (go_at_call 123; refine (l6In_any _ _ _ _).mono ?_; rintro e w' ⟨rfl, rfl⟩)
      go_ret
      exact ⟨by rw [HE.out]; rfl, by rw [HW.out]; exact HB.out.trans (below_drewN' _ _ _)⟩
end Go.Proofs.YtkomghohdhengaaDoor


