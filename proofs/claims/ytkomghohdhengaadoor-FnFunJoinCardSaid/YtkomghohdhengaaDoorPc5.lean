/- The model's OrderValid: it answers what the document asks. -/
import Derived.Test.YtkomghohdhengaaDoorPc2
import Derived.StillTailTactics
namespace Go.Proofs.YtkomghohdhengaaDoor
open Go.RowKit Go.Deep

theorem le_call {v : Value} {rows : Rows2} {W : World} (hv : RowsAt W v rows) (hl : listsB rows = true) (hn : bulk rows ≤ 1048576) (a b : Int) (h0 : 0 ≤ a) (h1 : a < rows.length) {r : Bool} (hr : upB rows a.toNat b = r) :
    Calls Tryd.prog 98 #[.agg #[v], .int .i64 a, .int .i64 b] W (SaysN r W) := by
  subst hr
  exact l1Le_any v rows a a.toNat b W hv (by omega) (by omega) (lists_at hl _ (by omega)).1 hn

/-- The order v lies in the variable at block w.heap.size; nothing that was there in w has turned. -/
def Held (w : World) (v : Value) (rows : Rows2) (W : World) : Prop :=
  W.cell? ⟨w.heap.size, 0, none⟩ = some v ∧ RowsAt W v rows ∧ Below w.heap.size w W ∧ w.heap.size < W.heap.size

theorem Held.start (w : World) {v : Value} {rows : Rows2} (t : TypeId) (hv : RowsAt w v rows) : Held w v rows (w.alloc (.cells #[v] t)) :=
  ⟨(World.rowIs_alloc w #[v] t (fun _ => v) (fun i hi => by simp at hi; subst hi; rfl)).cell (by simp), hv.below ((Below.refl _ w).alloc (Nat.le_refl _) _), (Below.refl _ w).alloc (Nat.le_refl _) _, by simp⟩
theorem Held.below {w : World} {v : Value} {rows : Rows2} {W W' : World} (h : Held w v rows W) (hb : Below W.heap.size W W') : Held w v rows W' := by
  obtain ⟨h1, h2, h3, h4⟩ := h
  exact ⟨by rw [hb.cell (p := ⟨w.heap.size, 0, none⟩) h4]; exact h1, h2.below hb, h3.trans (hb.mono (by omega)), by have := hb.size; omega⟩
theorem Held.drew {w : World} {v : Value} {rows : Rows2} {W : World} (h : Held w v rows W) : Held w v rows W.drew := h.below ⟨rfl, rfl, rfl, Nat.le_refl _, fun _ _ => rfl⟩

set_option maxRecDepth 100000 in
set_option maxHeartbeats 4000000 in
theorem specValid_any (v : Value) (rows : Rows2) (w : World) (hv : RowsAt w v rows) (hn : bulk rows ≤ 1048576) :
    Calls Tryd.prog 125 #[.agg #[v]] w (SaysN (validB rows) w) := by
  have b1 : Below w.heap.size w (w.alloc (.cells #[v] 25)) := (Below.refl _ w).alloc (Nat.le_refl _) _
  have hv1 := hv.below b1
  have hcell : (w.alloc (.cells #[v] 25)).cell? ⟨w.heap.size, 0, none⟩ = some v := (World.rowIs_alloc w #[v] 25 (fun _ => v) (fun i hi => by simp at hi; subst hi; rfl)).cell (by simp)
  have hlen : rows.length ≤ 1048576 := by unfold bulk at hn; omega
  have hcl := l1Lists_any v rows _ hv1 hn
  have hvv := hv
  obtain ⟨A, C, rfl, hC, hm, _⟩ := hvv
  unfold maxLen at hm
  cases hl : listsB rows with
  | false =>
    rw [valid_no_lists hl]
    rw [hl] at hcl
    clear hv1 hv
    go_enter Tryd.func125, Tryd.ntmps125
    go_wp2_with (go_at_call 157; refine hcl.mono ?_; clear hcl; rintro e w1 ⟨rfl, hb1⟩)
    go_ret
    exact ⟨rfl, b1.trans (hb1.mono (by simp))⟩
  | true =>
    rw [hl] at hcl
    have hh0 := Held.start w 25 hv
    clear hv1 hv hcell b1
    go_enter Tryd.func125, Tryd.ntmps125
    go_wp2_with (go_at_call 157; refine hcl.mono ?_; clear hcl; rintro e w1 ⟨rfl, hb1⟩)
    have hh1 := Lib.hid (hh0.below hb1)
    clear hb1 hh0
    go_loopw [3] (fun iv wr => ∃ i : Nat, i ≤ rows.length ∧ iv = .int .i64 i ∧ (∀ j, j < i → GoodAt rows j) ∧ Held w (.slice A rows.length C) rows wr) (fun iv _ => rows.length - (intOf iv).toNat)
    case atStart => exact ⟨0, Nat.zero_le _, rfl, fun _ h => absurd h (Nat.not_lt_zero _), hh1.out⟩
    case round =>
      obtain ⟨i, hi, rfl, hg, hh⟩ := hrel
      have HG := Lib.hid hg
      clear hg hh1
      have hcell := hh.1
      by_cases hlt : i < rows.length
      · cases hown : upB rows i i with
        | false =>
          have hcall := le_call hh.2.1 hl hn i i (by omega) (by omega) (r := false) (by simpa using hown)
          have HE := Lib.hid (valid_no_own hlt hown)
          have HH := Lib.hid hh
          clear hh
          go_wp2_with (go_at_call 98; refine hcall.mono ?_; clear hcall; rintro e w2 ⟨rfl, hb2⟩)
          go_ret
          exact ⟨by rw [HE.out]; rfl, (HH.out.below hb2).2.2.1⟩
        | true =>
          have hcall := le_call hh.2.1 hl hn i i (by omega) (by omega) (r := true) (by simpa using hown)
          have HH := Lib.hid hh
          have HO := Lib.hid hown
          clear hh hown
          go_wp2_with (go_at_call 98; refine hcall.mono ?_; clear hcall; rintro e w2 ⟨rfl, hb2⟩)
          have HH2 := Lib.hid (HH.out.below hb2)
          clear hb2 hcell HH
          go_loopw [4] (fun kv wr => ∃ k : Nat, k ≤ rows[i].length ∧ kv = .int .i64 k ∧ (∀ j (hj : j < rows[i].length), j < k → GoodPair rows i rows[i][j]) ∧ Held w (.slice A rows.length C) rows wr) (fun kv _ => rows[i].length - (intOf kv).toNat)
          case atStart => exact ⟨0, Nat.zero_le _, rfl, fun _ _ h => absurd h (Nat.not_lt_zero _), HH2.out⟩
          case round =>
            obtain ⟨k, hk, rfl, hg, hh⟩ := hrel
            have HK := Lib.hid hg
            have hcell := hh.1
            clear hg HH2
            obtain ⟨_, _, e0, _, _, hx⟩ := hh.2.1
            cases e0
            obtain ⟨b0, o0, u, rfl, hc, hu⟩ := hx i hlt
            obtain ⟨A1, C1, rfl, hC1, hm1, _, hy⟩ := hu
            unfold maxLen at hm1
            have hli : rows[i].length ≤ 1048576 := by have := bulk_row hlt; omega
            have HX := Lib.hid hx
            have HH := Lib.hid hh
            clear hx hh
            by_cases hkl : k < rows[i].length
            · obtain ⟨b1, o1, rfl, hc1⟩ := hy k hkl
              have hrange := (lists_at hl i hlt).2 _ (List.getElem_mem hkl)
              obtain ⟨jn, hjn⟩ : ∃ jn : Nat, rows[i][k] = (jn : Int) := ⟨rows[i][k].toNat, by omega⟩
              rw [hjn] at hc1 hrange
              have hjl : jn < rows.length := by omega
              have HJ := Lib.hid hjn
              clear hy hjn hrange
              have hsplit : (jn ≠ i ∧ upB rows jn i = true) ∨ (jn = i ∨ (jn ≠ i ∧ upB rows jn i = false)) := by
                cases upB rows jn i <;> by_cases h : jn = i <;> simp [h]
              rcases hsplit with ⟨hji, hup0⟩ | hji
              · have hn1 : ((jn : Int) != (i : Int)) = true := bne_iff_ne.2 (by omega)
                have hn2 : (jn != i) = true := by simpa using hji
                have hcall := le_call HH.out.2.1 hl hn jn i (by omega) (by omega) (r := true) (by rw [Int.toNat_natCast]; exact hup0)
                have HE := Lib.hid (valid_no_pair hlt hkl (fun g => by
                  have h2 := g.1 (by rw [HJ.out]; omega)
                  rw [HJ.out, Int.toNat_natCast, hup0] at h2; cases h2))
                clear hji hup0
                go_wp2_with (go_at_call 98; refine hcall.mono ?_; clear hcall; rintro e w2 ⟨rfl, hb2⟩)
                go_ret
                exact ⟨by rw [HE.out]; rfl, (HH.out.below hb2).2.2.1⟩
              · have HF : Hid ((jn : Int) ≠ i → upB rows jn i = false) := Lib.hid fun h => by
                  rcases hji with h1 | ⟨_, h1⟩
                  · exact absurd (by rw [h1]) h
                  · exact h1
                rcases hji with hji | ⟨hji, hup0⟩
                all_goals first | (have hz := hup0; clear hz; have hn1 : ((jn : Int) != (i : Int)) = true := bne_iff_ne.2 (by omega); have hn2 : (jn != i) = true := (by simpa using hji); have hcall := le_call HH.out.2.1 hl hn jn i (by omega) (by omega) (r := false) (by rw [Int.toNat_natCast]; exact hup0); clear hji hup0; go_wp2_with (go_at_call 98; refine hcall.mono ?_; clear hcall; rintro e w2 ⟨rfl, hb2⟩); have HH3 := Lib.hid (HH.out.below hb2); clear HH hb2 hcell hc hc1) | (have hn1 : ((jn : Int) != (i : Int)) = false := (by simp [hji]); have hn2 : (jn != i) = false := (by simp [hji]); clear hji; go_wp2; have HH3 := HH; clear HH)
                all_goals
                  go_loopw [6] (fun mv wr => ∃ m : Nat, m ≤ rows[jn].length ∧ mv = .int .i64 m ∧ (∀ q (hq : q < rows[jn].length), q < m → upB rows i rows[jn][q] = true) ∧ Held w (.slice (some ⟨b0, o0, none⟩) rows.length C) rows wr) (fun mv _ => rows[jn].length - (intOf mv).toNat)
                  case atStart => exact ⟨0, Nat.zero_le _, rfl, fun _ _ h => absurd h (Nat.not_lt_zero _), HH3.out⟩
                  case round =>
                    obtain ⟨m, hm0, rfl, hg, hh⟩ := hrel
                    have HM := Lib.hid hg
                    have hcell := hh.1
                    clear hg HH3
                    obtain ⟨_, _, e0, _, _, hx⟩ := hh.2.1
                    cases e0
                    obtain ⟨_, _, u2, e1, hc2, hu2⟩ := hx jn hjl
                    cases e1
                    obtain ⟨A2, C2, rfl, hC2, hm2, _, hy2⟩ := hu2
                    unfold maxLen at hm2
                    have hlj : rows[jn].length ≤ 1048576 := by have := bulk_row hjl; omega
                    have HH4 := Lib.hid hh
                    clear hx hh
                    by_cases hml : m < rows[jn].length
                    · obtain ⟨b2, o2, rfl, hc3⟩ := hy2 m hml
                      clear hy2
                      cases hup : upB rows i rows[jn][m] with
                      | false =>
                        have HCALL := Lib.hid (le_call (HH4.out.drew).2.1 hl hn i rows[jn][m] (by omega) (by omega) (r := false) (by simpa using hup))
                        have HE := Lib.hid (valid_no_pair hlt hkl (fun g => by
                          have h2 := g.2 rows[jn][m] (by rw [HJ.out, Int.toNat_natCast, getD_at [] hjl]; exact List.getElem_mem hml)
                          rw [hup] at h2; cases h2))
                        clear hup
                        go_wp2
                        go_still_tail 10, (by kernel_rfl)
                        go_wp2_with (go_at_call 98; refine HCALL.out.mono ?_; clear HCALL; rintro e w3 ⟨rfl, hb3⟩)
                        go_ret
                        exact ⟨by rw [HE.out]; rfl, (HH4.out.drew.below hb3).2.2.1⟩
                      | true =>
                        have HCALL := Lib.hid (le_call (HH4.out.drew).2.1 hl hn i rows[jn][m] (by omega) (by omega) (r := true) (by simpa using hup))
                        have HU := Lib.hid hup
                        clear hup
                        go_wp2
                        go_still_tail 10, (by kernel_rfl)
                        go_wp2_with (go_at_call 98; refine HCALL.out.mono ?_; clear HCALL; rintro e w3 ⟨rfl, hb3⟩)
                        go_roundw
                        case rel =>
                          refine ⟨m + 1, by omega, by go_num, fun q hq hlt' => ?_, HH4.out.drew.below hb3⟩
                          by_cases e : q = m
                          · subst e; exact HU.out
                          · exact HM.out q hq (by omega)
                        case measure => simp [intOf]; omega
                    · obtain rfl : m = rows[jn].length := by omega
                      go_wp2
                      go_roundw
                      case rel =>
                        refine ⟨k + 1, by omega, by go_num, fun j hj hlt' => ?_, HH4.out⟩
                        by_cases e : j = k
                        · subst e
                          refine ⟨fun h => ?_, fun x hx => ?_⟩
                          · rw [HJ.out, Int.toNat_natCast]; exact HF.out (by rw [← HJ.out]; exact h)
                          · rw [HJ.out, Int.toNat_natCast, getD_at [] hjl] at hx
                            obtain ⟨q, hq, rfl⟩ := List.getElem_of_mem hx
                            exact HM.out q hq hq
                        · exact HK.out j hj (by omega)
                      case measure => simp [intOf]; omega
            · obtain rfl : k = rows[i].length := by omega
              go_wp2
              go_roundw
              case rel =>
                refine ⟨i + 1, by omega, by go_num, fun j hj => ?_, HH.out⟩
                by_cases e : j = i
                · subst e; exact (goodAt_iff hlt).2 ⟨HO.out, fun k hk => HK.out k hk hk⟩
                · exact HG.out j (by omega)
              case measure => simp [intOf]; omega
      · obtain rfl : i = rows.length := by omega
        have HE := Lib.hid (valid_yes hl HG.out)
        have HH := Lib.hid hh
        have hA : ∀ (h : rows.length = 0), True := fun _ => trivial
        go_wp2
        go_ret
        exact ⟨by rw [HE.out]; rfl, HH.out.2.2.1⟩
end Go.Proofs.YtkomghohdhengaaDoor


