/- The program's check of a monotone function (isMonotone). -/
import Derived.Test.YtkhhbpeheikmfaaDoorImplMono
import Derived.Test.YtkhhbpeheikmfaaDoorBottom
import Derived.Lib.QuietBelow
import Derived.BigQuiet
namespace Go.Proofs.YtkhhbpeheikmfaaDoor
open Go.RowKit Go.Deep Go.Shelf

theorem run_size (m b : Nat) (w : World) : (Go.method (m + 1) 63 (.pointer (some ⟨b, 0, none⟩)) "loop.example/scottdomains/impl.size").run Tryd.prog w = .ok (48, .pointer (some ⟨b, 0, none⟩)) w := by kernel_rfl
theorem run_below (m b : Nat) (w : World) : (Go.method (m + 1) 63 (.pointer (some ⟨b, 0, none⟩)) "loop.example/scottdomains/impl.below").run Tryd.prog w = .ok (99, .pointer (some ⟨b, 0, none⟩)) w := by kernel_rfl

theorem run_nilAhead (m b : Nat) (w : World) : (Go.nilAhead (m + 1) 63 (.pointer (some ⟨b, 0, none⟩)) "loop.example/scottdomains/impl.below").run Tryd.prog w = .ok (some false) w := by kernel_rfl

/-- The list f is a monotone function of the n rows g to the n' rows g'. -/
def MonoG (g g' : Nat → Nat) (n n' : Nat) (f : List Int) : Prop :=
  f.length = n ∧ (∀ x ∈ f, outN n' x = false) ∧ ∀ a b : Nat, a < n → b < n → (g a).testBit b = true → (g' (f.getD a 0).toNat).testBit (f.getD b 0).toNat = true

/-- Two grids and a list. -/
structure MG (w : World) (b b' : Nat) (g g' : Nat → Nat) (vf : Value) (f : List Int) (W : World) : Prop where
  g0 : GridAt W b g
  g1 : GridAt W b' g'
  f : IntsAt W vf f
  below : Below w.heap.size w W
theorem MG.step {w : World} {b b' : Nat} {g g' : Nat → Nat} {vf : Value} {f : List Int} {W W' : World} (h : MG w b b' g g' vf f W) (hb : Below W.heap.size W W') : MG w b b' g g' vf f W' :=
  ⟨h.g0.below hb h.g0.lt, h.g1.below hb h.g1.lt, h.f.below hb, h.below.trans (hb.mono h.below.size)⟩
theorem MG.drew {w : World} {b b' : Nat} {g g' : Nat → Nat} {vf : Value} {f : List Int} {W : World} (h : MG w b b' g g' vf f W) : MG w b b' g g' vf f W.drew := h.step ⟨rfl, rfl, rfl, Nat.le_refl _, fun _ _ => rfl⟩

set_option maxRecDepth 100000 in
set_option maxHeartbeats 8000000 in
theorem isMonotone_any (b b' n n' : Nat) (g g' : Nat → Nat) (vf : Value) (f : List Int) (w : World) (hg : GridAt w b g) (hg' : GridAt w b' g') (hn : GridN g n) (hn' : GridN g' n') (hf : IntsAt w vf f) (t : Bool) (ht : t = true ↔ MonoG g g' n n' f) :
    Calls Tryd.prog 47 #[.iface 63 (.pointer (some ⟨b, 0, none⟩)), .iface 63 (.pointer (some ⟨b', 0, none⟩)), vf] w (SaysN t w) := by
  have hmS := run_size
  have hmB := run_below
  have hmN := fun b w => run_nilAhead 252 b w
  have hM : MG w b b' g g' vf f w := ⟨hg, hg', hf, Below.refl _ _⟩
  have hnle := hn.le
  have hnle' := hn'.le
  have hsz := fun W h => size_any b n g W h hn.le hn.some hn.none
  have hsz' := fun W h => size_any b' n' g' W h hn'.le hn'.some hn'.none
  obtain ⟨Af, Cf, rfl, hCf, hmf, _, _⟩ := hf
  unfold maxLen at hmf
  have HM := Lib.hid hM
  have HSZ := Lib.hid hsz
  have HSZ' := Lib.hid hsz'
  have HT := Lib.hid ht
  clear hg hg' hM hn hn' hsz hsz' ht
  by_cases hfl : f.length = n
  · have hb : ((f.length : Int) == (n : Int)) = true := by rw [beq_iff_eq]; omega
    have hb2 : (f.length == n) = true := by rw [beq_iff_eq]; omega
    have hb3 : ((f.length : Int) != (n : Int)) = false := by unfold bne; rw [hb]; rfl
    have hb4 : (f.length != n) = false := by unfold bne; rw [hb2]; rfl
    have hfn : f.length ≤ 200 := by omega
    have HFL := Lib.hid hfl
    clear hfl
    by_cases hout : ∃ x ∈ f, outN n' x = true
    · obtain rfl : t = false := by
        cases t with
        | false => rfl
        | true =>
          obtain ⟨x, hx, ho⟩ := hout
          have := (HT.out.1 rfl).2.1 x hx
          rw [this] at ho
          cases ho
      have HAB := Lib.hid (fun W h => allBelow_any (.slice Af f.length Cf) f n' W false ⟨fun h => (by cases h), fun h => by obtain ⟨x, hx, ho⟩ := hout; rw [h x hx] at ho; cases ho⟩ h)
      clear hout
      go_enter Tryd.func47, Tryd.ntmps47
      go_wp2_with (first | (go_at_call_of 48 (Value.pointer (some ⟨b, 0, none⟩)); refine (HSZ.out _ HM.out.g0).mono ?_; clear HSZ; rintro e w1 ⟨rfl, hb1⟩; have M1 := Lib.hid (HM.out.step hb1); clear hb1) | (go_at_call_of 48 (Value.pointer (some ⟨b', 0, none⟩)); refine (HSZ'.out _ M1.out.g1).mono ?_; clear HSZ'; rintro e w2 ⟨rfl, hb2⟩; have M2 := Lib.hid (M1.out.step hb2); clear hb2) | (go_at_call 69; refine (HAB.out _ M2.out.f).mono ?_; rintro e w3 ⟨rfl, hb9⟩; have M3 := Lib.hid (M2.out.step hb9); clear hb9))
      go_ret
      exact ⟨rfl, M3.out.below⟩
    · have HAB := Lib.hid (fun W h => allBelow_any (.slice Af f.length Cf) f n' W true ⟨fun _ x hx => by cases hq : outN n' x with | false => rfl | true => exact absurd ⟨x, hx, hq⟩ hout, fun _ => rfl⟩ h)
      have HO := Lib.hid hout
      clear hout
      go_enter Tryd.func47, Tryd.ntmps47
      go_wp2_with (first | (go_at_call_of 48 (Value.pointer (some ⟨b, 0, none⟩)); refine (HSZ.out _ HM.out.g0).mono ?_; clear HSZ; rintro e w1 ⟨rfl, hb1⟩; have M1 := Lib.hid (HM.out.step hb1); clear hb1) | (go_at_call_of 48 (Value.pointer (some ⟨b', 0, none⟩)); refine (HSZ'.out _ M1.out.g1).mono ?_; clear HSZ'; rintro e w2 ⟨rfl, hb2⟩; have M2 := Lib.hid (M1.out.step hb2); clear hb2) | (go_at_call 69; refine (HAB.out _ M2.out.f).mono ?_; rintro e w3 ⟨rfl, hb9⟩; have M3 := Lib.hid (M2.out.step hb9); clear hb9))
      have HRNG := Lib.hid (show ∀ q (hq : q < f.length), 0 ≤ f[q] ∧ f[q] < n' from fun q hq => by
        have h : ¬ (outN n' f[q] = true) := fun h => HO.out ⟨_, List.getElem_mem hq, h⟩
        unfold outN at h
        rw [Bool.or_eq_true, decide_eq_true_iff, decide_eq_true_iff] at h
        omega)
      clear HO
      go_loopw [7, 23] (fun _ av wr => ∃ a : Nat, a ≤ f.length ∧ av = .int .i64 a ∧ (∀ q, q < a → ∀ c, c < f.length → (g q).testBit c = true → (g' (f.getD q 0).toNat).testBit (f.getD c 0).toNat = true) ∧ MG w b b' g g' (.slice Af f.length Cf) f wr) (fun _ av _ => f.length - (intOf av).toNat)
      case atStart => exact ⟨0, Nat.zero_le _, rfl, fun _ h => absurd h (Nat.not_lt_zero _), M3.out⟩
      case round =>
        obtain ⟨a, ha, rfl, hp, hm⟩ := hrel
        have HP := Lib.hid hp
        have MA := Lib.hid hm
        clear hp hm
        by_cases hal : a < f.length
        · go_wp2
          go_loopw [8, 28] (fun _ cv wr => ∃ c : Nat, c ≤ f.length ∧ cv = .int .i64 c ∧ (∀ q, q < c → (g a).testBit q = true → (g' (f.getD a 0).toNat).testBit (f.getD q 0).toNat = true) ∧ MG w b b' g g' (.slice Af f.length Cf) f wr) (fun _ cv _ => f.length - (intOf cv).toNat)
          case atStart => exact ⟨0, Nat.zero_le _, rfl, fun _ h => absurd h (Nat.not_lt_zero _), MA.out⟩
          case round =>
            obtain ⟨c, hc, rfl, hp, hm⟩ := hrel
            have HQ := Lib.hid hp
            have MC := Lib.hid hm
            clear hp hm
            by_cases hcl : c < f.length
            · have hfa := HRNG.out a hal
              have hfc := HRNG.out c hcl
              obtain ⟨ka, hka⟩ : ∃ ka : Nat, f[a] = (ka : Int) := ⟨f[a].toNat, by omega⟩
              obtain ⟨kc, hkc⟩ : ∃ kc : Nat, f[c] = (kc : Int) := ⟨f[c].toNat, by omega⟩
              have hDa : (f.getD a 0).toNat = ka := by rw [getD_lt 0 hal, hka]; rfl
              have hDc : (f.getD c 0).toNat = kc := by rw [getD_lt 0 hcl, hkc]; rfl
              have hka2 : ka < 200 := by omega
              have hkc2 : kc < 256 := by omega
              have hcA : ∀ W, IntsAt W (.slice Af f.length Cf) f → ∃ b o, Af = some ⟨b, o, none⟩ ∧ W.cell? ⟨b, o + a, none⟩ = some (.int .i64 (ka : Int)) ∧ W.cell? ⟨b, o + c, none⟩ = some (.int .i64 (kc : Int)) := fun W h => by
                obtain ⟨b1, o1, e1, h1⟩ := h.get hal
                obtain ⟨b2, o2, e2, h2⟩ := h.get hcl
                rw [e1] at e2
                cases e2
                rw [hka] at h1
                rw [hkc] at h2
                exact ⟨b1, o1, e1, h1, h2⟩
              have HCA := Lib.hid hcA
              obtain ⟨b1, o1, rfl, h1, h2⟩ := hcA _ MC.out.f
              clear hcA hfa hfc hka hkc
              have hcall := fun d os => gbelow_any b g a c a c _ (MC.out.g0.below (below_regrown wr d os) MC.out.g0.lt) rfl (by omega) rfl (by omega)
              have hcall' := fun d os => gbelow_any b' g' ka kc ka kc _ (MC.out.g1.below (below_regrown wr d os) MC.out.g1.lt) rfl hka2 rfl hkc2
              have hl1 := fun d os => cell_regrown h1 d os
              have hl2 := fun d os => cell_regrown h2 d os
              cases hbit : (g a).testBit c with
              | false =>
                simp only [hbit] at hcall
                have HB := Lib.hid hbit
                clear hbit
                go_wp2
                refine wp_region_quiet_below (by kernel_rfl) (by kernel_rfl) ?_
                repeat (go_big_quiet_step (first | (go_at_call_of 99 (Value.pointer (some ⟨b, 0, none⟩)); exact Calls.regrown_of (hcall _ _)) | (go_at_call_of 99 (Value.pointer (some ⟨b', 0, none⟩)); exact Calls.regrown_of (hcall' _ _))))
                refine wpQuiet_nil ?_
                intro _ hw'
                obtain ⟨⟨dq, osq⟩, hw''⟩ := hw'
                subst hw''
                clear hcall hcall' hl1 hl2
                go_wp2
                go_roundw
                case rel =>
                  refine ⟨c + 1, by omega, by go_num, fun q hq hb => ?_, (MC.out.step (below_regrown wr dq osq))⟩
                  by_cases e : q = c
                  · subst e; rw [HB.out] at hb; cases hb
                  · exact HQ.out q (by omega) hb
                case measure => simp [intOf]; omega
              | true =>
                simp only [hbit] at hcall
                cases hbit' : (g' ka).testBit kc with
                | true =>
                  simp only [hbit'] at hcall'
                  have HB := Lib.hid (show (g' (f.getD a 0).toNat).testBit (f.getD c 0).toNat = true by rw [hDa, hDc]; exact hbit')
                  clear hbit hbit' hDa hDc
                  go_wp2
                  refine wp_region_quiet_below (by kernel_rfl) (by kernel_rfl) ?_
                  repeat (go_big_quiet_step (first | (go_at_call_of 99 (Value.pointer (some ⟨b, 0, none⟩)); exact Calls.regrown_of (hcall _ _)) | (go_at_call_of 99 (Value.pointer (some ⟨b', 0, none⟩)); exact Calls.regrown_of (hcall' _ _))))
                  refine wpQuiet_nil ?_
                  intro _ hw'
                  obtain ⟨⟨dq, osq⟩, hw''⟩ := hw'
                  subst hw''
                  clear hcall hcall' hl1 hl2
                  go_wp2
                  go_roundw
                  case rel =>
                    refine ⟨c + 1, by omega, by go_num, fun q hq hb => ?_, (MC.out.step (below_regrown wr dq osq))⟩
                    by_cases e : q = c
                    · subst e; exact HB.out
                    · exact HQ.out q (by omega) hb
                  case measure => simp [intOf]; omega
                | false =>
                  simp only [hbit'] at hcall'
                  obtain rfl : t = false := by
                    cases t with
                    | false => rfl
                    | true =>
                      have := (HT.out.1 rfl).2.2 a c (by have := HFL.out; omega) (by have := HFL.out; omega) hbit
                      rw [hDa, hDc, hbit'] at this
                      cases this
                  clear hbit hbit' hDa hDc
                  go_wp2
                  refine wp_region_quiet_below (by kernel_rfl) (by kernel_rfl) ?_
                  repeat (go_big_quiet_step (first | (go_at_call_of 99 (Value.pointer (some ⟨b, 0, none⟩)); exact Calls.regrown_of (hcall _ _)) | (go_at_call_of 99 (Value.pointer (some ⟨b', 0, none⟩)); exact Calls.regrown_of (hcall' _ _))))
                  refine wpQuiet_nil ?_
                  intro _ hw'
                  obtain ⟨⟨dq, osq⟩, hw''⟩ := hw'
                  subst hw''
                  clear hcall hcall' hl1 hl2
                  go_wp2
                  go_ret
                  exact ⟨rfl, (MC.out.step (below_regrown wr dq osq)).below⟩
            · obtain rfl : c = f.length := by omega
              go_wp2
              go_roundw
              case rel =>
                refine ⟨a + 1, by omega, by go_num, fun q hq c hc hb => ?_, MC.out⟩
                by_cases e : q = a
                · subst e; exact HQ.out c hc hb
                · exact HP.out q (by omega) c hc hb
              case measure => simp [intOf]; omega
        · obtain rfl : a = f.length := by omega
          obtain rfl : t = true := HT.out.2 ⟨HFL.out, fun x hx => by
            obtain ⟨i, hi, rfl⟩ := List.getElem_of_mem hx
            have := HRNG.out i hi
            unfold outN
            rw [Bool.or_eq_false_iff, decide_eq_false_iff_not, decide_eq_false_iff_not]
            omega, fun p q hp hq hb => HP.out p (by rw [HFL.out]; exact hp) q (by rw [HFL.out]; exact hq) hb⟩
          go_wp2
          go_ret
          exact ⟨rfl, MA.out.below⟩
  · have hb : ((f.length : Int) == (n : Int)) = false := by rw [beq_eq_false_iff_ne]; omega
    have hb2 : (f.length == n) = false := by rw [beq_eq_false_iff_ne]; omega
    have hb3 : ((f.length : Int) != (n : Int)) = true := by unfold bne; rw [hb]; rfl
    have hb4 : (f.length != n) = true := by unfold bne; rw [hb2]; rfl
    obtain rfl : t = false := by
      cases t with
      | false => rfl
      | true => exact absurd (HT.out.1 rfl).1 hfl
    clear hfl
    go_enter Tryd.func47, Tryd.ntmps47
    go_wp2_with (go_at_call_of 48 (Value.pointer (some ⟨b, 0, none⟩)); refine (HSZ.out _ HM.out.g0).mono ?_; clear HSZ; rintro e w1 ⟨rfl, hb1⟩; have M1 := Lib.hid (HM.out.step hb1); clear hb1)
    go_ret
    exact ⟨rfl, M1.out.below⟩
end Go.Proofs.YtkhhbpeheikmfaaDoor
