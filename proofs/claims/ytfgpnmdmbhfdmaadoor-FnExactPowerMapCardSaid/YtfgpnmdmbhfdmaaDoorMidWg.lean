/- The program's check of a monotone function (isMonotone). -/
import Derived.Test.YtfgpnmdmbhfdmaaDoorImplMono
import Derived.Test.YtfgpnmdmbhfdmaaDoorBottom
import Derived.Lib.QuietBelow
import Derived.BigQuiet
import Derived.Test.YtfgpnmdmbhfdmaaDoorMidWb
import Derived.Test.YtfgpnmdmbhfdmaaDoorIsEl
import Derived.Test.YtfgpnmdmbhfdmaaDoorMidWc
import Derived.Deep.RegionHeld3
import Derived.Deep.AppendLies
import Derived.Test.YtfgpnmdmbhfdmaaDoorMonoS
namespace Go.Proofs.YtfgpnmdmbhfdmaaDoor
open Go.RowKit Go.Deep Go.Shelf

theorem run_size (m b : Nat) (w : World) : (Go.method (m + 1) 70 (.pointer (some ⟨b, 0, none⟩)) "loop.example/scottdomains/impl.size").run Tryd.prog w = .ok (98, .pointer (some ⟨b, 0, none⟩)) w := by kernel_rfl
theorem run_below (m b : Nat) (w : World) : (Go.method (m + 1) 70 (.pointer (some ⟨b, 0, none⟩)) "loop.example/scottdomains/impl.below").run Tryd.prog w = .ok (131, .pointer (some ⟨b, 0, none⟩)) w := by kernel_rfl

theorem run_nilAhead (m b : Nat) (w : World) : (Go.nilAhead (m + 1) 70 (.pointer (some ⟨b, 0, none⟩)) "loop.example/scottdomains/impl.below").run Tryd.prog w = .ok (some false) w := by kernel_rfl

/-- The list f is a monotone function of the n rows g to the n' rows g'. -/
def MonoG (g g' : Nat → Nat) (n n' : Nat) (f : List Int) : Prop :=
  f.length = n ∧ (∀ x ∈ f, outN n' x = false) ∧ ∀ a b : Nat, a < n → b < n → (g a).testBit b = true → (g' (f.getD a 0).toNat).testBit (f.getD b 0).toNat = true

/-- Two grids and a list. -/
structure MG (w : World) (b b' : Nat) (g g' : Nat → Nat) (vf : Value) (f : List Int) (W : World) : Prop where
  g0 : GridAt W b g
  g1 : GridAt W b' g'
  f : IntsAt W vf f
  below : Below w.heap.size w W
theorem MG.step {w : World} {b b' : Nat} {g g' : Nat → Nat} {vf : Value} {f : List Int} {W W' : World} (h : MG w b b' g g' vf f W) (hb : Below W.heap.size W W') : MG w b b' g g' vf f W' :=
  ⟨h.g0.below hb h.g0.lt, h.g1.below hb h.g1.lt, h.f.below hb, h.below.trans (hb.mono h.below.size)⟩
theorem MG.drew {w : World} {b b' : Nat} {g g' : Nat → Nat} {vf : Value} {f : List Int} {W : World} (h : MG w b b' g g' vf f W) : MG w b b' g g' vf f W.drew := h.step ⟨rfl, rfl, rfl, Nat.le_refl _, fun _ _ => rfl⟩

set_option maxRecDepth 100000 in
set_option maxHeartbeats 8000000 in
theorem isMonotone_any (b b' n n' : Nat) (g g' : Nat → Nat) (vf : Value) (f : List Int) (w : World) (hg : GridAt w b g) (hg' : GridAt w b' g') (hn : GridN g n) (hn' : GridN g' n') (hf : IntsAt w vf f) (t : Bool) (ht : t = true ↔ MonoG g g' n n' f) :
    Calls Tryd.prog 91 #[.iface 70 (.pointer (some ⟨b, 0, none⟩)), .iface 70 (.pointer (some ⟨b', 0, none⟩)), vf] w (SaysN t w) := by
  have hmS := run_size
  have hmB := run_below
  have hmN := fun b w => run_nilAhead 237 b w
  have hM : MG w b b' g g' vf f w := ⟨hg, hg', hf, Below.refl _ _⟩
  have hnle := hn.le
  have hnle' := hn'.le
  have hsz := fun W h => size_any b n g W h hn.le hn.some hn.none
  have hsz' := fun W h => size_any b' n' g' W h hn'.le hn'.some hn'.none
  obtain ⟨Af, Cf, rfl, hCf, hmf, _, _⟩ := hf
  unfold maxLen at hmf
  have HM := Lib.hid hM
  have HSZ := Lib.hid hsz
  have HSZ' := Lib.hid hsz'
  have HT := Lib.hid ht
  clear hg hg' hM hn hn' hsz hsz' ht
  by_cases hfl : f.length = n
  · have hb : ((f.length : Int) == (n : Int)) = true := by rw [beq_iff_eq]; omega
    have hb2 : (f.length == n) = true := by rw [beq_iff_eq]; omega
    have hb3 : ((f.length : Int) != (n : Int)) = false := by unfold bne; rw [hb]; rfl
    have hb4 : (f.length != n) = false := by unfold bne; rw [hb2]; rfl
    have hfn : f.length ≤ 200 := by omega
    have HFL := Lib.hid hfl
    clear hfl
    by_cases hout : ∃ x ∈ f, outN n' x = true
    · obtain rfl : t = false := by
        cases t with
        | false => rfl
        | true =>
          obtain ⟨x, hx, ho⟩ := hout
          have := (HT.out.1 rfl).2.1 x hx
          rw [this] at ho
          cases ho
      have HAB := Lib.hid (fun W h => allBelow_any (.slice Af f.length Cf) f n' W false ⟨fun h => (by cases h), fun h => by obtain ⟨x, hx, ho⟩ := hout; rw [h x hx] at ho; cases ho⟩ h)
      clear hout
      go_enter Tryd.func91, Tryd.ntmps91
      go_wp2_with (first | (go_at_call_of 98 (Value.pointer (some ⟨b, 0, none⟩)); refine (HSZ.out _ HM.out.g0).mono ?_; clear HSZ; rintro e w1 ⟨rfl, hb1⟩; have M1 := Lib.hid (HM.out.step hb1); clear hb1) | (go_at_call_of 98 (Value.pointer (some ⟨b', 0, none⟩)); refine (HSZ'.out _ M1.out.g1).mono ?_; clear HSZ'; rintro e w2 ⟨rfl, hb2⟩; have M2 := Lib.hid (M1.out.step hb2); clear hb2) | (go_at_call 52; refine (HAB.out _ M2.out.f).mono ?_; rintro e w3 ⟨rfl, hb9⟩; have M3 := Lib.hid (M2.out.step hb9); clear hb9))
      go_ret
      exact ⟨rfl, M3.out.below⟩
    · have HAB := Lib.hid (fun W h => allBelow_any (.slice Af f.length Cf) f n' W true ⟨fun _ x hx => by cases hq : outN n' x with | false => rfl | true => exact absurd ⟨x, hx, hq⟩ hout, fun _ => rfl⟩ h)
      have HO := Lib.hid hout
      clear hout
      go_enter Tryd.func91, Tryd.ntmps91
      go_wp2_with (first | (go_at_call_of 98 (Value.pointer (some ⟨b, 0, none⟩)); refine (HSZ.out _ HM.out.g0).mono ?_; clear HSZ; rintro e w1 ⟨rfl, hb1⟩; have M1 := Lib.hid (HM.out.step hb1); clear hb1) | (go_at_call_of 98 (Value.pointer (some ⟨b', 0, none⟩)); refine (HSZ'.out _ M1.out.g1).mono ?_; clear HSZ'; rintro e w2 ⟨rfl, hb2⟩; have M2 := Lib.hid (M1.out.step hb2); clear hb2) | (go_at_call 52; refine (HAB.out _ M2.out.f).mono ?_; rintro e w3 ⟨rfl, hb9⟩; have M3 := Lib.hid (M2.out.step hb9); clear hb9))
      have HRNG := Lib.hid (show ∀ q (hq : q < f.length), 0 ≤ f[q] ∧ f[q] < n' from fun q hq => by
        have h : ¬ (outN n' f[q] = true) := fun h => HO.out ⟨_, List.getElem_mem hq, h⟩
        unfold outN at h
        rw [Bool.or_eq_true, decide_eq_true_iff, decide_eq_true_iff] at h
        omega)
      clear HO
      go_loopw [7, 23] (fun _ av wr => ∃ a : Nat, a ≤ f.length ∧ av = .int .i64 a ∧ (∀ q, q < a → ∀ c, c < f.length → (g q).testBit c = true → (g' (f.getD q 0).toNat).testBit (f.getD c 0).toNat = true) ∧ MG w b b' g g' (.slice Af f.length Cf) f wr) (fun _ av _ => f.length - (intOf av).toNat)
      case atStart => exact ⟨0, Nat.zero_le _, rfl, fun _ h => absurd h (Nat.not_lt_zero _), M3.out⟩
      case round =>
        obtain ⟨a, ha, rfl, hp, hm⟩ := hrel
        have HP := Lib.hid hp
        have MA := Lib.hid hm
        clear hp hm
        by_cases hal : a < f.length
        · go_wp2
          go_loopw [8, 28] (fun _ cv wr => ∃ c : Nat, c ≤ f.length ∧ cv = .int .i64 c ∧ (∀ q, q < c → (g a).testBit q = true → (g' (f.getD a 0).toNat).testBit (f.getD q 0).toNat = true) ∧ MG w b b' g g' (.slice Af f.length Cf) f wr) (fun _ cv _ => f.length - (intOf cv).toNat)
          case atStart => exact ⟨0, Nat.zero_le _, rfl, fun _ h => absurd h (Nat.not_lt_zero _), MA.out⟩
          case round =>
            obtain ⟨c, hc, rfl, hp, hm⟩ := hrel
            have HQ := Lib.hid hp
            have MC := Lib.hid hm
            clear hp hm
            by_cases hcl : c < f.length
            · have hfa := HRNG.out a hal
              have hfc := HRNG.out c hcl
              obtain ⟨ka, hka⟩ : ∃ ka : Nat, f[a] = (ka : Int) := ⟨f[a].toNat, by omega⟩
              obtain ⟨kc, hkc⟩ : ∃ kc : Nat, f[c] = (kc : Int) := ⟨f[c].toNat, by omega⟩
              have hDa : (f.getD a 0).toNat = ka := by rw [getD_lt 0 hal, hka]; rfl
              have hDc : (f.getD c 0).toNat = kc := by rw [getD_lt 0 hcl, hkc]; rfl
              have hka2 : ka < 200 := by omega
              have hkc2 : kc < 256 := by omega
              have hcA : ∀ W, IntsAt W (.slice Af f.length Cf) f → ∃ b o, Af = some ⟨b, o, none⟩ ∧ W.cell? ⟨b, o + a, none⟩ = some (.int .i64 (ka : Int)) ∧ W.cell? ⟨b, o + c, none⟩ = some (.int .i64 (kc : Int)) := fun W h => by
                obtain ⟨b1, o1, e1, h1⟩ := h.get hal
                obtain ⟨b2, o2, e2, h2⟩ := h.get hcl
                rw [e1] at e2
                cases e2
                rw [hka] at h1
                rw [hkc] at h2
                exact ⟨b1, o1, e1, h1, h2⟩
              have HCA := Lib.hid hcA
              obtain ⟨b1, o1, rfl, h1, h2⟩ := hcA _ MC.out.f
              clear hcA hfa hfc hka hkc
              have hcall := fun d os => gbelow_any b g a c a c _ (MC.out.g0.below (below_regrown wr d os) MC.out.g0.lt) rfl (by omega) rfl (by omega)
              have hcall' := fun d os => gbelow_any b' g' ka kc ka kc _ (MC.out.g1.below (below_regrown wr d os) MC.out.g1.lt) rfl hka2 rfl hkc2
              have hl1 := fun d os => cell_regrown h1 d os
              have hl2 := fun d os => cell_regrown h2 d os
              cases hbit : (g a).testBit c with
              | false =>
                simp only [hbit] at hcall
                have HB := Lib.hid hbit
                clear hbit
                go_wp2
                refine wp_region_quiet_below (by kernel_rfl) (by kernel_rfl) ?_
                repeat (go_big_quiet_step (first | (go_at_call_of 131 (Value.pointer (some ⟨b, 0, none⟩)); exact Calls.regrown_of (hcall _ _)) | (go_at_call_of 131 (Value.pointer (some ⟨b', 0, none⟩)); exact Calls.regrown_of (hcall' _ _))))
                refine wpQuiet_nil ?_
                intro _ hw'
                obtain ⟨⟨dq, osq⟩, hw''⟩ := hw'
                subst hw''
                clear hcall hcall' hl1 hl2
                go_wp2
                go_roundw
                case rel =>
                  refine ⟨c + 1, by omega, by go_num, fun q hq hb => ?_, (MC.out.step (below_regrown wr dq osq))⟩
                  by_cases e : q = c
                  · subst e; rw [HB.out] at hb; cases hb
                  · exact HQ.out q (by omega) hb
                case measure => simp [intOf]; omega
              | true =>
                simp only [hbit] at hcall
                cases hbit' : (g' ka).testBit kc with
                | true =>
                  simp only [hbit'] at hcall'
                  have HB := Lib.hid (show (g' (f.getD a 0).toNat).testBit (f.getD c 0).toNat = true by rw [hDa, hDc]; exact hbit')
                  clear hbit hbit' hDa hDc
                  go_wp2
                  refine wp_region_quiet_below (by kernel_rfl) (by kernel_rfl) ?_
                  repeat (go_big_quiet_step (first | (go_at_call_of 131 (Value.pointer (some ⟨b, 0, none⟩)); exact Calls.regrown_of (hcall _ _)) | (go_at_call_of 131 (Value.pointer (some ⟨b', 0, none⟩)); exact Calls.regrown_of (hcall' _ _))))
                  refine wpQuiet_nil ?_
                  intro _ hw'
                  obtain ⟨⟨dq, osq⟩, hw''⟩ := hw'
                  subst hw''
                  clear hcall hcall' hl1 hl2
                  go_wp2
                  go_roundw
                  case rel =>
                    refine ⟨c + 1, by omega, by go_num, fun q hq hb => ?_, (MC.out.step (below_regrown wr dq osq))⟩
                    by_cases e : q = c
                    · subst e; exact HB.out
                    · exact HQ.out q (by omega) hb
                  case measure => simp [intOf]; omega
                | false =>
                  simp only [hbit'] at hcall'
                  obtain rfl : t = false := by
                    cases t with
                    | false => rfl
                    | true =>
                      have := (HT.out.1 rfl).2.2 a c (by have := HFL.out; omega) (by have := HFL.out; omega) hbit
                      rw [hDa, hDc, hbit'] at this
                      cases this
                  clear hbit hbit' hDa hDc
                  go_wp2
                  refine wp_region_quiet_below (by kernel_rfl) (by kernel_rfl) ?_
                  repeat (go_big_quiet_step (first | (go_at_call_of 131 (Value.pointer (some ⟨b, 0, none⟩)); exact Calls.regrown_of (hcall _ _)) | (go_at_call_of 131 (Value.pointer (some ⟨b', 0, none⟩)); exact Calls.regrown_of (hcall' _ _))))
                  refine wpQuiet_nil ?_
                  intro _ hw'
                  obtain ⟨⟨dq, osq⟩, hw''⟩ := hw'
                  subst hw''
                  clear hcall hcall' hl1 hl2
                  go_wp2
                  go_ret
                  exact ⟨rfl, (MC.out.step (below_regrown wr dq osq)).below⟩
            · obtain rfl : c = f.length := by omega
              go_wp2
              go_roundw
              case rel =>
                refine ⟨a + 1, by omega, by go_num, fun q hq c hc hb => ?_, MC.out⟩
                by_cases e : q = a
                · subst e; exact HQ.out c hc hb
                · exact HP.out q (by omega) c hc hb
              case measure => simp [intOf]; omega
        · obtain rfl : a = f.length := by omega
          obtain rfl : t = true := HT.out.2 ⟨HFL.out, fun x hx => by
            obtain ⟨i, hi, rfl⟩ := List.getElem_of_mem hx
            have := HRNG.out i hi
            unfold outN
            rw [Bool.or_eq_false_iff, decide_eq_false_iff_not, decide_eq_false_iff_not]
            omega, fun p q hp hq hb => HP.out p (by rw [HFL.out]; exact hp) q (by rw [HFL.out]; exact hq) hb⟩
          go_wp2
          go_ret
          exact ⟨rfl, MA.out.below⟩
  · have hb : ((f.length : Int) == (n : Int)) = false := by rw [beq_eq_false_iff_ne]; omega
    have hb2 : (f.length == n) = false := by rw [beq_eq_false_iff_ne]; omega
    have hb3 : ((f.length : Int) != (n : Int)) = true := by unfold bne; rw [hb]; rfl
    have hb4 : (f.length != n) = true := by unfold bne; rw [hb2]; rfl
    obtain rfl : t = false := by
      cases t with
      | false => rfl
      | true => exact absurd (HT.out.1 rfl).1 hfl
    clear hfl
    go_enter Tryd.func91, Tryd.ntmps91
    go_wp2_with (go_at_call_of 98 (Value.pointer (some ⟨b, 0, none⟩)); refine (HSZ.out _ HM.out.g0).mono ?_; clear HSZ; rintro e w1 ⟨rfl, hb1⟩; have M1 := Lib.hid (HM.out.step hb1); clear hb1)
    go_ret
    exact ⟨rfl, M1.out.below⟩
end Go.Proofs.YtfgpnmdmbhfdmaaDoor

/- The program's domainOf and funTypeOf. -/
namespace Go.Proofs.YtfgpnmdmbhfdmaaDoor
open Go.RowKit Go.Deep Go.Shelf

theorem upB_grid {rows : Rows2} (h : Ok rows) {a b : Nat} (ha : a < rows.length) : (gridF rows a).testBit b = upB rows a b := (h.up ha b).symm
theorem mono_grid {rows rows' : Rows2} (h : Ok rows) (h' : Ok rows') (f : List Int) : monoI rows rows' f = true ↔ MonoG (gridF rows) (gridF rows') rows.length rows'.length f := by
  classical
  unfold monoI
  rw [decide_eq_true_iff]
  have e : ∀ x ∈ f, outN rows'.length x = false ↔ (0 ≤ x ∧ x < rows'.length) := fun x _ => by
    unfold outN
    rw [Bool.or_eq_false_iff, decide_eq_false_iff_not, decide_eq_false_iff_not]
    omega
  constructor
  · rintro ⟨h1, h2, h3⟩
    refine ⟨h1, fun x hx => (e x hx).2 (h2 x hx), fun a b ha hb hab => ?_⟩
    rw [upB_grid h ha] at hab
    have h4 := h3 a b ha hb hab
    have hfa := h2 _ (getD_lt 0 (h1 ▸ ha) ▸ List.getElem_mem (h1 ▸ ha))
    have hfb := h2 _ (getD_lt 0 (h1 ▸ hb) ▸ List.getElem_mem (h1 ▸ hb))
    rw [upB_grid h' (by omega), Int.toNat_of_nonneg hfb.1]
    exact h4
  · rintro ⟨h1, h2, h3⟩
    refine ⟨h1, fun x hx => (e x hx).1 (h2 x hx), fun a b ha hb hab => ?_⟩
    rw [← upB_grid h ha] at hab
    have h4 := h3 a b ha hb hab
    have ma : f.getD a 0 ∈ f := getD_lt 0 (h1 ▸ ha) ▸ List.getElem_mem (h1 ▸ ha)
    have mb : f.getD b 0 ∈ f := getD_lt 0 (h1 ▸ hb) ▸ List.getElem_mem (h1 ▸ hb)
    have hfa := (e _ ma).1 (h2 _ ma)
    have hfb := (e _ mb).1 (h2 _ mb)
    rw [upB_grid h' (by omega), Int.toNat_of_nonneg hfb.1] at h4
    exact h4

end Go.Proofs.YtfgpnmdmbhfdmaaDoor

/- The program's funTypeOf: two domains, and lists that are monotone functions between them. -/
namespace Go.Proofs.YtfgpnmdmbhfdmaaDoor
open Go.RowKit Go.Deep Go.Shelf

/-- Two domains, and monotone functions between them. -/
noncomputable def ftB (rows rows' : Rows2) (fs : List (List Int)) : Bool := domB rows && domB rows' && fs.all fun f => monoI rows rows' f
theorem ftB_one (rows rows' : Rows2) (f : List Int) : ftB rows rows' [f] = monoB rows rows' f := by unfold ftB monoB; simp
theorem ftB_no {rows rows' : Rows2} {fs : List (List Int)} {i : Nat} (hi : i < fs.length) (h : monoI rows rows' fs[i] = false) : ftB rows rows' fs = false := by
  unfold ftB
  rw [Bool.and_eq_false_iff]
  right
  rw [List.all_eq_false]
  exact ⟨_, List.getElem_mem hi, by rw [h]; simp⟩
theorem ftB_yes {rows rows' : Rows2} {fs : List (List Int)} (h1 : domB rows = true) (h2 : domB rows' = true) (h : ∀ i (hi : i < fs.length), monoI rows rows' fs[i] = true) : ftB rows rows' fs = true := by
  unfold ftB
  rw [h1, h2, Bool.true_and, Bool.true_and, List.all_eq_true]
  intro x hx
  obtain ⟨i, hi, rfl⟩ := List.getElem_of_mem hx
  exact h i hi

/-- What funTypeOf answers. -/
def FtP (t : Bool) (rows rows' : Rows2) (w : World) (e : Ending) (w' : World) : Prop :=
  (∃ q q' : Option Addr, e = .returned (.tuple #[.agg #[.pointer q, .pointer q'], .bool t]) ∧
    (t = true → ∃ p p' : Nat, q = some ⟨p, 0, none⟩ ∧ q' = some ⟨p', 0, none⟩ ∧ w.heap.size ≤ p ∧ w.heap.size ≤ p' ∧ GridAt w' p (gridF rows) ∧ GridAt w' p' (gridF rows'))) ∧ Below w.heap.size w w'
theorem FtP.no {t : Bool} {rows rows' : Rows2} {w w' : World} (ht : t = false) (hb : Below w.heap.size w w') : FtP t rows rows' w (.returned (.tuple #[.agg #[.pointer none, .pointer none], .bool false])) w' :=
  ⟨⟨none, none, by rw [ht], fun h => (by rw [ht] at h; cases h)⟩, hb⟩

/-- The variable of the result, as it begins. -/
def Zero2 (r : Nat) (W : World) : Prop := W.heap[r]? = some (.cells #[.pointer none, .pointer none] 84 (0, 0))
theorem Zero2.lt {r : Nat} {W : World} (h : Zero2 r W) : r < W.heap.size := by
  obtain ⟨hlt, _⟩ := Array.getElem?_eq_some_iff.1 h
  exact hlt
theorem Zero2.below {r : Nat} {W W' : World} (h : Zero2 r W) (hb : Below W.heap.size W W') : Zero2 r W' := by
  unfold Zero2
  rw [hb.block r h.lt]
  exact h
theorem Zero2.cells {r : Nat} {W : World} (h : Zero2 r W) : W.cell? ⟨r, 0, none⟩ = some (.pointer none) ∧ W.cell? ⟨r, 1, none⟩ = some (.pointer none) ∧ ∀ o, W.frozen? ⟨r, o, none⟩ = false :=
  ⟨by rw [cell_of_row W r _ _ _ _ h]; rfl, by rw [cell_of_row W r _ _ _ _ h]; rfl, fun o => frozen_of_row W r o _ _ h⟩

/-- While funTypeOf runs. -/
structure Ft (w : World) (v v' vl : Value) (rows rows' fs : Rows2) (W : World) : Prop where
  two : Two w v v' rows rows' W
  zero : Zero2 (w.heap.size + 2) W
  lists : RowsAt W vl fs
  tab : Tab W
theorem Ft.step {w : World} {v v' vl : Value} {rows rows' fs : Rows2} {W W' : World} (h : Ft w v v' vl rows rows' fs W) (hb : Below W.heap.size W W') : Ft w v v' vl rows rows' fs W' :=
  ⟨h.two.step hb, h.zero.below hb, h.lists.below hb, h.tab.below hb⟩
theorem Ft.start (w : World) {v v' vl : Value} {rows rows' fs : Rows2} (hv : RowsAt w v rows) (hv' : RowsAt w v' rows') (hl : RowsAt w vl fs) (hT : Tab w) :
    Ft w v v' vl rows rows' fs (((w.alloc (.cells #[v] 29)).alloc (.cells #[v'] 29)).alloc (.cells #[.pointer none, .pointer none] 84)) := by
  have h2 := Two.start w 29 29 hv hv'
  have s2 : ((w.alloc (.cells #[v] 29)).alloc (.cells #[v'] 29)).heap.size = w.heap.size + 2 := by rw [World.size_alloc, World.size_alloc]
  have b3 := (Below.refl ((w.alloc (.cells #[v] 29)).alloc (.cells #[v'] 29)).heap.size ((w.alloc (.cells #[v] 29)).alloc (.cells #[v'] 29))).alloc (Nat.le_refl _) (.cells #[.pointer none, .pointer none] 84)
  refine ⟨h2.step b3, ?_, (hl.below h2.below).below b3, (hT.below h2.below).below b3⟩
  have h := heap_alloc_new ((w.alloc (.cells #[v] 29)).alloc (.cells #[v'] 29)) (.cells #[.pointer none, .pointer none] 84)
  rw [s2] at h
  exact h

set_option maxRecDepth 100000 in
set_option maxHeartbeats 4000000 in
theorem funTypeOf_any (v v' vl : Value) (rows rows' fs : Rows2) (w : World) (hv : RowsAt w v rows) (hv' : RowsAt w v' rows') (hl : RowsAt w vl fs) (hT : Tab w) (hn : bulk rows ≤ 1048576) (hn' : bulk rows' ≤ 1048576) :
    Calls Tryd.prog 70 #[.agg #[v], .agg #[v'], vl] w (FtP (ftB rows rows' fs) rows rows' w) := by
  have hF := Ft.start w hv hv' hl hT
  obtain ⟨A, C, rfl, _⟩ := hv
  obtain ⟨A', C', rfl, _⟩ := hv'
  obtain ⟨Al, Cl, rfl, hCl, hml, _⟩ := hl
  unfold maxLen at hml
  have H0 := Lib.hid hF
  have hc0 := hF.two.c0
  clear hF hT
  cases h1 : domB rows with
  | false =>
    have hd := domainOf_no _ rows _ H0.out.two.r0 H0.out.tab hn h1
    have HE := Lib.hid (show ftB rows rows' fs = false by unfold ftB; rw [h1]; rfl)
    go_enter Tryd.func70, Tryd.ntmps70
    cases h2 : domB rows' with
    | false =>
      go_wp2_with (first | (go_at_call 59; refine hd.mono ?_; clear hd; rintro e w1 ⟨rfl, hb1⟩; have H1 := Lib.hid (H0.out.step hb1); have hc1 := H1.out.two.c1; have hd2 := domainOf_no _ rows' _ H1.out.two.r1 H1.out.tab hn' h2; clear hb1) | (go_at_call 59; refine hd2.mono ?_; clear hd2; rintro e w2 ⟨rfl, hb2⟩; have H2 := Lib.hid (H1.out.step hb2); obtain ⟨z0, z1, z2⟩ := H2.out.zero.cells; clear hb2))
      refine bodyPost_ret (v := .tuple #[.agg #[.pointer none, .pointer none], .bool false]) (by simp [results, Tryd.results70, go_sem, z0, z1]) rfl ?_
      exact FtP.no HE.out (H2.out.two.below.setCell (by show w.heap.size ≤ w.heap.size + 2; omega) _ |>.setCell (by show w.heap.size ≤ w.heap.size + 2; omega) _)
    | true =>
      go_wp2_with (first | (go_at_call 59; refine hd.mono ?_; clear hd; rintro e w1 ⟨rfl, hb1⟩; have H1 := Lib.hid (H0.out.step hb1); have hc1 := H1.out.two.c1; have hd2 := domainOf_yes _ rows' _ H1.out.two.r1 H1.out.tab hn' h2; clear hb1) | (go_at_call 59; refine hd2.mono ?_; clear hd2; rintro e w2 ⟨⟨p, rfl, _⟩, hb2⟩; have H2 := Lib.hid (H1.out.step hb2); obtain ⟨z0, z1, z2⟩ := H2.out.zero.cells; clear hb2))
      refine bodyPost_ret (v := .tuple #[.agg #[.pointer none, .pointer none], .bool false]) (by simp [results, Tryd.results70, go_sem, z0, z1]) rfl ?_
      exact FtP.no HE.out (H2.out.two.below.setCell (by show w.heap.size ≤ w.heap.size + 2; omega) _ |>.setCell (by show w.heap.size ≤ w.heap.size + 2; omega) _)
  | true =>
    have hd := domainOf_yes _ rows _ H0.out.two.r0 H0.out.tab hn h1
    cases h2 : domB rows' with
    | false =>
      have HE := Lib.hid (show ftB rows rows' fs = false by unfold ftB; rw [h1, h2]; rfl)
      go_enter Tryd.func70, Tryd.ntmps70
      go_wp2_with (first | (go_at_call 59; refine hd.mono ?_; clear hd; rintro e w1 ⟨⟨p, rfl, _⟩, hb1⟩; have H1 := Lib.hid (H0.out.step hb1); have hc1 := H1.out.two.c1; have hd2 := domainOf_no _ rows' _ H1.out.two.r1 H1.out.tab hn' h2; clear hb1) | (go_at_call 59; refine hd2.mono ?_; clear hd2; rintro e w2 ⟨rfl, hb2⟩; have H2 := Lib.hid (H1.out.step hb2); obtain ⟨z0, z1, z2⟩ := H2.out.zero.cells; clear hb2))
      refine bodyPost_ret (v := .tuple #[.agg #[.pointer none, .pointer none], .bool false]) (by simp [results, Tryd.results70, go_sem, z0, z1]) rfl ?_
      exact FtP.no HE.out (H2.out.two.below.setCell (by show w.heap.size ≤ w.heap.size + 2; omega) _ |>.setCell (by show w.heap.size ≤ w.heap.size + 2; omega) _)
    | true =>
      have hok := ok_of_valid (show validB rows = true by unfold domB at h1; rw [Bool.and_eq_true] at h1; exact h1.1)
      have hok' := ok_of_valid (show validB rows' = true by unfold domB at h2; rw [Bool.and_eq_true] at h2; exact h2.1)
      have HMONO := Lib.hid (fun p p' vf f W hg hg' hf => isMonotone_any p p' rows.length rows'.length (gridF rows) (gridF rows') vf f W hg hg' hok.gridN hok'.gridN hf (monoI rows rows' f) (mono_grid hok hok' f))
      have HY := Lib.hid (fun h => ftB_yes (fs := fs) h1 h2 h)
      have hsz : (((w.alloc (.cells #[.slice A rows.length C] 29)).alloc (.cells #[.slice A' rows'.length C'] 29)).alloc (.cells #[.pointer none, .pointer none] 84)).heap.size = w.heap.size + 3 := by rw [World.size_alloc, World.size_alloc, World.size_alloc]
      have HSZ := Lib.hid hsz
      clear hok hok' hsz
      go_enter Tryd.func70, Tryd.ntmps70
      go_wp2_with (first | (go_at_call 59; refine hd.mono ?_; clear hd; rintro e w1 ⟨⟨p, rfl, hp, hg⟩, hb1⟩; have H1 := Lib.hid (H0.out.step hb1); have hc1 := H1.out.two.c1; have hd2 := domainOf_yes _ rows' _ H1.out.two.r1 H1.out.tab hn' h2; have HP := Lib.hid (show w.heap.size + 3 ≤ p by rw [← HSZ.out]; exact hp); have HP1 := Lib.hid (Nat.le_trans (Nat.le_of_eq HSZ.out.symm) hb1.size); have HG := Lib.hid hg; clear hb1 hp hg) | (go_at_call 59; refine hd2.mono ?_; clear hd2; rintro e w2 ⟨⟨p', rfl, hp', hg'⟩, hb2⟩; have H2 := Lib.hid (H1.out.step hb2); have HP' := Lib.hid (Nat.le_trans HP1.out hp'); have HG2 := Lib.hid (HG.out.below hb2 HG.out.lt); have HG' := Lib.hid hg'; clear hb2 hp' hg'))
      go_loopw [13, 33] (fun _ kv wr => ∃ k : Nat, k ≤ fs.length ∧ kv = .int .i64 k ∧ (∀ i (hi : i < fs.length), i < k → monoI rows rows' fs[i] = true) ∧ GridAt wr p (gridF rows) ∧ GridAt wr p' (gridF rows') ∧ Ft w (.slice A rows.length C) (.slice A' rows'.length C') (.slice Al fs.length Cl) rows rows' fs wr) (fun _ kv _ => fs.length - (intOf kv).toNat)
      case atStart => exact ⟨0, Nat.zero_le _, rfl, fun _ _ h => absurd h (Nat.not_lt_zero _), HG2.out, HG'.out, H2.out⟩
      case round =>
        obtain ⟨k, hk, rfl, hall, hg, hg', hh⟩ := hrel
        have HA := Lib.hid hall
        have HGk := Lib.hid hg
        have HGk' := Lib.hid hg'
        have HK := Lib.hid hh
        clear hall hg hg'
        by_cases hlt : k < fs.length
        · obtain ⟨_, _, e0, _, _, hx⟩ := hh.lists
          cases e0
          obtain ⟨b0, o0, u, rfl, hcu, hu⟩ := hx k hlt
          clear hh hx
          have hcall := HMONO.out p p' u fs[k] wr HGk.out HGk'.out hu
          obtain ⟨Au, Cu, rfl, _⟩ := hu
          cases hm : monoI rows rows' fs[k] with
          | true =>
            rw [hm] at hcall
            have HM := Lib.hid hm
            clear hm
            go_wp2_with (go_at_call 91; refine hcall.mono ?_; clear hcall; rintro e w3 ⟨rfl, hb3⟩; have H3 := Lib.hid (HK.out.step hb3); have HG3 := Lib.hid (HGk.out.below hb3 HGk.out.lt); have HG3' := Lib.hid (HGk'.out.below hb3 HGk'.out.lt); clear hb3)
            go_roundw
            case rel =>
              refine ⟨k + 1, by omega, by go_num, fun i hi hlt' => ?_, HG3.out, HG3'.out, H3.out⟩
              by_cases e : i = k
              · subst e; exact HM.out
              · exact HA.out i hi (by omega)
            case measure => simp [intOf]; omega
          | false =>
            rw [hm] at hcall
            have HE := Lib.hid (ftB_no hlt hm)
            clear hm
            go_wp2_with (go_at_call 91; refine hcall.mono ?_; clear hcall; rintro e w3 ⟨rfl, hb3⟩; have H3 := Lib.hid (HK.out.step hb3); obtain ⟨z0, z1, z2⟩ := H3.out.zero.cells; clear hb3)
            refine bodyPost_ret (v := .tuple #[.agg #[.pointer none, .pointer none], .bool false]) (by simp [results, Tryd.results70, go_sem, z0, z1]) rfl ?_
            exact FtP.no HE.out (H3.out.two.below.setCell (by show w.heap.size ≤ w.heap.size + 2; omega) _ |>.setCell (by show w.heap.size ≤ w.heap.size + 2; omega) _)
        · obtain rfl : k = fs.length := by omega
          have HE := Lib.hid (HY.out fun i hi => HA.out i hi hi)
          obtain ⟨z0, z1, z2⟩ := HK.out.zero.cells
          clear hh
          go_wp2
          refine bodyPost_ret (v := .tuple #[.agg #[.pointer (some ⟨p, 0, none⟩), .pointer (some ⟨p', 0, none⟩)], .bool true]) (by simp [results, Tryd.results70, go_sem, z0, z1]) rfl ?_
          refine ⟨⟨_, _, by rw [HE.out], fun _ => ⟨p, p', rfl, rfl, by have := HP.out; omega, by have := HP'.out; omega, ?_, ?_⟩⟩, (HK.out.two.below.setCell (by show w.heap.size ≤ w.heap.size + 2; omega) _ |>.setCell (by show w.heap.size ≤ w.heap.size + 2; omega) _)⟩
          · exact (HGk.out.setOther (by have := HP.out; show p ≠ w.heap.size + 2; omega) _).setOther (by have := HP.out; show p ≠ w.heap.size + 2; omega) _
          · exact (HGk'.out.setOther (by have := HP'.out; show p' ≠ w.heap.size + 2; omega) _).setOther (by have := HP'.out; show p' ≠ w.heap.size + 2; omega) _
end Go.Proofs.YtfgpnmdmbhfdmaaDoor

/- The program's FunMonotone. -/
namespace Go.Proofs.YtfgpnmdmbhfdmaaDoor
open Go.RowKit Go.Deep Go.Shelf

theorem rows_one {w : World} {vf : Value} {f : List Int} (hf : IntsAt w vf f) : RowsAt (w.alloc (.cells #[vf] 26)) (.slice (some ⟨w.heap.size, 0, none⟩) 1 1) [f] := by
  refine ⟨some ⟨w.heap.size, 0, none⟩, 1, rfl, Nat.le_refl _, by unfold maxLen; omega, fun i hi => ?_⟩
  obtain rfl : i = 0 := by simpa using hi
  exact ⟨w.heap.size, 0, vf, rfl, (World.rowIs_alloc w #[vf] 26 (fun _ => vf) (fun i hi => by simp at hi; subst hi; rfl)).cell (i := 0) (by simp), hf.below ((Below.refl _ w).alloc (Nat.le_refl _) _)⟩
theorem rows_two {w : World} {vf vg : Value} {f g : List Int} (hf : IntsAt w vf f) (hg : IntsAt w vg g) : RowsAt (w.alloc (.cells #[vf, vg] 26)) (.slice (some ⟨w.heap.size, 0, none⟩) 2 2) [f, g] := by
  have hr := World.rowIs_alloc w #[vf, vg] 26 (fun i => if i = 0 then vf else vg) (fun i hi => by
    have hi' : i < 2 := by simpa using hi
    obtain rfl | rfl : i = 0 ∨ i = 1 := by omega
    · rfl
    · rfl)
  refine ⟨some ⟨w.heap.size, 0, none⟩, 2, rfl, Nat.le_refl _, by unfold maxLen; omega, fun i hi => ?_⟩
  have hi' : i < 2 := by simpa using hi
  have hc := hr.cell (i := i) (by simpa using hi')
  obtain rfl | rfl : i = 0 ∨ i = 1 := by omega
  · exact ⟨w.heap.size, 0, vf, rfl, by simp, hf.below ((Below.refl _ w).alloc (Nat.le_refl _) _)⟩
  · exact ⟨w.heap.size, 0, vg, rfl, by simp, hg.below ((Below.refl _ w).alloc (Nat.le_refl _) _)⟩

set_option maxRecDepth 100000 in
set_option maxHeartbeats 4000000 in
theorem implMono_any (v v' vf : Value) (rows rows' : Rows2) (f : List Int) (w : World) (hv : RowsAt w v rows) (hv' : RowsAt w v' rows') (hf : IntsAt w vf f) (hT : Tab w) (hn : bulk rows ≤ 1048576) (hn' : bulk rows' ≤ 1048576) :
    Calls Tryd.prog 55 #[.agg #[v], .agg #[v'], vf] w (SaysN (monoB rows rows' f) w) := by
  have h0 := TwoF.start w 29 29 hv hv' hf
  have hl := rows_one h0.2
  have b1 := (Below.refl ((w.alloc (.cells #[v] 29)).alloc (.cells #[v'] 29)).heap.size ((w.alloc (.cells #[v] 29)).alloc (.cells #[v'] 29))).alloc (Nat.le_refl _) (.cells #[vf] 26)
  have h1 := h0.step b1
  have hT1 := (hT.below h0.1.below).below b1
  have hcall := funTypeOf_any v v' _ rows rows' [f] _ h1.1.r0 h1.1.r1 hl hT1 hn hn'
  have hs : ((w.alloc (.cells #[v] 29)).alloc (.cells #[v'] 29)).heap.size = w.heap.size + 2 := by rw [World.size_alloc, World.size_alloc]
  rw [ftB_one, hs] at hcall
  generalize monoB rows rows' f = t at hcall ⊢
  have hB := h1.1.below
  have hc0 := h0.1.c0
  have hc1 := h0.1.c1
  obtain ⟨A, C, rfl, _⟩ := hv
  obtain ⟨A', C', rfl, _⟩ := hv'
  obtain ⟨Af, Cf, rfl, _⟩ := hf
  have HB := Lib.hid hB
  clear h0 hl b1 h1 hT1 hs hB hT
  go_enter Tryd.func55, Tryd.ntmps55
  go_wp2_with (go_at_call 70; refine hcall.mono ?_; clear hcall; rintro e w1 ⟨⟨q, q', rfl, _⟩, hb1⟩; have H1 := Lib.hid (HB.out.trans (hb1.mono HB.out.size)); clear hb1)
  go_ret
  exact ⟨rfl, H1.out.alloc H1.out.size _⟩
end Go.Proofs.YtfgpnmdmbhfdmaaDoor

/- powerOf at any kind: the powerdomain's cells, and its index function. -/
namespace Go.Proofs.YtfgpnmdmbhfdmaaDoor
open Go.RowKit Go.Deep Go.Shelf

/-- A powerdomain in four cells: its number of elements, its sets, and what its index answers. -/
def PdK (rows : Rows2) (k : Nat) (w : World) (n : Nat) (tv tc to' : Value) : Prop :=
  n = rows.length ∧ (∃ a C, tv = .slice a (setsL rows k).length C) ∧ IntsAt w tv (setsL rows k) ∧ ∀ (s : Nat) W, s < 2 ^ 60 → Below w.heap.size w W → Calls Tryd.prog 51 #[.agg (pdCells n tv tc to'), .int .i64 (s : Int)] W (SaysI (idxK rows k s) W)
theorem PdK.below {rows : Rows2} {k : Nat} {w w' : World} {n : Nat} {tv tc to' : Value} (h : PdK rows k w n tv tc to') (hb : Below w.heap.size w w') : PdK rows k w' n tv tc to' :=
  ⟨h.1, h.2.1, h.2.2.1.below hb, fun s W hs hb2 => h.2.2.2 s W hs (hb.trans (hb2.mono hb.size))⟩
def OfP (rows : Rows2) (z : ByteArray) (w : World) (e : Ending) (w' : World) : Prop :=
  ∃ n tv tc to', e = .returned (.tuple #[.agg (pdCells n tv tc to'), .bool (fitB rows z)]) ∧ tv.oneCell' = true ∧ tc.oneCell' = true ∧ to'.oneCell' = true ∧ (∃ a m C, tv = .slice a m C) ∧ Below w.heap.size w w' ∧ (fitB rows z = true → PdK rows (kindN z) w' n tv tc to')

theorem lowerOfP (v : Value) (rows : Rows2) (z : ByteArray) (w : World) (hv : RowsAt w v rows) (hT : Tab w) (hn : bulk rows ≤ 1048576) (hf : fitB rows z = true) (hk : kindN z = 0) :
    Calls Tryd.prog 40 #[.agg #[v], .string z] w (OfP rows z w) := by
  obtain ⟨_, hok, h7, _⟩ := fit_iff hf
  refine (lowerOf_any v rows z w hv hT hn hf hk).mono ?_
  rintro e w2 ⟨u, kb, sb, rfl, hpw, hb2⟩
  obtain ⟨lb, ub, A2, B2, C2, D2, hpm⟩ := hpw.pm
  obtain ⟨ua, uC, rfl⟩ := hpw.form
  refine ⟨_, _, _, _, by rw [hf], rfl, rfl, rfl, ⟨_, _, _, rfl⟩, hb2, fun _ => ?_⟩
  rw [hk]
  exact ⟨rfl, ⟨_, _, rfl⟩, hpw.own.at, fun s W hs hb => lowerIndex_any rows s ua uC kb sb lb ub A2 B2 C2 D2 W hok h7 hs (hpw.own.at.below hb) (hpm W hb)⟩
theorem upperOfP (v : Value) (rows : Rows2) (z : ByteArray) (w : World) (hv : RowsAt w v rows) (hT : Tab w) (hn : bulk rows ≤ 1048576) (hf : fitB rows z = true) (hk : kindN z = 1) :
    Calls Tryd.prog 40 #[.agg #[v], .string z] w (OfP rows z w) := by
  obtain ⟨_, hok, h7, _⟩ := fit_iff hf
  refine (upperOf_any v rows z w hv hT hn hf hk).mono ?_
  rintro e w2 ⟨u, kb, sb, rfl, hpw, hb2⟩
  obtain ⟨lb, ub, A2, B2, C2, D2, hpm⟩ := hpw.pm
  obtain ⟨ua, uC, rfl⟩ := hpw.form
  refine ⟨_, _, _, _, by rw [hf], rfl, rfl, rfl, ⟨_, _, _, rfl⟩, hb2, fun _ => ?_⟩
  rw [hk]
  exact ⟨rfl, ⟨_, _, rfl⟩, hpw.own.at, fun s W hs hb => upperIndex_any rows s ua uC kb sb lb ub A2 B2 C2 D2 W hok h7 hs (hpw.own.at.below hb) (hpm W hb)⟩
theorem convexOfP (v : Value) (rows : Rows2) (z : ByteArray) (w : World) (hv : RowsAt w v rows) (hT : Tab w) (hn : bulk rows ≤ 1048576) (hf : fitB rows z = true) (hk : kindN z = 2) :
    Calls Tryd.prog 40 #[.agg #[v], .string z] w (OfP rows z w) := by
  obtain ⟨_, hok, h7, _⟩ := fit_iff hf
  refine (convexOf_any v rows z w hv hT hn hf hk).mono ?_
  rintro e w2 ⟨u, kb, sb, rfl, hpw, hb2⟩
  obtain ⟨lb, ub, A2, B2, C2, D2, hpm⟩ := hpw.pm
  obtain ⟨ua, uC, rfl⟩ := hpw.form
  refine ⟨_, _, _, _, by rw [hf], rfl, rfl, rfl, ⟨_, _, _, rfl⟩, hb2, fun _ => ?_⟩
  rw [hk]
  exact ⟨rfl, ⟨_, _, rfl⟩, hpw.own.at, fun s W hs hb => convexIndex_any rows s ua uC kb sb lb ub A2 B2 C2 D2 W hok h7 hs (hpw.own.at.below hb) (hpm W hb)⟩
theorem powerOf_any (v : Value) (rows : Rows2) (z : ByteArray) (w : World) (hv : RowsAt w v rows) (hT : Tab w) (hn : bulk rows ≤ 1048576) :
    Calls Tryd.prog 40 #[.agg #[v], .string z] w (OfP rows z w) := by
  cases hf : fitB rows z with
  | false =>
    refine (powerOf_no v rows z w hv hT hn hf).mono ?_
    rintro e w2 ⟨rfl, hb2⟩
    exact ⟨0, .slice none 0 0, .nilFunc, .nilFunc, by rw [hf]; rfl, rfl, rfl, rfl, ⟨_, _, _, rfl⟩, hb2, fun h => by rw [hf] at h; cases h⟩
  | true =>
    rcases kind_cases (fit_iff hf).2.2.2 with e | e | e
    · exact lowerOfP v rows z w hv hT hn hf e
    · exact upperOfP v rows z w hv hT hn hf e
    · exact convexOfP v rows z w hv hT hn hf e
end Go.Proofs.YtfgpnmdmbhfdmaaDoor

/- The program's unions: for each set of a list, the index of the closure of the union of what a list has for its elements. -/
namespace Go.Proofs.YtfgpnmdmbhfdmaaDoor
open Go.RowKit Go.Deep Go.Shelf

/-- The images of the sets of a list. -/
def unsL (xs : List Int) (g : Nat → Nat) (m : Nat) (ix : Nat → Int) : List Int := xs.map fun x => ix (unionF g x.toNat m)
theorem unsL_len (xs : List Int) (g : Nat → Nat) (m : Nat) (ix : Nat → Int) : (unsL xs g m ix).length = xs.length := List.length_map ..

set_option maxRecDepth 100000 in
set_option maxHeartbeats 4000000 in
theorem unions_any (nf : Nat) (xs : List Int) (fa : Option Addr) (fC : Nat) (fc fo : Value) (nt : Nat) (tv tc to' : Value) (vi : Value) (g : Nat → Nat) (m : Nat) (ix : Nat → Int) (w : World)
    (hx : IntsAt w (.slice fa xs.length fC) xs) (hxs : ∀ i (h : i < xs.length), ∃ x : Nat, xs[i] = (x : Int) ∧ x < 2 ^ 60) (hl : xs.length ≤ 128)
    (hi : IntsAt w vi (setsI g m)) (hm : m ≤ 60) (hg : ∀ k, k < m → g k < 2 ^ 60) (hwf : ∀ s, (Lit.int .i64 (ix s)).wf = true)
    (hidx : ∀ (s : Nat) W, s < 2 ^ 60 → Below w.heap.size w W → Calls Tryd.prog 51 #[.agg (pdCells nt tv tc to'), .int .i64 (s : Int)] W (SaysI (ix s) W)) :
    Calls Tryd.prog 56 #[.agg (pdCells nf (.slice fa xs.length fC) fc fo), .agg (pdCells nt tv tc to'), vi] w (fun e w' => ∃ u, e = .returned u ∧ OwnI 3 w' u (unsL xs g m ix) w.heap.size w'.heap.size ∧ Below w.heap.size w w') := by
  have hbF := (Below.refl w.heap.size w).alloc (Nat.le_refl _) (.cells (pdCells nf (.slice fa xs.length fC) fc fo) 55)
  have hb0 := hbF.alloc hbF.size (.cells (pdCells nt tv tc to') 55)
  have hF0 := heap_alloc_new w (.cells (pdCells nf (.slice fa xs.length fC) fc fo) 55)
  have hT0 := heap_alloc_new (w.alloc (.cells (pdCells nf (.slice fa xs.length fC) fc fo) 55)) (.cells (pdCells nt tv tc to') 55)
  have hF1 := (((Below.refl _ (w.alloc (.cells (pdCells nf (.slice fa xs.length fC) fc fo) 55))).alloc (Nat.le_refl _) (.cells (pdCells nt tv tc to') 55)).block w.heap.size (Array.getElem?_eq_some_iff.1 hF0).1).trans hF0
  have hs1 : (w.alloc (.cells (pdCells nf (.slice fa xs.length fC) fc fo) 55)).heap.size = w.heap.size + 1 := World.size_alloc _ _
  rw [hs1] at hT0
  clear hF0 hs1 hbF
  have HUN := Lib.hid (fun (s : Nat) W (hs : s < 2 ^ 60) (hb : Below w.heap.size w W) => (show Calls Tryd.prog 71 #[vi, .int .i64 (s : Int)] W (SaysI ((unionF g s m : Nat) : Int) W) from (unionOf_any vi g m s W (hi.below hb) hm hg hs).mono fun _ _ ⟨he, hw⟩ => ⟨he, by rw [hw]; exact Below.refl _ _⟩))
  have HU60 := Lib.hid (fun s => unionF_lt (g := g) (s := s) (b := 60) (m := m) hg)
  have HIDX := Lib.hid hidx
  have HWF := Lib.hid hwf
  have HX := Lib.hid hx
  have HXS := Lib.hid hxs
  have hup := Tryd.underlying55
  have hip := sizePD
  have hmk := run_make_row' (P := Tryd.prog) 26 3 (.int .i64 0) 8 Tryd.underlying26 infoInt rfl .i64 .i64 xs.length (by omega) (by omega)
  clear hidx hwf hx hxs hi hg hm
  obtain ⟨w1, hw1⟩ : ∃ w1, w1 = (w.alloc (.cells (pdCells nf (.slice fa xs.length fC) fc fo) 55)).alloc (.cells (pdCells nt tv tc to') 55) := ⟨_, rfl⟩
  rw [← hw1] at hb0 hT0 hF1
  have HB1 := Lib.hid hb0
  have HTB := Lib.hid hT0
  have HFB := Lib.hid hF1
  clear hb0 hT0 hF1
  go_enter Tryd.func56, Tryd.ntmps56
  go_upto_region 1 with fail
  rw [← hw1]
  clear hw1
  obtain ⟨q, hq⟩ : ∃ q, q = w.heap.size + 1 := ⟨_, rfl⟩
  obtain ⟨p, hp⟩ : ∃ p, p = w.heap.size := ⟨_, rfl⟩
  have HQT := Lib.hid (show w1.heap[q]? = some (.cells (pdCells nt tv tc to') 55 (0, 0)) by rw [hq]; exact HTB.out)
  have HPF := Lib.hid (show w1.heap[p]? = some (.cells (pdCells nf (.slice fa xs.length fC) fc fo) 55 (0, 0)) by rw [hp]; exact HFB.out)
  rw [← hq]
  clear hq HTB HFB
  have HFW := Lib.hid (fun W (hb : Below w1.heap.size w1 W) => pw_cells ((hb.block p (Array.getElem?_eq_some_iff.1 HPF.out).1).trans HPF.out))
  have HTW := Lib.hid (fun W (hb : Below w1.heap.size w1 W) => pw_range ((hb.block q (Array.getElem?_eq_some_iff.1 HQT.out).1).trans HQT.out))
  clear HPF HQT
  rw [← hp]
  have HPW := Lib.hid hp
  clear hp
  obtain ⟨c0, c1, c2, c3⟩ := HFW.out w1 (Below.refl _ _)
  go_upto_region 2 with (go_at_call 53; refine (powSize_any _ _ _ _ _ _ _).mono ?_; rintro e w3 ⟨rfl, hb3⟩; have HB3 := Lib.hid hb3; clear hb3 c0 c1 c2 c3)
  have HRW := Lib.hid (World.rowIs_made w3 (.int .i64 0) xs.length 3)
  have HB0 := Lib.hid ((Below.refl w3.heap.size w3).alloc (Nat.le_refl _) (.cells (madeCells #[.int .i64 0] xs.length) 3))
  clear hmk
  generalize (w3.alloc (.cells (madeCells #[.int .i64 0] xs.length) 3)) = wm at HRW HB0 ⊢
  obtain ⟨c0, c1, c2, c3⟩ := HFW.out wm (HB3.out.trans (HB0.out.mono HB3.out.size))
  go_wp2
  clear c0 c1 c2 c3
  go_loopw [8, 9, 16] (fun _ _ kv wr => ∃ k : Nat, k ≤ xs.length ∧ kv = .int .i64 (k : Int) ∧ wr.rowIs w3.heap.size 3 xs.length (fun i => if i < k then .int .i64 (ix (unionF g (xs.getD i 0).toNat m)) else .int .i64 0) ∧ Below w3.heap.size w3 wr) (fun _ _ kv _ => xs.length - (intOf kv).toNat)
  case atStart => exact ⟨0, Nat.zero_le _, rfl, HRW.out.congr (fun i _ => by rw [if_neg (Nat.not_lt_zero i)]), HB0.out⟩
  case round =>
    obtain ⟨k, hk, rfl, hr, hb⟩ := hrel
    have HR := Lib.hid hr
    have HB := Lib.hid hb
    clear HRW HB0 hb
    by_cases hlt : k < xs.length
    · have hkz : (k : Int) < (xs.length : Int) := by omega
      have HIR := Lib.hid (HX.out.below (HB1.out.trans ((HB3.out.trans (HB.out.mono HB3.out.size)).mono HB1.out.size)))
      obtain ⟨_, _, e0, _, _, _, hy⟩ := HIR.out
      cases e0
      obtain ⟨b1, o1, e1, hc1⟩ := hy k hlt
      cases e1
      obtain ⟨s, hs, hs60⟩ := HXS.out k hlt
      rw [hs] at hc1
      have HSS := Lib.hid (show (xs.getD k 0).toNat = s by rw [Go.Lib.getD_lt _ _ hlt, hs]; exact Int.toNat_natCast s)
      clear hy hs
      have HBD := Lib.hid (HB.out.trans ((below_drew wr _).mono HB.out.size))
      have HRNG := Lib.hid (fun W (hb : Below w3.heap.size w3 W) => HTW.out W (HB3.out.trans (hb.mono HB3.out.size)))
      have HBW := Lib.hid (fun W (hb : Below w3.heap.size w3 W) => HB1.out.trans ((HB3.out.trans (hb.mono HB3.out.size)).mono HB1.out.size))
      have HUN2 := Lib.hid (fun W (hb : Below w3.heap.size w3 W) => HUN.out s W hs60 (HBW.out W hb))
      have hU60 := HU60.out s
      obtain ⟨cs, hcs⟩ : ∃ cs : List Value, cs = [.int .i64 ((nt : Nat) : Int), tv, tc, to'] := ⟨_, rfl⟩
      have hic : (Tryd.prog.info? 55).map (·.size) = some cs.length := by rw [hcs]; exact hip
      have HCS := Lib.hid (show Value.agg cs.toArray = .agg (pdCells nt tv tc to') by rw [hcs])
      rw [← hcs] at HRNG
      clear hcs
      generalize hUe : unionF g s m = U at HUN2 hU60
      have HUE := Lib.hid hUe
      have HIX2 := Lib.hid (fun W (hb : Below w3.heap.size w3 W) => (show Calls Tryd.prog 51 #[.agg cs.toArray, .int .i64 (U : Int)] W (SaysI (ix U) W) by rw [HCS.out]; exact HIDX.out U W hU60 (HBW.out W hb)))
      generalize hrr : ix U = r at HIX2
      have HRR := Lib.hid hrr
      clear hrr hUe hU60 hs60
      go_upto_region 5 with fail
      clear hc1 hr
      refine wp_region_held_drew (S := fun W' : World => W'.rangeAt q 0 cs) (by kernel_rfl) (HRNG.out _ HBD.out) (fun hHeld => ?_)
      have HRQ := Lib.hid (show wr.drew.rowIs w3.heap.size 3 xs.length (fun i => if i < k then .int .i64 (ix (unionF g (xs.getD i 0).toNat m)) else .int .i64 0) from HR.out)
      generalize wr.drew = wq at HBD HRQ hHeld ⊢
      refine wpAnyH_take (i := 0) (v := .slice (some ⟨w3.heap.size, 0, none⟩) xs.length xs.length) rfl (by kernel_rfl) (by kernel_rfl) (by kernel_rfl) (fun _ _ _ h => h) (Or.inl ⟨by rfl, ?_⟩) (by assumption) ?_
      · (intro W hSw; go_simp)
      try dsimp only [Act.put]
      refine wpAnyH_take (i := 1) (v := .int .i64 (k : Int)) rfl (by kernel_rfl) (by kernel_rfl) (by kernel_rfl) (fun _ _ _ h => h) (Or.inl ⟨by rfl, ?_⟩) (by assumption) ?_
      · (intro W hSw; go_simp)
      try dsimp only [Act.put]
      refine wpAnyH_take (i := 2) (v := .agg cs.toArray) rfl (by kernel_rfl) (by kernel_rfl) (by kernel_rfl) (fun _ _ _ h => h) (yieldsIf_load_mid (by rfl) 55 (.tmp 4) rfl q 0 rfl cs _ (fun W hS => hS) hup rfl hic) (by assumption) ?_
      try dsimp only [Act.put]
      refine wpAnyH_take (i := 3) (v := vi) rfl (by kernel_rfl) (by kernel_rfl) (by kernel_rfl) (fun _ _ _ h => h) (Or.inl ⟨by rfl, ?_⟩) (by assumption) ?_
      · (intro W hSw; go_simp)
      try dsimp only [Act.put]
      refine wpAnyH_take (i := 4) (v := .int .i64 (s : Int)) rfl (by kernel_rfl) (by kernel_rfl) (by kernel_rfl) (fun _ _ _ h => h) (Or.inl ⟨by rfl, ?_⟩) (by assumption) ?_
      · (intro W hSw; go_simp)
      try dsimp only [Act.put]
      refine wpAnyH_ready (rs := [5]) (by kernel_rfl) (by simp) ?_
      refine AllReadyH.cons rfl (fun K hK => ?_) ?_
      · go_simp
        refine (HUN2.out _ HBD.out).mono ?_
        rintro e w4 ⟨rfl, hb4⟩
        have HB4 := Lib.hid (HBD.out.trans (hb4.mono HBD.out.size))
        have HR4 := Lib.hid (HRQ.out.of_block (hb4.block _ HRQ.out.lt))
        clear hb4
        go_wp2_with fail
        refine hK.out _ _ (HRNG.out _ HB4.out) (fun hHeld => ?_)
        clear hK K
        try dsimp only [Act.put]
        refine wpAnyH_ready (rs := [6]) (by kernel_rfl) (by simp) ?_
        refine AllReadyH.cons rfl (fun K hK => ?_) ?_
        · go_simp
          refine (HIX2.out _ HB4.out).mono ?_
          rintro e w5 ⟨rfl, hb5⟩
          have HB5 := Lib.hid (HB4.out.trans (hb5.mono HB4.out.size))
          have HR5 := Lib.hid (HR4.out.of_block (hb5.block _ HR4.out.lt))
          have hc5 := HR5.out.cell hlt
          have hf5 := HR5.out.frozen k
          rw [if_neg (Nat.lt_irrefl k)] at hc5
          clear hb5
          go_wp2_with fail
          refine hK.out _ _ (HRNG.out _ HB5.out) (fun hHeld => ?_)
          clear hK K
          try dsimp only [Act.put]
          refine wpAnyH_ready (rs := [7]) (by kernel_rfl) (by simp) ?_
          refine AllReadyH.cons rfl (fun K hK => ?_) ?_
          · go_simp
            refine hK.out _ _ (HRNG.out _ HB5.out) (fun hHeld => ?_)
            clear hK K
            try dsimp only [Act.put]
            refine wpAnyH_ready (rs := [8]) (by kernel_rfl) (by simp) ?_
            refine AllReadyH.cons rfl (fun K hK => ?_) ?_
            · go_simp
              have HB6 := Lib.hid (HB5.out.setCell (p := ⟨w3.heap.size, k, none⟩) (Nat.le_refl _) (.int .i64 r))
              refine hK.out _ _ (HRNG.out _ HB6.out) (fun hHeld => ?_)
              clear hK K
              try dsimp only [Act.put]
              refine wpAnyH_done (by kernel_rfl) ?_ _
              go_wp2_with fail
              go_roundw
              case rel =>
                refine ⟨k + 1, by omega, by go_num, (HR5.out.set k (.int .i64 r)).congr (fun i hi => ?_), HB6.out⟩
                by_cases e : i = k
                · subst e; rw [if_pos (Nat.lt_succ_self i), HSS.out, HUE.out, HRR.out]; simp
                · by_cases e2 : i < k
                  · simp [e, e2, show i < k + 1 by omega]
                  · simp [e, e2, show ¬ i < k + 1 by omega]
              case measure => simp [intOf]; omega
            exact AllReadyH.nil
          exact AllReadyH.nil
        exact AllReadyH.nil
      exact AllReadyH.nil
    · obtain rfl : k = xs.length := by omega
      have hkz : ¬ ((xs.length : Int) < (xs.length : Int)) := by omega
      clear hr
      go_wp2
      go_ret
      have hsz : w.heap.size ≤ w3.heap.size := Nat.le_trans HB1.out.size HB3.out.size
      refine ⟨.slice (some ⟨w3.heap.size, 0, none⟩) xs.length xs.length, rfl, ?_, HB1.out.trans ((HB3.out.trans (HB.out.mono HB3.out.size)).mono HB1.out.size)⟩
      refine ⟨fun y hy => ?_, .inr ⟨w3.heap.size, xs.length, _, by rw [unsL_len], by rw [unsL_len]; exact Nat.le_refl _, by unfold maxLen; omega, hsz, HR.out.lt, HR.out, fun i hi => ?_⟩⟩
      · unfold unsL at hy
        obtain ⟨x, _, rfl⟩ := List.mem_map.1 hy
        exact HWF.out _
      · rw [unsL_len] at hi
        rw [if_pos hi]
        simp [unsL, List.getD_eq_getElem?_getD, List.getElem?_eq_getElem hi]
end Go.Proofs.YtfgpnmdmbhfdmaaDoor

/- The program's PowerExtend. -/
namespace Go.Proofs.YtfgpnmdmbhfdmaaDoor
open Go.RowKit Go.Deep Go.Shelf

/-- Is each number of a list one below n? -/
def inAll (xs : List Int) (n : Nat) : Bool := xs.all fun x => !(outN n x)
theorem inAll_iff (xs : List Int) (n : Nat) : inAll xs n = true ↔ ∀ x ∈ xs, outN n x = false := by simp [inAll, List.all_eq_true]
noncomputable def extOk (r0 r1 : Rows2) (z : ByteArray) (xs : List Int) : Bool := fitB r0 z && (fitB r1 z && (decide (xs.length = r0.length) && inAll xs (setsL r1 (kindN z)).length))
/-- The set that a list of indexes has for an element. -/
def extG (r1 : Rows2) (k : Nat) (xs : List Int) (i : Nat) : Nat := ((setsL r1 k).getD (xs.getD i 0).toNat 0).toNat
noncomputable def extL (r0 r1 : Rows2) (z : ByteArray) (xs : List Int) : List Int := if extOk r0 r1 z xs = true then unsL (setsL r0 (kindN z)) (extG r1 (kindN z) xs) xs.length (idxK r1 (kindN z)) else []
theorem extL_no {r0 r1 : Rows2} {z : ByteArray} {xs : List Int} (h : extOk r0 r1 z xs = false) : extL r0 r1 z xs = [] := by unfold extL; rw [if_neg (by rw [h]; simp)]
theorem extL_yes {r0 r1 : Rows2} {z : ByteArray} {xs : List Int} (h : extOk r0 r1 z xs = true) : extL r0 r1 z xs = unsL (setsL r0 (kindN z)) (extG r1 (kindN z) xs) xs.length (idxK r1 (kindN z)) := by unfold extL; rw [if_pos h]
theorem ext_short (r0 r1 : Rows2) (z : ByteArray) (xs : List Int) : (extL r0 r1 z xs).length ≤ 1048576 := by
  unfold extL
  split
  · rename_i h
    unfold extOk at h
    rw [Bool.and_eq_true] at h
    have := setsL_len (fit_iff h.1).2.2.1 (kindN z)
    rw [unsL_len]
    omega
  · exact Nat.zero_le _
theorem set_lt {r : Rows2} {k i : Nat} (h7 : r.length ≤ 7) (hi : i < (setsL r k).length) : ∃ x : Nat, (setsL r k)[i] = (x : Int) ∧ x < 2 ^ 60 := by
  obtain ⟨x, e, _, h2⟩ := sets_at hi
  exact ⟨x, e, pow7_lt h7 h2⟩
theorem setN_lt {r : Rows2} {k : Nat} (h7 : r.length ≤ 7) (j : Nat) : ((setsL r k).getD j 0).toNat < 2 ^ 60 := by
  by_cases h : j < (setsL r k).length
  · obtain ⟨x, e, h2⟩ := set_lt h7 h
    rw [Go.Lib.getD_lt _ _ h, e, Int.toNat_natCast]
    exact h2
  · rw [List.getD_eq_getElem?_getD, List.getElem?_eq_none (Nat.le_of_not_lt h)]
    simp
/-- Natural numbers in a row. -/
theorem row_ints {W : World} {L m C : Nat} {g : Nat → Nat} {f : Nat → Value} (hr : W.rowIs L 3 m f) (hf : ∀ i, i < m → f i = .int .i64 ((g i : Nat) : Int)) (hg : ∀ i, i < m → g i < 2 ^ 60) (hC : C = m) (hm : m ≤ 60) : IntsAt W (.slice (some ⟨L, 0, none⟩) m C) (setsI g m) := by
  subst hC
  refine ⟨some ⟨L, 0, none⟩, C, by rw [setsI_len], by rw [setsI_len]; exact Nat.le_refl _, by unfold maxLen; omega, fun x hx => ?_, fun i hi => ⟨L, 0, rfl, ?_⟩⟩
  · unfold setsI at hx
    obtain ⟨i, hi, rfl⟩ := List.mem_map.1 hx
    have hb := hg i (List.mem_range.1 hi)
    have e1 : IntKind.i64.min = -9223372036854775808 := rfl
    have e2 : IntKind.i64.max = 9223372036854775807 := rfl
    simp [Lit.wf, e1, e2]
    omega
  · rw [setsI_at]
    rw [setsI_len] at hi
    rw [Nat.zero_add, hr.cell hi, hf i hi]

set_option maxRecDepth 100000 in
set_option maxHeartbeats 4000000 in
theorem implExtend_any (v0 v1 v3 : Value) (r0 r1 : Rows2) (xs : List Int) (z : ByteArray) (w : World) (h0 : RowsAt w v0 r0) (h1 : RowsAt w v1 r1) (h3 : IntsAt w v3 xs) (hT : Tab w) (hn0 : bulk r0 ≤ 1048576) (hn1 : bulk r1 ≤ 1048576) :
    Calls Tryd.prog 33 #[.agg #[v0], .agg #[v1], .string z, v3] w (OwnB (extL r0 r1 z xs) (extOk r0 r1 z xs) w) := by
  have hbF := (Below.refl w.heap.size w).alloc (Nat.le_refl _) (.cells #[v0] 29)
  have hbA := hbF.alloc hbF.size (.cells #[v1] 29)
  have hs1 : (w.alloc (.cells #[v0] 29)).heap.size = w.heap.size + 1 := World.size_alloc _ _
  have hx0 := (Boxed.new w 29 v0).alloc (.cells #[v1] 29)
  have hx1 := Boxed.new (w.alloc (.cells #[v0] 29)) 29 v1
  rw [hs1] at hx1
  obtain ⟨wA, hwA⟩ : ∃ wA, wA = (w.alloc (.cells #[v0] 29)).alloc (.cells #[v1] 29) := ⟨_, rfl⟩
  rw [← hwA] at hbA hx0 hx1
  have HOF0 := Lib.hid (powerOf_any v0 r0 z wA (h0.below hbA) (hT.below hbA) hn0)
  have HOF1 := Lib.hid (fun W (hb : Below wA.heap.size wA W) => powerOf_any v1 r1 z W (h1.below (hbA.trans (hb.mono hbA.size))) (hT.below (hbA.trans (hb.mono hbA.size))) hn1)
  have HX3 := Lib.hid (fun W (hb : Below wA.heap.size wA W) => h3.below (hbA.trans (hb.mono hbA.size)))
  obtain ⟨A0, C0, rfl, _⟩ := h0
  obtain ⟨A1, C1, rfl, _⟩ := h1
  obtain ⟨A3, C3, rfl, _, hm3, _, _⟩ := h3
  unfold maxLen at hm3
  have HBA := Lib.hid hbA
  have HX1 := Lib.hid (fun W (hb : Below wA.heap.size wA W) => (show Boxed W (w.heap.size + 1) 29 (.slice A1 r1.length C1) from (hb.block _ hx1.lt).trans hx1))
  have hcell := hx0.cell
  have hup := Tryd.underlying55
  have hip := sizePD
  clear hbF hbA hs1 hx0 hx1 hT hn0 hn1
  go_enter Tryd.func33, Tryd.ntmps33
  go_upto_region 1 with fail
  rw [← hwA]
  clear hwA
  go_upto_region 2 with (first | (go_at_call 40; refine HOF0.out.mono ?_; clear HOF0; rintro e w2 ⟨n0, t0, f0, o0, rfl, y1, y2, y3, yf, hb2, hpd⟩; have HB2 := Lib.hid hb2; have HPD := Lib.hid hpd; have HF0 := Lib.hid yf; have hnew := heap_alloc_new w2 (.cells pdZero 55); clear hb2 hpd yf) | (refine wpList_store_row rfl 55 (.tmp 10) (.tmp 21) rfl w2.heap.size (pdCells n0 t0 f0 o0) rfl rfl 55 pdZero hnew hip rfl (pw_one y1 y2 y3) ?_))
  obtain ⟨hblk, hb3⟩ := pw_new w2 (pdCells n0 t0 f0 o0)
  have HB3 := Lib.hid (HB2.out.trans (hb3.mono HB2.out.size))
  have HPD3 := Lib.hid (fun h => (HPD.out h).below hb3)
  have HQ0 := Lib.hid (fun W (hb : Below ((w2.alloc (.cells pdZero 55)).setRow w2.heap.size (pdCells n0 t0 f0 o0)).heap.size ((w2.alloc (.cells pdZero 55)).setRow w2.heap.size (pdCells n0 t0 f0 o0)) W) => pw_cells ((hb.block _ (Array.getElem?_eq_some_iff.1 hblk).1).trans hblk))
  clear hnew hb3 HPD hblk y1 y2 y3 hcell
  generalize ((w2.alloc (.cells pdZero 55)).setRow w2.heap.size (pdCells n0 t0 f0 o0)) = w3 at HB3 HPD3 HQ0 ⊢
  generalize w2.heap.size = q0 at HQ0 ⊢
  have hcell := (HX1.out w3 HB3.out).cell
  go_upto_region 3 with (first | (go_at_call 40; refine (HOF1.out w3 HB3.out).mono ?_; clear HOF1; rintro e w4 ⟨n1, t1, f1, o1, rfl, y1, y2, y3, yf, hb4, hpd⟩; have HB4 := Lib.hid hb4; have HPD1 := Lib.hid hpd; have HF1 := Lib.hid yf; have hnew := heap_alloc_new w4 (.cells pdZero 55); clear hb4 hpd yf) | (refine wpList_store_row rfl 55 (.tmp 12) (.tmp 27) rfl w4.heap.size (pdCells n1 t1 f1 o1) rfl rfl 55 pdZero hnew hip rfl (pw_one y1 y2 y3) ?_))
  obtain ⟨hblk, hb5⟩ := pw_new w4 (pdCells n1 t1 f1 o1)
  have HB5 := Lib.hid (HB4.out.trans (hb5.mono HB4.out.size))
  have HPD5 := Lib.hid (fun h => (HPD1.out h).below hb5)
  have HQ1 := Lib.hid (fun W (hb : Below ((w4.alloc (.cells pdZero 55)).setRow w4.heap.size (pdCells n1 t1 f1 o1)).heap.size ((w4.alloc (.cells pdZero 55)).setRow w4.heap.size (pdCells n1 t1 f1 o1)) W) => pw_cells ((hb.block _ (Array.getElem?_eq_some_iff.1 hblk).1).trans hblk))
  clear hnew hb5 HPD1 hblk y1 y2 y3 hcell
  generalize ((w4.alloc (.cells pdZero 55)).setRow w4.heap.size (pdCells n1 t1 f1 o1)) = w5 at HB5 HPD5 HQ1 ⊢
  generalize w4.heap.size = q1 at HQ1 ⊢
  have HAW := Lib.hid (fun W (hb : Below w5.heap.size w5 W) => (show Below wA.heap.size wA W from HB3.out.trans ((HB5.out.trans (hb.mono HB5.out.size)).mono HB3.out.size)))
  have HWW := Lib.hid (fun W (hb : Below w5.heap.size w5 W) => (show Below w.heap.size w W from HBA.out.trans ((HAW.out W hb).mono HBA.out.size)))
  have HQ0W := Lib.hid (fun W (hb : Below w5.heap.size w5 W) => HQ0.out W (HB5.out.trans (hb.mono HB5.out.size)))
  clear HQ0
  cases hf0 : fitB r0 z with
  | false =>
    have hno : extOk r0 r1 z xs = false := by unfold extOk; rw [hf0]; rfl
    go_wp2
    go_ret2
    refine ⟨.slice none 0 0, by rw [hno]; rfl, ?_, HWW.out _ (Below.refl _ _)⟩
    rw [extL_no hno]
    exact OwnI.nil _ _ _ _
  | true =>
    cases hf1 : fitB r1 z with
    | false =>
      have hno : extOk r0 r1 z xs = false := by unfold extOk; rw [hf1]; simp
      go_wp2
      go_ret2
      refine ⟨.slice none 0 0, by rw [hno]; rfl, ?_, HWW.out _ (Below.refl _ _)⟩
      rw [extL_no hno]
      exact OwnI.nil _ _ _ _
    | true =>
      have hpf := (HPD3.out hf0).below HB5.out
      have hpt := HPD5.out hf1
      obtain ⟨_, hok0, h70, _⟩ := fit_iff hf0
      obtain ⟨_, hok1, h71, _⟩ := fit_iff hf1
      have hE0 : extOk r0 r1 z xs = (decide (xs.length = r0.length) && inAll xs (setsL r1 (kindN z)).length) := by unfold extOk; rw [hf0, hf1]; rfl
      obtain ⟨e0, ⟨ua, uC, e1⟩, hIF, _⟩ := hpf
      obtain ⟨e2, ⟨ub, uD, e3⟩, hIT, hIX⟩ := hpt
      subst e0 e1 e2 e3
      have HY := Lib.hid (fun (h : extOk r0 r1 z xs = true) => extL_yes h)
      have hl0 := setsL_len h70 (kindN z)
      have hl1 := setsL_len h71 (kindN z)
      have HIF := Lib.hid hIF
      have HIT := Lib.hid hIT
      have HIX := Lib.hid hIX
      have HS0 := Lib.hid (fun i h => set_lt (k := kindN z) (i := i) h70 h)
      have HS1 := Lib.hid (fun i h => set_lt (k := kindN z) (i := i) h71 h)
      have HSN := Lib.hid (fun j => setN_lt (k := kindN z) h71 j)
      have HWF := Lib.hid (fun s => one_wf h71 (kindN z) s)
      have HAB := Lib.hid (fun W (hb : Below w5.heap.size w5 W) => allBelow_any (.slice A3 xs.length C3) xs (setsL r1 (kindN z)).length W (inAll xs (setsL r1 (kindN z)).length) (inAll_iff _ _) (HX3.out W (HAW.out W hb)))
      have hg0 : ∀ i, i < xs.length → extG r1 (kindN z) xs i < 2 ^ 60 := fun i _ => setN_lt h71 _
      have HG := Lib.hid hg0
      have HGE := Lib.hid (fun i => (show extG r1 (kindN z) xs i = ((setsL r1 (kindN z)).getD (xs.getD i 0).toNat 0).toNat from rfl))
      clear hIF hIT hIX hf0 hf1 hok0 hok1 HPD3 HPD5 HF0 HF1 hg0
      generalize kindN z = K at *
      obtain ⟨c0, c1, c2, c3⟩ := HQ0W.out w5 (Below.refl _ _)
      obtain ⟨d0, d1, d2, d3⟩ := HQ1.out w5 (Below.refl _ _)
      by_cases hlen : xs.length = r0.length
      · rw [decide_eq_true hlen, Bool.true_and] at hE0
        rw [← hlen] at c0
        have hxl : xs.length ≤ 7 := by omega
        clear hlen
        cases ht : inAll xs (setsL r1 K).length with
        | false =>
          have HNO := Lib.hid (hE0.trans ht)
          rw [ht] at HAB
          clear hE0 ht
          go_wp2_with (first | (go_at_call 53; refine (powSize_any _ _ _ _ _ _ _).mono ?_; rintro e w6 ⟨rfl, hb6⟩; have HB6 := Lib.hid hb6; clear hb6) | (go_at_call 52; refine (HAB.out _ HB6.out).mono ?_; clear HAB; rintro e w7 ⟨rfl, hb7⟩; have HB7 := Lib.hid (HB6.out.trans (hb7.mono HB6.out.size)); clear hb7))
          go_ret2
          refine ⟨.slice none 0 0, by rw [HNO.out]; rfl, ?_, HWW.out _ HB7.out⟩
          rw [extL_no HNO.out]
          exact OwnI.nil _ _ _ _
        | true =>
          have hok : extOk r0 r1 z xs = true := hE0.trans ht
          have HOK := Lib.hid hok
          have HI := Lib.hid (HY.out hok)
          have HTT := Lib.hid ((inAll_iff _ _).1 ht)
          have hmk := run_make_row' (P := Tryd.prog) 26 3 (.int .i64 0) 8 Tryd.underlying26 infoInt rfl .i64 .i64 xs.length (by omega) (by omega)
          rw [ht] at HAB
          clear hE0 ht hok HY
          go_upto_region 6 with (first | (go_at_call 53; refine (powSize_any _ _ _ _ _ _ _).mono ?_; rintro e w6 ⟨rfl, hb6⟩; have HB6 := Lib.hid hb6; clear hb6) | (go_at_call 52; refine (HAB.out _ HB6.out).mono ?_; clear HAB; rintro e w7 ⟨rfl, hb7⟩; have HB7 := Lib.hid (HB6.out.trans (hb7.mono HB6.out.size)); clear hb7 c0 c1 c2 c3 d0 d1 d2 d3))
          have HRW := Lib.hid (World.rowIs_made w7 (.int .i64 0) xs.length 3)
          have HB0 := Lib.hid ((Below.refl w7.heap.size w7).alloc (Nat.le_refl _) (.cells (madeCells #[.int .i64 0] xs.length) 3))
          clear hmk
          generalize (w7.alloc (.cells (madeCells #[.int .i64 0] xs.length) 3)) = wm at HRW HB0 ⊢
          go_wp2
          go_loopw [15, 16, 54] (fun _ _ kv wr => ∃ k : Nat, k ≤ xs.length ∧ kv = .int .i64 (k : Int) ∧ wr.rowIs w7.heap.size 3 xs.length (fun i => if i < k then .int .i64 ((extG r1 K xs i : Nat) : Int) else .int .i64 0) ∧ Below w7.heap.size w7 wr) (fun _ _ kv _ => xs.length - (intOf kv).toNat)
          case atStart => exact ⟨0, Nat.zero_le _, rfl, HRW.out.congr (fun i _ => by rw [if_neg (Nat.not_lt_zero i)]), HB0.out⟩
          case round =>
            obtain ⟨k, hk, rfl, hr, hb⟩ := hrel
            have HR := Lib.hid hr
            have HB := Lib.hid hb
            clear HRW HB0 hb
            have HBW := Lib.hid (HB7.out.trans (HB.out.mono HB7.out.size))
            by_cases hlt : k < xs.length
            · have hkz : (k : Int) < (xs.length : Int) := by omega
              obtain ⟨_, _, e0, _, _, _, hy⟩ := HX3.out wr (HAW.out wr HBW.out)
              cases e0
              obtain ⟨b1, o1', e1, hc1⟩ := hy k hlt
              cases e1
              have hin := HTT.out _ (List.getElem_mem hlt)
              obtain ⟨j, hj, hjl⟩ : ∃ j : Nat, xs[k] = (j : Int) ∧ j < (setsL r1 K).length := by
                unfold outN at hin
                rw [Bool.or_eq_false_iff, decide_eq_false_iff_not, decide_eq_false_iff_not] at hin
                exact ⟨xs[k].toNat, by omega, by omega⟩
              rw [hj] at hc1
              obtain ⟨_, _, e2, _, _, _, hy2⟩ := HIT.out.below HBW.out
              cases e2
              obtain ⟨b2, o2, e3, hc2⟩ := hy2 j hjl
              cases e3
              obtain ⟨s, hs, hs60⟩ := HS1.out j hjl
              rw [hs] at hc2
              have hGk : extG r1 K xs k = s := by rw [HGE.out, Go.Lib.getD_lt _ _ hlt, hj, Int.toNat_natCast, Go.Lib.getD_lt _ _ hjl, hs, Int.toNat_natCast]
              have HGK := Lib.hid hGk
              have hcr := hr.cell hlt
              have hfr := hr.frozen k
              rw [if_neg (Nat.lt_irrefl k)] at hcr
              obtain ⟨d0, d1, d2, d3⟩ := HQ1.out wr HBW.out
              have hjz : (j : Int) < ((setsL r1 K).length : Int) := by omega
              clear hy hy2 hin hj hs hGk hr
              go_wp2
              have HB8 := Lib.hid (HB.out.setCell (p := ⟨w7.heap.size, k, none⟩) (Nat.le_refl _) (.int .i64 (s : Int)))
              go_roundw
              case rel =>
                refine ⟨k + 1, by omega, by go_num, (HR.out.set k (.int .i64 (s : Int))).congr (fun i hi => ?_), HB8.out⟩
                by_cases e : i = k
                · subst e; rw [if_pos (Nat.lt_succ_self i), HGK.out]; simp
                · by_cases e2 : i < k
                  · simp [e, e2, show i < k + 1 by omega]
                  · simp [e, e2, show ¬ i < k + 1 by omega]
              case measure => simp [intOf]; omega
            · obtain rfl : k = xs.length := by omega
              have hkz : ¬ ((xs.length : Int) < (xs.length : Int)) := by omega
              have hri := row_ints (g := extG r1 K xs) (C := xs.length) hr (fun i hi => by rw [if_pos hi]) HG.out rfl (by omega)
              have hcall := unions_any r0.length (setsL r0 K) ua uC f0 o0 r1.length (.slice ub (setsL r1 K).length uD) f1 o1 _ (extG r1 K xs) xs.length (idxK r1 K) wr (HIF.out.below HBW.out) HS0.out hl0 hri (by omega) HG.out HWF.out (fun s W hs hb => HIX.out s W hs (HBW.out.trans (hb.mono HBW.out.size)))
              have HCALL := Lib.hid hcall
              obtain ⟨c0, c1, c2, c3⟩ := HQ0W.out wr HBW.out
              obtain ⟨d0, d1, d2, d3⟩ := HQ1.out wr HBW.out
              clear hr hri hcall
              go_wp2_with (go_at_call 56; refine HCALL.out.mono ?_; clear HCALL; rintro e w9 ⟨u, rfl, ho, hb9⟩; obtain ⟨a9, C9, e9⟩ := ho.form; rw [unsL_len] at e9; subst e9; have HO := Lib.hid ho; have HB9 := Lib.hid (HBW.out.trans (hb9.mono HBW.out.size)); clear ho hb9 c0 c1 c2 c3 d0 d1 d2 d3)
              go_ret2
              refine ⟨_, by rw [HOK.out]; rfl, ?_, HWW.out _ HB9.out⟩
              rw [HI.out]
              exact HO.out.wider (HWW.out _ HBW.out).size (Nat.le_refl _)
      · have hlz : ¬ ((xs.length : Int) = (r0.length : Int)) := by omega
        rw [decide_eq_false hlen, Bool.false_and] at hE0
        have HNO := Lib.hid hE0
        clear hE0
        go_wp2
        go_ret2
        refine ⟨.slice none 0 0, by rw [HNO.out]; rfl, ?_, HWW.out _ (Below.refl _ _)⟩
        rw [extL_no HNO.out]
        exact OwnI.nil _ _ _ _
end Go.Proofs.YtfgpnmdmbhfdmaaDoor

/- The model's PowerExtend. -/
namespace Go.Proofs.YtfgpnmdmbhfdmaaDoor
open Go.RowKit Go.Deep Go.Shelf

/-- The memory while a list grows that was begun (empty, at q) before other lists were made. -/
structure ExtW (wA wS : World) (q : Nat) (W : World) (ov : Value) (ys : List Int) : Prop where
  own : W.ownsRow q 3 1 ov ys.length (cellsI ys)
  below : Below q wA W
  kept : ∀ b, q < b → b < wS.heap.size → W.heap[b]? = wS.heap[b]?
  far : ∀ b, ov.ownBlock = some b → b = q ∨ wS.heap.size ≤ b
  size : wS.heap.size ≤ W.heap.size
theorem ExtW.step {wA wS W W' : World} {q : Nat} {ov : Value} {ys : List Int} (h : ExtW wA wS q W ov ys) (hq : q ≤ wS.heap.size) (hb : Below W.heap.size W W') : ExtW wA wS q W' ov ys :=
  ⟨owns_below h.own hb, h.below.trans (hb.mono (Nat.le_trans hq h.size)), fun b h1 h2 => (hb.block b (Nat.lt_of_lt_of_le h2 h.size)).trans (h.kept b h1 h2), h.far, Nat.le_trans h.size hb.size⟩
theorem ExtW.appended {wA wS W W' : World} {q g cap : Nat} {ov : Value} {ys : List Int} {y : Int} (h : ExtW wA wS q W ov ys) (hq : q ≤ wS.heap.size)
    (hown : W'.ownsRow q 3 1 (.slice (some ⟨g, 0, none⟩) (ys.length + 1) cap) (ys.length + 1) (cellsI ys ++ [.int .i64 y])) (hg : W.grownBy W' ov.ownBlock) (hat : ov.ownBlock = some g ∨ g = W.heap.size) :
    ExtW wA wS q W' (.slice (some ⟨g, 0, none⟩) (ys.length + 1) cap) (ys ++ [y]) := by
  refine ⟨?_, h.below.grown hg (Nat.le_trans hq h.size) (fun b e => (h.own.lt b e).1), fun b h1 h2 => ?_, fun b e => ?_, Nat.le_trans h.size hg.size⟩
  · rw [List.length_append, show cellsI (ys ++ [y]) = cellsI ys ++ [.int .i64 y] by simp]
    exact hown
  · refine (hg.block b (Nat.lt_of_lt_of_le h2 h.size) (fun e => ?_)).trans (h.kept b h1 h2)
    rcases h.far b e.symm with rfl | h3
    · exact absurd h1 (Nat.lt_irrefl _)
    · omega
  · have hge : b = g := by simpa [Value.ownBlock] using e.symm
    subst hge
    rcases hat with e2 | rfl
    · exact h.far b e2
    · exact .inr h.size
theorem ExtW.ints {wA wS W : World} {q lo hi : Nat} {ov u : Value} {ys xs : List Int} (h : ExtW wA wS q W ov ys) (ho : OwnI 3 wS u xs lo hi) (hl : q < lo) (hh : hi ≤ wS.heap.size) : IntsAt W u xs :=
  (ho.kept fun b e => h.kept b (by have := (ho.block b e).1; omega) (by have := (ho.block b e).2.1; omega)).at
theorem unsL_take (xs : List Int) (g : Nat → Nat) (m : Nat) (ix : Nat → Int) (i : Nat) (hi : i < xs.length) : unsL (xs.take (i + 1)) g m ix = unsL (xs.take i) g m ix ++ [ix (unionF g (xs[i]).toNat m)] := by
  unfold unsL
  rw [List.take_succ_eq_append_getElem hi, List.map_append]
  rfl

set_option maxRecDepth 100000 in
set_option maxHeartbeats 4000000 in
theorem specExtend_any (v0 v1 v3 : Value) (r0 r1 : Rows2) (xs : List Int) (z : ByteArray) (w : World) (h0 : RowsAt w v0 r0) (h1 : RowsAt w v1 r1) (h3 : IntsAt w v3 xs) (hn0 : bulk r0 ≤ 1048576) (hn1 : bulk r1 ≤ 1048576) :
    Calls Tryd.prog 32 #[.agg #[v0], .agg #[v1], .string z, v3] w (OwnB (extL r0 r1 z xs) (extOk r0 r1 z xs) w) := by
  have hbF := (Below.refl w.heap.size w).alloc (Nat.le_refl _) (.cells #[v0] 29)
  have hbA := hbF.alloc hbF.size (.cells #[v1] 29)
  have hs1 : (w.alloc (.cells #[v0] 29)).heap.size = w.heap.size + 1 := World.size_alloc _ _
  have hx0 := (Boxed.new w 29 v0).alloc (.cells #[v1] 29)
  have hx1 := Boxed.new (w.alloc (.cells #[v0] 29)) 29 v1
  rw [hs1] at hx1
  obtain ⟨wA, hwA⟩ : ∃ wA, wA = (w.alloc (.cells #[v0] 29)).alloc (.cells #[v1] 29) := ⟨_, rfl⟩
  rw [← hwA] at hbA hx0 hx1
  have HR0 := Lib.hid (fun W (hb : Below wA.heap.size wA W) => h0.below (hbA.trans (hb.mono hbA.size)))
  have HR1 := Lib.hid (fun W (hb : Below wA.heap.size wA W) => h1.below (hbA.trans (hb.mono hbA.size)))
  have HX3 := Lib.hid (fun W (hb : Below wA.heap.size wA W) => h3.below (hbA.trans (hb.mono hbA.size)))
  obtain ⟨A0, C0, rfl, _⟩ := h0
  obtain ⟨A1, C1, rfl, _⟩ := h1
  obtain ⟨A3, C3, rfl, hc3, hm3, _, _⟩ := h3
  unfold maxLen at hm3
  have HBA := Lib.hid hbA
  have HD0 := Lib.hid (fun W (hb : Below wA.heap.size wA W) => (show Boxed W w.heap.size 29 (.slice A0 r0.length C0) from (hb.block _ hx0.lt).trans hx0).cell)
  have HD1 := Lib.hid (fun W (hb : Below wA.heap.size wA W) => (show Boxed W (w.heap.size + 1) 29 (.slice A1 r1.length C1) from (hb.block _ hx1.lt).trans hx1).cell)
  have HF0 := Lib.hid (fun W (hb : Below wA.heap.size wA W) => l5Fits_any _ r0 z W (HR0.out W hb) hn0)
  have HF1 := Lib.hid (fun W (hb : Below wA.heap.size wA W) => l5Fits_any _ r1 z W (HR1.out W hb) hn1)
  obtain ⟨i0, hi0, hz0, hz1, hz2⟩ := info_parts infoInt
  clear hbF hbA hs1 hx0 hx1 hn0 hn1
  go_enter Tryd.func32, Tryd.ntmps32
  go_upto_region 1 with fail
  rw [← hwA]
  clear hwA
  go_upto_region 2 with fail
  have HN := Lib.hid (World.ownsRow_made (e := 3) (size := 1) wA #[] 0 (base := wA.heap.size) (Nat.le_refl _) (Nat.zero_le _) (by simp))
  have HBB := Lib.hid ((Below.refl wA.heap.size wA).alloc (Nat.le_refl _) (.cells #[] 3))
  have HBS := Lib.hid (show wA.heap.size < (wA.alloc (.cells #[] 3)).heap.size by rw [World.size_alloc]; omega)
  generalize (wA.alloc (.cells #[] 3)) = wB at HN HBB HBS ⊢
  have HAW := Lib.hid (fun W (hb : Below wB.heap.size wB W) => (show Below wA.heap.size wA W from HBB.out.trans (hb.mono HBB.out.size)))
  have HWW := Lib.hid (fun W (hb : Below wA.heap.size wA W) => (show Below w.heap.size w W from HBA.out.trans (hb.mono HBA.out.size)))
  obtain ⟨q, hq⟩ : ∃ q, q = wA.heap.size := ⟨_, rfl⟩
  rw [← hq] at HN ⊢
  have HQ := Lib.hid hq
  clear hq
  have HNO := Lib.hid (fun W (hb : Below wB.heap.size wB W) => (show OwnI 3 W (.slice (some ⟨q, 0, none⟩) 0 0) [] w.heap.size W.heap.size from (OwnI.of_owns (xs := []) (owns_below HN.out hb) (fun _ h => by cases h) (fun b e => ((owns_below HN.out hb).lt b e).2)).wider (by rw [HQ.out]; exact HBA.out.size) (Nat.le_refl _)))
  have hcell0 := HD0.out wB HBB.out
  cases hf0 : fitB r0 z with
  | false =>
    have hno : extOk r0 r1 z xs = false := by unfold extOk; rw [hf0]; rfl
    have HE := Lib.hid hno
    rw [hf0] at HF0
    clear hf0 hno
    go_wp2_with (go_at_call 37; refine (HF0.out wB HBB.out).mono ?_; rintro e w3 ⟨rfl, hb3⟩; have HB3 := Lib.hid hb3; clear hb3 hcell0)
    go_ret2
    refine ⟨_, by rw [HE.out]; rfl, ?_, HWW.out _ (HAW.out _ HB3.out)⟩
    rw [extL_no HE.out]
    exact HNO.out _ HB3.out
  | true =>
    rw [hf0] at HF0
    cases hf1 : fitB r1 z with
    | false =>
      have hno : extOk r0 r1 z xs = false := by unfold extOk; rw [hf1]; simp
      have HE := Lib.hid hno
      rw [hf1] at HF1
      clear hf0 hf1 hno
      go_wp2_with (first | (go_at_call_of 37 (Value.agg #[Value.slice A0 (List.length r0) C0]); refine (HF0.out wB HBB.out).mono ?_; rintro e w3 ⟨rfl, hb3⟩; have HB3 := Lib.hid hb3; have hcell1 := HD1.out w3 (HAW.out w3 hb3); clear hb3 hcell0) | (go_at_call_of 37 (Value.agg #[Value.slice A1 (List.length r1) C1]); refine (HF1.out w3 (HAW.out w3 HB3.out)).mono ?_; rintro e w4 ⟨rfl, hb4⟩; have HB4 := Lib.hid (HB3.out.trans (hb4.mono HB3.out.size)); clear hb4 hcell1))
      go_ret2
      refine ⟨_, by rw [HE.out]; rfl, ?_, HWW.out _ (HAW.out _ HB4.out)⟩
      rw [extL_no HE.out]
      exact HNO.out _ HB4.out
    | true =>
      rw [hf1] at HF1
      obtain ⟨_, hok0, h70, hk0⟩ := fit_iff hf0
      obtain ⟨_, hok1, h71, _⟩ := fit_iff hf1
      have hE0 : extOk r0 r1 z xs = (decide (xs.length = r0.length) && inAll xs (setsL r1 (kindN z)).length) := by unfold extOk; rw [hf0, hf1]; rfl
      by_cases hlen : xs.length = r0.length
      · rw [decide_eq_true hlen, Bool.true_and] at hE0
        have hxl : xs.length ≤ 7 := by omega
        have HLEN := Lib.hid hlen
        have HE0 := Lib.hid hE0
        have HY := Lib.hid (fun (h : extOk r0 r1 z xs = true) => extL_yes h)
        have hl0 := setsL_len h70 (kindN z)
        have hl1 := setsL_len h71 (kindN z)
        have HL0 := Lib.hid (fun W (hb : Below wA.heap.size wA W) => l5Sets_any _ r0 z W (HR0.out W hb) hok0 h70 hk0)
        have HL1 := Lib.hid (fun W (hb : Below wA.heap.size wA W) => l5Sets_any _ r1 z W (HR1.out W hb) hok1 h71 hk0)
        have HCL := Lib.hid (fun (s : Nat) W (hb : Below wA.heap.size wA W) (hs : s < 2 ^ 60) => l5Close_any _ r1 z s W (HR1.out W hb) hok1 h71 hk0 hs)
        have HS0 := Lib.hid (fun i h => set_lt (k := kindN z) (i := i) h70 h)
        have HS1 := Lib.hid (fun i h => set_lt (k := kindN z) (i := i) h71 h)
        have HWF := Lib.hid (fun s => one_wf h71 (kindN z) s)
        have hg0 : ∀ i, i < xs.length → extG r1 (kindN z) xs i < 2 ^ 60 := fun i _ => setN_lt h71 _
        have HG := Lib.hid hg0
        have HGE := Lib.hid (fun i => (show extG r1 (kindN z) xs i = ((setsL r1 (kindN z)).getD (xs.getD i 0).toNat 0).toNat from rfl))
        have HASC := Lib.hid (sets_asc r1 (kindN z))
        have HIDK := Lib.hid (fun s => (show idxK r1 (kindN z) s = idxI (setsL r1 (kindN z)) ((closL r1 (kindN z) s : Nat) : Int) from rfl))
        clear hf0 hf1 hok0 hok1 hk0 hE0 hg0 hlen
        generalize kindN z = K at *
        go_upto_region 4 with (first | (go_at_call_of 37 (Value.agg #[Value.slice A0 (List.length r0) C0]); refine (HF0.out wB HBB.out).mono ?_; rintro e w3 ⟨rfl, hb3⟩; have HB3 := Lib.hid hb3; have hcell1 := HD1.out w3 (HAW.out w3 hb3); clear hb3 hcell0) | (go_at_call_of 37 (Value.agg #[Value.slice A1 (List.length r1) C1]); refine (HF1.out w3 (HAW.out w3 HB3.out)).mono ?_; rintro e w4 ⟨rfl, hb4⟩; have HB4 := Lib.hid (HB3.out.trans (hb4.mono HB3.out.size)); have hcell0 := HD0.out w4 (HAW.out w4 HB4.out); rw [← HLEN.out] at hcell0; clear hb4 hcell1))
        clear hcell0
        have hcell0 := HD0.out w4 (HAW.out w4 HB4.out)
        go_upto_region 5 with (go_at_call 38; refine (HL0.out w4 (HAW.out w4 HB4.out)).mono ?_; clear HL0; rintro e w5 ⟨u0, rfl, ho0, hb5⟩; obtain ⟨a0, c0, rfl⟩ := ho0.form; have HO0 := Lib.hid ho0; have HB5 := Lib.hid (HB4.out.trans (hb5.mono HB4.out.size)); have HB45 := Lib.hid hb5; have hcell1 := HD1.out w5 (HAW.out w5 HB5.out); clear ho0 hb5 hcell0)
        go_upto_region 6 with (go_at_call 38; refine (HL1.out w5 (HAW.out w5 HB5.out)).mono ?_; clear HL1; rintro e w6 ⟨u1, rfl, ho1, hb6⟩; obtain ⟨a1, c1, rfl⟩ := ho1.form; have HO1 := Lib.hid ho1; have HB6 := Lib.hid (HB5.out.trans (hb6.mono HB5.out.size)); have HO06 := Lib.hid (HO0.out.kept fun b e => hb6.block b (HO0.out.block b e).2.1); have HSZ := Lib.hid hb6.size; clear ho1 hb6 hcell1)
        have HN6 := Lib.hid (owns_below HN.out HB6.out)
        have HQ4 := Lib.hid (show q < w4.heap.size by have := HB4.out.size; have := HBS.out; have := HQ.out; omega)
        have HQ5 := Lib.hid (show q < w5.heap.size by have := HB5.out.size; have := HBS.out; have := HQ.out; omega)
        have HQ6 := Lib.hid (show q ≤ w6.heap.size by have := HB6.out.size; have := HBS.out; have := HQ.out; omega)
        have HW0 := Lib.hid (show ExtW wA w6 q w6 (.slice (some ⟨q, 0, none⟩) 0 0) [] from ⟨HN6.out, by rw [HQ.out]; exact HAW.out _ HB6.out, fun _ _ _ => rfl, fun b e => .inl (by simpa [Value.ownBlock] using e.symm), Nat.le_refl _⟩)
        have HIO := Lib.hid (fun W ov ys (h : ExtW wA w6 q W ov ys) => h.ints HO06.out HQ4.out HSZ.out)
        have HIT := Lib.hid (fun W ov ys (h : ExtW wA w6 q W ov ys) => h.ints HO1.out HQ5.out (Nat.le_refl _))
        have HWA := Lib.hid (fun W ov ys (h : ExtW wA w6 q W ov ys) => (show Below wA.heap.size wA W by rw [← HQ.out]; exact h.below))
        clear HN HNO HN6 HF0 HF1
        go_wp2
        go_loopw [13] (fun iv wx => ∃ i : Nat, i ≤ xs.length ∧ iv = .int .i64 (i : Int) ∧ (∀ j (h : j < xs.length), j < i → outN (setsL r1 K).length xs[j] = false) ∧ wx = w6) (fun iv _ => xs.length - (intOf iv).toNat)
        case atStart => exact ⟨0, Nat.zero_le _, rfl, fun j _ h => absurd h (Nat.not_lt_zero j), rfl⟩
        case round =>
          obtain ⟨i, hi, rfl, hin, rfl⟩ := hrel
          have HIN := Lib.hid hin
          clear hin
          by_cases hil : i < xs.length
          · have hiz : (i : Int) < (xs.length : Int) := by omega
            obtain ⟨_, _, e0, _, _, _, hy⟩ := HX3.out _ (HWA.out _ _ _ HW0.out)
            cases e0
            obtain ⟨b1, o1, e1, hc1⟩ := hy i hil
            cases e1
            clear hy
            cases hx : outN (setsL r1 K).length xs[i] with
            | false =>
              have HX := Lib.hid hx
              unfold outN at hx
              rw [Bool.or_eq_false_iff, decide_eq_false_iff_not, decide_eq_false_iff_not] at hx
              have HCI := Lib.hid (fun W => l6In_yes xs[i] 0 (((setsL r1 K).length : Int) - 1) W (by omega) (by omega))
              clear hx
              go_wp2_with (go_at_call 47; refine (HCI.out _).mono ?_; rintro e w' ⟨rfl, rfl⟩)
              go_roundw
              case rel =>
                refine ⟨i + 1, by omega, by go_num, fun j hj hji => ?_, by first | trivial | rfl⟩
                by_cases e : j = i
                · subst e; exact HX.out
                · exact HIN.out j hj (by omega)
              case measure => simp [intOf]; omega
            | true =>
              have hno : extOk r0 r1 z xs = false := HE0.out.trans (by
                cases h : inAll xs (setsL r1 K).length with
                | false => rfl
                | true => rw [(inAll_iff _ _).1 h _ (List.getElem_mem hil)] at hx; cases hx)
              have HE := Lib.hid hno
              unfold outN at hx
              rw [Bool.or_eq_true, decide_eq_true_eq, decide_eq_true_eq] at hx
              have HCI := Lib.hid (fun W => l6In_no xs[i] 0 (((setsL r1 K).length : Int) - 1) W (by omega))
              clear hx hno
              go_wp2_with (go_at_call 47; refine (HCI.out _).mono ?_; rintro e w' ⟨rfl, rfl⟩)
              go_ret2
              have hbw := HWW.out _ (HWA.out _ _ _ HW0.out)
              refine ⟨_, by rw [HE.out]; rfl, ?_, hbw.alloc hbw.size _⟩
              rw [extL_no HE.out]
              exact none_own _ hbw.size
          · obtain rfl : i = xs.length := by omega
            have hiz : ¬ ((xs.length : Int) < (xs.length : Int)) := by omega
            have hok : extOk r0 r1 z xs = true := HE0.out.trans ((inAll_iff _ _).2 fun x hx => by
              obtain ⟨j, hj, rfl⟩ := List.getElem_of_mem hx
              exact HIN.out j hj hj)
            have HOK := Lib.hid hok
            have HI := Lib.hid (HY.out hok)
            clear hok HY
            go_wp2
            generalize wr = wS at *
            go_loopw [10, 14] (fun ov iv wx => ∃ i : Nat, i ≤ (setsL r0 K).length ∧ iv = .int .i64 (i : Int) ∧ ExtW wA wS q wx ov (unsL ((setsL r0 K).take i) (extG r1 K xs) xs.length (idxK r1 K))) (fun _ iv _ => (setsL r0 K).length - (intOf iv).toNat)
            case atStart => exact ⟨0, Nat.zero_le _, rfl, HW0.out⟩
            case round =>
              obtain ⟨ov, hov⟩ : ∃ ov, ov = u10 := ⟨_, rfl⟩
              subst hov
              obtain ⟨i, hi, rfl, hw⟩ := hrel
              have HW := Lib.hid hw
              clear hw HW0
              by_cases hil : i < (setsL r0 K).length
              · have hiz : (i : Int) < ((setsL r0 K).length : Int) := by omega
                obtain ⟨s, hs, hs60⟩ := HS0.out i hil
                have HE := Lib.hid (unsL_take (setsL r0 K) (extG r1 K xs) xs.length (idxK r1 K) i hil)
                rw [hs, Int.toNat_natCast] at HE
                obtain ⟨_, _, e0, _, _, _, hy⟩ := HIO.out wr ov _ HW.out
                cases e0
                obtain ⟨b1, o1, e1, hc1⟩ := hy i hil
                cases e1
                rw [hs] at hc1
                clear hy hs
                have hylen : (unsL ((setsL r0 K).take i) (extG r1 K xs) xs.length (idxK r1 K)).length = i := by rw [unsL_len, List.length_take]; omega
                generalize unsL ((setsL r0 K).take i) (extG r1 K xs) xs.length (idxK r1 K) = ys at HW HE hylen
                go_wp2
                go_loopw [15, 16] (fun sv kv wx => ∃ k : Nat, k ≤ xs.length ∧ kv = .int .i64 (k : Int) ∧ sv = .int .i64 ((unionF (extG r1 K xs) s k : Nat) : Int) ∧ wx = wr) (fun _ kv _ => xs.length - (intOf kv).toNat)
                case atStart => exact ⟨0, Nat.zero_le _, rfl, rfl, rfl⟩
                case round =>
                  obtain ⟨k, hk, rfl, rfl, rfl⟩ := hrel
                  by_cases hlt : k < xs.length
                  · have hltz : (k : Int) < (xs.length : Int) := by omega
                    have ht := bit_test (s := s) k (small_lt hs60 (by decide))
                    have hm : k % 64 = k := Nat.mod_eq_of_lt (by omega)
                    cases hq : s.testBit k with
                    | true =>
                      rw [hq] at ht
                      obtain ⟨_, _, e0, _, _, _, hy⟩ := HX3.out _ (HWA.out _ _ _ HW.out)
                      cases e0
                      obtain ⟨b2, o2, e1, hc2⟩ := hy k hlt
                      cases e1
                      have hin := HIN.out k hlt hlt
                      obtain ⟨j, hj, hjl⟩ : ∃ j : Nat, xs[k] = (j : Int) ∧ j < (setsL r1 K).length := by
                        unfold outN at hin
                        rw [Bool.or_eq_false_iff, decide_eq_false_iff_not, decide_eq_false_iff_not] at hin
                        exact ⟨xs[k].toNat, by omega, by omega⟩
                      rw [hj] at hc2
                      obtain ⟨_, _, e2, _, _, _, hy2⟩ := HIT.out _ ov _ HW.out
                      cases e2
                      obtain ⟨b3, o3, e3, hc3'⟩ := hy2 j hjl
                      cases e3
                      obtain ⟨t, hts, ht60⟩ := HS1.out j hjl
                      rw [hts] at hc3'
                      have hjz : (j : Int) < ((setsL r1 K).length : Int) := by omega
                      have hGk : extG r1 K xs k = t := by rw [HGE.out, Go.Lib.getD_lt _ _ hlt, hj, Int.toNat_natCast, Go.Lib.getD_lt _ _ hjl, hts, Int.toNat_natCast]
                      have hor := bits_or (a := unionF (extG r1 K xs) s k) (b := t) (small_lt (unionF_lt fun j hj => HG.out j (by omega)) (by decide)) (small_lt ht60 (by decide))
                      have HEU := Lib.hid (show unionF (extG r1 K xs) s (k + 1) = unionF (extG r1 K xs) s k ||| t by rw [unionF, if_pos hq, hGk])
                      clear hq hy hy2 hin hj hts hGk
                      go_wp2
                      go_roundw
                      case rel => exact ⟨k + 1, by omega, by go_num, by rw [HEU.out], by first | trivial | rfl⟩
                      case measure => simp [intOf]; omega
                    | false =>
                      rw [hq] at ht
                      have HEU := Lib.hid (show unionF (extG r1 K xs) s (k + 1) = unionF (extG r1 K xs) s k by rw [unionF, if_neg (by rw [hq]; simp)])
                      clear hq
                      go_wp2
                      go_roundw
                      case rel => exact ⟨k + 1, by omega, by go_num, by rw [HEU.out], by first | trivial | rfl⟩
                      case measure => simp [intOf]; omega
                  · obtain rfl : k = xs.length := by omega
                    have hltz : ¬ ((xs.length : Int) < (xs.length : Int)) := by omega
                    have hU60 : unionF (extG r1 K xs) s xs.length < 2 ^ 60 := unionF_lt fun j hj => HG.out j hj
                    generalize unionF (extG r1 K xs) s xs.length = U at HE hU60 ⊢
                    have HCC := Lib.hid (HCL.out U wr (HWA.out _ _ _ HW.out) hU60)
                    have HIX := Lib.hid (fun W (h : ExtW wA wS q W ov ys) => (show Calls Tryd.prog 50 #[.slice a1 (setsL r1 K).length c1, .int .i64 ((closL r1 K U : Nat) : Int)] W (SaysI (idxK r1 K U) W) by rw [HIDK.out]; exact l4Index_below _ _ _ W (HIT.out W ov ys h) HASC.out (by omega)))
                    have HWI := Lib.hid (HWF.out U)
                    generalize closL r1 K U = c at HCC HIX
                    generalize idxK r1 K U = r at HIX HE HWI
                    clear hc1 hU60
                    have hcell1 := HD1.out wr (HWA.out _ _ _ HW.out)
                    go_wp2_with (first | (go_at_call 48; refine HCC.out.mono ?_; clear HCC; rintro e w7 ⟨rfl, hb7⟩; have HX7 := Lib.hid (HW.out.step HQ6.out hb7); clear hb7 hcell1) | (go_at_call 50; refine (HIX.out w7 HX7.out).mono ?_; clear HIX; rintro e w8 ⟨rfl, hb8⟩; have HX8 := Lib.hid (HX7.out.step HQ6.out hb8); have hz8 := HX8.out.size; have hq8 := HQ6.out; clear hb8) | (at_builtin; refine wpList_append_lies _ rfl _ _ 26 rfl q 3 i0 (.int .i64 0) 1 8 Tryd.underlying26 hi0 hz0 hz1 hz2 rfl (by decide) ov ys.length (cellsI ys) (by rfl) (HX8.out.own.alloc _) ⟨w8.heap.size, 0, none⟩ 1 1 [.int .i64 r] (by rfl) rfl (World.news_of_block (heap_alloc_new w8 _)) (by simp [Value.oneCell']) (by omega) (by unfold maxLen; omega) (by omega) (by simp; omega) (w8.heap.size + 1) (by simp) ?_; intro g' cap' w9 hown hgrow hat hlt'; have HX9 := Lib.hid ((HX8.out.step HQ6.out ((Below.refl _ w8).alloc (Nat.le_refl _) _)).appended HQ6.out hown hgrow (by rw [World.size_alloc]; exact hat)); clear hown hgrow hat hlt'))
                    go_roundw
                    case rel => exact ⟨i + 1, by omega, by go_num, by rw [HE.out]; have h9 := HX9.out; rw [hylen] at h9; exact h9⟩
                    case measure => simp [intOf]; omega
              · obtain rfl : i = (setsL r0 K).length := by omega
                have hiz : ¬ (((setsL r0 K).length : Int) < ((setsL r0 K).length : Int)) := by omega
                go_wp2
                go_ret2
                have hbw := HWW.out _ (HWA.out _ _ _ HW.out)
                refine ⟨ov, by rw [HOK.out]; rfl, ?_, hbw⟩
                rw [HI.out]
                have ho := HW.out.own
                rw [List.take_length] at ho
                exact (OwnI.of_owns ho (fun y hy => by
                  unfold unsL at hy
                  obtain ⟨x, _, rfl⟩ := List.mem_map.1 hy
                  exact HWF.out _) (fun b hb => (ho.lt b hb).2)).wider (by rw [HQ.out]; exact HBA.out.size) (Nat.le_refl _)
      · have hlz : ¬ ((xs.length : Int) = (r0.length : Int)) := by omega
        rw [decide_eq_false hlen, Bool.false_and] at hE0
        have HE := Lib.hid hE0
        clear hf0 hf1 hE0
        go_wp2_with (first | (go_at_call_of 37 (Value.agg #[Value.slice A0 (List.length r0) C0]); refine (HF0.out wB HBB.out).mono ?_; rintro e w3 ⟨rfl, hb3⟩; have HB3 := Lib.hid hb3; have hcell1 := HD1.out w3 (HAW.out w3 hb3); clear hb3 hcell0) | (go_at_call_of 37 (Value.agg #[Value.slice A1 (List.length r1) C1]); refine (HF1.out w3 (HAW.out w3 HB3.out)).mono ?_; rintro e w4 ⟨rfl, hb4⟩; have HB4 := Lib.hid (HB3.out.trans (hb4.mono HB3.out.size)); have hcell0 := HD0.out w4 (HAW.out w4 HB4.out); clear hb4 hcell1))
        go_ret2
        refine ⟨_, by rw [HE.out]; rfl, ?_, HWW.out _ (HAW.out _ HB4.out)⟩
        rw [extL_no HE.out]
        exact HNO.out _ HB4.out
end Go.Proofs.YtfgpnmdmbhfdmaaDoor

/- The program's PowerMap. -/
namespace Go.Proofs.YtfgpnmdmbhfdmaaDoor
open Go.RowKit Go.Deep Go.Shelf

noncomputable def mapOk (r0 r1 : Rows2) (z : ByteArray) (xs : List Int) : Bool := fitB r0 z && (fitB r1 z && monoI r0 r1 xs)
/-- The set of the value of an element alone. -/
def mapG (xs : List Int) (i : Nat) : Nat := 2 ^ (xs.getD i 0).toNat
noncomputable def mapL (r0 r1 : Rows2) (z : ByteArray) (xs : List Int) : List Int := if mapOk r0 r1 z xs = true then unsL (setsL r0 (kindN z)) (mapG xs) xs.length (idxK r1 (kindN z)) else []
theorem mapL_no {r0 r1 : Rows2} {z : ByteArray} {xs : List Int} (h : mapOk r0 r1 z xs = false) : mapL r0 r1 z xs = [] := by unfold mapL; rw [if_neg (by rw [h]; simp)]
theorem mapL_yes {r0 r1 : Rows2} {z : ByteArray} {xs : List Int} (h : mapOk r0 r1 z xs = true) : mapL r0 r1 z xs = unsL (setsL r0 (kindN z)) (mapG xs) xs.length (idxK r1 (kindN z)) := by unfold mapL; rw [if_pos h]
theorem map_short (r0 r1 : Rows2) (z : ByteArray) (xs : List Int) : (mapL r0 r1 z xs).length ≤ 1048576 := by
  unfold mapL
  split
  · rename_i h
    unfold mapOk at h
    rw [Bool.and_eq_true] at h
    have := setsL_len (fit_iff h.1).2.2.1 (kindN z)
    rw [unsL_len]
    omega
  · exact Nat.zero_le _
theorem mono_len {r0 r1 : Rows2} {xs : List Int} (h : monoI r0 r1 xs = true) : xs.length = r0.length := Classical.byContradiction fun hn => by rw [monoI_len hn] at h; cases h
theorem mono_at {r0 r1 : Rows2} {xs : List Int} {i : Nat} (h : monoI r0 r1 xs = true) (hi : i < xs.length) : 0 ≤ xs[i] ∧ xs[i] < r1.length := Classical.byContradiction fun hn => by rw [monoI_out hi hn] at h; cases h
theorem mapG_lt {r0 r1 : Rows2} {xs : List Int} (h : monoI r0 r1 xs = true) (h7 : r1.length ≤ 7) (i : Nat) (hi : i < xs.length) : mapG xs i < 2 ^ 60 := by
  have := mono_at h hi
  unfold mapG
  rw [Go.Lib.getD_lt _ _ hi]
  exact Nat.pow_lt_pow_right (by decide) (by omega)
theorem shl_some {j : Nat} (h : j < 7) : ∃ M : Nat, M = 2 ^ j ∧ wrap64 ((2 : Int) ^ j) = (M : Int) ∧ IntKind.i64.wrap ((2 : Int) ^ j) = (M : Int) ∧ j % 64 = j := by
  obtain ⟨M, hM⟩ : ∃ M : Nat, M = 2 ^ j := ⟨_, rfl⟩
  have hMb : M < 2 ^ 7 := by rw [hM]; exact Nat.pow_lt_pow_right (by decide) h
  have hp1 : wrap64 ((2 : Int) ^ j) = (M : Int) := by
    rw [show ((2 : Int) ^ j) = (M : Int) by rw [hM]; simp]
    exact IntWalk.wrap64_in _ (by omega)
  refine ⟨M, hM, hp1, ?_, Nat.mod_eq_of_lt (by omega)⟩
  rw [IntKind.wrap_i64]
  unfold wrap64 at hp1
  exact hp1

set_option maxRecDepth 100000 in
set_option maxHeartbeats 4000000 in
theorem implMap_any (v0 v1 v3 : Value) (r0 r1 : Rows2) (xs : List Int) (z : ByteArray) (w : World) (h0 : RowsAt w v0 r0) (h1 : RowsAt w v1 r1) (h3 : IntsAt w v3 xs) (hT : Tab w) (hn0 : bulk r0 ≤ 1048576) (hn1 : bulk r1 ≤ 1048576) :
    Calls Tryd.prog 31 #[.agg #[v0], .agg #[v1], .string z, v3] w (OwnB (mapL r0 r1 z xs) (mapOk r0 r1 z xs) w) := by
  have hbF := (Below.refl w.heap.size w).alloc (Nat.le_refl _) (.cells #[v0] 29)
  have hbA := hbF.alloc hbF.size (.cells #[v1] 29)
  have hs1 : (w.alloc (.cells #[v0] 29)).heap.size = w.heap.size + 1 := World.size_alloc _ _
  have hx0 := (Boxed.new w 29 v0).alloc (.cells #[v1] 29)
  have hx1 := Boxed.new (w.alloc (.cells #[v0] 29)) 29 v1
  rw [hs1] at hx1
  obtain ⟨wA, hwA⟩ : ∃ wA, wA = (w.alloc (.cells #[v0] 29)).alloc (.cells #[v1] 29) := ⟨_, rfl⟩
  rw [← hwA] at hbA hx0 hx1
  have HOF0 := Lib.hid (powerOf_any v0 r0 z wA (h0.below hbA) (hT.below hbA) hn0)
  have HOF1 := Lib.hid (fun W (hb : Below wA.heap.size wA W) => powerOf_any v1 r1 z W (h1.below (hbA.trans (hb.mono hbA.size))) (hT.below (hbA.trans (hb.mono hbA.size))) hn1)
  have HX3 := Lib.hid (fun W (hb : Below wA.heap.size wA W) => h3.below (hbA.trans (hb.mono hbA.size)))
  have hmo := fun W (hb : Below wA.heap.size wA W) => implMono_any v0 v1 v3 r0 r1 xs W (h0.below (hbA.trans (hb.mono hbA.size))) (h1.below (hbA.trans (hb.mono hbA.size))) (h3.below (hbA.trans (hb.mono hbA.size))) (hT.below (hbA.trans (hb.mono hbA.size))) hn0 hn1
  obtain ⟨A0, C0, rfl, _⟩ := h0
  obtain ⟨A1, C1, rfl, _⟩ := h1
  obtain ⟨A3, C3, rfl, _, hm3, _, _⟩ := h3
  unfold maxLen at hm3
  have HBA := Lib.hid hbA
  have HX0 := Lib.hid (fun W (hb : Below wA.heap.size wA W) => (show Boxed W w.heap.size 29 (.slice A0 r0.length C0) from (hb.block _ hx0.lt).trans hx0))
  have HMO := Lib.hid hmo
  have HX1 := Lib.hid (fun W (hb : Below wA.heap.size wA W) => (show Boxed W (w.heap.size + 1) 29 (.slice A1 r1.length C1) from (hb.block _ hx1.lt).trans hx1))
  have hcell := hx0.cell
  have hup := Tryd.underlying55
  have hip := sizePD
  clear hbF hbA hs1 hx0 hx1 hT hn0 hn1 hmo
  go_enter Tryd.func31, Tryd.ntmps31
  go_upto_region 1 with fail
  rw [← hwA]
  clear hwA
  go_upto_region 2 with (first | (go_at_call 40; refine HOF0.out.mono ?_; clear HOF0; rintro e w2 ⟨n0, t0, f0, o0, rfl, y1, y2, y3, yf, hb2, hpd⟩; have HB2 := Lib.hid hb2; have HPD := Lib.hid hpd; have HF0 := Lib.hid yf; have hnew := heap_alloc_new w2 (.cells pdZero 55); clear hb2 hpd yf) | (refine wpList_store_row rfl 55 (.tmp 10) (.tmp 21) rfl w2.heap.size (pdCells n0 t0 f0 o0) rfl rfl 55 pdZero hnew hip rfl (pw_one y1 y2 y3) ?_))
  obtain ⟨hblk, hb3⟩ := pw_new w2 (pdCells n0 t0 f0 o0)
  have HB3 := Lib.hid (HB2.out.trans (hb3.mono HB2.out.size))
  have HPD3 := Lib.hid (fun h => (HPD.out h).below hb3)
  have HQ0 := Lib.hid (fun W (hb : Below ((w2.alloc (.cells pdZero 55)).setRow w2.heap.size (pdCells n0 t0 f0 o0)).heap.size ((w2.alloc (.cells pdZero 55)).setRow w2.heap.size (pdCells n0 t0 f0 o0)) W) => pw_cells ((hb.block _ (Array.getElem?_eq_some_iff.1 hblk).1).trans hblk))
  clear hnew hb3 HPD hblk y1 y2 y3 hcell
  generalize ((w2.alloc (.cells pdZero 55)).setRow w2.heap.size (pdCells n0 t0 f0 o0)) = w3 at HB3 HPD3 HQ0 ⊢
  generalize w2.heap.size = q0 at HQ0 ⊢
  have hcell := (HX1.out w3 HB3.out).cell
  go_upto_region 3 with (first | (go_at_call 40; refine (HOF1.out w3 HB3.out).mono ?_; clear HOF1; rintro e w4 ⟨n1, t1, f1, o1, rfl, y1, y2, y3, yf, hb4, hpd⟩; have HB4 := Lib.hid hb4; have HPD1 := Lib.hid hpd; have HF1 := Lib.hid yf; have hnew := heap_alloc_new w4 (.cells pdZero 55); clear hb4 hpd yf) | (refine wpList_store_row rfl 55 (.tmp 12) (.tmp 27) rfl w4.heap.size (pdCells n1 t1 f1 o1) rfl rfl 55 pdZero hnew hip rfl (pw_one y1 y2 y3) ?_))
  obtain ⟨hblk, hb5⟩ := pw_new w4 (pdCells n1 t1 f1 o1)
  have HB5 := Lib.hid (HB4.out.trans (hb5.mono HB4.out.size))
  have HPD5 := Lib.hid (fun h => (HPD1.out h).below hb5)
  have HQ1 := Lib.hid (fun W (hb : Below ((w4.alloc (.cells pdZero 55)).setRow w4.heap.size (pdCells n1 t1 f1 o1)).heap.size ((w4.alloc (.cells pdZero 55)).setRow w4.heap.size (pdCells n1 t1 f1 o1)) W) => pw_cells ((hb.block _ (Array.getElem?_eq_some_iff.1 hblk).1).trans hblk))
  clear hnew hb5 HPD1 hblk y1 y2 y3 hcell
  generalize ((w4.alloc (.cells pdZero 55)).setRow w4.heap.size (pdCells n1 t1 f1 o1)) = w5 at HB5 HPD5 HQ1 ⊢
  generalize w4.heap.size = q1 at HQ1 ⊢
  have HAW := Lib.hid (fun W (hb : Below w5.heap.size w5 W) => (show Below wA.heap.size wA W from HB3.out.trans ((HB5.out.trans (hb.mono HB5.out.size)).mono HB3.out.size)))
  have HWW := Lib.hid (fun W (hb : Below w5.heap.size w5 W) => (show Below w.heap.size w W from HBA.out.trans ((HAW.out W hb).mono HBA.out.size)))
  have HQ0W := Lib.hid (fun W (hb : Below w5.heap.size w5 W) => HQ0.out W (HB5.out.trans (hb.mono HB5.out.size)))
  clear HQ0
  cases hf0 : fitB r0 z with
  | false =>
    have hno : mapOk r0 r1 z xs = false := by unfold mapOk; rw [hf0]; rfl
    go_wp2
    go_ret2
    refine ⟨.slice none 0 0, by rw [hno]; rfl, ?_, HWW.out _ (Below.refl _ _)⟩
    rw [mapL_no hno]
    exact OwnI.nil _ _ _ _
  | true =>
    cases hf1 : fitB r1 z with
    | false =>
      have hno : mapOk r0 r1 z xs = false := by unfold mapOk; rw [hf1]; simp
      go_wp2
      go_ret2
      refine ⟨.slice none 0 0, by rw [hno]; rfl, ?_, HWW.out _ (Below.refl _ _)⟩
      rw [mapL_no hno]
      exact OwnI.nil _ _ _ _
    | true =>
      have hpf := (HPD3.out hf0).below HB5.out
      have hpt := HPD5.out hf1
      obtain ⟨_, hok0, h70, _⟩ := fit_iff hf0
      obtain ⟨_, hok1, h71, _⟩ := fit_iff hf1
      have hE0 : mapOk r0 r1 z xs = monoI r0 r1 xs := by unfold mapOk; rw [hf0, hf1]; rfl
      have hMB : monoB r0 r1 xs = monoI r0 r1 xs := by unfold monoB; rw [(fit_iff hf0).1, (fit_iff hf1).1]; rfl
      rw [hMB] at HMO
      obtain ⟨e0, ⟨ua, uC, e1⟩, hIF, _⟩ := hpf
      obtain ⟨e2, ⟨ub, uD, e3⟩, hIT, hIX⟩ := hpt
      subst e0 e1 e2 e3
      have HY := Lib.hid (fun (h : mapOk r0 r1 z xs = true) => mapL_yes h)
      have hl0 := setsL_len h70 (kindN z)
      have hl1 := setsL_len h71 (kindN z)
      have HIF := Lib.hid hIF
      have HIT := Lib.hid hIT
      have HIX := Lib.hid hIX
      have HS0 := Lib.hid (fun i h => set_lt (k := kindN z) (i := i) h70 h)
      have HWF := Lib.hid (fun s => one_wf h71 (kindN z) s)
      clear hIF hIT hIX hf0 hf1 hok0 hok1 HPD3 HPD5 HF0 HF1 hMB
      generalize kindN z = K at *
      have hcell0 := (HX0.out w5 (HAW.out w5 (Below.refl _ _))).cell
      have hcell1 := (HX1.out w5 (HAW.out w5 (Below.refl _ _))).cell
      cases ht : monoI r0 r1 xs with
        | false =>
          have HNO := Lib.hid (hE0.trans ht)
          rw [ht] at HMO
          clear hE0 ht
          go_wp2_with (go_at_call 55; refine (HMO.out w5 (HAW.out w5 (Below.refl _ _))).mono ?_; clear HMO; rintro e w7 ⟨rfl, hb7⟩; have HB7 := Lib.hid hb7; clear hb7 hcell0 hcell1)
          go_ret2
          refine ⟨.slice none 0 0, by rw [HNO.out]; rfl, ?_, HWW.out _ HB7.out⟩
          rw [mapL_no HNO.out]
          exact OwnI.nil _ _ _ _
        | true =>
          have hok : mapOk r0 r1 z xs = true := hE0.trans ht
          have hxl : xs.length ≤ 7 := by have := mono_len ht; omega
          have HOK := Lib.hid hok
          have HI := Lib.hid (HY.out hok)
          have HTT := Lib.hid (fun i (hi : i < xs.length) => mono_at ht hi)
          have HG := Lib.hid (mapG_lt ht h71)
          have hmk := run_make_row' (P := Tryd.prog) 26 3 (.int .i64 0) 8 Tryd.underlying26 infoInt rfl .i64 .i64 xs.length (by omega) (by omega)
          rw [ht] at HMO
          clear hE0 ht hok HY
          go_upto_region 6 with (go_at_call 55; refine (HMO.out w5 (HAW.out w5 (Below.refl _ _))).mono ?_; clear HMO; rintro e w7 ⟨rfl, hb7⟩; have HB7 := Lib.hid hb7; clear hb7 hcell0 hcell1)
          have HRW := Lib.hid (World.rowIs_made w7 (.int .i64 0) xs.length 3)
          have HB0 := Lib.hid ((Below.refl w7.heap.size w7).alloc (Nat.le_refl _) (.cells (madeCells #[.int .i64 0] xs.length) 3))
          clear hmk
          generalize (w7.alloc (.cells (madeCells #[.int .i64 0] xs.length) 3)) = wm at HRW HB0 ⊢
          go_wp2
          go_loopw [15, 16, 47] (fun _ _ kv wr => ∃ k : Nat, k ≤ xs.length ∧ kv = .int .i64 (k : Int) ∧ wr.rowIs w7.heap.size 3 xs.length (fun i => if i < k then .int .i64 ((mapG xs i : Nat) : Int) else .int .i64 0) ∧ Below w7.heap.size w7 wr) (fun _ _ kv _ => xs.length - (intOf kv).toNat)
          case atStart => exact ⟨0, Nat.zero_le _, rfl, HRW.out.congr (fun i _ => by rw [if_neg (Nat.not_lt_zero i)]), HB0.out⟩
          case round =>
            obtain ⟨k, hk, rfl, hr, hb⟩ := hrel
            have HR := Lib.hid hr
            have HB := Lib.hid hb
            clear HRW HB0 hb
            have HBW := Lib.hid (HB7.out.trans (HB.out.mono HB7.out.size))
            by_cases hlt : k < xs.length
            · have hkz : (k : Int) < (xs.length : Int) := by omega
              obtain ⟨_, _, e0, _, _, _, hy⟩ := HX3.out wr (HAW.out wr HBW.out)
              cases e0
              obtain ⟨b1, o1', e1, hc1⟩ := hy k hlt
              cases e1
              have hin := HTT.out k hlt
              obtain ⟨j, hj, hjl⟩ : ∃ j : Nat, xs[k] = (j : Int) ∧ j < 7 := ⟨xs[k].toNat, by omega, by omega⟩
              rw [hj] at hc1
              obtain ⟨s, hs, hp1, hp3, hi64⟩ := shl_some hjl
              have hGk : mapG xs k = s := by unfold mapG; rw [Go.Lib.getD_lt _ _ hlt, hj, Int.toNat_natCast, hs]
              have HGK := Lib.hid hGk
              have hcr := hr.cell hlt
              have hfr := hr.frozen k
              rw [if_neg (Nat.lt_irrefl k)] at hcr
              clear hy hin hj hs hGk hr
              go_wp2
              have HB8 := Lib.hid (HB.out.setCell (p := ⟨w7.heap.size, k, none⟩) (Nat.le_refl _) (.int .i64 (s : Int)))
              go_roundw
              case rel =>
                refine ⟨k + 1, by omega, by go_num, (HR.out.set k (.int .i64 (s : Int))).congr (fun i hi => ?_), HB8.out⟩
                by_cases e : i = k
                · subst e; rw [if_pos (Nat.lt_succ_self i), HGK.out]; simp
                · by_cases e2 : i < k
                  · simp [e, e2, show i < k + 1 by omega]
                  · simp [e, e2, show ¬ i < k + 1 by omega]
              case measure => simp [intOf]; omega
            · obtain rfl : k = xs.length := by omega
              have hkz : ¬ ((xs.length : Int) < (xs.length : Int)) := by omega
              have hri := row_ints (g := mapG xs) (C := xs.length) hr (fun i hi => by rw [if_pos hi]) HG.out rfl (by omega)
              have hcall := unions_any r0.length (setsL r0 K) ua uC f0 o0 r1.length (.slice ub (setsL r1 K).length uD) f1 o1 _ (mapG xs) xs.length (idxK r1 K) wr (HIF.out.below HBW.out) HS0.out hl0 hri (by omega) HG.out HWF.out (fun s W hs hb => HIX.out s W hs (HBW.out.trans (hb.mono HBW.out.size)))
              have HCALL := Lib.hid hcall
              obtain ⟨c0, c1, c2, c3⟩ := HQ0W.out wr HBW.out
              obtain ⟨d0, d1, d2, d3⟩ := HQ1.out wr HBW.out
              clear hr hri hcall
              go_wp2_with (go_at_call 56; refine HCALL.out.mono ?_; clear HCALL; rintro e w9 ⟨u, rfl, ho, hb9⟩; obtain ⟨a9, C9, e9⟩ := ho.form; rw [unsL_len] at e9; subst e9; have HO := Lib.hid ho; have HB9 := Lib.hid (HBW.out.trans (hb9.mono HBW.out.size)); clear ho hb9 c0 c1 c2 c3 d0 d1 d2 d3)
              go_ret2
              refine ⟨_, by rw [HOK.out]; rfl, ?_, HWW.out _ HB9.out⟩
              rw [HI.out]
              exact HO.out.wider (HWW.out _ HBW.out).size (Nat.le_refl _)
end Go.Proofs.YtfgpnmdmbhfdmaaDoor

/- The model's PowerMap. -/
namespace Go.Proofs.YtfgpnmdmbhfdmaaDoor
open Go.RowKit Go.Deep Go.Shelf

set_option maxRecDepth 100000 in
set_option maxHeartbeats 4000000 in
theorem specMap_any (v0 v1 v3 : Value) (r0 r1 : Rows2) (xs : List Int) (z : ByteArray) (w : World) (h0 : RowsAt w v0 r0) (h1 : RowsAt w v1 r1) (h3 : IntsAt w v3 xs) (hn0 : bulk r0 ≤ 1048576) (hn1 : bulk r1 ≤ 1048576) :
    Calls Tryd.prog 29 #[.agg #[v0], .agg #[v1], .string z, v3] w (OwnB (mapL r0 r1 z xs) (mapOk r0 r1 z xs) w) := by
  have hbF := (Below.refl w.heap.size w).alloc (Nat.le_refl _) (.cells #[v0] 29)
  have hbA := hbF.alloc hbF.size (.cells #[v1] 29)
  have hs1 : (w.alloc (.cells #[v0] 29)).heap.size = w.heap.size + 1 := World.size_alloc _ _
  have hx0 := (Boxed.new w 29 v0).alloc (.cells #[v1] 29)
  have hx1 := Boxed.new (w.alloc (.cells #[v0] 29)) 29 v1
  rw [hs1] at hx1
  obtain ⟨wA, hwA⟩ : ∃ wA, wA = (w.alloc (.cells #[v0] 29)).alloc (.cells #[v1] 29) := ⟨_, rfl⟩
  rw [← hwA] at hbA hx0 hx1
  have HR0 := Lib.hid (fun W (hb : Below wA.heap.size wA W) => h0.below (hbA.trans (hb.mono hbA.size)))
  have HR1 := Lib.hid (fun W (hb : Below wA.heap.size wA W) => h1.below (hbA.trans (hb.mono hbA.size)))
  have HX3 := Lib.hid (fun W (hb : Below wA.heap.size wA W) => h3.below (hbA.trans (hb.mono hbA.size)))
  have HMO := Lib.hid (fun (l0 : listsB r0 = true) (l1 : listsB r1 = true) W (hb : Below wA.heap.size wA W) => l2Monotone_any v0 v1 v3 r0 r1 xs W (h0.below (hbA.trans (hb.mono hbA.size))) (h1.below (hbA.trans (hb.mono hbA.size))) (h3.below (hbA.trans (hb.mono hbA.size))) hn0 hn1 l0 l1)
  obtain ⟨A0, C0, rfl, _⟩ := h0
  obtain ⟨A1, C1, rfl, _⟩ := h1
  obtain ⟨A3, C3, rfl, hc3, hm3, _, _⟩ := h3
  unfold maxLen at hm3
  have HBA := Lib.hid hbA
  have HD0 := Lib.hid (fun W (hb : Below wA.heap.size wA W) => (show Boxed W w.heap.size 29 (.slice A0 r0.length C0) from (hb.block _ hx0.lt).trans hx0).cell)
  have HD1 := Lib.hid (fun W (hb : Below wA.heap.size wA W) => (show Boxed W (w.heap.size + 1) 29 (.slice A1 r1.length C1) from (hb.block _ hx1.lt).trans hx1).cell)
  have HF0 := Lib.hid (fun W (hb : Below wA.heap.size wA W) => l5Fits_any _ r0 z W (HR0.out W hb) hn0)
  have HF1 := Lib.hid (fun W (hb : Below wA.heap.size wA W) => l5Fits_any _ r1 z W (HR1.out W hb) hn1)
  obtain ⟨i0, hi0, hz0, hz1, hz2⟩ := info_parts infoInt
  clear hbF hbA hs1 hx0 hx1 hn0 hn1
  go_enter Tryd.func29, Tryd.ntmps29
  go_upto_region 1 with fail
  rw [← hwA]
  clear hwA
  go_upto_region 2 with fail
  have HN := Lib.hid (World.ownsRow_made (e := 3) (size := 1) wA #[] 0 (base := wA.heap.size) (Nat.le_refl _) (Nat.zero_le _) (by simp))
  have HBB := Lib.hid ((Below.refl wA.heap.size wA).alloc (Nat.le_refl _) (.cells #[] 3))
  have HBS := Lib.hid (show wA.heap.size < (wA.alloc (.cells #[] 3)).heap.size by rw [World.size_alloc]; omega)
  generalize (wA.alloc (.cells #[] 3)) = wB at HN HBB HBS ⊢
  have HAW := Lib.hid (fun W (hb : Below wB.heap.size wB W) => (show Below wA.heap.size wA W from HBB.out.trans (hb.mono HBB.out.size)))
  have HWW := Lib.hid (fun W (hb : Below wA.heap.size wA W) => (show Below w.heap.size w W from HBA.out.trans (hb.mono HBA.out.size)))
  obtain ⟨q, hq⟩ : ∃ q, q = wA.heap.size := ⟨_, rfl⟩
  rw [← hq] at HN ⊢
  have HQ := Lib.hid hq
  clear hq
  have HNO := Lib.hid (fun W (hb : Below wB.heap.size wB W) => (show OwnI 3 W (.slice (some ⟨q, 0, none⟩) 0 0) [] w.heap.size W.heap.size from (OwnI.of_owns (xs := []) (owns_below HN.out hb) (fun _ h => by cases h) (fun b e => ((owns_below HN.out hb).lt b e).2)).wider (by rw [HQ.out]; exact HBA.out.size) (Nat.le_refl _)))
  have hcell0 := HD0.out wB HBB.out
  cases hf0 : fitB r0 z with
  | false =>
    have hno : mapOk r0 r1 z xs = false := by unfold mapOk; rw [hf0]; rfl
    have HE := Lib.hid hno
    rw [hf0] at HF0
    clear hf0 hno
    go_wp2_with (go_at_call 37; refine (HF0.out wB HBB.out).mono ?_; rintro e w3 ⟨rfl, hb3⟩; have HB3 := Lib.hid hb3; clear hb3 hcell0)
    go_ret2
    refine ⟨_, by rw [HE.out]; rfl, ?_, HWW.out _ (HAW.out _ HB3.out)⟩
    rw [mapL_no HE.out]
    exact HNO.out _ HB3.out
  | true =>
    rw [hf0] at HF0
    cases hf1 : fitB r1 z with
    | false =>
      have hno : mapOk r0 r1 z xs = false := by unfold mapOk; rw [hf1]; simp
      have HE := Lib.hid hno
      rw [hf1] at HF1
      clear hf0 hf1 hno
      go_wp2_with (first | (go_at_call_of 37 (Value.agg #[Value.slice A0 (List.length r0) C0]); refine (HF0.out wB HBB.out).mono ?_; rintro e w3 ⟨rfl, hb3⟩; have HB3 := Lib.hid hb3; have hcell1 := HD1.out w3 (HAW.out w3 hb3); clear hb3 hcell0) | (go_at_call_of 37 (Value.agg #[Value.slice A1 (List.length r1) C1]); refine (HF1.out w3 (HAW.out w3 HB3.out)).mono ?_; rintro e w4 ⟨rfl, hb4⟩; have HB4 := Lib.hid (HB3.out.trans (hb4.mono HB3.out.size)); clear hb4 hcell1))
      go_ret2
      refine ⟨_, by rw [HE.out]; rfl, ?_, HWW.out _ (HAW.out _ HB4.out)⟩
      rw [mapL_no HE.out]
      exact HNO.out _ HB4.out
    | true =>
      rw [hf1] at HF1
      obtain ⟨_, hok0, h70, hk0⟩ := fit_iff hf0
      obtain ⟨_, hok1, h71, _⟩ := fit_iff hf1
      have hE0 : mapOk r0 r1 z xs = monoI r0 r1 xs := by unfold mapOk; rw [hf0, hf1]; rfl
      have hl0 := valid_lists (show validB r0 = true by have h := (fit_iff hf0).1; unfold domB at h; rw [Bool.and_eq_true] at h; exact h.1)
      have hl1 := valid_lists (show validB r1 = true by have h := (fit_iff hf1).1; unfold domB at h; rw [Bool.and_eq_true] at h; exact h.1)
      have HM := Lib.hid (HMO.out hl0 hl1)
      clear hl0 hl1 HMO
      cases hmo : monoI r0 r1 xs with
      | true =>
        rw [hmo] at HM
        have hxl : xs.length ≤ 7 := by have := mono_len hmo; omega
        have HTT := Lib.hid (fun i (hi : i < xs.length) => mono_at hmo hi)
        have HG := Lib.hid (mapG_lt hmo h71)
        have hok := hE0.trans hmo
        have HOK := Lib.hid hok
        have HI := Lib.hid (mapL_yes hok)
        have hl0 := setsL_len h70 (kindN z)
        have hl1 := setsL_len h71 (kindN z)
        have HL0 := Lib.hid (fun W (hb : Below wA.heap.size wA W) => l5Sets_any _ r0 z W (HR0.out W hb) hok0 h70 hk0)
        have HL1 := Lib.hid (fun W (hb : Below wA.heap.size wA W) => l5Sets_any _ r1 z W (HR1.out W hb) hok1 h71 hk0)
        have HCL := Lib.hid (fun (s : Nat) W (hb : Below wA.heap.size wA W) (hs : s < 2 ^ 60) => l5Close_any _ r1 z s W (HR1.out W hb) hok1 h71 hk0 hs)
        have HS0 := Lib.hid (fun i h => set_lt (k := kindN z) (i := i) h70 h)
        have HWF := Lib.hid (fun s => one_wf h71 (kindN z) s)
        have HASC := Lib.hid (sets_asc r1 (kindN z))
        have HIDK := Lib.hid (fun s => (show idxK r1 (kindN z) s = idxI (setsL r1 (kindN z)) ((closL r1 (kindN z) s : Nat) : Int) from rfl))
        clear hf0 hf1 hok0 hok1 hk0 hE0 hok hmo
        generalize kindN z = K at *
        go_upto_region 4 with (first | (go_at_call_of 37 (Value.agg #[Value.slice A0 (List.length r0) C0]); refine (HF0.out wB HBB.out).mono ?_; rintro e w3 ⟨rfl, hb3⟩; have HB3 := Lib.hid hb3; have hcell1 := HD1.out w3 (HAW.out w3 hb3); clear hb3 hcell0) | (go_at_call_of 37 (Value.agg #[Value.slice A1 (List.length r1) C1]); refine (HF1.out w3 (HAW.out w3 HB3.out)).mono ?_; rintro e w4 ⟨rfl, hb4⟩; have HB4 := Lib.hid (HB3.out.trans (hb4.mono HB3.out.size)); have hcell0 := HD0.out w4 (HAW.out w4 HB4.out); have hcell1 := HD1.out w4 (HAW.out w4 HB4.out); clear hb4) | (go_at_call 54; refine (HM.out w4 (HAW.out w4 HB4.out)).mono ?_; clear HM; rintro e w4b ⟨rfl, hb4⟩; have HB4b := Lib.hid (HB4.out.trans (hb4.mono HB4.out.size)); clear hb4 hcell0 hcell1))
        have hcell0 := HD0.out w4b (HAW.out w4b HB4b.out)
        go_upto_region 5 with (go_at_call 38; refine (HL0.out w4b (HAW.out w4b HB4b.out)).mono ?_; clear HL0; rintro e w5 ⟨u0, rfl, ho0, hb5⟩; obtain ⟨a0, c0, rfl⟩ := ho0.form; have HO0 := Lib.hid ho0; have HB5 := Lib.hid (HB4b.out.trans (hb5.mono HB4b.out.size)); have HB45 := Lib.hid hb5; have hcell1 := HD1.out w5 (HAW.out w5 HB5.out); clear ho0 hb5 hcell0)
        go_upto_region 6 with (go_at_call 38; refine (HL1.out w5 (HAW.out w5 HB5.out)).mono ?_; clear HL1; rintro e w6 ⟨u1, rfl, ho1, hb6⟩; obtain ⟨a1, c1, rfl⟩ := ho1.form; have HO1 := Lib.hid ho1; have HB6 := Lib.hid (HB5.out.trans (hb6.mono HB5.out.size)); have HO06 := Lib.hid (HO0.out.kept fun b e => hb6.block b (HO0.out.block b e).2.1); have HSZ := Lib.hid hb6.size; clear ho1 hb6 hcell1)
        have HN6 := Lib.hid (owns_below HN.out HB6.out)
        have HQ4 := Lib.hid (show q < w4b.heap.size by have := HB4b.out.size; have := HBS.out; have := HQ.out; omega)
        have HQ5 := Lib.hid (show q < w5.heap.size by have := HB5.out.size; have := HBS.out; have := HQ.out; omega)
        have HQ6 := Lib.hid (show q ≤ w6.heap.size by have := HB6.out.size; have := HBS.out; have := HQ.out; omega)
        have HW0 := Lib.hid (show ExtW wA w6 q w6 (.slice (some ⟨q, 0, none⟩) 0 0) [] from ⟨HN6.out, by rw [HQ.out]; exact HAW.out _ HB6.out, fun _ _ _ => rfl, fun b e => .inl (by simpa [Value.ownBlock] using e.symm), Nat.le_refl _⟩)
        have HIO := Lib.hid (fun W ov ys (h : ExtW wA w6 q W ov ys) => h.ints HO06.out HQ4.out HSZ.out)
        have HIT := Lib.hid (fun W ov ys (h : ExtW wA w6 q W ov ys) => h.ints HO1.out HQ5.out (Nat.le_refl _))
        have HWA := Lib.hid (fun W ov ys (h : ExtW wA w6 q W ov ys) => (show Below wA.heap.size wA W by rw [← HQ.out]; exact h.below))
        clear HN HNO HN6 HF0 HF1
        go_wp2
        generalize w6 = wS at *
        go_loopw [10, 13] (fun ov iv wx => ∃ i : Nat, i ≤ (setsL r0 K).length ∧ iv = .int .i64 (i : Int) ∧ ExtW wA wS q wx ov (unsL ((setsL r0 K).take i) (mapG xs) xs.length (idxK r1 K))) (fun _ iv _ => (setsL r0 K).length - (intOf iv).toNat)
        case atStart => exact ⟨0, Nat.zero_le _, rfl, HW0.out⟩
        case round =>
          obtain ⟨ov, hov⟩ : ∃ ov, ov = u10 := ⟨_, rfl⟩
          subst hov
          obtain ⟨i, hi, rfl, hw⟩ := hrel
          have HW := Lib.hid hw
          clear hw HW0
          by_cases hil : i < (setsL r0 K).length
          · have hiz : (i : Int) < ((setsL r0 K).length : Int) := by omega
            obtain ⟨s, hs, hs60⟩ := HS0.out i hil
            have HE := Lib.hid (unsL_take (setsL r0 K) (mapG xs) xs.length (idxK r1 K) i hil)
            rw [hs, Int.toNat_natCast] at HE
            obtain ⟨_, _, e0, _, _, _, hy⟩ := HIO.out wr ov _ HW.out
            cases e0
            obtain ⟨b1, o1, e1, hc1⟩ := hy i hil
            cases e1
            rw [hs] at hc1
            clear hy hs
            have hylen : (unsL ((setsL r0 K).take i) (mapG xs) xs.length (idxK r1 K)).length = i := by rw [unsL_len, List.length_take]; omega
            generalize unsL ((setsL r0 K).take i) (mapG xs) xs.length (idxK r1 K) = ys at HW HE hylen
            go_wp2
            go_loopw [14, 15] (fun sv kv wx => ∃ k : Nat, k ≤ xs.length ∧ kv = .int .i64 (k : Int) ∧ sv = .int .i64 ((unionF (mapG xs) s k : Nat) : Int) ∧ wx = wr) (fun _ kv _ => xs.length - (intOf kv).toNat)
            case atStart => exact ⟨0, Nat.zero_le _, rfl, rfl, rfl⟩
            case round =>
              obtain ⟨k, hk, rfl, rfl, rfl⟩ := hrel
              by_cases hlt : k < xs.length
              · have hltz : (k : Int) < (xs.length : Int) := by omega
                have ht := bit_test (s := s) k (small_lt hs60 (by decide))
                have hm : k % 64 = k := Nat.mod_eq_of_lt (by omega)
                cases hq : s.testBit k with
                | true =>
                  rw [hq] at ht
                  obtain ⟨_, _, e0, _, _, _, hy⟩ := HX3.out _ (HWA.out _ _ _ HW.out)
                  cases e0
                  obtain ⟨b2, o2, e1, hc2⟩ := hy k hlt
                  cases e1
                  have hin := HTT.out k hlt
                  obtain ⟨j, hj, hjl⟩ : ∃ j : Nat, xs[k] = (j : Int) ∧ j < 7 := ⟨xs[k].toNat, by omega, by omega⟩
                  rw [hj] at hc2
                  obtain ⟨t, hts, hp1, hp3, hi64⟩ := shl_some hjl
                  have ht60 : t < 2 ^ 60 := by rw [hts]; exact Nat.pow_lt_pow_right (by decide) (by omega)
                  have hGk : mapG xs k = t := by unfold mapG; rw [Go.Lib.getD_lt _ _ hlt, hj, Int.toNat_natCast, hts]
                  have hor := bits_or (a := unionF (mapG xs) s k) (b := t) (small_lt (unionF_lt fun j hj => HG.out j (by omega)) (by decide)) (small_lt ht60 (by decide))
                  have HEU := Lib.hid (show unionF (mapG xs) s (k + 1) = unionF (mapG xs) s k ||| t by rw [unionF, if_pos hq, hGk])
                  clear hq hy hin hj hts hGk ht60
                  go_wp2
                  go_roundw
                  case rel => exact ⟨k + 1, by omega, by go_num, by rw [HEU.out], by first | trivial | rfl⟩
                  case measure => simp [intOf]; omega
                | false =>
                  rw [hq] at ht
                  have HEU := Lib.hid (show unionF (mapG xs) s (k + 1) = unionF (mapG xs) s k by rw [unionF, if_neg (by rw [hq]; simp)])
                  clear hq
                  go_wp2
                  go_roundw
                  case rel => exact ⟨k + 1, by omega, by go_num, by rw [HEU.out], by first | trivial | rfl⟩
                  case measure => simp [intOf]; omega
              · obtain rfl : k = xs.length := by omega
                have hltz : ¬ ((xs.length : Int) < (xs.length : Int)) := by omega
                have hU60 : unionF (mapG xs) s xs.length < 2 ^ 60 := unionF_lt fun j hj => HG.out j hj
                generalize unionF (mapG xs) s xs.length = U at HE hU60 ⊢
                have HCC := Lib.hid (HCL.out U wr (HWA.out _ _ _ HW.out) hU60)
                have HIX := Lib.hid (fun W (h : ExtW wA wS q W ov ys) => (show Calls Tryd.prog 50 #[.slice a1 (setsL r1 K).length c1, .int .i64 ((closL r1 K U : Nat) : Int)] W (SaysI (idxK r1 K U) W) by rw [HIDK.out]; exact l4Index_below _ _ _ W (HIT.out W ov ys h) HASC.out (by omega)))
                have HWI := Lib.hid (HWF.out U)
                generalize closL r1 K U = c at HCC HIX
                generalize idxK r1 K U = r at HIX HE HWI
                clear hc1 hU60
                have hcell1 := HD1.out wr (HWA.out _ _ _ HW.out)
                go_wp2_with (first | (go_at_call 48; refine HCC.out.mono ?_; clear HCC; rintro e w7 ⟨rfl, hb7⟩; have HX7 := Lib.hid (HW.out.step HQ6.out hb7); clear hb7 hcell1) | (go_at_call 50; refine (HIX.out w7 HX7.out).mono ?_; clear HIX; rintro e w8 ⟨rfl, hb8⟩; have HX8 := Lib.hid (HX7.out.step HQ6.out hb8); have hz8 := HX8.out.size; have hq8 := HQ6.out; clear hb8) | (at_builtin; refine wpList_append_lies _ rfl _ _ 26 rfl q 3 i0 (.int .i64 0) 1 8 Tryd.underlying26 hi0 hz0 hz1 hz2 rfl (by decide) ov ys.length (cellsI ys) (by rfl) (HX8.out.own.alloc _) ⟨w8.heap.size, 0, none⟩ 1 1 [.int .i64 r] (by rfl) rfl (World.news_of_block (heap_alloc_new w8 _)) (by simp [Value.oneCell']) (by omega) (by unfold maxLen; omega) (by omega) (by simp; omega) (w8.heap.size + 1) (by simp) ?_; intro g' cap' w9 hown hgrow hat hlt'; have HX9 := Lib.hid ((HX8.out.step HQ6.out ((Below.refl _ w8).alloc (Nat.le_refl _) _)).appended HQ6.out hown hgrow (by rw [World.size_alloc]; exact hat)); clear hown hgrow hat hlt'))
                go_roundw
                case rel => exact ⟨i + 1, by omega, by go_num, by rw [HE.out]; have h9 := HX9.out; rw [hylen] at h9; exact h9⟩
                case measure => simp [intOf]; omega
          · obtain rfl : i = (setsL r0 K).length := by omega
            have hiz : ¬ (((setsL r0 K).length : Int) < ((setsL r0 K).length : Int)) := by omega
            go_wp2
            go_ret2
            have hbw := HWW.out _ (HWA.out _ _ _ HW.out)
            refine ⟨ov, by rw [HOK.out]; rfl, ?_, hbw⟩
            rw [HI.out]
            have ho := HW.out.own
            rw [List.take_length] at ho
            exact (OwnI.of_owns ho (fun y hy => by
              unfold unsL at hy
              obtain ⟨x, _, rfl⟩ := List.mem_map.1 hy
              exact HWF.out _) (fun b hb => (ho.lt b hb).2)).wider (by rw [HQ.out]; exact HBA.out.size) (Nat.le_refl _)
      | false =>
        rw [hmo] at HM
        have HE := Lib.hid (hE0.trans hmo)
        clear hf0 hf1 hE0 hmo
        go_wp2_with (first | (go_at_call_of 37 (Value.agg #[Value.slice A0 (List.length r0) C0]); refine (HF0.out wB HBB.out).mono ?_; rintro e w3 ⟨rfl, hb3⟩; have HB3 := Lib.hid hb3; have hcell1 := HD1.out w3 (HAW.out w3 hb3); clear hb3 hcell0) | (go_at_call_of 37 (Value.agg #[Value.slice A1 (List.length r1) C1]); refine (HF1.out w3 (HAW.out w3 HB3.out)).mono ?_; rintro e w4 ⟨rfl, hb4⟩; have HB4 := Lib.hid (HB3.out.trans (hb4.mono HB3.out.size)); have hcell0 := HD0.out w4 (HAW.out w4 HB4.out); have hcell1 := HD1.out w4 (HAW.out w4 HB4.out); clear hb4) | (go_at_call 54; refine (HM.out w4 (HAW.out w4 HB4.out)).mono ?_; clear HM; rintro e w4b ⟨rfl, hb4⟩; have HB4b := Lib.hid (HB4.out.trans (hb4.mono HB4.out.size)); clear hb4 hcell0 hcell1))
        go_ret2
        refine ⟨_, by rw [HE.out]; rfl, ?_, HWW.out _ (HAW.out _ HB4b.out)⟩
        rw [mapL_no HE.out]
        exact HNO.out _ HB4b.out
end Go.Proofs.YtfgpnmdmbhfdmaaDoor
