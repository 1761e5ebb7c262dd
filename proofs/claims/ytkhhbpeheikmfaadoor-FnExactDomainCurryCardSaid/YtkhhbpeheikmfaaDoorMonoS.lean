/- The model's check of a monotone function (l2Monotone), and its FunMonotone. -/
import Derived.Test.YtkhhbpeheikmfaaDoorMono
import Derived.StillTailTactics
namespace Go.Proofs.YtkhhbpeheikmfaaDoor
open Go.RowKit Go.Deep

theorem IntsAt.get {W : World} {A : Option Addr} {C : Nat} {xs : List Int} (h : IntsAt W (.slice A xs.length C) xs) {i : Nat} (hi : i < xs.length) :
    ∃ b o, A = some ⟨b, o, none⟩ ∧ W.cell? ⟨b, o + i, none⟩ = some (.int .i64 xs[i]) := by
  obtain ⟨a, C', e, _, _, _, hy⟩ := h
  cases e
  exact hy i hi

/-- Two orders in their variables, and a list. -/
def TwoF (w : World) (v v' vf : Value) (rows rows' : Rows2) (f : List Int) (W : World) : Prop := Two w v v' rows rows' W ∧ IntsAt W vf f
theorem TwoF.step {w : World} {v v' vf : Value} {rows rows' : Rows2} {f : List Int} {W W' : World} (h : TwoF w v v' vf rows rows' f W) (hb : Below W.heap.size W W') : TwoF w v v' vf rows rows' f W' := ⟨h.1.step hb, h.2.below hb⟩
theorem TwoF.drew {w : World} {v v' vf : Value} {rows rows' : Rows2} {f : List Int} {W : World} (h : TwoF w v v' vf rows rows' f W) : TwoF w v v' vf rows rows' f W.drew := h.step ⟨rfl, rfl, rfl, Nat.le_refl _, fun _ _ => rfl⟩
theorem TwoF.start (w : World) {v v' vf : Value} {rows rows' : Rows2} {f : List Int} (t t' : TypeId) (hv : RowsAt w v rows) (hv' : RowsAt w v' rows') (hf : IntsAt w vf f) : TwoF w v v' vf rows rows' f ((w.alloc (.cells #[v] t)).alloc (.cells #[v'] t')) :=
  ⟨Two.start w t t' hv hv', hf.below (Two.start w t t' hv hv').below⟩

/-- All numbers of the first i rows keep their order. -/
def MonoTo (rows rows' : Rows2) (f : List Int) (i : Nat) : Prop :=
  ∀ q (hq : q < rows.length), q < i → ∀ m (hm : m < rows[q].length), upB rows' (f.getD q 0).toNat (f.getD rows[q][m].toNat 0) = true
theorem MonoTo.all {rows rows' : Rows2} {f : List Int} (h : MonoTo rows rows' f rows.length) (h1 : f.length = rows.length) (h2 : ∀ i (hi : i < f.length), 0 ≤ f[i] ∧ f[i] < rows'.length) : monoI rows rows' f = true :=
  monoI_yes h1 h2 fun a b ha _ hab => by
    have hm := (upB_iff ha).1 hab
    obtain ⟨m, hml, e⟩ := List.getElem_of_mem hm
    have h3 := h a ha ha m hml
    rw [e] at h3
    simpa using h3

set_option maxRecDepth 100000 in
set_option maxHeartbeats 8000000 in
theorem l2Monotone_any (v v' vf : Value) (rows rows' : Rows2) (f : List Int) (w : World) (hv : RowsAt w v rows) (hv' : RowsAt w v' rows') (hf : IntsAt w vf f)
    (hn : bulk rows ≤ 1048576) (hn' : bulk rows' ≤ 1048576) (hl : listsB rows = true) (hl' : listsB rows' = true) :
    Calls Tryd.prog 43 #[.agg #[v], .agg #[v'], vf] w (SaysN (monoI rows rows' f) w) := by
  have hT := TwoF.start w 26 26 hv hv' hf
  have hlen : rows.length ≤ 1048576 := by unfold bulk at hn; omega
  have hlen' : rows'.length ≤ 1048576 := by unfold bulk at hn'; omega
  obtain ⟨A, C, rfl, hC, hm, _⟩ := hv
  obtain ⟨A', C', rfl, hC', hm', _⟩ := hv'
  obtain ⟨Af, Cf, rfl, hCf, hmf, _⟩ := hf
  unfold maxLen at hm hm' hmf
  have H0 := Lib.hid hT
  have hcell := hT.1.c0
  clear hT
  by_cases hfl : f.length = rows.length
  · have hb : ((f.length : Int) == (rows.length : Int)) = true := by rw [beq_iff_eq]; omega
    have hb2 : (f.length == rows.length) = true := by rw [beq_iff_eq]; omega
    have hb3 : ((f.length : Int) != (rows.length : Int)) = false := by unfold bne; rw [hb]; rfl
    have hb4 : (f.length != rows.length) = false := by unfold bne; rw [hb2]; rfl
    have hfn : f.length ≤ 1048576 := by omega
    have HFL := Lib.hid hfl
    clear hfl
    go_enter Tryd.func43, Tryd.ntmps43
    go_wp2
    go_loopw [7] (fun iv wr => ∃ i : Nat, i ≤ f.length ∧ iv = .int .i64 i ∧ (∀ q (hq : q < f.length), q < i → 0 ≤ f[q] ∧ f[q] < rows'.length) ∧ TwoF w (.slice A rows.length C) (.slice A' rows'.length C') (.slice Af f.length Cf) rows rows' f wr) (fun iv _ => f.length - (intOf iv).toNat)
    case atStart => exact ⟨0, Nat.zero_le _, rfl, fun _ _ h => absurd h (Nat.not_lt_zero _), H0.out⟩
    case round =>
      obtain ⟨i, hi, rfl, hp, hh⟩ := hrel
      have HP := Lib.hid hp
      have HK := Lib.hid hh
      have hcell1 := hh.1.c1
      clear hp hcell H0
      by_cases hlt : i < f.length
      · obtain ⟨bf, o_f, rfl, hcf⟩ := hh.2.get hlt
        have hs1 := i64_sub1 rows'.length hlen'
        clear hh
        by_cases hin : 0 ≤ f[i] ∧ f[i] ≤ (rows'.length : Int) - 1
        · have HIN := Lib.hid hin
          clear hin
          go_wp2
          go_still_tail 8, (by kernel_rfl)
          go_wp2_with (go_at_call 65; refine (l6In_yes _ _ _ _ HIN.out.1 HIN.out.2).mono ?_; rintro e w3 ⟨rfl, rfl⟩)
          go_roundw
          case rel =>
            refine ⟨i + 1, by omega, by go_num, fun q hq hlt' => ?_, HK.out.drew⟩
            by_cases e : q = i
            · subst e; exact ⟨HIN.out.1, by have := HIN.out.2; omega⟩
            · exact HP.out q hq (by omega)
          case measure => simp [intOf]; omega
        · have HE := Lib.hid (monoI_out (rows := rows) (rows' := rows') hlt (fun h => hin ⟨h.1, by omega⟩))
          have HIN := Lib.hid hin
          clear hin
          go_wp2
          go_still_tail 8, (by kernel_rfl)
          go_wp2_with (go_at_call 65; refine (l6In_no _ _ _ _ HIN.out).mono ?_; rintro e w3 ⟨rfl, rfl⟩)
          go_ret
          exact ⟨by rw [HE.out]; rfl, HK.out.drew.1.below⟩
      · obtain rfl : i = f.length := by omega
        have HRNG := Lib.hid (fun q (hq : q < f.length) => HP.out q hq hq)
        clear hh HP hcell1
        go_wp2
        go_loopw [8] (fun iv wr => ∃ i : Nat, i ≤ f.length ∧ iv = .int .i64 i ∧ MonoTo rows rows' f i ∧ TwoF w (.slice A rows.length C) (.slice A' rows'.length C') (.slice Af f.length Cf) rows rows' f wr) (fun iv _ => f.length - (intOf iv).toNat)
        case atStart => exact ⟨0, Nat.zero_le _, rfl, fun _ _ h => absurd h (Nat.not_lt_zero _), HK.out⟩
        case round =>
          obtain ⟨i, hi, rfl, hp, hh⟩ := hrel
          have HP := Lib.hid hp
          have HK2 := Lib.hid hh
          clear hp HK
          by_cases hlt : i < f.length
          · have hir : i < rows.length := by have := HFL.out; omega
            obtain ⟨_, _, e0, _, _, hx⟩ := hh.1.r0
            cases e0
            obtain ⟨b0, o0, u, rfl, _, _⟩ := hx i hir
            obtain ⟨bf, o_f, rfl, _⟩ := hh.2.get hlt
            have hli : rows[i].length ≤ 1048576 := by have := bulk_row hir; omega
            clear hh hx
            go_wp2
            go_loopw [9] (fun kv wr => ∃ k : Nat, k ≤ rows[i].length ∧ kv = .int .i64 k ∧ (∀ m (hm : m < rows[i].length), m < k → upB rows' (f.getD i 0).toNat (f.getD rows[i][m].toNat 0) = true) ∧ TwoF w (.slice (some ⟨b0, o0, none⟩) rows.length C) (.slice A' rows'.length C') (.slice (some ⟨bf, o_f, none⟩) f.length Cf) rows rows' f wr) (fun kv _ => rows[i].length - (intOf kv).toNat)
            case atStart => exact ⟨0, Nat.zero_le _, rfl, fun _ _ h => absurd h (Nat.not_lt_zero _), HK2.out⟩
            case round =>
              obtain ⟨k, hk, rfl, hp, hh⟩ := hrel
              have HP3 := Lib.hid hp
              have HK3 := Lib.hid hh
              have hcell0 := hh.1.c0
              have hcell1 := hh.1.c1
              obtain ⟨A1, C1, hC1, hm1, hc, hyy⟩ := hh.1.r0.row hir
              unfold maxLen at hm1
              clear hp HK2
              by_cases hkl : k < rows[i].length
              · obtain ⟨b1, o1, rfl, hc1⟩ := hyy k hkl
                clear hyy
                have hrange := (lists_at hl i hir).2 _ (List.getElem_mem hkl)
                obtain ⟨cn, hcn⟩ : ∃ cn : Nat, rows[i][k] = (cn : Int) := ⟨rows[i][k].toNat, by omega⟩
                have hcl : cn < f.length := by have := HFL.out; omega
                obtain ⟨_, _, e1, hcf⟩ := hh.2.get hlt
                cases e1
                obtain ⟨_, _, e1, hcg⟩ := hh.2.get hcl
                cases e1
                have hfi := HRNG.out i hlt
                have hgi : f.getD i 0 = f[i] := getD_lt 0 hlt
                have hgc : f.getD rows[i][k].toNat 0 = f[cn] := by rw [hcn, Int.toNat_natCast]; exact getD_lt 0 hcl
                rw [hcn] at hc1
                cases hup : upB rows' f[i].toNat f[cn] with
                | true =>
                  have HCALL := Lib.hid (le_call (HK3.out.drew).1.r1 hl' hn' f[i] f[cn] hfi.1 hfi.2 (r := true) hup)
                  have HU := Lib.hid (show upB rows' (f.getD i 0).toNat (f.getD rows[i][k].toNat 0) = true by rw [hgi, hgc]; exact hup)
                  clear hup hgi hgc hcn hrange hh hfi
                  go_wp2
                  go_still_tail 16, (by kernel_rfl)
                  go_wp2_with (go_at_call 54; refine HCALL.out.mono ?_; clear HCALL; rintro e w3 ⟨rfl, hb3⟩; have H3 := Lib.hid (HK3.out.drew.step hb3); clear hb3)
                  go_roundw
                  case rel =>
                    refine ⟨k + 1, by omega, by go_num, fun q hq hlt' => ?_, H3.out⟩
                    by_cases e : q = k
                    · subst e; exact HU.out
                    · exact HP3.out q hq (by omega)
                  case measure => simp [intOf]; omega
                | false =>
                  have HCALL := Lib.hid (le_call (HK3.out.drew).1.r1 hl' hn' f[i] f[cn] hfi.1 hfi.2 (r := false) hup)
                  have HE := Lib.hid (monoI_bad (rows' := rows') (f := f) (a := i) (b := cn) hir (by have := HFL.out; omega) ((upB_iff hir).2 (by rw [← hcn]; exact List.getElem_mem hkl)) (by rw [hgi, getD_lt 0 hcl]; exact hup))
                  clear hup hgi hgc hcn hrange hh hfi
                  go_wp2
                  go_still_tail 16, (by kernel_rfl)
                  go_wp2_with (go_at_call 54; refine HCALL.out.mono ?_; clear HCALL; rintro e w3 ⟨rfl, hb3⟩; have H3 := Lib.hid (HK3.out.drew.step hb3); clear hb3)
                  go_ret
                  exact ⟨by rw [HE.out]; rfl, H3.out.1.below⟩
              · obtain rfl : k = rows[i].length := by omega
                clear hh hyy
                go_wp2
                go_roundw
                case rel =>
                  refine ⟨i + 1, by omega, by go_num, fun q hq hlt' m hm => ?_, HK3.out⟩
                  by_cases e : q = i
                  · subst e; exact HP3.out m hm hm
                  · exact HP.out q hq (by omega) m hm
                case measure => simp [intOf]; omega
          · obtain rfl : i = f.length := by omega
            have HE := Lib.hid (MonoTo.all (by rw [← HFL.out]; exact HP.out) HFL.out HRNG.out)
            clear hh
            go_wp2
            go_ret
            exact ⟨by rw [HE.out]; rfl, HK2.out.1.below⟩
  · have hb : ((f.length : Int) == (rows.length : Int)) = false := by rw [beq_eq_false_iff_ne]; omega
    have hb2 : (f.length == rows.length) = false := by rw [beq_eq_false_iff_ne]; omega
    have hb3 : ((f.length : Int) != (rows.length : Int)) = true := by unfold bne; rw [hb]; rfl
    have hb4 : (f.length != rows.length) = true := by unfold bne; rw [hb2]; rfl
    have HE := Lib.hid (monoI_len (rows' := rows') hfl)
    clear hfl
    go_enter Tryd.func43, Tryd.ntmps43
    go_wp2
    go_ret
    exact ⟨by rw [HE.out]; rfl, H0.out.1.below⟩

end Go.Proofs.YtkhhbpeheikmfaaDoor
