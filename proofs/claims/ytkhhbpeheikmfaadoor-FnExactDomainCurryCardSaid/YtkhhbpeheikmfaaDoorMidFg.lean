/- The walk of isMonotone: from a product of two grids to a grid. -/
import Derived.Test.YtkhhbpeheikmfaaDoorMidFf
import Derived.Test.YtkhhbpeheikmfaaDoorIsMono
import Derived.Lib.QuietBelow
import Derived.BigQuiet
import Derived.Test.YtkhhbpeheikmfaaDoorElems
import Derived.Test.YtkhhbpeheikmfaaDoorMidFd
import Derived.Test.YtkhhbpeheikmfaaDoorMidFa
import Derived.Deep.RegionHeld3
import Derived.Deep.RegionLaw
import Derived.Test.YtkhhbpeheikmfaaDoorMidFb
import Derived.Test.YtkhhbpeheikmfaaDoorImplFun
import Derived.Test.YtkhhbpeheikmfaaDoorLw
import Derived.Test.YtkhhbpeheikmfaaDoorMidFc
import Derived.Test.YtkhhbpeheikmfaaDoorTo
import Derived.Test.YtkhhbpeheikmfaaDoorMonoS
import Derived.Maps.AppendAt
import Derived.StillTactics
namespace Go.Proofs.YtkhhbpeheikmfaaDoor
open Go.RowKit Go.Deep Go.Shelf

set_option maxRecDepth 100000 in
set_option maxHeartbeats 8000000 in
theorem ofProdMono_any (b p p' m m' : Nat) (g h h' : Nat → Nat) (n n' : Nat) (vf : Value) (f : List Int) (w : World) (hg : GridAt w b g) (hn : GridN g n') (kg : GridAt w p h) (kg' : GridAt w p' h') (kn : GridN h m) (kn' : GridN h' m') (km : m * m' ≤ 200) (hNN : n = m * m') (hf : IntsAt w vf f) (t : Bool) (ht : t = true ↔ MonoQ (prodB h h' m') (bitB g) n n' f) :
    Calls Tryd.prog 47 #[.iface 67 (.agg #[gridV p, gridV p']), .iface 63 (.pointer (some ⟨b, 0, none⟩)), vf] w (SaysN t w) := by
  have hmS := run_size
  have hmB := run_below
  have hmN := fun b w => run_nilAhead 252 b w
  have hmS2 := run_prod_size
  have hmB2 := run_prod_below
  have hmN2 := fun v v' w => run_prod_nilAhead 252 v v' w
  have hM : MK w (fun W => GridAt W b g ∧ (GridAt W p h ∧ GridAt W p' h')) vf f w := ⟨⟨hg, kg, kg'⟩, hf, Below.refl _ _⟩
  have hK : Stays w (fun W => GridAt W b g ∧ (GridAt W p h ∧ GridAt W p' h')) := (Stays.grid hg.lt).and (Stays.grids kg.lt kg'.lt)
  have hnle : n ≤ 200 := by rw [hNN]; exact km
  have hnle' : n' ≤ 40000 := Nat.le_trans hn.le (by decide)
  have hsz := fun W (hk : (fun W => GridAt W b g ∧ (GridAt W p h ∧ GridAt W p' h')) W) => (show Calls Tryd.prog 46 #[.agg #[gridV p, gridV p']] W (SaysI ((n : Nat) : Int) W) by rw [hNN]; exact prodSize_any p p' m m' h h' W hk.2.1 hk.2.2 kn kn')
  have hsz' := fun W (hk : (fun W => GridAt W b g ∧ (GridAt W p h ∧ GridAt W p' h')) W) => size_any b n' g W hk.1 hn.le hn.some hn.none
  have hbF := fun W (hk : (fun W => GridAt W b g ∧ (GridAt W p h ∧ GridAt W p' h')) W) (x y : Nat) (hx : x < n) (hy : y < n) => prodBelow_any p p' m m' h h' x y W hk.2.1 hk.2.2 kn kn' (by rw [← hNN]; exact hx) (by rw [← hNN]; exact hy)
  have hbT := fun W (hk : (fun W => GridAt W b g ∧ (GridAt W p h ∧ GridAt W p' h')) W) (x y : Nat) (hx : x < n') (hy : y < n') => (show Calls Tryd.prog 99 #[.pointer (some ⟨b, 0, none⟩), .int .i64 (x : Int), .int .i64 (y : Int)] W (SaysN (bitB g x y) W) from gbelow_any b g x y x y W hk.1 rfl (by have := hn.le; omega) rfl (by have := hn.le; omega))
  obtain ⟨Af, Cf, rfl, hCf, hmf, _, _⟩ := hf
  unfold maxLen at hmf
  have HM := Lib.hid hM
  have HSZ := Lib.hid hsz
  have HSZ' := Lib.hid hsz'
  have HT := Lib.hid ht
  have HBF := Lib.hid hbF
  have HBT := Lib.hid hbT
  have HKK := Lib.hid hK
  clear hg hn kg kg' kn kn' km hM hsz hsz' hbF hbT ht hK hNN
  by_cases hfl : f.length = n
  · have hb : ((f.length : Int) == (n : Int)) = true := by rw [beq_iff_eq]; omega
    have hb2 : (f.length == n) = true := by rw [beq_iff_eq]; omega
    have hb3 : ((f.length : Int) != (n : Int)) = false := by unfold bne; rw [hb]; rfl
    have hb4 : (f.length != n) = false := by unfold bne; rw [hb2]; rfl
    have hfn : f.length ≤ 200 := by omega
    have HFL := Lib.hid hfl
    clear hfl
    by_cases hout : ∃ x ∈ f, outN n' x = true
    · obtain rfl : t = false := by
        cases t with
        | false => rfl
        | true =>
          obtain ⟨x, hx, ho⟩ := hout
          have := (HT.out.1 rfl).2.1 x hx
          rw [this] at ho
          cases ho
      have HAB := Lib.hid (fun W h => allBelow_any (.slice Af f.length Cf) f n' W false ⟨fun h => (by cases h), fun h => by obtain ⟨x, hx, ho⟩ := hout; rw [h x hx] at ho; cases ho⟩ h)
      clear hout
      go_enter Tryd.func47, Tryd.ntmps47
      go_wp2_with (first | (go_at_call 46; refine (HSZ.out _ HM.out.kept).mono ?_; clear HSZ; rintro e w1 ⟨rfl, hb1⟩; have M1 := Lib.hid (HM.out.step HKK.out hb1); clear hb1) | (go_at_call 48; refine (HSZ'.out _ M1.out.kept).mono ?_; clear HSZ'; rintro e w2 ⟨rfl, hb2⟩; have M2 := Lib.hid (M1.out.step HKK.out hb2); clear hb2) | (go_at_call 69; refine (HAB.out _ M2.out.f).mono ?_; rintro e w3 ⟨rfl, hb9⟩; have M3 := Lib.hid (M2.out.step HKK.out hb9); clear hb9))
      go_ret
      exact ⟨rfl, M3.out.below⟩
    · have HAB := Lib.hid (fun W h => allBelow_any (.slice Af f.length Cf) f n' W true ⟨fun _ x hx => by cases hq : outN n' x with | false => rfl | true => exact absurd ⟨x, hx, hq⟩ hout, fun _ => rfl⟩ h)
      have HO := Lib.hid hout
      clear hout
      go_enter Tryd.func47, Tryd.ntmps47
      go_wp2_with (first | (go_at_call 46; refine (HSZ.out _ HM.out.kept).mono ?_; clear HSZ; rintro e w1 ⟨rfl, hb1⟩; have M1 := Lib.hid (HM.out.step HKK.out hb1); clear hb1) | (go_at_call 48; refine (HSZ'.out _ M1.out.kept).mono ?_; clear HSZ'; rintro e w2 ⟨rfl, hb2⟩; have M2 := Lib.hid (M1.out.step HKK.out hb2); clear hb2) | (go_at_call 69; refine (HAB.out _ M2.out.f).mono ?_; rintro e w3 ⟨rfl, hb9⟩; have M3 := Lib.hid (M2.out.step HKK.out hb9); clear hb9))
      have HRNG := Lib.hid (show ∀ q (hq : q < f.length), 0 ≤ f[q] ∧ f[q] < n' from fun q hq => by
        have h : ¬ (outN n' f[q] = true) := fun h => HO.out ⟨_, List.getElem_mem hq, h⟩
        unfold outN at h
        rw [Bool.or_eq_true, decide_eq_true_iff, decide_eq_true_iff] at h
        omega)
      clear HO
      go_loopw [7, 23] (fun _ av wr => ∃ a : Nat, a ≤ f.length ∧ av = .int .i64 a ∧ (∀ q, q < a → ∀ c, c < f.length → (prodB h h' m') q c = true → (bitB g) (f.getD q 0).toNat (f.getD c 0).toNat = true) ∧ MK w (fun W => GridAt W b g ∧ (GridAt W p h ∧ GridAt W p' h')) (.slice Af f.length Cf) f wr) (fun _ av _ => f.length - (intOf av).toNat)
      case atStart => exact ⟨0, Nat.zero_le _, rfl, fun _ h => absurd h (Nat.not_lt_zero _), M3.out⟩
      case round =>
        obtain ⟨a, ha, rfl, hp, hm⟩ := hrel
        have HP := Lib.hid hp
        have MA := Lib.hid hm
        clear hp hm
        by_cases hal : a < f.length
        · go_wp2
          go_loopw [8, 28] (fun _ cv wr => ∃ c : Nat, c ≤ f.length ∧ cv = .int .i64 c ∧ (∀ q, q < c → (prodB h h' m') a q = true → (bitB g) (f.getD a 0).toNat (f.getD q 0).toNat = true) ∧ MK w (fun W => GridAt W b g ∧ (GridAt W p h ∧ GridAt W p' h')) (.slice Af f.length Cf) f wr) (fun _ cv _ => f.length - (intOf cv).toNat)
          case atStart => exact ⟨0, Nat.zero_le _, rfl, fun _ h => absurd h (Nat.not_lt_zero _), MA.out⟩
          case round =>
            obtain ⟨c, hc, rfl, hp, hm⟩ := hrel
            have HQ := Lib.hid hp
            have MC := Lib.hid hm
            clear hp hm
            by_cases hcl : c < f.length
            · have hfa := HRNG.out a hal
              have hfc := HRNG.out c hcl
              obtain ⟨ka, hka⟩ : ∃ ka : Nat, f[a] = (ka : Int) := ⟨f[a].toNat, by omega⟩
              obtain ⟨kc, hkc⟩ : ∃ kc : Nat, f[c] = (kc : Int) := ⟨f[c].toNat, by omega⟩
              have hDa : (f.getD a 0).toNat = ka := by rw [getD_lt 0 hal, hka]; rfl
              have hDc : (f.getD c 0).toNat = kc := by rw [getD_lt 0 hcl, hkc]; rfl
              have hka2 : ka < n' := by omega
              have hkc2 : kc < n' := by omega
              have hcA : ∀ W, IntsAt W (.slice Af f.length Cf) f → ∃ b o, Af = some ⟨b, o, none⟩ ∧ W.cell? ⟨b, o + a, none⟩ = some (.int .i64 (ka : Int)) ∧ W.cell? ⟨b, o + c, none⟩ = some (.int .i64 (kc : Int)) := fun W h => by
                obtain ⟨b1, o1, e1, h1⟩ := h.get hal
                obtain ⟨b2, o2, e2, h2⟩ := h.get hcl
                rw [e1] at e2
                cases e2
                rw [hka] at h1
                rw [hkc] at h2
                exact ⟨b1, o1, e1, h1, h2⟩
              have HCA := Lib.hid hcA
              obtain ⟨b1, o1, rfl, h1, h2⟩ := hcA _ MC.out.f
              clear hcA hfa hfc hka hkc
              have hcall := fun d os => HBF.out _ (MC.out.step HKK.out (below_regrown wr d os)).kept a c (by have := HFL.out; omega) (by have := HFL.out; omega)
              have hcall' := fun d os => HBT.out _ (MC.out.step HKK.out (below_regrown wr d os)).kept ka kc hka2 hkc2
              have hl1 := fun d os => cell_regrown h1 d os
              have hl2 := fun d os => cell_regrown h2 d os
              cases hbit : (prodB h h' m') a c with
              | false =>
                simp only [hbit] at hcall
                have HB := Lib.hid hbit
                clear hbit
                go_wp2
                refine wp_region_quiet_below (by kernel_rfl) (by kernel_rfl) ?_
                repeat (go_big_quiet_step (first | (go_at_call 124; exact Calls.regrown_of (hcall _ _)) | (go_at_call 99; exact Calls.regrown_of (hcall' _ _))))
                refine wpQuiet_nil ?_
                intro _ hw'
                obtain ⟨⟨dq, osq⟩, hw''⟩ := hw'
                subst hw''
                clear hcall hcall' hl1 hl2
                go_wp2
                go_roundw
                case rel =>
                  refine ⟨c + 1, by omega, by go_num, fun q hq hb => ?_, (MC.out.step HKK.out (below_regrown wr dq osq))⟩
                  by_cases e : q = c
                  · subst e; rw [HB.out] at hb; cases hb
                  · exact HQ.out q (by omega) hb
                case measure => simp [intOf]; omega
              | true =>
                simp only [hbit] at hcall
                cases hbit' : (bitB g) ka kc with
                | true =>
                  simp only [hbit'] at hcall'
                  have HB := Lib.hid (show (bitB g) (f.getD a 0).toNat (f.getD c 0).toNat = true by rw [hDa, hDc]; exact hbit')
                  clear hbit hbit' hDa hDc
                  go_wp2
                  refine wp_region_quiet_below (by kernel_rfl) (by kernel_rfl) ?_
                  repeat (go_big_quiet_step (first | (go_at_call 124; exact Calls.regrown_of (hcall _ _)) | (go_at_call 99; exact Calls.regrown_of (hcall' _ _))))
                  refine wpQuiet_nil ?_
                  intro _ hw'
                  obtain ⟨⟨dq, osq⟩, hw''⟩ := hw'
                  subst hw''
                  clear hcall hcall' hl1 hl2
                  go_wp2
                  go_roundw
                  case rel =>
                    refine ⟨c + 1, by omega, by go_num, fun q hq hb => ?_, (MC.out.step HKK.out (below_regrown wr dq osq))⟩
                    by_cases e : q = c
                    · subst e; exact HB.out
                    · exact HQ.out q (by omega) hb
                  case measure => simp [intOf]; omega
                | false =>
                  simp only [hbit'] at hcall'
                  obtain rfl : t = false := by
                    cases t with
                    | false => rfl
                    | true =>
                      have := (HT.out.1 rfl).2.2 a c (by have := HFL.out; omega) (by have := HFL.out; omega) hbit
                      rw [hDa, hDc, hbit'] at this
                      cases this
                  clear hbit hbit' hDa hDc
                  go_wp2
                  refine wp_region_quiet_below (by kernel_rfl) (by kernel_rfl) ?_
                  repeat (go_big_quiet_step (first | (go_at_call 124; exact Calls.regrown_of (hcall _ _)) | (go_at_call 99; exact Calls.regrown_of (hcall' _ _))))
                  refine wpQuiet_nil ?_
                  intro _ hw'
                  obtain ⟨⟨dq, osq⟩, hw''⟩ := hw'
                  subst hw''
                  clear hcall hcall' hl1 hl2
                  go_wp2
                  go_ret
                  exact ⟨rfl, (MC.out.step HKK.out (below_regrown wr dq osq)).below⟩
            · obtain rfl : c = f.length := by omega
              go_wp2
              go_roundw
              case rel =>
                refine ⟨a + 1, by omega, by go_num, fun q hq c hc hb => ?_, MC.out⟩
                by_cases e : q = a
                · subst e; exact HQ.out c hc hb
                · exact HP.out q (by omega) c hc hb
              case measure => simp [intOf]; omega
        · obtain rfl : a = f.length := by omega
          obtain rfl : t = true := HT.out.2 ⟨HFL.out, fun x hx => by
            obtain ⟨i, hi, rfl⟩ := List.getElem_of_mem hx
            have := HRNG.out i hi
            unfold outN
            rw [Bool.or_eq_false_iff, decide_eq_false_iff_not, decide_eq_false_iff_not]
            omega, fun p q hp hq hb => HP.out p (by rw [HFL.out]; exact hp) q (by rw [HFL.out]; exact hq) hb⟩
          go_wp2
          go_ret
          exact ⟨rfl, MA.out.below⟩
  · have hb : ((f.length : Int) == (n : Int)) = false := by rw [beq_eq_false_iff_ne]; omega
    have hb2 : (f.length == n) = false := by rw [beq_eq_false_iff_ne]; omega
    have hb3 : ((f.length : Int) != (n : Int)) = true := by unfold bne; rw [hb]; rfl
    have hb4 : (f.length != n) = true := by unfold bne; rw [hb2]; rfl
    obtain rfl : t = false := by
      cases t with
      | false => rfl
      | true => exact absurd (HT.out.1 rfl).1 hfl
    clear hfl
    go_enter Tryd.func47, Tryd.ntmps47
    go_wp2_with (go_at_call 46; refine (HSZ.out _ HM.out.kept).mono ?_; clear HSZ; rintro e w1 ⟨rfl, hb1⟩; have M1 := Lib.hid (HM.out.step HKK.out hb1); clear hb1)
    go_ret
    exact ⟨rfl, M1.out.below⟩
end Go.Proofs.YtkhhbpeheikmfaaDoor

/- slices.Chunk at []int: the pieces of n of a list, in their order. -/
namespace Go.Proofs.YtkhhbpeheikmfaaDoor
open Go.RowKit Go.Deep Go.Shelf
attribute [local go_sem] Oper.semAt_some

/-- The k-th piece of n of a list. -/
def chunk (x : List Int) (n k : Nat) : List Int := (x.drop (k * n)).take n
theorem chunk_bound {m n k : Nat} (hk : k < m) : k * n + n ≤ m * n := by
  have := Nat.mul_le_mul_right n (show k + 1 ≤ m from hk)
  rw [Nat.succ_mul] at this
  exact this
theorem chunk_len {x : List Int} {m n k : Nat} (hx : x.length = m * n) (hk : k < m) : (chunk x n k).length = n := by
  have := chunk_bound (n := n) hk
  unfold chunk
  rw [List.length_take, List.length_drop]
  omega
theorem chunk_at {x : List Int} {m n k : Nat} (hx : x.length = m * n) (hk : k < m) (i : Nat) (hi : i < (chunk x n k).length) : ∃ h : k * n + i < x.length, (chunk x n k)[i] = x[k * n + i] := by
  have h1 := chunk_bound (n := n) hk
  have h2 := chunk_len hx hk
  refine ⟨by omega, ?_⟩
  simp [chunk]
theorem chunk_ints {W : World} {b o C m n k : Nat} {x : List Int} (hx : x.length = m * n) (hk : k < m) (h : IntsAt W (.slice (some ⟨b, o, none⟩) x.length C) x) : IntsAt W (.slice (some ⟨b, o + k * n, none⟩) n n) (chunk x n k) := by
  have h1 := chunk_bound (n := n) hk
  have h2 := chunk_len hx hk
  obtain ⟨a, C', e, hC, hm, hw, hc⟩ := h
  injection e with e1 _ e3
  refine ⟨some ⟨b, o + k * n, none⟩, n, by rw [h2], by omega, by omega, fun y hy => hw y (List.mem_of_mem_drop (List.mem_of_mem_take hy)), fun i hi => ⟨b, o + k * n, rfl, ?_⟩⟩
  obtain ⟨hl, he⟩ := chunk_at hx hk i hi
  obtain ⟨b', o', e', hc'⟩ := hc _ hl
  rw [← e1] at e'
  injection e' with e'
  injection e' with f1 f2
  rw [he, Nat.add_assoc, f1, f2]
  exact hc'

/-- What a round of the loop gets. -/
def encC (b o n k : Nat) : Array Value := #[.slice (some ⟨b, o + k * n, none⟩) n n]

theorem chunks_any (a : Option Addr) (T C n : Nat) (w : World) (hn : 1 ≤ n) (hn2 : n ≤ 200) : Calls Tryd.prog 49 #[.slice a T C, .int .i64 (n : Int)] w fun e w' =>
    e = .returned (.func (.func 71) #[] #[.pointer (some ⟨w.heap.size, 0, none⟩), .pointer (some ⟨w.heap.size + 1, 0, none⟩)]) ∧
    w' = (w.alloc (.cells #[.slice a T C] 37)).alloc (.cells #[.int .i64 (n : Int)] 3) := by
  have h1 : ¬ ((n : Int) < 1) := by omega
  go_enter Tryd.func49, Tryd.ntmps49
  go_wp2
  go_ret
  exact ⟨rfl, rfl⟩

/-- The numbers of the pieces. -/
abbrev Ck (m : Nat) : Type := { k : Nat // k < m }
def ckN {m : Nat} (l : List (Ck m)) : List Nat := l.map (·.1)
theorem ckN_snoc {m : Nat} (l : List (Ck m)) (x : Ck m) : ckN (l ++ [x]) = ckN l ++ [x.1] := by simp [ckN]
theorem ckN_len {m : Nat} {l : List (Ck m)} {k : Nat} (h : ckN l = List.range k) : l.length = k := by
  have := congrArg List.length h
  simpa [ckN] using this

set_option maxRecDepth 100000 in
set_option maxHeartbeats 4000000 in
theorem chunk1_stops (n' B b o T C m n : Nat) (w : World) (hn' : 2 ≤ n') (h1 : 1 ≤ n) (hn2 : n ≤ 200) (hT : T = m * n) (hTl : T ≤ 200) (hTC : T ≤ C) (hC : C ≤ maxLen) (hB : w.cell? ⟨B, 0, none⟩ = some (.slice (some ⟨b, o, none⟩) T C)) (hB1 : w.cell? ⟨B + 1, 0, none⟩ = some (.int .i64 (n : Int)))
    (Kp : World → World → Prop) (hKp : ∀ W W' : World, Kp W W' → ∀ i v, i < 2 → W.cell? ⟨B + i, 0, none⟩ = some v → W'.cell? ⟨B + i, 0, none⟩ = some v) :
    SeqStopsK Fence.wide n' Tryd.prog 71 #[.pointer (some ⟨B, 0, none⟩), .pointer (some ⟨B + 1, 0, none⟩)] (fun i : Ck m => encC b o n i.1) Kp (fun xs => ckN xs = List.range m) (fun _ => True) m w := fun l J Jx W hW hJA _ hY h0 => by
  have c0 := (hW.cell (p := ⟨B, 0, none⟩) (cell_lt hB)).trans hB
  have c1 := (hW.cell (p := ⟨B + 1, 0, none⟩) (cell_lt hB1)).trans hB1
  have HY := Lib.hid hY
  have HJ0 := Lib.hid h0
  have HJA := Lib.hid hJA
  have HKP := Lib.hid hKp
  have HT := Lib.hid hT
  unfold maxLen at hC
  clear hB hB1 hY h0 hW hJA hKp hT
  refine callsIn_of_wp Tryd.func71 rfl trivial ?_ rfl
  simp only [Tryd.ntmps71, List.size_toArray, List.length_cons, List.length_nil, Nat.reduceAdd, Nat.reduceSub, Array.replicate_succ, Array.replicate_zero, List.push_toArray, List.append_toArray, List.nil_append, List.cons_append]
  gi_wp2
  gi_loopw [4] (fun iv wr => ∃ (k : Nat) (pre : List (Ck m)), k ≤ m ∧ iv = .int .i64 ((k * n : Nat) : Int) ∧ ckN pre = List.range k ∧ J pre wr ∧ wr.cell? ⟨B, 0, none⟩ = some (.slice (some ⟨b, o, none⟩) T C) ∧ wr.cell? ⟨B + 1, 0, none⟩ = some (.int .i64 (n : Int))) (fun iv _ => T - (intOf iv).toNat)
  case atStart => exact ⟨0, [], Nat.zero_le _, by simp, rfl, HJ0.out, c0, c1⟩
  case round =>
    obtain ⟨k, pre, hk, rfl, hpre, hJ, hc0, hc1⟩ := hrel
    have HPRE := Lib.hid hpre
    have hplen := ckN_len hpre
    clear hpre
    have HJ := Lib.hid hJ
    clear hJ c0 c1
    by_cases hlt : k < m
    · have hb := chunk_bound (n := n) hlt
      rw [← HT.out] at hb
      have HQ := Lib.hid (show (k + 1) * n = k * n + n from Nat.succ_mul k n)
      generalize k * n = q at *
      have hqt : (q : Int) < (T : Int) := by omega
      have hwq : IntKind.i64.wrap ((q : Int) + (n : Int)) = (q : Int) + (n : Int) := IntWalk.i64_in _ (by omega)
      have hq0 : (0 : Int) ≤ (q : Int) := by omega
      have hqT : (q : Int) ≤ (T : Int) := by omega
      have hqn : (q : Int) ≤ (q : Int) + (n : Int) := by omega
      have hqC : (q : Int) + (n : Int) ≤ (C : Int) := by omega
      have hJ1 := HJA.out _ _ wr.drew none HJ.out ⟨rfl, rfl, rfl, Nat.le_refl _, fun _ _ _ => rfl⟩ (fun r e => by cases e)
      obtain ⟨w1, hw1⟩ : ∃ w1, w1 = wr.drew := ⟨_, rfl⟩
      have hd0 : w1.cell? ⟨B, 0, none⟩ = some (.slice (some ⟨b, o, none⟩) T C) := by rw [hw1]; exact hc0
      have hd1 : w1.cell? ⟨B + 1, 0, none⟩ = some (.int .i64 (n : Int)) := by rw [hw1]; exact hc1
      rw [← hw1] at hJ1
      have HJ1 := Lib.hid hJ1
      have HLT := Lib.hid hlt
      obtain ⟨y, hyk⟩ : ∃ y : Ck m, y.1 = k := ⟨⟨k, hlt⟩, rfl⟩
      have HYK := Lib.hid hyk
      obtain ⟨fn, tmps, assign, body, hy, hR⟩ := HY.out pre y w1 hJ1 (by rw [hplen]; exact hlt)
      have hkq : k * n = q := by have := HQ.out; rw [Nat.succ_mul] at this; omega
      unfold encC at hy
      rw [hyk, hkq] at hy
      clear hyk
      have HRD := Lib.hid hR
      have hsub : ((q : Int) + (n : Int)).toNat - (q : Int).toNat = n := by omega
      have htn : ((q : Int) + (n : Int)).toNat = q + n := by omega
      clear hJ1 hR hkq hlt
      gi_wp2
      gi_region
      rw [← hw1]
      clear hw1 hc0 hc1
      gi_wp2
      refine ⟨fun _ => by omega, HRD.out.mono ?_⟩
      rintro e W3 (⟨rfl, hJ3, hk3⟩ | ⟨rfl, hJx3⟩)
      · have HJ3 := Lib.hid hJ3
        have e0 := HKP.out _ _ hk3 0 _ (by omega) hd0
        have e1 := HKP.out _ _ hk3 1 _ (by omega) hd1
        clear hJ3 hk3 hd0 hd1
        gi_wp2
        go_roundw
        case rel => exact ⟨k + 1, pre ++ [y], HLT.out, by rw [HQ.out, Int.natCast_add], by rw [ckN_snoc, HPRE.out, HYK.out, List.range_succ], HJ3.out, e0, e1⟩
        case measure => simp [intOf]; omega
      · have HJ3 := Lib.hid hJx3
        clear hJx3 hd0 hd1
        gi_wp2
        refine bodyPost_ret (results_none rfl _ _ _) rfl ?_
        exact ⟨⟨_, rfl⟩, .inr ⟨pre ++ [y], trivial, HJ3.out⟩⟩
    · obtain rfl : k = m := by omega
      have hlt2 : ¬ (((k * n : Nat) : Int) < (T : Int)) := by rw [HT.out]; exact Int.lt_irrefl _
      clear hlt
      gi_wp2
      go_end0
      exact ⟨⟨_, rfl⟩, .inl ⟨pre, HPRE.out, HJ.out⟩⟩
end Go.Proofs.YtkhhbpeheikmfaaDoor

/- The program's DomainCurry: where it fails. -/
namespace Go.Proofs.YtkhhbpeheikmfaaDoor
open Go.RowKit Go.Deep Go.Shelf

theorem mono_ok {rows rows' : Rows2} (h : Ok rows) (h' : Ok rows') (f : List Int) : monoI rows rows' f = true ↔ MonoQ (bitB (gridF rows)) (bitB (gridF rows')) rows.length rows'.length f := by
  classical
  unfold monoI
  rw [decide_eq_true_iff]
  have e : ∀ x : Int, outN rows'.length x = false ↔ (0 ≤ x ∧ x < (rows'.length : Int)) := fun x => by
    unfold outN
    rw [Bool.or_eq_false_iff, decide_eq_false_iff_not, decide_eq_false_iff_not]
    omega
  unfold Mono MonoQ bitB
  constructor
  · rintro ⟨h1, h2, h3⟩
    refine ⟨h1, fun x hx => (e x).2 (h2 x hx), fun a b ha hb hab => ?_⟩
    have h4 := h3 a b ha hb (by rw [h.up ha]; exact hab)
    have hfa := h2 _ (getD_lt 0 (h1 ▸ ha) ▸ List.getElem_mem (h1 ▸ ha))
    have hfb := h2 _ (getD_lt 0 (h1 ▸ hb) ▸ List.getElem_mem (h1 ▸ hb))
    rw [← Int.toNat_of_nonneg hfb.1, h'.up (by omega)] at h4
    exact h4
  · rintro ⟨h1, h2, h3⟩
    refine ⟨h1, fun x hx => (e x).1 (h2 x hx), fun a b ha hb hab => ?_⟩
    have h4 := h3 a b ha hb (by rw [← h.up ha]; exact hab)
    have ma : f.getD a 0 ∈ f := getD_lt 0 (h1 ▸ ha) ▸ List.getElem_mem (h1 ▸ ha)
    have mb : f.getD b 0 ∈ f := getD_lt 0 (h1 ▸ hb) ▸ List.getElem_mem (h1 ▸ hb)
    have hfa := (e _).1 (h2 _ ma)
    have hfb := (e _).1 (h2 _ mb)
    rw [← Int.toNat_of_nonneg hfb.1, h'.up (by omega)]
    exact h4

theorem MonoQ.congr {F F' B : Nat → Nat → Bool} {n N : Nat} {f : List Int} (h : ∀ a b, a < n → b < n → F a b = F' a b) : MonoQ F B n N f ↔ MonoQ F' B n N f :=
  ⟨fun k => ⟨k.1, k.2.1, fun a b ha hb hab => k.2.2 a b ha hb (by rw [h a b ha hb]; exact hab)⟩, fun k => ⟨k.1, k.2.1, fun a b ha hb hab => k.2.2 a b ha hb (by rw [← h a b ha hb]; exact hab)⟩⟩
theorem prodOk_of {r0 r1 : Rows2} (h0 : domB r0 = true) (h1 : domB r1 = true) (hl : r0.length * r1.length ≤ 200) : prodOk r0 r1 = true := by unfold prodOk; rw [h0, h1, decide_eq_true hl]; rfl
theorem mono_prod {r0 r1 r2 : Rows2} (h0 : domB r0 = true) (h1 : domB r1 = true) (hl : r0.length * r1.length ≤ 200) (h2 : Ok r2) (x : List Int) :
    monoI (prodL r0 r1) r2 x = true ↔ MonoQ (prodB (gridF r0) (gridF r1) r1.length) (bitB (gridF r2)) (r0.length * r1.length) r2.length x := by
  have hp := prodOk_of h0 h1 hl
  have hN := (prodL_yes hp).1
  rw [mono_ok (dom_ok (prod_dom hp)) h2, hN]
  refine MonoQ.congr fun a b ha hb => ?_
  unfold bitB
  rw [prodL_made hp, made_bit _ ha, decide_eq_true hb, Bool.true_and]

/-- What DomainCurry answers. -/
noncomputable def curB (r0 r1 r2 : Rows2) (x : List Int) : Bool := domB r0 && funB r1 r2 && decide (r0.length * r1.length ≤ 200) && monoI (prodL r0 r1) r2 x
noncomputable def curX (L : Rows2) (x : List Int) (n k : Nat) : List Int := (List.range k).map fun i => idxL L (chunk x n i)
noncomputable def curL (r0 r1 r2 : Rows2) (x : List Int) : List Int := if curB r0 r1 r2 x = true then curX (I2 (funsR r1 r2)) x r1.length r0.length else []
theorem curX_len (L : Rows2) (x : List Int) (n k : Nat) : (curX L x n k).length = k := by simp [curX]
theorem curX_succ (L : Rows2) (x : List Int) (n k : Nat) : curX L x n (k + 1) = curX L x n k ++ [idxL L (chunk x n k)] := by simp [curX, List.range_succ]
theorem curL_yes {r0 r1 r2 : Rows2} {x : List Int} (h : curB r0 r1 r2 x = true) : curL r0 r1 r2 x = curX (I2 (funsR r1 r2)) x r1.length r0.length := if_pos h
theorem curL_no {r0 r1 r2 : Rows2} {x : List Int} (h : curB r0 r1 r2 x = false) : curL r0 r1 r2 x = [] := if_neg (by rw [h]; simp)
theorem curB_parts {r0 r1 r2 : Rows2} {x : List Int} (h : curB r0 r1 r2 x = true) : domB r0 = true ∧ domB r1 = true ∧ domB r2 = true ∧ funB r1 r2 = true ∧ r0.length * r1.length ≤ 200 ∧ monoI (prodL r0 r1) r2 x = true := by
  unfold curB at h
  rw [Bool.and_eq_true, Bool.and_eq_true, Bool.and_eq_true, decide_eq_true_iff] at h
  obtain ⟨⟨⟨h0, h1⟩, h2⟩, h3⟩ := h
  obtain ⟨k1, k2, _⟩ := funB_iff.1 h1
  exact ⟨h0, k1, k2, h1, h2, h3⟩
theorem idxL_range (L : Rows2) (f : List Int) (hL : L.length ≤ 200) : -1 ≤ idxL L f ∧ idxL L f < 200 := by
  unfold idxL
  cases h : L.findIdx? (fun r => decide (r = f)) with
  | none => exact ⟨show (-1 : Int) ≤ -1 by decide, show (-1 : Int) < 200 by decide⟩
  | some i =>
    have := (List.findIdx?_eq_some_iff_getElem.1 h).1
    exact ⟨by show (-1 : Int) ≤ (i : Int); omega, by show (i : Int) < 200; omega⟩

set_option maxRecDepth 100000 in
set_option maxHeartbeats 8000000 in
theorem implCur_no (v v' v2 vf : Value) (r0 r1 r2 : Rows2) (x : List Int) (w : World) (hv : RowsAt w v r0) (hv' : RowsAt w v' r1) (hv2 : RowsAt w v2 r2) (hf : IntsAt w vf x) (hT : Tab w) (hn : bulk r0 ≤ 1048576) (hn' : bulk r1 ≤ 1048576) (hn2 : bulk r2 ≤ 1048576) (hno : curB r0 r1 r2 x = false) :
    Calls Tryd.prog 26 #[.agg #[v], .agg #[v'], .agg #[v2], vf] w (OwnB (curL r0 r1 r2 x) (curB r0 r1 r2 x) w) := by
  have h0 := Th3.start w 26 hv hv' hv2
  have hd0 := domainOf_any _ r0 _ h0.two.r0 (hT.below h0.two.below) hn
  have hc0 := h0.two.c0
  have HF := Lib.hid (fun W (h : Below w.heap.size w W) => hf.below h)
  have HTA := Lib.hid (fun W (h : Below w.heap.size w W) => hT.below h)
  obtain ⟨A, C, rfl, _⟩ := hv
  obtain ⟨A', C', rfl, _⟩ := hv'
  obtain ⟨A2, C2, rfl, _⟩ := hv2
  obtain ⟨Af, Cf, rfl, hCf, hmf, _⟩ := hf
  unfold maxLen at hmf
  have H0 := Lib.hid h0
  have HNO := Lib.hid (fun W (hb : Below w.heap.size w W) => show OwnB (curL r0 r1 r2 x) (curB r0 r1 r2 x) w (.returned (.tuple #[.slice none 0 0, .bool false])) W from ⟨_, by rw [hno], by rw [curL_no hno]; exact OwnI.nil _ _ _ _, hb⟩)
  have HCB := Lib.hid hno
  clear h0 hT hno
  go_enter Tryd.func26, Tryd.ntmps26
  go_wp2_with fail
  refine hd0.mono ?_
  rintro e w1 ⟨⟨q0, rfl, hq0⟩, hb1⟩
  have H1 := Lib.hid (H0.out.step hb1)
  have B1 := Lib.hid hb1
  have hc1 := H1.out.two.c1
  have hd1 := domainOf_any _ r1 _ H1.out.two.r1 (HTA.out _ H1.out.two.below) hn'
  clear hd0 hc0 hb1
  go_wp2_with fail
  refine hd1.mono ?_
  rintro e w2 ⟨⟨q1, rfl, hq1⟩, hb2⟩
  have H2 := Lib.hid (H1.out.step hb2)
  have B2 := Lib.hid hb2
  have hc2 := H2.out.c2
  have hd2 := domainOf_any _ r2 _ H2.out.r2 (HTA.out _ H2.out.two.below) hn2
  clear hd1 hc1 hb2
  go_wp2_with fail
  refine hd2.mono ?_
  rintro e w3 ⟨⟨q2, rfl, hq2⟩, hb3⟩
  have H3 := Lib.hid (H2.out.step hb3)
  have B3 := Lib.hid hb3
  clear hd2 hc2 hb3
  cases k0 : domB r0 with
  | false =>
    clear hq0 hq1 hq2
    cases k1 : domB r1 <;> cases k2 : domB r2
    all_goals
      go_wp2
      go_ret2
      exact HNO.out _ H3.out.two.below
  | true =>
    cases k1 : domB r1 with
    | false =>
      clear hq0 hq1 hq2
      cases k2 : domB r2
      all_goals
        go_wp2
        go_ret2
        exact HNO.out _ H3.out.two.below
    | true =>
      cases k2 : domB r2 with
      | false =>
        clear hq0 hq1 hq2
        go_wp2
        go_ret2
        exact HNO.out _ H3.out.two.below
      | true =>
        obtain ⟨p0, rfl, hg0⟩ := hq0 k0
        obtain ⟨p1, rfl, hg1⟩ := hq1 k1
        obtain ⟨p2, rfl, hg2⟩ := hq2 k2
        have ok0 := dom_ok k0
        have ok1 := dom_ok k1
        have ok2 := dom_ok k2
        have z12 := B2.out.size
        have z23 := B3.out.size
        have hb4 := (Below.refl w3.heap.size w3).alloc (Nat.le_refl _) (.cells #[gridV p0, gridV p1] 67)
        obtain ⟨n0, n1, n2⟩ := two_new w3 (gridV p0) (gridV p1) 67
        obtain ⟨w4, hw4⟩ : ∃ w4, w4 = w3.alloc (.cells #[gridV p0, gridV p1] 67) := ⟨_, rfl⟩
        rw [← hw4] at hb4 n0 n1 n2
        have H4 := Lib.hid (H3.out.step hb4)
        have l0 := hg0.lt
        have l1 := hg1.lt
        have l2 := hg2.lt
        have G0 := Lib.hid (((hg0.below B2.out l0).below B3.out (by omega)).below hb4 (by omega))
        have G1 := Lib.hid ((hg1.below B3.out l1).below hb4 (by omega))
        have G2 := Lib.hid (hg2.below hb4 l2)
        have hps := prodSize_any p0 p1 r0.length r1.length (gridF r0) (gridF r1) w4 G0.out G1.out ok0.gridN ok1.gridN
        have hcu : curB r0 r1 r2 x = (funB r1 r2 && decide (r0.length * r1.length ≤ 200) && monoI (prodL r0 r1) r2 x) := by unfold curB; rw [k0, Bool.true_and]
        have HMP := Lib.hid (fun hl => mono_prod (x := x) k0 k1 hl ok2)
        have hl0 := ok0.len
        have hl1 := ok1.len
        have hN2 : r0.length * r1.length ≤ 40000 := Nat.le_trans (Nat.mul_le_mul hl0.2 hl1.2) (by decide)
        have HN := Lib.hid (rfl : r0.length * r1.length = r0.length * r1.length)
        have HMO := Lib.hid (fun (hl : r0.length * r1.length ≤ 200) W (hb : Below w4.heap.size w4 W) => ofProdMono_any p2 p0 p1 r0.length r1.length (gridF r2) (gridF r0) (gridF r1) (r0.length * r1.length) r2.length _ x W (G2.out.below hb G2.out.lt) ok2.gridN (G0.out.below hb G0.out.lt) (G1.out.below hb G1.out.lt) ok0.gridN ok1.gridN hl rfl (HF.out _ (H4.out.two.below.trans (hb.mono H4.out.two.below.size))) (monoI (prodL r0 r1) r2 x) (HMP.out hl))
        have HCU := Lib.hid hcu
        clear hq0 hq1 hq2 hg0 hg1 hg2 hb4 hcu l0 l1 l2
        generalize r0.length * r1.length = N at *
        have hwN : IntKind.i64.wrap (N : Int) = (N : Int) := IntWalk.i64_in _ (by omega)
        by_cases hl : N ≤ 200
        · have hlz : ¬ ((200 : Int) < (N : Int)) := by omega
          go_wp2_with fail
          rw [← hw4]
          clear hw4
          refine hps.mono ?_
          rintro e w5 ⟨rfl, hb5⟩
          have H5 := Lib.hid (H4.out.step hb5)
          have m0 := (hb5.cell (p := ⟨w3.heap.size, 0, none⟩) (cell_lt n0)).trans n0
          have m1 := (hb5.cell (p := ⟨w3.heap.size, 1, none⟩) (cell_lt n1)).trans n1
          have hmo := HMO.out hl w5 hb5
          clear hps n0 n1 n2 hb5
          go_wp2_with fail
          refine hmo.mono ?_
          rintro e w6 ⟨rfl, hb6⟩
          have H6 := Lib.hid (H5.out.step hb6)
          have hc1 := H6.out.two.c1
          have hc2 := H6.out.c2
          clear hmo m0 m1 hb6
          cases hmn : monoI (prodL r0 r1) r2 x with
          | false =>
            go_wp2
            go_ret2
            exact HNO.out _ H6.out.two.below
          | true =>
            have hfb : funB r1 r2 = false := by
              have h := HCU.out
              rw [HCB.out, hmn, decide_eq_true hl, Bool.and_true, Bool.and_true] at h
              exact h.symm
            have hfo := funsOf_any _ _ r1 r2 w6 H6.out.two.r1 H6.out.r2 (HTA.out _ H6.out.two.below) hn' hn2
            go_wp2_with fail
            refine hfo.mono ?_
            rintro e w7 ⟨⟨u1, u2, rfl, hyes, hnos⟩, hb7⟩
            have H7 := Lib.hid (H6.out.step hb7)
            obtain ⟨rfl, rfl⟩ := hnos hfb
            rw [hfb]
            have hz7 := H7.out.two.below.size
            clear hfo hc1 hc2 hb7 hyes hnos
            go_wp2
            go_ret2
            exact HNO.out _ (H7.out.two.below.alloc hz7 _)
        · have hlz : (200 : Int) < (N : Int) := by omega
          go_wp2_with fail
          rw [← hw4]
          clear hw4
          refine hps.mono ?_
          rintro e w5 ⟨rfl, hb5⟩
          have H5 := Lib.hid (H4.out.step hb5)
          clear hps n0 n1 n2 hb5
          go_wp2
          go_ret2
          exact HNO.out _ H5.out.two.below
end Go.Proofs.YtkhhbpeheikmfaaDoor

/- A region that draws its order, inside a round of a range over a function: walked as outside of it. -/
namespace Go.Proofs.YtkhhbpeheikmfaaDoor
open Go.RowKit Go.Deep Go.Shelf

theorem wpIn_wide {n : Nat} {P : Program} {o : Oper} {a : Act} {w : World} {K : Act → World → Prop} {Q : Exit → Act → World → Prop} (h : o.wp P a w K Q) : o.wpIn Fence.wide n P a w K Q := by
  refine ⟨fun _ _ => trivial, ?_⟩
  have e : o.semAt Fence.wide.round a.eval = execOp a.eval o := by simp [Oper.semAt, Fence.wide]
  rw [e]
  unfold Oper.wp at h
  generalize (execOp a.eval o).run P w = r at h
  cases r with
  | ok x w' =>
    cases x with
    | enter f args => exact ⟨fun hd => by simp [Fence.wide] at hd, callsIn_wide.2 h⟩
    | row row args => exact ⟨fun hd => by simp [Fence.wide] at hd, fun c cs _ => let ⟨v, w', r, s⟩ := h c cs; ⟨v, w', r, stepsIn_wide.2 s⟩⟩
    | value v => exact h
    | skip => exact h
    | defer d => exact h
    | round l f tmps assign body => exact h.elim
    | _ => exact h
  | halt x w' =>
    cases x with
    | panic v => exact h
    | _ => exact h

theorem any_wide {n : Nat} {P : Program} {md : Region.Mode} {ops : Array Oper} {Q : Exit → Act → World → Prop} (hQ : ¬ LetsOut Q) :
    ∀ (fuel : Nat) (listed : Array Bool) (a : Act) (w : World), wpAny P md ops Q fuel listed a w → wpAnyIn Fence.wide n P md ops Q fuel listed a w
  | 0, _, _, _, h => h
  | fuel + 1, listed, a, w, h => by
    refine ⟨h.1, fun i hi => ?_⟩
    have h2 := h.2 i hi
    unfold wpOp at h2
    unfold wpOpIn
    cases ho : ops[i]? with
    | none => rw [ho] at h2; exact any_wide hQ fuel _ _ _ h2
    | some o =>
      rw [ho] at h2
      dsimp only at h2 ⊢
      split
      · rename_i hw
        rw [if_pos hw] at h2
        rcases h2 with h2 | h2
        · exact Oper.wpIn_mono (fun a' w' h3 => any_wide hQ fuel _ a' w' h3) (wpIn_wide h2)
        · exact absurd h2.2 hQ
      · rename_i hw
        rw [if_neg hw] at h2
        exact ⟨fun _ _ => trivial, any_wide hQ fuel _ _ _ h2⟩

theorem held_round {l n : Nat} {P : Program} {id : Nat} {ops : Array Oper} {Q : Exit → Act → World → Prop} {S : World → Prop} {a : Act} {w : World} (hm : P.follows .mixedOrders = true) (hQ : ¬ LetsOut Q)
    (hnd : ops.all (fun o => match o.op with | .defer _ => false | _ => true) = true) (hS : S w.drew) (h : S w.drew → wpAnyH P .any ops Q S ops.size (Array.replicate ops.size false) a w.drew) : (Code.region id ops true).wpIn (Fence.wide.inRound l) n P Q a w :=
  wpIn_region_any hm (wpAnyIn_round (noDefer hnd) _ _ _ _ (any_wide hQ _ _ _ _ (wpAny_of_held _ _ _ _ (h hS))))
end Go.Proofs.YtkhhbpeheikmfaaDoor

/- The program's DomainCurry: where it succeeds. -/
namespace Go.Proofs.YtkhhbpeheikmfaaDoor
open Go.RowKit Go.Deep Go.Shelf
attribute [local go_sem] Oper.semAt_some

/-- append where there is room, of a slice of one's own, as one step of a region that draws. -/
theorem step_append_fits {P : Program} {ops : Array Oper} {o : Oper} {a : Act} {w : World} {K : Act → World → Prop} {Q : Exit → Act → World → Prop} {E : Prop}
    (hg : o.guard = none) (s x : Operand) (t : TypeId) (hop : o.op = Op.call { callee := Callee.builtin Builtin.append, args := #[s, x], argTypes := #[t, t] })
    (base : Nat) (e : TypeId) (i : TypeInfo) (size : Nat) (h1 : P.underlying t = some (.slice e)) (h2 : P.info? e = some i) (h4 : i.size = size)
    (g n cap : Nat) (xs : List Value) (hs : a.eval s = .slice (some ⟨g, 0, none⟩) n cap) (hown : w.ownsRow base e size (.slice (some ⟨g, 0, none⟩) n cap) n xs)
    (ad : Addr) (m c : Nat) (news : List Value) (hx : a.eval x = .slice (some ad) m c) (hn : news.length = m * size) (hc : ∀ j u, news[j]? = some u → w.cell? (ad.add j) = some u) (h1c : ∀ u ∈ news, u.oneCell' = true)
    (hroom : n + m ≤ cap)
    (hK : ∀ w', w'.ownsRow base e size (.slice (some ⟨g, 0, none⟩) (n + m) cap) (n + m) (xs ++ news) → w.grownBy w' (some g) → K (a.put o.dst (.slice (some ⟨g, 0, none⟩) (n + m) cap)) w') :
    if Region.wanted o (yielded ops a.tmps) = true then Oper.wp P o a w K Q else E := by
  have hw : Region.wanted o (yielded ops a.tmps) = true := by simp [Region.wanted, hg]
  rw [if_pos hw]
  obtain ⟨w', hrun, r1, r2⟩ := run_append_fits (P := P) w base t o.type e i size h1 h2 h4 g n cap xs hown ad m c news hn hc h1c hroom
  unfold Oper.wp
  simp [execOp, hop, resolve, invoke, builtin, hs, hx, hrun, Result.andThen]
  exact hK w' r1 r2

theorem wf_idx (L : Rows2) (f : List Int) (hL : L.length ≤ 200) : (Lit.int .i64 (idxL L f)).wf = true := by
  have h := idxL_range L f hL
  have e1 : IntKind.i64.min = -9223372036854775808 := rfl
  have e2 : IntKind.i64.max = 9223372036854775807 := rfl
  simp [Lit.wf, e1, e2]
  omega

/-- Below g nothing has changed, nor in the two blocks from B on. -/
structure Spare2 (g B : Nat) (W W' : World) : Prop where
  below : Below g W W'
  two : ∀ i, i < 2 → W'.heap[B + i]? = W.heap[B + i]?
theorem Spare2.trans {g B : Nat} {W W' W'' : World} (h : Spare2 g B W W') (k : Spare2 g B W' W'') : Spare2 g B W W'' := ⟨h.below.trans k.below, fun i hi => (k.two i hi).trans (h.two i hi)⟩
theorem Spare2.cells {g B : Nat} {W W' : World} (h : Spare2 g B W W') (i : Nat) (v : Value) (hi : i < 2) (hc : W.cell? ⟨B + i, 0, none⟩ = some v) : W'.cell? ⟨B + i, 0, none⟩ = some v :=
  (World.cell?_of_block (a := ⟨B + i, 0, none⟩) (h.two i hi)).trans hc
theorem Spare2.put {g B : Nat} {w : World} (hg : g ≤ w.heap.size) (hB : B + 1 < w.heap.size) (W : World) (l : Nat) (o o' : Obj) (hl : w.heap.size ≤ l) (h : W.heap[l]? = some o) (h1 : o.isCells = false) (h2 : o.isWalk = false) : Spare2 g B W (W.putObj l o') :=
  ⟨belowK_b hg W l o o' hl h h1 h2, fun i hi => World.putObj_heap_other (by omega)⟩
/-- What has been appended for the pieces so far. -/
def cvals (F : Rows2) (x : List Int) (n : Nat) {m : Nat} (pre : List (Ck m)) : List Value := pre.map fun k => .int .i64 (idxL F (chunk x n k.1))
theorem cvals_snoc (F : Rows2) (x : List Int) (n : Nat) {m : Nat} (pre : List (Ck m)) (k : Ck m) : cvals F x n (pre ++ [k]) = cvals F x n pre ++ [.int .i64 (idxL F (chunk x n k.1))] := by simp [cvals]
theorem cvals_all {F : Rows2} {x : List Int} {n m : Nat} {xs : List (Ck m)} (h : ckN xs = List.range m) : cvals F x n xs = cellsI (curX F x n m) := by
  unfold curX
  rw [← h]
  simp [cvals, ckN, cellsI]

set_option maxRecDepth 100000 in
set_option maxHeartbeats 8000000 in
theorem implCur_yes (v v' v2 vf : Value) (r0 r1 r2 : Rows2) (x : List Int) (w : World) (hv : RowsAt w v r0) (hv' : RowsAt w v' r1) (hv2 : RowsAt w v2 r2) (hf : IntsAt w vf x) (hT : Tab w) (hn : bulk r0 ≤ 1048576) (hn' : bulk r1 ≤ 1048576) (hn2 : bulk r2 ≤ 1048576) (hyes : curB r0 r1 r2 x = true) :
    Calls Tryd.prog 26 #[.agg #[v], .agg #[v'], .agg #[v2], vf] w (OwnB (curL r0 r1 r2 x) (curB r0 r1 r2 x) w) := by
  obtain ⟨k0, k1, k2, kf, kl, km⟩ := curB_parts hyes
  have ok0 := dom_ok k0
  have ok1 := dom_ok k1
  have ok2 := dom_ok k2
  have h0 := Th3.start w 26 hv hv' hv2
  have hd0 := domainOf_any _ r0 _ h0.two.r0 (hT.below h0.two.below) hn
  have hc0 := h0.two.c0
  have HF := Lib.hid (fun W (h : Below w.heap.size w W) => hf.below h)
  have HTA := Lib.hid (fun W (h : Below w.heap.size w W) => hT.below h)
  obtain ⟨A, C, rfl, _⟩ := hv
  obtain ⟨A', C', rfl, _⟩ := hv'
  obtain ⟨A2, C2, rfl, _⟩ := hv2
  obtain ⟨Af, Cf, rfl, hCf, hmf, _⟩ := hf
  have HMF := Lib.hid hmf
  unfold maxLen at hmf
  have H0 := Lib.hid h0
  have HMP := Lib.hid ((mono_prod (x := x) k0 k1 kl ok2).1 km)
  have HXL := Lib.hid (show x.length = r0.length * r1.length from HMP.out.1)
  have hl0 := ok0.len
  have hl1 := ok1.len
  have hx0 : 0 < x.length := by rw [HXL.out]; exact Nat.mul_pos (by omega) (by omega)
  obtain ⟨bx, ox, rfl, _⟩ := (HF.out w (Below.refl _ _)).get hx0
  have hxl2 : x.length ≤ 200 := by rw [HXL.out]; exact kl
  have HYES := Lib.hid hyes
  have HCL := Lib.hid (curL_yes hyes)
  obtain ⟨F, hFe⟩ : ∃ F, F = I2 (funsR r1 r2) := ⟨_, rfl⟩
  have HFE := Lib.hid hFe
  have HFL := Lib.hid (show F.length ≤ 200 by rw [hFe, I2_len]; exact (funB_iff.1 kf).2.2)
  have HFA := Lib.hid (show AscL F by rw [hFe]; exact funs_asc r1 r2)
  obtain ⟨i0, hi0, hz0, hz1, hz2⟩ := info_parts infoInt
  clear h0 hT hyes hFe
  refine (callsIn_wide (n := 8)).1 ?_
  refine callsIn_of_wp_marks Tryd.func26 rfl trivial ?_ rfl
  simp only [Tryd.ntmps26, List.size_toArray, List.length_cons, List.length_nil, Nat.reduceAdd, Nat.reduceSub, Array.replicate_succ, Array.replicate_zero, List.push_toArray, List.append_toArray, List.nil_append, List.cons_append]
  gi_wp2
  refine ⟨trivial, (callsIn_wide.2 hd0).mono ?_⟩
  rintro e w1 ⟨⟨q0, rfl, hq0⟩, hb1⟩
  obtain ⟨p0, rfl, hg0⟩ := hq0 k0
  rw [k0]
  have H1 := Lib.hid (H0.out.step hb1)
  have hc1 := H1.out.two.c1
  have hd1 := domainOf_any _ r1 _ H1.out.two.r1 (HTA.out _ H1.out.two.below) hn'
  clear hd0 hc0 hb1 hq0
  gi_wp2
  refine ⟨trivial, (callsIn_wide.2 hd1).mono ?_⟩
  rintro e w2 ⟨⟨q1, rfl, hq1⟩, hb2⟩
  obtain ⟨p1, rfl, hg1⟩ := hq1 k1
  rw [k1]
  have H2 := Lib.hid (H1.out.step hb2)
  have hc2 := H2.out.c2
  have hd2 := domainOf_any _ r2 _ H2.out.r2 (HTA.out _ H2.out.two.below) hn2
  have hg0' := hg0.below hb2 hg0.lt
  clear hd1 hc1 hb2 hq1 hg0
  gi_wp2
  refine ⟨trivial, (callsIn_wide.2 hd2).mono ?_⟩
  rintro e w3 ⟨⟨q2, rfl, hq2⟩, hb3⟩
  obtain ⟨p2, rfl, hg2⟩ := hq2 k2
  rw [k2]
  have H3 := Lib.hid (H2.out.step hb3)
  have hg0 := hg0'.below hb3 hg0'.lt
  have hg1' := hg1.below hb3 hg1.lt
  clear hd2 hc2 hb3 hq2 hg0' hg1
  have hb4 := (Below.refl w3.heap.size w3).alloc (Nat.le_refl _) (.cells #[gridV p0, gridV p1] 67)
  obtain ⟨m0, m1, _⟩ := two_new w3 (gridV p0) (gridV p1) 67
  obtain ⟨w4, hw4⟩ : ∃ w4, w4 = w3.alloc (.cells #[gridV p0, gridV p1] 67) := ⟨_, rfl⟩
  rw [← hw4] at hb4 m0 m1
  have H4 := Lib.hid (H3.out.step hb4)
  have G0 := Lib.hid (hg0.below hb4 hg0.lt)
  have G1 := Lib.hid (hg1'.below hb4 hg1'.lt)
  have G2 := Lib.hid (hg2.below hb4 hg2.lt)
  have hps := prodSize_any p0 p1 r0.length r1.length (gridF r0) (gridF r1) w4 G0.out G1.out ok0.gridN ok1.gridN
  have HMO := Lib.hid (fun W (hb : Below w4.heap.size w4 W) => ofProdMono_any p2 p0 p1 r0.length r1.length (gridF r2) (gridF r0) (gridF r1) (r0.length * r1.length) r2.length _ x W (G2.out.below hb G2.out.lt) ok2.gridN (G0.out.below hb G0.out.lt) (G1.out.below hb G1.out.lt) ok0.gridN ok1.gridN kl rfl (HF.out _ (H4.out.two.below.trans (hb.mono H4.out.two.below.size))) true ⟨fun _ => HMP.out, fun _ => rfl⟩)
  obtain ⟨T, hTN⟩ : ∃ T, T = r0.length * r1.length := ⟨_, rfl⟩
  rw [← hTN] at hps kl
  have HTN := Lib.hid hTN
  have hlz : ¬ ((200 : Int) < (T : Int)) := by omega
  clear hg0 hg1' hg2 hb4 hTN
  gi_wp2
  rw [← hw4]
  clear hw4
  refine ⟨trivial, (callsIn_wide.2 hps).mono ?_⟩
  rintro e w5 ⟨rfl, hb5⟩
  have H5 := Lib.hid (H4.out.step hb5)
  have n0' := (hb5.cell (p := ⟨w3.heap.size, 0, none⟩) (cell_lt m0)).trans m0
  have n1' := (hb5.cell (p := ⟨w3.heap.size, 1, none⟩) (cell_lt m1)).trans m1
  have hmo := HMO.out w5 hb5
  have B45 := Lib.hid hb5
  clear hps m0 m1 hb5
  gi_wp2
  refine ⟨trivial, (callsIn_wide.2 hmo).mono ?_⟩
  rintro e w6 ⟨rfl, hb6⟩
  have H6 := Lib.hid (H5.out.step hb6)
  have B46 := Lib.hid (B45.out.trans (hb6.mono B45.out.size))
  have hc1 := H6.out.two.c1
  have hc2 := H6.out.c2
  have hfo := funsOf_any _ _ r1 r2 w6 H6.out.two.r1 H6.out.r2 (HTA.out _ H6.out.two.below) hn' hn2
  clear hmo n0' n1' hb6 hlz
  gi_wp2
  refine ⟨trivial, (callsIn_wide.2 hfo).mono ?_⟩
  rintro e w7 ⟨⟨u1, u2, rfl, hyes2, _⟩, hb7⟩
  obtain ⟨p', rfl, ho, hg'⟩ := hyes2 kf
  rw [kf]
  obtain ⟨a1, C1, rfl⟩ := ho.form
  have H7 := Lib.hid (H6.out.step hb7)
  have B47 := Lib.hid (B46.out.trans (hb7.mono B46.out.size))
  have VF := Lib.hid (show RowsAt w7 (.slice a1 (funsR r1 r2).length C1) F by rw [HFE.out]; exact I2_at ho)
  obtain ⟨mf, hmf'⟩ : ∃ mf, mf = (funsR r1 r2).length := ⟨_, rfl⟩
  rw [← hmf'] at VF
  rw [← hmf']
  clear hfo hc1 hc2 hb7 hyes2 ho hg' hmf'
  have hb8 := (Below.refl w7.heap.size w7).alloc (Nat.le_refl _) (.cells #[.slice a1 mf C1, gridV p'] 54)
  obtain ⟨m0, m1, _⟩ := two_new w7 (.slice a1 mf C1) (gridV p') 54
  obtain ⟨w8, hw8⟩ : ∃ w8, w8 = w7.alloc (.cells #[.slice a1 mf C1, gridV p'] 54) := ⟨_, rfl⟩
  rw [← hw8] at hb8 m0 m1
  have B48 := Lib.hid (B47.out.trans (hb8.mono B47.out.size))
  have B78 := Lib.hid hb8
  have hs0 := size_any p0 r0.length (gridF r0) w8 (G0.out.below B48.out G0.out.lt) hl0.2 ok0.gridN.some ok0.gridN.none
  clear hb8
  gi_wp2
  rw [← hw8]
  clear hw8
  refine ⟨trivial, (callsIn_wide.2 hs0).mono ?_⟩
  rintro e w9 ⟨rfl, hb9⟩
  have B49 := Lib.hid (B48.out.trans (hb9.mono B48.out.size))
  have B79 := Lib.hid (B78.out.trans (hb9.mono B78.out.size))
  have f0 := (hb9.cell (p := ⟨w7.heap.size, 0, none⟩) (cell_lt m0)).trans m0
  have f1 := (hb9.cell (p := ⟨w7.heap.size, 1, none⟩) (cell_lt m1)).trans m1
  have F0 := Lib.hid f0
  have F1 := Lib.hid f1
  clear hs0 m0 m1 hb9 f0 f1
  obtain ⟨n0, hn0⟩ : ∃ n0, n0 = r0.length := ⟨_, rfl⟩
  obtain ⟨n1, hn1⟩ : ∃ n1, n1 = r1.length := ⟨_, rfl⟩
  have hmk := run_make (P := Tryd.prog) w9 37 3 i0 (.int .i64 0) Tryd.underlying37 hi0 hz0 .i64 .i64 0 (r0.length : Int) (by omega) (by omega) (by rw [hz2]; omega) (by omega)
  rw [hz1, Int.toNat_natCast, Nat.mul_one] at hmk
  simp only [Int.toNat_zero] at hmk
  have OWN := Lib.hid (show ((w9.alloc (.cells (madeCells #[.int .i64 0] r0.length) 3)).alloc (.cells #[.slice (some ⟨w9.heap.size, 0, none⟩) 0 r0.length] 37)).ownsRow w9.heap.size 3 1 (.slice (some ⟨w9.heap.size, 0, none⟩) 0 r0.length) 0 [] from (World.ownsRow_made w9 (madeCells #[.int .i64 0] r0.length) r0.length (Nat.le_refl _) (by unfold maxLen; omega) (by rw [size_madeCells, Nat.mul_one])).alloc _)
  have BX := Lib.hid (show Boxed ((w9.alloc (.cells (madeCells #[.int .i64 0] r0.length) 3)).alloc (.cells #[.slice (some ⟨w9.heap.size, 0, none⟩) 0 r0.length] 37)) (w9.heap.size + 1) 37 (.slice (some ⟨w9.heap.size, 0, none⟩) 0 r0.length) by
    have h := Boxed.new (w9.alloc (.cells (madeCells #[.int .i64 0] r0.length) 3)) 37 (.slice (some ⟨w9.heap.size, 0, none⟩) 0 r0.length)
    rw [World.size_alloc] at h
    exact h)
  have hb11 : Below w9.heap.size w9 ((w9.alloc (.cells (madeCells #[.int .i64 0] r0.length) 3)).alloc (.cells #[.slice (some ⟨w9.heap.size, 0, none⟩) 0 r0.length] 37)) := ((Below.refl _ w9).alloc (Nat.le_refl _) _).alloc (by simp) _
  have hz11 : ((w9.alloc (.cells (madeCells #[.int .i64 0] r0.length) 3)).alloc (.cells #[.slice (some ⟨w9.heap.size, 0, none⟩) 0 r0.length] 37)).heap.size = w9.heap.size + 2 := by rw [World.size_alloc, World.size_alloc]
  obtain ⟨w11, hw11⟩ : ∃ w11, w11 = ((w9.alloc (.cells (madeCells #[.int .i64 0] r0.length) 3)).alloc (.cells #[.slice (some ⟨w9.heap.size, 0, none⟩) 0 r0.length] 37)) := ⟨_, rfl⟩
  rw [← hw11] at OWN BX hb11 hz11
  have B9b := Lib.hid hb11
  have hs1 := size_any p1 r1.length (gridF r1) w11 ((G1.out.below B49.out G1.out.lt).below hb11 (Nat.lt_of_lt_of_le G1.out.lt B49.out.size)) hl1.2 ok1.gridN.some ok1.gridN.none
  clear hb11
  gi_wp2
  rw [← hw11]
  clear hw11 hmk
  refine ⟨trivial, (callsIn_wide.2 hs1).mono ?_⟩
  rintro e w12 ⟨rfl, hb12⟩
  have B912 := Lib.hid (B9b.out.trans (hb12.mono B9b.out.size))
  have OWN2 := Lib.hid (owns_below OWN.out hb12)
  have BX2 := Lib.hid (show Boxed w12 (w9.heap.size + 1) 37 (.slice (some ⟨w9.heap.size, 0, none⟩) 0 r0.length) from (hb12.block _ BX.out.lt).trans BX.out)
  have hz12 : w9.heap.size + 2 ≤ w12.heap.size := by have := hb12.size; omega
  have hck := chunks_any (some ⟨bx, ox, none⟩) x.length Cf r1.length w12 hl1.1 hl1.2
  clear hs1 hb12 hz11
  gi_wp2
  refine ⟨trivial, (callsIn_wide.2 hck).mono ?_⟩
  rintro e w14 ⟨rfl, hw14⟩
  clear hck
  have hzg : w9.heap.size ≤ w12.heap.size := by omega
  have hcA : w14.cell? ⟨w12.heap.size, 0, none⟩ = some (.slice (some ⟨bx, ox, none⟩) x.length Cf) := by rw [hw14]; exact cell_alloc_any (one_new w12 _ _) _
  have hcB : w14.cell? ⟨w12.heap.size + 1, 0, none⟩ = some (.int .i64 (r1.length : Int)) := by
    have h := one_new (w12.alloc (.cells #[.slice (some ⟨bx, ox, none⟩) x.length Cf] 37)) (.int .i64 (r1.length : Int)) 3
    rw [World.size_alloc] at h
    rw [hw14]
    exact h
  have hb14 : Below w12.heap.size w12 w14 := by rw [hw14]; exact ((Below.refl _ w12).alloc (Nat.le_refl _) _).alloc (by simp) _
  have hz14 : w14.heap.size = w12.heap.size + 2 := by rw [hw14, World.size_alloc, World.size_alloc]
  have OWN3 := Lib.hid (owns_below OWN2.out hb14)
  have BX3 := Lib.hid (show Boxed w14 (w9.heap.size + 1) 37 (.slice (some ⟨w9.heap.size, 0, none⟩) 0 r0.length) from (hb14.block _ BX2.out.lt).trans BX2.out)
  have B914 := Lib.hid (B912.out.trans (hb14.mono hzg))
  have hz79 := B79.out.size
  have B7W := Lib.hid (show ∀ W, Below w9.heap.size w14 W → Below w7.heap.size w7 W from fun W h => (B79.out.trans (B914.out.mono hz79)).trans (h.mono hz79))
  have hFB : w7.heap.size < w9.heap.size := cell_lt F0.out
  have S14 := Lib.hid (show ∀ W, Below w9.heap.size w14 W → W.cell? ⟨w7.heap.size, 0, none⟩ = some (.slice a1 mf C1) ∧ W.cell? ⟨w7.heap.size, 1, none⟩ = some (gridV p') from fun W h =>
    ⟨((B914.out.trans h).cell (p := ⟨w7.heap.size, 0, none⟩) hFB).trans F0.out, ((B914.out.trans h).cell (p := ⟨w7.heap.size, 1, none⟩) hFB).trans F1.out⟩)
  clear hw14 hb14
  gi_wp2
  refine wpIn_rangeFunc_ownG rfl (by omega) (gf := 71) (lb := #[.pointer (some ⟨w12.heap.size, 0, none⟩), .pointer (some ⟨w12.heap.size + 1, 0, none⟩)]) rfl trivial (enters_of Tryd.func71 (by kernel_rfl) rfl)
    (chunk1_stops _ w12.heap.size bx ox x.length Cf r0.length r1.length w14 (by omega) hl1.1 hl1.2 HXL.out hxl2 hCf HMF.out hcA hcB (Spare2 w9.heap.size w12.heap.size) (fun _ _ h i v hi hc => h.cells i v hi hc)) (fun h k => h.trans k) (Spare2.put (by omega) (by omega)) (Below.refl _ _) (fun _ => rfl)
    (fun pre W => (∃ v, Boxed W (w9.heap.size + 1) 37 v ∧ W.ownsRow w9.heap.size 3 1 v pre.length (cvals F x r1.length pre) ∧ v = .slice (some ⟨w9.heap.size, 0, none⟩) pre.length r0.length) ∧ Below w9.heap.size w14 W)
    (fun _ _ _ => False)
    (OwnFrom.and (Own.from (holdsRow_own w9.heap.size (w9.heap.size + 1) 37 3 1 (fun pre : List (Ck r0.length) => pre.length) (fun pre => cvals F x r1.length pre) (fun pre v => v = .slice (some ⟨w9.heap.size, 0, none⟩) pre.length r0.length)) _) (ownFrom_below (by omega) (by omega)))
    (fun _ _ _ _ _ hs _ _ => hs)
    ⟨⟨_, BX3.out, OWN3.out, rfl⟩, Below.refl _ _⟩
    ?a1 ?assign ?body ?done ?stop
  case assign =>
    intro ll kx W K hK
    unfold encC
    gi_wp2
    exact hK
  case body =>
    rintro ll pre kx W ⟨⟨v, hbx, hown, rfl⟩, hbw⟩ hlen
    obtain ⟨k, hk⟩ := kx
    dsimp only
    have hsw := hbw.size
    have BOX := Lib.hid hbx
    have HOWN := Lib.hid hown
    have HBW := Lib.hid hbw
    have BOXD := Lib.hid (show Boxed W.drew (w9.heap.size + 1) 37 (.slice (some ⟨w9.heap.size, 0, none⟩) pre.length r0.length) from hbx)
    have HIX := Lib.hid (show ∀ W', Below W.heap.size W W' → Calls Tryd.prog 41 #[.agg #[.slice a1 mf C1, gridV p'], .slice (some ⟨bx, ox + k * r1.length, none⟩) r1.length r1.length] W' (SaysJ (idxL F (chunk x r1.length k)) W') from fun W' hb =>
      have h1 := B7W.out W' (HBW.out.trans (hb.mono (by omega)))
      index_any p' _ _ F (chunk x r1.length k) W' (VF.out.below h1) (chunk_ints HXL.out hk (HF.out W' (H7.out.two.below.trans (h1.mono H7.out.two.below.size)))) HFA.out HFL.out)
    have SKEEP : Hid (∀ W', Below W.heap.size W W' → W'.cell? ⟨w7.heap.size, 0, none⟩ = some (.slice a1 mf C1) ∧ W'.cell? ⟨w7.heap.size, 1, none⟩ = some (gridV p')) := Lib.hid (fun W' hb => S14.out W' (HBW.out.trans (hb.mono (by omega))))
    have SK2 := Lib.hid (show ∀ X Y : World, (X.cell? ⟨w7.heap.size, 0, none⟩ = some (.slice a1 mf C1) ∧ X.cell? ⟨w7.heap.size, 1, none⟩ = some (gridV p')) → X.grownBy Y (some w9.heap.size) → (Y.cell? ⟨w7.heap.size, 0, none⟩ = some (.slice a1 mf C1) ∧ Y.cell? ⟨w7.heap.size, 1, none⟩ = some (gridV p')) from fun X Y h hg =>
      have hb := hg.block w7.heap.size (cell_lt h.1) (fun e => by injection e with e; omega)
      ⟨(World.cell?_of_block (a := ⟨w7.heap.size, 0, none⟩) hb).trans h.1, (World.cell?_of_block (a := ⟨w7.heap.size, 1, none⟩) hb).trans h.2⟩)
    have SK3 := Lib.hid (show ∀ (X : World) u, (X.cell? ⟨w7.heap.size, 0, none⟩ = some (.slice a1 mf C1) ∧ X.cell? ⟨w7.heap.size, 1, none⟩ = some (gridV p')) → ((X.setCell ⟨w9.heap.size + 1, 0, none⟩ u).cell? ⟨w7.heap.size, 0, none⟩ = some (.slice a1 mf C1) ∧ (X.setCell ⟨w9.heap.size + 1, 0, none⟩ u).cell? ⟨w7.heap.size, 1, none⟩ = some (gridV p')) from fun X u h =>
      ⟨(World.cell?_setCell_other X ⟨w9.heap.size + 1, 0, none⟩ ⟨w7.heap.size, 0, none⟩ u (fun e => by injection e with e; omega)).trans h.1, (World.cell?_setCell_other X ⟨w9.heap.size + 1, 0, none⟩ ⟨w7.heap.size, 1, none⟩ u (fun e => by injection e with e; omega)).trans h.2⟩)
    have BODY := Lib.hid (show ∀ (W4 W6 : World) (tmp : Obj), Below W.heap.size W W4 → (W4.alloc tmp).grownBy W6 (some w9.heap.size) → W6.ownsRow w9.heap.size 3 1 (.slice (some ⟨w9.heap.size, 0, none⟩) (pre.length + 1) r0.length) (pre.length + 1) (cvals F x r1.length pre ++ [.int .i64 (idxL F (chunk x r1.length k))]) →
        KeepsFrom w14.heap.size W (W6.setCell ⟨w9.heap.size + 1, 0, none⟩ (.slice (some ⟨w9.heap.size, 0, none⟩) (pre.length + 1) r0.length)) ∧ Spare2 w9.heap.size w12.heap.size W (W6.setCell ⟨w9.heap.size + 1, 0, none⟩ (.slice (some ⟨w9.heap.size, 0, none⟩) (pre.length + 1) r0.length)) ∧
        (∃ v, Boxed (W6.setCell ⟨w9.heap.size + 1, 0, none⟩ (.slice (some ⟨w9.heap.size, 0, none⟩) (pre.length + 1) r0.length)) (w9.heap.size + 1) 37 v ∧ (W6.setCell ⟨w9.heap.size + 1, 0, none⟩ (.slice (some ⟨w9.heap.size, 0, none⟩) (pre.length + 1) r0.length)).ownsRow w9.heap.size 3 1 v (pre ++ [(⟨k, hk⟩ : Ck r0.length)]).length (cvals F x r1.length (pre ++ [(⟨k, hk⟩ : Ck r0.length)])) ∧ v = .slice (some ⟨w9.heap.size, 0, none⟩) (pre ++ [(⟨k, hk⟩ : Ck r0.length)]).length r0.length) ∧
        Below w9.heap.size w14 (W6.setCell ⟨w9.heap.size + 1, 0, none⟩ (.slice (some ⟨w9.heap.size, 0, none⟩) (pre.length + 1) r0.length)) from fun W4 W6 tmp hb hg ho => by
      have hs4 := hb.size
      have hbx4 : Boxed W4 (w9.heap.size + 1) 37 (.slice (some ⟨w9.heap.size, 0, none⟩) pre.length r0.length) := (hb.block _ BOX.out.lt).trans BOX.out
      obtain ⟨_, e2, e3, e4, e5⟩ := Boxed.appended (W := W4) (w1 := W6) (tmp := tmp) hbx4 (Ne.symm int_ne) (owns_below HOWN.out hb) (by omega) (by omega) ho hg
      have hbg : Below w9.heap.size W (W6.setCell ⟨w9.heap.size + 1, 0, none⟩ (.slice (some ⟨w9.heap.size, 0, none⟩) (pre.length + 1) r0.length)) := (hb.mono (by omega)).trans e5
      refine ⟨((keeps_below hb).trans e4).from _, ⟨hbg, fun i hi => ?_⟩, ⟨_, e2, ?_, by rw [List.length_append]; rfl⟩, HBW.out.trans hbg⟩
      · rw [heap_setCell_other W6 ⟨w9.heap.size + 1, 0, none⟩ _ _ (show w12.heap.size + i ≠ w9.heap.size + 1 by omega)]
        refine (hg.block _ (by rw [World.size_alloc]; omega) (fun e => by injection e with e; omega)).trans ?_
        exact (Below.heap_alloc W4 tmp _ (by omega)).trans (hb.block _ (by omega))
      · rw [cvals_snoc, List.length_append]
        exact e3)
    clear hbx hown hbw
    gi_wp2
    refine held_round (S := fun W' : World => W'.cell? ⟨w7.heap.size, 0, none⟩ = some (.slice a1 mf C1) ∧ W'.cell? ⟨w7.heap.size, 1, none⟩ = some (gridV p')) (by kernel_rfl) ?hlet (by kernel_rfl) (SKEEP.out _ (below_drew W _)) (fun hHeld => ?_)
    case hlet => rintro ⟨a', w', h⟩; exact h
    refine' wpAnyH_take (i := 1) (oi := ?oo1_1) (v := ?vv1_1) ?hi1_1 (by kernel_rfl) (by kernel_rfl) (by kernel_rfl) ?hq1_1 (Or.inl ⟨?hw1_1, ?hy1_1⟩) hHeld ?rest1_1
    case hi1_1 => simp only [List.getElem?_toArray, List.getElem?_cons_succ, List.getElem?_cons_zero]; rfl
    case hq1_1 => exact fun _ _ _ h => h
    case hw1_1 => rfl
    case hy1_1 => intro w hSw; (try dsimp only at hSw); go_simp; try (with_reducible rfl)
    try simp only [Act.put, List.setIfInBounds_toArray, List.set_cons_zero, List.set_cons_succ]
    refine' wpAnyH_take (i := 2) (oi := ?oo2_2) (v := ?vv2_2) ?hi2_2 (by kernel_rfl) (by kernel_rfl) (by kernel_rfl) ?hq2_2 (Or.inl ⟨?hw2_2, ?hy2_2⟩) hHeld ?rest2_2
    case hi2_2 => simp only [List.getElem?_toArray, List.getElem?_cons_succ, List.getElem?_cons_zero]; rfl
    case hq2_2 => exact fun _ _ _ h => h
    case hw2_2 => rfl
    case hy2_2 => intro w hSw; (try dsimp only at hSw); go_simp; try (with_reducible rfl)
    try simp only [Act.put, List.setIfInBounds_toArray, List.set_cons_zero, List.set_cons_succ]
    refine wpAnyH_ready (rs := [0, 3]) (by kernel_rfl) (by simp) ?_
    refine' (AllReadyH.cons (o := ?ok3_0) ?hk3_0 (fun K hK => ?st3_0) (AllReadyH.cons (o := ?ok3_3) ?hk3_3 (fun K hK => ?st3_3) AllReadyH.nil))
    case hk3_0 => simp only [List.getElem?_toArray, List.getElem?_cons_zero]; rfl
    case hk3_3 => simp only [List.getElem?_toArray, List.getElem?_cons_succ, List.getElem?_cons_zero]; rfl
    case st3_0 =>
      have hcz := BOXD.out.cell
      go_simp
      clear hcz
      refine hK.out _ _ (hHeld) (fun hHeld => ?_)
      clear hK K
      try simp only [Act.put, List.setIfInBounds_toArray, List.set_cons_zero, List.set_cons_succ]
      refine wpAnyH_ready (rs := [3]) (by kernel_rfl) (by simp) ?_
      refine' (AllReadyH.cons (o := ?ok4_3) ?hk4_3 (fun K hK => ?st4_3) AllReadyH.nil)
      case hk4_3 => simp only [List.getElem?_toArray, List.getElem?_cons_succ, List.getElem?_cons_zero]; rfl
      case st4_3 =>
        go_simp
        go_at_call 41
        refine (HIX.out _ (below_drew W _)).mono ?_
        rintro e W4 ⟨rfl, hb4⟩
        have B4 := Lib.hid ((below_drew W _).trans hb4)
        have Z4 := Lib.hid (show Boxed W4 (w9.heap.size + 1) 37 (.slice (some ⟨w9.heap.size, 0, none⟩) pre.length r0.length) from (hb4.block _ BOX.out.lt).trans BOX.out)
        have hS4 := SKEEP.out _ B4.out
        clear hb4
        go_wp2_with fail
        refine hK.out _ _ (hS4) (fun hHeld => ?_)
        clear hK K
        try simp only [Act.put, List.setIfInBounds_toArray, List.set_cons_zero, List.set_cons_succ]
        refine wpAnyH_ready (rs := [4]) (by kernel_rfl) (by simp) ?_
        refine' (AllReadyH.cons (o := ?ok5_4) ?hk5_4 (fun K hK => ?st5_4) AllReadyH.nil)
        case hk5_4 => simp only [List.getElem?_toArray, List.getElem?_cons_succ, List.getElem?_cons_zero]; rfl
        case st5_4 =>
          go_simp
          have Z5 := Lib.hid (Z4.out.alloc (.cells #[.int .i64 (idxL F (chunk x r1.length k))] 3))
          have B5 := Lib.hid (B4.out.alloc B4.out.size (.cells #[.int .i64 (idxL F (chunk x r1.length k))] 3))
          have hS5 := SKEEP.out _ B5.out
          refine hK.out _ _ (hS5) (fun hHeld => ?_)
          clear hK K
          try simp only [Act.put, List.setIfInBounds_toArray, List.set_cons_zero, List.set_cons_succ]
          refine wpAnyH_ready (rs := [5]) (by kernel_rfl) (by simp) ?_
          refine' (AllReadyH.cons (o := ?ok6_5) ?hk6_5 (fun K hK => ?st6_5) AllReadyH.nil)
          case hk6_5 => simp only [List.getElem?_toArray, List.getElem?_cons_succ, List.getElem?_cons_zero]; rfl
          case st6_5 =>
            refine step_append_fits rfl _ _ 37 rfl w9.heap.size 3 i0 1 Tryd.underlying37 hi0 hz1 w9.heap.size pre.length r0.length (cvals F x r1.length pre) (by rfl) (owns_below HOWN.out B5.out) ⟨W4.heap.size, 0, none⟩ 1 1 [.int .i64 (idxL F (chunk x r1.length k))] (by rfl) rfl (World.news_of_block (heap_alloc_new W4 _)) (by simp [Value.oneCell']) (by omega) ?_
            intro w6 hown6 hgrow6
            have Z6 := Lib.hid (Z5.out.kept hgrow6 (by simp))
            have hS6 := SK2.out _ _ hS5 hgrow6
            have HO6 := Lib.hid hown6
            have HG6 := Lib.hid hgrow6
            clear hown6 hgrow6
            refine hK.out _ _ (hS6) (fun hHeld => ?_)
            clear hK K
            try simp only [Act.put, List.setIfInBounds_toArray, List.set_cons_zero, List.set_cons_succ]
            refine wpAnyH_ready (rs := [6]) (by kernel_rfl) (by simp) ?_
            refine' (AllReadyH.cons (o := ?ok7_6) ?hk7_6 (fun K hK => ?st7_6) AllReadyH.nil)
            case hk7_6 => simp only [List.getElem?_toArray, List.getElem?_cons_succ, List.getElem?_cons_zero]; rfl
            case st7_6 =>
              have hcz := Z6.out.cell
              have hfz := Z6.out.frozen
              go_simp
              clear hcz hfz
              have hS7 := SK3.out _ (.slice (some ⟨w9.heap.size, 0, none⟩) (pre.length + 1) r0.length) hS6
              refine hK.out _ _ (hS7) (fun hHeld => ?_)
              clear hK K
              try simp only [Act.put, List.setIfInBounds_toArray, List.set_cons_zero, List.set_cons_succ]
              refine wpAnyH_done (by kernel_rfl) ?_ _
              gi_wp2
              exact BODY.out W4 _ _ B4.out HG6.out HO6.out
    case st3_3 =>
      go_simp
      go_at_call 41
      refine (HIX.out _ (below_drew W _)).mono ?_
      rintro e W4 ⟨rfl, hb4⟩
      have B4 := Lib.hid ((below_drew W _).trans hb4)
      have Z4 := Lib.hid (show Boxed W4 (w9.heap.size + 1) 37 (.slice (some ⟨w9.heap.size, 0, none⟩) pre.length r0.length) from (hb4.block _ BOX.out.lt).trans BOX.out)
      have hS4 := SKEEP.out _ B4.out
      clear hb4
      go_wp2_with fail
      refine hK.out _ _ (hS4) (fun hHeld => ?_)
      clear hK K
      try simp only [Act.put, List.setIfInBounds_toArray, List.set_cons_zero, List.set_cons_succ]
      refine wpAnyH_ready (rs := [0, 4]) (by kernel_rfl) (by simp) ?_
      refine' (AllReadyH.cons (o := ?ok8_0) ?hk8_0 (fun K hK => ?st8_0) (AllReadyH.cons (o := ?ok8_4) ?hk8_4 (fun K hK => ?st8_4) AllReadyH.nil))
      case hk8_0 => simp only [List.getElem?_toArray, List.getElem?_cons_zero]; rfl
      case hk8_4 => simp only [List.getElem?_toArray, List.getElem?_cons_succ, List.getElem?_cons_zero]; rfl
      case st8_0 =>
        have hcz := Z4.out.cell
        go_simp
        clear hcz
        refine hK.out _ _ (hHeld) (fun hHeld => ?_)
        clear hK K
        try simp only [Act.put, List.setIfInBounds_toArray, List.set_cons_zero, List.set_cons_succ]
        refine wpAnyH_ready (rs := [4]) (by kernel_rfl) (by simp) ?_
        refine' (AllReadyH.cons (o := ?ok9_4) ?hk9_4 (fun K hK => ?st9_4) AllReadyH.nil)
        case hk9_4 => simp only [List.getElem?_toArray, List.getElem?_cons_succ, List.getElem?_cons_zero]; rfl
        case st9_4 =>
          go_simp
          have Z5 := Lib.hid (Z4.out.alloc (.cells #[.int .i64 (idxL F (chunk x r1.length k))] 3))
          have B5 := Lib.hid (B4.out.alloc B4.out.size (.cells #[.int .i64 (idxL F (chunk x r1.length k))] 3))
          have hS5 := SKEEP.out _ B5.out
          refine hK.out _ _ (hS5) (fun hHeld => ?_)
          clear hK K
          try simp only [Act.put, List.setIfInBounds_toArray, List.set_cons_zero, List.set_cons_succ]
          refine wpAnyH_ready (rs := [5]) (by kernel_rfl) (by simp) ?_
          refine' (AllReadyH.cons (o := ?ok10_5) ?hk10_5 (fun K hK => ?st10_5) AllReadyH.nil)
          case hk10_5 => simp only [List.getElem?_toArray, List.getElem?_cons_succ, List.getElem?_cons_zero]; rfl
          case st10_5 =>
            refine step_append_fits rfl _ _ 37 rfl w9.heap.size 3 i0 1 Tryd.underlying37 hi0 hz1 w9.heap.size pre.length r0.length (cvals F x r1.length pre) (by rfl) (owns_below HOWN.out B5.out) ⟨W4.heap.size, 0, none⟩ 1 1 [.int .i64 (idxL F (chunk x r1.length k))] (by rfl) rfl (World.news_of_block (heap_alloc_new W4 _)) (by simp [Value.oneCell']) (by omega) ?_
            intro w6 hown6 hgrow6
            have Z6 := Lib.hid (Z5.out.kept hgrow6 (by simp))
            have hS6 := SK2.out _ _ hS5 hgrow6
            have HO6 := Lib.hid hown6
            have HG6 := Lib.hid hgrow6
            clear hown6 hgrow6
            refine hK.out _ _ (hS6) (fun hHeld => ?_)
            clear hK K
            try simp only [Act.put, List.setIfInBounds_toArray, List.set_cons_zero, List.set_cons_succ]
            refine wpAnyH_ready (rs := [6]) (by kernel_rfl) (by simp) ?_
            refine' (AllReadyH.cons (o := ?ok11_6) ?hk11_6 (fun K hK => ?st11_6) AllReadyH.nil)
            case hk11_6 => simp only [List.getElem?_toArray, List.getElem?_cons_succ, List.getElem?_cons_zero]; rfl
            case st11_6 =>
              have hcz := Z6.out.cell
              have hfz := Z6.out.frozen
              go_simp
              clear hcz hfz
              have hS7 := SK3.out _ (.slice (some ⟨w9.heap.size, 0, none⟩) (pre.length + 1) r0.length) hS6
              refine hK.out _ _ (hS7) (fun hHeld => ?_)
              clear hK K
              try simp only [Act.put, List.setIfInBounds_toArray, List.set_cons_zero, List.set_cons_succ]
              refine wpAnyH_done (by kernel_rfl) ?_ _
              gi_wp2
              exact BODY.out W4 _ _ B4.out HG6.out HO6.out
      case st8_4 =>
        go_simp
        have Z5 := Lib.hid (Z4.out.alloc (.cells #[.int .i64 (idxL F (chunk x r1.length k))] 3))
        have B5 := Lib.hid (B4.out.alloc B4.out.size (.cells #[.int .i64 (idxL F (chunk x r1.length k))] 3))
        have hS5 := SKEEP.out _ B5.out
        refine hK.out _ _ (hS5) (fun hHeld => ?_)
        clear hK K
        try simp only [Act.put, List.setIfInBounds_toArray, List.set_cons_zero, List.set_cons_succ]
        refine wpAnyH_ready (rs := [0]) (by kernel_rfl) (by simp) ?_
        refine' (AllReadyH.cons (o := ?ok12_0) ?hk12_0 (fun K hK => ?st12_0) AllReadyH.nil)
        case hk12_0 => simp only [List.getElem?_toArray, List.getElem?_cons_zero]; rfl
        case st12_0 =>
          have hcz := Z5.out.cell
          go_simp
          clear hcz
          refine hK.out _ _ (hHeld) (fun hHeld => ?_)
          clear hK K
          try simp only [Act.put, List.setIfInBounds_toArray, List.set_cons_zero, List.set_cons_succ]
          refine wpAnyH_ready (rs := [5]) (by kernel_rfl) (by simp) ?_
          refine' (AllReadyH.cons (o := ?ok13_5) ?hk13_5 (fun K hK => ?st13_5) AllReadyH.nil)
          case hk13_5 => simp only [List.getElem?_toArray, List.getElem?_cons_succ, List.getElem?_cons_zero]; rfl
          case st13_5 =>
            refine step_append_fits rfl _ _ 37 rfl w9.heap.size 3 i0 1 Tryd.underlying37 hi0 hz1 w9.heap.size pre.length r0.length (cvals F x r1.length pre) (by rfl) (owns_below HOWN.out B5.out) ⟨W4.heap.size, 0, none⟩ 1 1 [.int .i64 (idxL F (chunk x r1.length k))] (by rfl) rfl (World.news_of_block (heap_alloc_new W4 _)) (by simp [Value.oneCell']) (by omega) ?_
            intro w6 hown6 hgrow6
            have Z6 := Lib.hid (Z5.out.kept hgrow6 (by simp))
            have hS6 := SK2.out _ _ hS5 hgrow6
            have HO6 := Lib.hid hown6
            have HG6 := Lib.hid hgrow6
            clear hown6 hgrow6
            refine hK.out _ _ (hS6) (fun hHeld => ?_)
            clear hK K
            try simp only [Act.put, List.setIfInBounds_toArray, List.set_cons_zero, List.set_cons_succ]
            refine wpAnyH_ready (rs := [6]) (by kernel_rfl) (by simp) ?_
            refine' (AllReadyH.cons (o := ?ok14_6) ?hk14_6 (fun K hK => ?st14_6) AllReadyH.nil)
            case hk14_6 => simp only [List.getElem?_toArray, List.getElem?_cons_succ, List.getElem?_cons_zero]; rfl
            case st14_6 =>
              have hcz := Z6.out.cell
              have hfz := Z6.out.frozen
              go_simp
              clear hcz hfz
              have hS7 := SK3.out _ (.slice (some ⟨w9.heap.size, 0, none⟩) (pre.length + 1) r0.length) hS6
              refine hK.out _ _ (hS7) (fun hHeld => ?_)
              clear hK K
              try simp only [Act.put, List.setIfInBounds_toArray, List.set_cons_zero, List.set_cons_succ]
              refine wpAnyH_done (by kernel_rfl) ?_ _
              gi_wp2
              exact BODY.out W4 _ _ B4.out HG6.out HO6.out
  case done =>
    rintro D ys W hD hys ⟨⟨v, hbx, hown, rfl⟩, hB⟩ hK
    have hlen := ckN_len hys
    rw [hlen, cvals_all hys] at hown
    rw [hlen] at hbx
    have hwD : w.heap.size ≤ D := by have := H7.out.two.below.size; have := B914.out.size; omega
    have hc := hbx.cell
    have HROW := Lib.hid hown
    have HBB := Lib.hid hB
    clear hown hB hbx
    gi_wp2
    refine ⟨by simp, .inl ⟨_, _, rfl, run_takeDeferred hK, ?_⟩⟩
    have ho := ownsRow_putObj HROW.out (.deferred none) hK rfl
    have hw9 : w.heap.size ≤ w9.heap.size := by have := H7.out.two.below.size; omega
    refine ⟨.tuple #[.slice (some ⟨w9.heap.size, 0, none⟩) r0.length r0.length, .bool true], by simp [results, Tryd.f26, go_sem], _, by rw [HYES.out], ?_, ?_⟩
    · rw [HCL.out, ← HFE.out]
      refine (OwnI.of_owns (by rw [curX_len]; exact ho) (fun y hy => ?_) (fun b hb => (ho.lt b hb).2)).wider hw9 (Nat.le_refl _)
      unfold curX at hy
      obtain ⟨i, _, rfl⟩ := List.mem_map.1 hy
      exact wf_idx F (chunk x r1.length i) HFL.out
    · exact (H7.out.two.below.trans (((B7W.out W HBB.out)).mono H7.out.two.below.size)).trans (belowK_b (w := w) (Nat.le_refl _) W D _ _ (by omega) hK rfl rfl)
  case stop =>
    rintro D c pre W _ _ h _
    exact h.elim

theorem implCur_any (v v' v2 vf : Value) (r0 r1 r2 : Rows2) (x : List Int) (w : World) (hv : RowsAt w v r0) (hv' : RowsAt w v' r1) (hv2 : RowsAt w v2 r2) (hf : IntsAt w vf x) (hT : Tab w) (hn : bulk r0 ≤ 1048576) (hn' : bulk r1 ≤ 1048576) (hn2 : bulk r2 ≤ 1048576) :
    Calls Tryd.prog 26 #[.agg #[v], .agg #[v'], .agg #[v2], vf] w (OwnB (curL r0 r1 r2 x) (curB r0 r1 r2 x) w) := by
  cases h : curB r0 r1 r2 x with
  | false => have k := implCur_no v v' v2 vf r0 r1 r2 x w hv hv' hv2 hf hT hn hn' hn2 h; rw [h] at k; exact k
  | true => have k := implCur_yes v v' v2 vf r0 r1 r2 x w hv hv' hv2 hf hT hn hn' hn2 h; rw [h] at k; exact k
end Go.Proofs.YtkhhbpeheikmfaaDoor

/- The walks of rowsOf and built at lift. -/
namespace Go.Proofs.YtkhhbpeheikmfaaDoor
open Go.RowKit Go.Deep Go.Shelf

end Go.Proofs.YtkhhbpeheikmfaaDoor

/- The program's DomainLift. -/
namespace Go.Proofs.YtkhhbpeheikmfaaDoor
open Go.RowKit Go.Deep Go.Shelf

/-- What row a holds when b elements have been looked at. -/
def liftRow (g : Nat → Nat) (a b : Nat) : List Int := ((List.range b).filter fun k => liftB g a k).map fun k : Nat => (k : Int)
theorem liftRow_len (g : Nat → Nat) (a b : Nat) : (liftRow g a b).length ≤ b := by
  unfold liftRow
  rw [List.length_map]
  have := List.length_filter_le (fun k => liftB g a k) (List.range b)
  simpa using this
theorem lift_refl {rows : Rows2} (hok : Ok rows) : ∀ q, q < rows.length + 1 → liftB (gridF rows) q q = true := fun q hq => by
  unfold liftB
  by_cases h0 : q = 0
  · rw [decide_eq_true h0]; rfl
  · rw [hok.own (q - 1) (by omega), decide_eq_true (show 0 < q by omega)]
    simp
/-- What DomainLift answers. -/
noncomputable def liftOk (rows : Rows2) : Bool := domB rows && decide (rows.length < 200)
noncomputable def liftL (rows : Rows2) : Rows2 := if liftOk rows = true then (List.range (rows.length + 1)).map fun q => liftRow (gridF rows) q (rows.length + 1) else []
theorem liftL_yes {rows : Rows2} (h : liftOk rows = true) : (liftL rows).length = rows.length + 1 ∧ ∀ q, q < rows.length + 1 → rowsF (liftL rows) q = liftRow (gridF rows) q (rows.length + 1) := by
  unfold liftL
  rw [if_pos h]
  refine ⟨by simp, fun q hq => ?_⟩
  rw [rowsF_lt (by simpa using hq)]
  simp
theorem liftL_no {rows : Rows2} (h : liftOk rows = false) : liftL rows = [] := by unfold liftL; rw [if_neg (by rw [h]; simp)]

end Go.Proofs.YtkhhbpeheikmfaaDoor

/- The model's l2Moved: a list, each number moved on. -/
namespace Go.Proofs.YtkhhbpeheikmfaaDoor
open Go.RowKit Go.Deep

/-- The first k numbers, each moved on. -/
def movedN (xs : List Int) (by' : Int) (k : Nat) : List Int := (xs.take k).map fun x => x + by'
theorem movedN_length {xs : List Int} {y : Int} {k : Nat} (h : k ≤ xs.length) : (movedN xs y k).length = k := by unfold movedN; simp; omega
theorem movedN_succ {xs : List Int} {y : Int} {k : Nat} (h : k < xs.length) : movedN xs y (k + 1) = movedN xs y k ++ [xs[k] + y] := by
  unfold movedN
  rw [List.take_succ_eq_append_getElem h, List.map_append]
  rfl

set_option maxRecDepth 100000 in
set_option maxHeartbeats 4000000 in
theorem l2Moved_any (v : Value) (xs : List Int) (y : Int) (w : World) (hv : IntsAt w v xs) (hn : xs.length ≤ 1048576) (hr : ∀ x ∈ xs, 0 ≤ x + y ∧ x + y ≤ 1048576) :
    Calls Tryd.prog 66 #[v, .int .i64 y] w (OwnQ (movedN xs y xs.length) w) := by
  have HFA := Lib.hid (fun W (h : Below w.heap.size w W) => (by
    obtain ⟨a, C, e, h1, h2, h3, h4⟩ := hv
    exact ⟨a, C, e, h1, h2, h3, fun i hi => by
      obtain ⟨b, o, ea, hc⟩ := h4 i hi
      exact ⟨b, o, ea, (h.cell (p := ⟨b, o + i, none⟩) (cell_lt hc)).trans hc⟩⟩ : IntsAt W v xs))
  obtain ⟨A, C, rfl, hC, hm, _⟩ := hv
  unfold maxLen at hm
  obtain ⟨i0, hi0, hz0, hz1, hz2⟩ := info_parts infoInt
  have HO := Lib.hid (World.ownsRow_made (e := 3) (size := 1) w #[] 0 (base := w.heap.size) (Nat.le_refl _) (Nat.zero_le _) (by simp))
  have HB0 := Lib.hid ((Below.refl w.heap.size w).alloc (Nat.le_refl _) (.cells #[] 3))
  have HR := Lib.hid hr
  clear hr
  go_enter Tryd.func66, Tryd.ntmps66
  go_wp2
  go_loopw [5, 6] (fun ov kv wr => ∃ k : Nat, k ≤ xs.length ∧ kv = .int .i64 k ∧ wr.ownsRow w.heap.size 3 1 ov (movedN xs y k).length (cellsI (movedN xs y k)) ∧ Below w.heap.size w wr) (fun _ kv _ => xs.length - (intOf kv).toNat)
  case atStart => exact ⟨0, Nat.zero_le _, rfl, by unfold movedN; simpa using HO.out, HB0.out⟩
  case round =>
    obtain ⟨k, hk, rfl, hown, hB⟩ := hrel
    have HOWN := Lib.hid hown
    have HB := Lib.hid hB
    have hcl := Nat.le_of_eq (movedN_length (y := y) hk)
    clear hown hB HO HB0
    by_cases hlt : k < xs.length
    · obtain ⟨b1, o1, rfl, hcf⟩ := (HFA.out wr HB.out).get hlt
      have hr := HR.out _ (List.getElem_mem hlt)
      have hwr : IntKind.i64.wrap (xs[k] + y) = xs[k] + y := IntWalk.i64_in _ (by omega)
      have hbz := HB.out.size
      clear hr
      go_wp2_with (at_builtin; refine wpList_append_own _ rfl _ _ 37 rfl w.heap.size 3 i0 (.int .i64 0) 1 8 Tryd.underlying37 hi0 hz0 hz1 hz2 rfl (by decide) _ _ _ rfl (HOWN.out.alloc _) ⟨wr.heap.size, 0, none⟩ 1 1 [.int .i64 (xs[k] + y)] rfl rfl (cell_one_new _ _ _) (by simp [Value.oneCell']) (by unfold maxLen; omega) (by omega) (by simp; omega) ?_; intro v' w1 hown' hgrow _)
      go_roundw
      case rel =>
        refine ⟨k + 1, by omega, by go_num, ?_, (HB.out.alloc HB.out.size _).grown hgrow (by rw [World.size_alloc]; omega) (fun b e => (HOWN.out.lt b e).1)⟩
        rw [movedN_succ hlt, List.length_append, show cellsI (movedN xs y k ++ [xs[k] + y]) = cellsI (movedN xs y k) ++ [.int .i64 (xs[k] + y)] by simp]
        exact hown'
      case measure => simp [intOf]; omega
    · obtain rfl : k = xs.length := by omega
      go_wp2
      go_ret
      refine ⟨_, rfl, OwnI.of_owns HOWN.out ?_ (fun b hb => (HOWN.out.lt b hb).2), HB.out⟩
      intro z hz
      unfold movedN at hz
      rw [List.take_length] at hz
      obtain ⟨x, hx, rfl⟩ := List.mem_map.1 hz
      exact wf_int (HR.out x hx).1 (HR.out x hx).2
end Go.Proofs.YtkhhbpeheikmfaaDoor

/- The rows of a lift, in numbers: the first one full, the others moved on by one. -/
namespace Go.Proofs.YtkhhbpeheikmfaaDoor
open Go.RowKit Go.Deep

theorem liftRow_first (g : Nat → Nat) (N : Nat) : liftRow g 0 N = (List.range N).map fun k : Nat => (k : Int) := by
  unfold liftRow
  rw [List.filter_eq_self.2 (fun k _ => by unfold liftB; rfl)]
theorem filter_short {p : Nat → Bool} {n m : Nat} (h : ∀ k, p k = true → k < n) (hm : n ≤ m) : (List.range m).filter p = (List.range n).filter p := by
  obtain ⟨d, rfl⟩ : ∃ d, m = n + d := ⟨m - n, by omega⟩
  rw [List.range_add, List.filter_append]
  have e : ((List.range d).map fun x => n + x).filter p = [] := by
    rw [List.filter_eq_nil_iff]
    intro x hx hp
    obtain ⟨y, _, rfl⟩ := List.mem_map.1 hx
    have := h _ hp
    omega
  rw [e, List.append_nil]
theorem liftRow_next {rows : Rows2} (h : Ok rows) {i : Nat} (hi : i < rows.length) : liftRow (gridF rows) (i + 1) (rows.length + 1) = movedN rows[i] 1 rows[i].length := by
  unfold liftRow movedN
  rw [List.take_length, h.elems hi, List.range_succ_eq_map, List.filter_cons]
  have e0 : liftB (gridF rows) (i + 1) 0 = false := by unfold liftB; simp
  rw [e0, if_neg (by simp), List.filter_map]
  have e1 : (List.range rows.length).filter ((fun k => liftB (gridF rows) (i + 1) k) ∘ Nat.succ) = (List.range rows.length).filter (fun k => (gridF rows i).testBit k) := by
    congr 1
  have e2 : elems (gridF rows i) = (List.range rows.length).filter (fun k => (gridF rows i).testBit k) := by
    unfold elems
    exact filter_short (fun k hk => (h.bit_lt hk).2) (by have := h.len.2; omega)
  rw [e1, e2, List.map_map, List.map_map]
  apply List.map_congr_left
  intro k _
  simp
end Go.Proofs.YtkhhbpeheikmfaaDoor

/- The rows of a product, in the model's words and in the program's. -/
namespace Go.Proofs.YtkhhbpeheikmfaaDoor
open Go.RowKit Go.Deep

theorem flat_filterR {α β : Type} (G : α → Bool) (f : α → List β) : ∀ xs : List α, (xs.filter G).flatMap f = xs.flatMap fun j => if G j = true then f j else []
  | [] => rfl
  | x :: xs => by
    rw [List.filter_cons]
    cases h : G x with
    | true => rw [if_pos rfl, List.flatMap_cons, List.flatMap_cons, flat_filterR G f xs, if_pos h]
    | false => rw [if_neg (by simp), List.flatMap_cons, flat_filterR G f xs, if_neg (by rw [h]; simp), List.nil_append]
theorem range_flat {n' : Nat} (hn : 0 < n') (G H : Nat → Bool) : ∀ m, (List.range (m * n')).filter (fun k => G (k / n') && H (k % n')) = (List.range m).flatMap fun j => if G j = true then ((List.range n').filter H).map (fun r => j * n' + r) else []
  | 0 => by simp
  | m + 1 => by
    rw [Nat.succ_mul, List.range_add, List.filter_append, range_flat hn G H m, List.range_succ, List.flatMap_append]
    congr 1
    rw [List.flatMap_cons, List.flatMap_nil, List.append_nil, List.filter_map]
    have h : ∀ r ∈ List.range n', ((fun k => G (k / n') && H (k % n')) ∘ fun x => m * n' + x) r = (G m && H r) := fun r hr => by
      rw [List.mem_range] at hr
      show (G ((m * n' + r) / n') && H ((m * n' + r) % n')) = _
      rw [Nat.add_comm, Nat.add_mul_div_right _ _ hn, Nat.add_mul_mod_self_right, Nat.div_eq_of_lt hr, Nat.mod_eq_of_lt hr, Nat.zero_add]
    rw [List.filter_congr h]
    cases hG : G m with
    | true => simp
    | false => simp

/-- Row q of the product when i elements of the first one's row have been looked at. -/
def catP (rows rows' : Rows2) (q i : Nat) : List Int := ((rowsF rows (q / rows'.length)).take i).flatMap fun x => movedN (rowsF rows' (q % rows'.length)) (x * (rows'.length : Int)) (rowsF rows' (q % rows'.length)).length
def prodR (rows rows' : Rows2) (q : Nat) : List Int := catP rows rows' q (rowsF rows (q / rows'.length)).length
theorem elems_row {rows : Rows2} (h : Ok rows) {i : Nat} (hi : i < rows.length) : rowsF rows i = ((List.range rows.length).filter fun k => (gridF rows i).testBit k).map fun k : Nat => (k : Int) := by
  rw [rowsF_lt hi, h.elems hi]
  congr 1
  unfold elems
  exact filter_short (fun k hk => (h.bit_lt hk).2) (by have := h.len.2; omega)
theorem prodR_row {rows rows' : Rows2} (h : Ok rows) (h' : Ok rows') {q : Nat} (hq : q < rows.length * rows'.length) : prodR rows rows' q = prodRow rows rows' q := by
  have hn := h'.len.1
  have hqa : q / rows'.length < rows.length := Nat.div_lt_of_lt_mul (by rw [Nat.mul_comm]; exact hq)
  have hra : q % rows'.length < rows'.length := Nat.mod_lt _ (by omega)
  unfold prodR catP prodRow bRow prodB movedN
  rw [List.take_length, List.take_length, elems_row h hqa, elems_row h' hra, List.flatMap_map, flat_filterR, range_flat (by omega) (fun k => (gridF rows (q / rows'.length)).testBit k) (fun k => (gridF rows' (q % rows'.length)).testBit k), List.map_flatMap]
  congr 1
  funext j
  by_cases hb : (gridF rows (q / rows'.length)).testBit j = true
  · rw [if_pos hb, if_pos hb, List.map_map, List.map_map]
    apply List.map_congr_left
    intro r _
    show (r : Int) + (j : Int) * (rows'.length : Int) = ((j * rows'.length + r : Nat) : Int)
    rw [Int.natCast_add, Int.natCast_mul, Int.add_comm]
  · rw [if_neg hb, if_neg hb]
    rfl
theorem catP_succ {rows rows' : Rows2} {q i : Nat} (hi : i < (rowsF rows (q / rows'.length)).length) : catP rows rows' q (i + 1) = catP rows rows' q i ++ movedN (rowsF rows' (q % rows'.length)) ((rowsF rows (q / rows'.length))[i] * (rows'.length : Int)) (rowsF rows' (q % rows'.length)).length := by
  unfold catP
  rw [List.take_succ_eq_append_getElem hi, List.flatMap_append]
  simp
theorem catP_len {rows rows' : Rows2} {q : Nat} : ∀ i, i ≤ (rowsF rows (q / rows'.length)).length → (catP rows rows' q i).length = i * (rowsF rows' (q % rows'.length)).length
  | 0, _ => by unfold catP; simp
  | i + 1, h => by
    rw [catP_succ h, List.length_append, catP_len i (by omega), movedN_length (Nat.le_refl _), Nat.succ_mul]
theorem catP_range {rows rows' : Rows2} (h : Ok rows) (h' : Ok rows') {q i : Nat} (hq : q < rows.length * rows'.length) : ∀ x ∈ catP rows rows' q i, 0 ≤ x ∧ x ≤ 1048576 := by
  intro x hx
  have hn := h'.len
  have hqa : q / rows'.length < rows.length := Nat.div_lt_of_lt_mul (by rw [Nat.mul_comm]; exact hq)
  have hra : q % rows'.length < rows'.length := Nat.mod_lt _ (by omega)
  unfold catP at hx
  obtain ⟨y, hy, hxy⟩ := List.mem_flatMap.1 hx
  have hy2 := List.mem_of_mem_take hy
  rw [rowsF_lt hqa] at hy2
  have ry := (h.asc _ hqa).2 y hy2
  unfold movedN at hxy
  rw [List.take_length] at hxy
  obtain ⟨z, hz, rfl⟩ := List.mem_map.1 hxy
  rw [rowsF_lt hra] at hz
  have rz := (h'.asc _ hra).2 z hz
  have hl := h.len.2
  have h1 := Int.mul_nonneg ry.1 (show (0 : Int) ≤ (rows'.length : Int) by omega)
  have h2 : y * (rows'.length : Int) ≤ 200 * 200 := Int.mul_le_mul (by omega) (by omega) (by omega) (by omega)
  omega
end Go.Proofs.YtkhhbpeheikmfaaDoor

/- The model's DomainLift. -/
namespace Go.Proofs.YtkhhbpeheikmfaaDoor
open Go.RowKit Go.Deep

/-- The numbers from 0 on. -/
def uptoL (k : Nat) : List Int := (List.range k).map fun i : Nat => (i : Int)
theorem uptoL_length (k : Nat) : (uptoL k).length = k := by unfold uptoL; simp
theorem uptoL_succ (k : Nat) : uptoL (k + 1) = uptoL k ++ [(k : Int)] := by
  unfold uptoL
  rw [List.range_succ, List.map_append]
  rfl
theorem uptoL_wf {k : Nat} (h : k ≤ 1048576) : ∀ x ∈ uptoL k, (Lit.int .i64 x).wf = true := by
  intro x hx
  unfold uptoL at hx
  obtain ⟨i, hi, rfl⟩ := List.mem_map.1 hx
  rw [List.mem_range] at hi
  exact wf_int (by omega) (by omega)

/-- The rows of the lift, in the model's words. -/
def liftR (rows : Rows2) (q : Nat) : List Int := if q = 0 then uptoL (rows.length + 1) else movedN (rowsF rows (q - 1)) 1 (rowsF rows (q - 1)).length

theorem liftR_row {rows : Rows2} (h : Ok rows) {q : Nat} (hq : q < rows.length + 1) : liftR rows q = liftRow (gridF rows) q (rows.length + 1) := by
  unfold liftR
  by_cases e : q = 0
  · subst e
    rw [if_pos rfl, liftRow_first]
    rfl
  · rw [if_neg e, rowsF_lt (by omega)]
    have := liftRow_next h (i := q - 1) (by omega)
    rw [show q - 1 + 1 = q by omega] at this
    exact this.symm

theorem lens_small {rows : Rows2} {m n : Nat} (hl : rows.length ≤ n) (h : ∀ r ∈ rows, r.length ≤ m) : bulk rows ≤ n + n * m := by
  unfold bulk
  have h1 := sum_le (m := m) (rows.map List.length) fun x hx => by
    obtain ⟨r, hr, rfl⟩ := List.mem_map.1 hx
    exact h r hr
  rw [List.length_map] at h1
  have h2 := Nat.mul_le_mul_right m hl
  omega
theorem lift_bulk (rows : Rows2) : bulk (liftL rows) ≤ 1048576 := by
  cases h : liftOk rows with
  | false => rw [liftL_no h]; simp [bulk]
  | true =>
    have hl : rows.length < 200 := by
      unfold liftOk at h
      rw [Bool.and_eq_true, decide_eq_true_iff] at h
      exact h.2
    have hb := lens_small (rows := liftL rows) (n := 200) (m := 200) (by rw [(liftL_yes h).1]; omega) (fun r hr => by
      unfold liftL at hr
      rw [if_pos h] at hr
      obtain ⟨q, _, rfl⟩ := List.mem_map.1 hr
      exact Nat.le_trans (liftRow_len _ _ _) (by omega))
    omega
end Go.Proofs.YtkhhbpeheikmfaaDoor

/- The model's DomainProduct. -/
namespace Go.Proofs.YtkhhbpeheikmfaaDoor
open Go.RowKit Go.Deep

/-- The cells of a list, as what is appended. -/
theorem IntsAt.news {W : World} {a : Addr} {n C : Nat} {xs : List Int} (h : IntsAt W (.slice (some a) n C) xs) : ∀ j u, (cellsI xs)[j]? = some u → W.cell? (a.add j) = some u := by
  intro j u hu
  obtain ⟨a', C', e, _, _, _, hx⟩ := h
  rw [List.getElem?_map] at hu
  have hj : j < xs.length := by
    rcases Nat.lt_or_ge j xs.length with h | h
    · exact h
    · rw [List.getElem?_eq_none h] at hu
      simp at hu
  rw [List.getElem?_eq_getElem hj] at hu
  obtain rfl : Value.int .i64 xs[j] = u := by simpa using hu
  obtain ⟨b, o, e2, hc⟩ := hx j hj
  injection e with e3 _ _
  rw [e2] at e3
  injection e3 with e3
  subst e3
  have hadd : (⟨b, o, Option.none⟩ : Addr).add j = ⟨b, o + j, Option.none⟩ := by unfold Addr.add; split <;> simp_all
  rw [hadd]
  exact hc
theorem OwnI.addr {t : TypeId} {W : World} {v : Value} {xs : List Int} {lo hi : Nat} (h : OwnI t W v xs lo hi) (hx : 0 < xs.length) : ∃ g C, v = .slice (some ⟨g, 0, Option.none⟩) xs.length C := by
  obtain ⟨_, ⟨rfl, rfl⟩ | ⟨g, C, f, rfl, _⟩⟩ := h
  · exact absurd hx (Nat.lt_irrefl _)
  · exact ⟨g, C, rfl⟩

set_option maxRecDepth 100000 in
set_option maxHeartbeats 8000000 in
theorem l2Product_any (v v' : Value) (rows rows' : Rows2) (w : World) (hv : RowsAt w v rows) (hv' : RowsAt w v' rows') (hok : Ok rows) (hok' : Ok rows') (hl : rows.length * rows'.length ≤ 200) :
    Calls Tryd.prog 44 #[.agg #[v], .agg #[v']] w (OrdNew (rows.length * rows'.length) (prodR rows rows') w) := by
  have h0 := TwoR.start w hv hv'
  have HV := Lib.hid (fun W (h : Below w.heap.size w W) => hv.below h)
  have HV' := Lib.hid (fun W (h : Below w.heap.size w W) => hv'.below h)
  have hlen := hok.len
  have hlen' := hok'.len
  have s2 : (((w.alloc (.cells #[v] 26)).alloc (.cells #[v'] 26)).alloc (.cells #[.slice none 0 0] 26)).heap.size = w.heap.size + 3 := by rw [World.size_alloc, World.size_alloc, World.size_alloc]
  obtain ⟨A, C, rfl, hC, hm, hx⟩ := hv
  obtain ⟨A', C', rfl, hC', hm', hx'⟩ := hv'
  unfold maxLen at hm hm'
  obtain ⟨b0, o0, _, rfl, _, _⟩ := hx 0 (by omega)
  obtain ⟨b0', o0', _, rfl, _, _⟩ := hx' 0 (by omega)
  generalize hw0 : (((w.alloc (.cells #[.slice (some ⟨b0, o0, none⟩) rows.length C] 26)).alloc (.cells #[.slice (some ⟨b0', o0', none⟩) rows'.length C'] 26)).alloc (.cells #[.slice none 0 0] 26)) = w0 at h0 s2
  obtain ⟨i0, hi0, hz0, hz1, hz2⟩ := info_parts infoInt
  obtain ⟨j0, hj0, hy0, hy1, hy2⟩ := info_parts infoInts
  have H0 := Lib.hid h0
  have HOK := Lib.hid hok
  have HOK' := Lib.hid hok'
  have S2 := Lib.hid s2
  have HBW := Lib.hid (fun W (h : Below w0.heap.size w0 W) => h0.below.trans (h.mono (by rw [s2]; omega)))
  have hN := Out.empty w0 (prodR rows rows')
  rw [s2] at hN
  have hNP : rows.length * rows'.length ≤ 1048576 := by omega
  have hwN : IntKind.i64.wrap ((rows.length : Int) * (rows'.length : Int)) = ((rows.length * rows'.length : Nat) : Int) := by rw [← Int.natCast_mul]; exact IntWalk.i64_in _ (by omega)
  have hcA := h0.c0
  have hcA' := h0.c1
  clear h0 hok hok' hx hx'
  go_enter Tryd.func44, Tryd.ntmps44
  go_upto_region 3 with fail
  clear hw0 hcA hcA'
  generalize ((w0.alloc (.cells #[] 37)).alloc (.cells #[.slice (some ⟨w.heap.size + 3, 0, none⟩) 0 0] 26)) = wq at hN ⊢
  generalize w.heap.size + 3 + 1 = Z at hN ⊢
  have HST := Lib.hid hN
  have hn0 : 0 < rows'.length := by omega
  have hz : ¬ rows'.length = 0 := by omega
  have HNN := Lib.hid (rfl : rows.length * rows'.length = rows.length * rows'.length)
  clear hN
  go_wp2
  go_loopw [7] (fun av wx => ∃ (a : Nat) (u : Value), a ≤ rows.length * rows'.length ∧ av = .int .i64 a ∧ Out w0 Z u a (prodR rows rows') wx) (fun av _ => rows.length * rows'.length - (intOf av).toNat)
  case atStart => exact ⟨0, _, Nat.zero_le _, rfl, HST.out⟩
  case round =>
    obtain ⟨wo, hwo⟩ : ∃ wo : World, wo = wr := ⟨_, rfl⟩
    subst hwo
    obtain ⟨a, u, ha, rfl, ho⟩ := hrel
    have HK := Lib.hid ho
    obtain ⟨au, Cu, rfl⟩ := ho.own.form
    have hcell := (ho.below.cell (p := ⟨w.heap.size, 0, none⟩) (cell_lt H0.out.c0)).trans H0.out.c0
    have hcell' := (ho.below.cell (p := ⟨w.heap.size + 1, 0, none⟩) (cell_lt H0.out.c1)).trans H0.out.c1
    have hb0 := ho.below.size
    have hZ2 := ho.out.lt
    clear HST
    by_cases hlt : a < rows.length * rows'.length
    · have hltz : (a : Int) < ((rows.length * rows'.length : Nat) : Int) := by omega
      have hqa : a / rows'.length < rows.length := Nat.div_lt_of_lt_mul (by rw [Nat.mul_comm]; exact hlt)
      have hra : a % rows'.length < rows'.length := Nat.mod_lt _ hn0
      have d1 : (a : Int).tdiv (rows'.length : Int) = ((a / rows'.length : Nat) : Int) := (Int.ofNat_tdiv a rows'.length).symm
      have d3 : (a : Int) / (rows'.length : Int) = ((a / rows'.length : Nat) : Int) := (Int.natCast_ediv a rows'.length).symm
      have m1 : (a : Int).tmod (rows'.length : Int) = ((a % rows'.length : Nat) : Int) := (Int.ofNat_tmod a rows'.length).symm
      have m3 : (a : Int) % (rows'.length : Int) = ((a % rows'.length : Nat) : Int) := (Int.natCast_emod a rows'.length).symm
      have HCS := Lib.hid (fun i (hi : i < (rowsF rows (a / rows'.length)).length) => catP_succ (rows := rows) (rows' := rows') (q := a) hi)
      have HCL := Lib.hid (fun i (hi : i ≤ (rowsF rows (a / rows'.length)).length) => catP_len (rows := rows) (rows' := rows') (q := a) i hi)
      have HCR := Lib.hid (fun i => catP_range HOK.out HOK'.out (i := i) hlt)
      have HPR := Lib.hid (show prodR rows rows' a = catP rows rows' a (rowsF rows (a / rows'.length)).length from rfl)
      have e1 := rowsF_lt hqa
      have e2 := rowsF_lt hra
      rw [e1] at HCS HCL HPR
      rw [e2] at HCS HCL
      have hran := (HOK.out.asc _ hqa).2
      have hran' := (HOK'.out.asc _ hra).2
      have hll := (HOK.out.elems hqa)
      obtain ⟨A1, C1, hC1, hm1, hc, hyy⟩ := (HV.out wo (HBW.out _ ho.below)).row hqa
      have HR1 := Lib.hid (show ∀ W, Below wo.heap.size wo W → IntsAt W (.slice A1 rows[a / rows'.length].length C1) rows[a / rows'.length] from fun W hW => IntsAt.below ⟨A1, C1, rfl, hC1, hm1, fun x hx => by have := hran x hx; exact wf_int (by omega) (by omega), hyy⟩ hW)
      obtain ⟨A2, C2, hC2, hm2, hc2, hyy2⟩ := (HV'.out wo (HBW.out _ ho.below)).row hra
      have HR2 := Lib.hid (show ∀ W, Below wo.heap.size wo W → IntsAt W (.slice A2 rows'[a % rows'.length].length C2) rows'[a % rows'.length] from fun W hW => IntsAt.below ⟨A2, C2, rfl, hC2, hm2, fun x hx => by have := hran' x hx; exact wf_int (by omega) (by omega), hyy2⟩ hW)
      have HC2 := Lib.hid hc2
      have HCE := Lib.hid hcell'
      have hrl : rows[a / rows'.length].length ≤ 256 := by rw [hll, List.length_map]; exact elems_length_le _
      have hrl' : rows'[a % rows'.length].length ≤ 256 := by rw [HOK'.out.elems hra, List.length_map]; exact elems_length_le _
      have hrp : 0 < rows'[a % rows'.length].length := by rw [HOK'.out.elems hra, List.length_map]; exact List.length_pos_of_mem ((mem_elems (HOK'.out.lt _)).2 (HOK'.out.own _ hra))
      clear ho hyy hyy2 hc2 hcell' hll
      generalize rows[a / rows'.length] = X at *
      generalize rows'[a % rows'.length] = Y at *
      generalize a / rows'.length = qa at *
      generalize a % rows'.length = ra at *
      have hwq : IntKind.i64.wrap (qa : Int) = (qa : Int) := IntWalk.i64_in _ (by omega)
      have HO := Lib.hid (World.ownsRow_made (e := 3) (size := 1) wo #[] 0 (base := wo.heap.size) (Nat.le_refl _) (Nat.zero_le _) (by simp))
      have HBA := Lib.hid ((Below.refl wo.heap.size wo).alloc (Nat.le_refl _) (.cells #[] 3))
      have hqz : (qa : Int) < (rows.length : Int) := by omega
      have hrz : (ra : Int) < (rows'.length : Int) := by omega
      clear e1 e2
      go_upto_region 7 with fail
      have hca := cell_alloc_any hcell (.cells #[] 3)
      have hcb := cell_alloc_any hc (.cells #[] 3)
      generalize wo.alloc (.cells #[] 3) = wa at HO HBA hca hcb ⊢
      go_still (by kernel_rfl)
      clear hca hcb hc hcell
      go_wp2
      go_loopw [8, 10] (fun rv iv wx => ∃ i : Nat, i ≤ X.length ∧ iv = .int .i64 i ∧ wx.ownsRow wo.heap.size 3 1 rv (catP rows rows' a i).length (cellsI (catP rows rows' a i)) ∧ Below wo.heap.size wo wx) (fun _ iv _ => X.length - (intOf iv).toNat)
      case atStart => exact ⟨0, Nat.zero_le _, rfl, by unfold catP; simpa using owns_below HO.out (below_drew wa _), HBA.out.trans (below_drew _ _)⟩
      case round =>
        obtain ⟨i, hi, rfl, hown, hB⟩ := hrel
        have HOWN := Lib.hid hown
        have HB := Lib.hid hB
        have hcE := (hB.cell (p := ⟨w.heap.size + 1, 0, none⟩) (cell_lt HCE.out)).trans HCE.out
        have hcl : (catP rows rows' a i).length ≤ 65536 := by
          rw [HCL.out i hi]
          exact Nat.mul_le_mul (show i ≤ 256 by omega) hrl'
        have hbz := hB.size
        by_cases hli : i < X.length
        · have hliz : (i : Int) < (X.length : Int) := by omega
          have hc2 := (hB.cell (p := ⟨b0', o0' + ra, none⟩) (cell_lt HC2.out)).trans HC2.out
          obtain ⟨b1, o1, rfl, hcx⟩ := (HR1.out wr hB).get hli
          have hrj := hran _ (List.getElem_mem hli)
          obtain ⟨j, hj⟩ : ∃ j : Nat, X[i] = (j : Int) := ⟨X[i].toNat, by omega⟩
          rw [hj] at hcx hrj
          have hjn : j * rows'.length ≤ 200 * 200 := Nat.mul_le_mul (by omega) (by omega)
          have hjc : ((j * rows'.length : Nat) : Int) = (j : Int) * (rows'.length : Int) := Int.natCast_mul _ _
          have hwx : IntKind.i64.wrap ((j : Int) * (rows'.length : Int)) = (j : Int) * (rows'.length : Int) := IntWalk.i64_in _ (by omega)
          have HMV := Lib.hid (l2Moved_any _ Y ((j : Int) * (rows'.length : Int)) wr.drew (HR2.out _ (hB.trans (below_drew wr _))) (by omega) (fun y hy => by have := hran' y hy; omega))
          have hml : (movedN Y ((j : Int) * (rows'.length : Int)) Y.length).length = Y.length := movedN_length (Nat.le_refl _)
          have HS1 := Lib.hid (HCS.out i hli)
          rw [hj] at HS1
          have HJ := Lib.hid hjc
          clear hown hB hj hjc
          go_upto_region 11 with fail
          go_region_law (first | (go_simp; go_at_call 66; refine HMV.out.mono ?_; clear HMV; rintro e w2 ⟨v', rfl, hv', hb2⟩; obtain ⟨g2, C9, rfl⟩ := hv'.addr (by rw [hml]; exact hrp); rw [hml] at hv'; have HNW := Lib.hid (hv'.at.news); have HB2 := Lib.hid ((below_drew wr _).trans hb2); have HW2 := Lib.hid (owns_below HOWN.out HB2.out); have hz22 : wr.heap.size ≤ w2.heap.size := hb2.size; clear hv' hb2) | (refine step_append_lies _ (by rfl) _ _ 37 (by rfl) wo.heap.size 3 i0 (.int .i64 0) 1 8 Tryd.underlying37 hi0 hz0 hz1 hz2 rfl (by decide) u8 (catP rows rows' a i).length (cellsI (catP rows rows' a i)) (by rfl) HW2.out ⟨g2, 0, none⟩ Y.length C9 (cellsI (movedN Y ((j : Int) * (rows'.length : Int)) Y.length)) (by rfl) (by rw [List.length_map, hml, Nat.mul_one]) HNW.out (by intro u hu; obtain ⟨z, _, rfl⟩ := List.mem_map.1 hu; rfl) hrp (by unfold maxLen; omega) (by omega) (by omega) w2.heap.size rfl ?_; intro g' cap' w3 hown3 hgrow hat hlt'))
          all_goals
            go_wp2
            go_roundw
            case rel =>
              refine ⟨i + 1, by omega, by go_num, ?_, ((HB.out.trans (HB2.out.mono hbz)).grown ⟨hgrow.os, hgrow.tape, hgrow.output, hgrow.size, hgrow.block⟩ (Nat.le_trans hbz hz22) (fun b e => (HW2.out.lt b e).1))⟩
              rw [HS1.out, List.length_append, hml, show ∀ P Q : List Int, cellsI (P ++ Q) = cellsI P ++ cellsI Q from fun P Q => by simp]
              exact hown3
            case measure => simp [intOf]; omega
        · obtain rfl : i = X.length := by omega
          have hliz : ¬ ((X.length : Int) < (X.length : Int)) := by omega
          have hoi : OwnI 3 wr u8 (catP rows rows' a X.length) wo.heap.size wr.heap.size := OwnI.of_owns HOWN.out (fun x hx => by have := HCR.out _ x hx; exact wf_int this.1 this.2) (fun b hb => (HOWN.out.lt b hb).2)
          obtain ⟨ar, Cr, rfl⟩ := hoi.form
          have HOI := Lib.hid hoi
          have HKx := Lib.hid (HK.out.step hB)
          obtain ⟨f, hf0, hf1, hf2⟩ := HK.out.own.owns
          have HF0 := Lib.hid hf0
          have HF1 := Lib.hid hf1
          have HF2 := Lib.hid hf2
          have HW0 := Lib.hid (owns_below hf0 hB)
          have hout2 := HKx.out.out.cell
          have hout3 := cell_alloc_any hout2
          have hw0 := HKx.out.below.size
          clear hown hB hoi hf0 hf1 hf2 hcE
          go_wp2_with (at_builtin; refine wpList_append_lies _ rfl _ _ 22 rfl w0.heap.size 37 j0 (.slice none 0 0) 1 24 Tryd.underlying22 hj0 hy0 hy1 hy2 rfl (by decide) (.slice au a Cu) a ((List.range a).map f) (by rfl) (HW0.out.alloc _) ⟨wr.heap.size, 0, none⟩ 1 1 [.slice ar (catP rows rows' a X.length).length Cr] (by rfl) rfl (World.news_of_block (heap_alloc_new wr _)) (by simp [Value.oneCell']) (by omega) (by unfold maxLen; omega) (by omega) (by simp; omega) (wr.heap.size + 1) (by simp) ?_; intro g' cap' w3 hown3 hgrow hat hlt'; have hfar := HKx.out.far HW0.out hgrow; have hc3 := hfar.cell; have hf3 := hfar.frozen; clear hfar)
          go_roundw
          case rel =>
            refine ⟨a + 1, _, by omega, by go_num, (HK.out.pushed HF0.out HF1.out HF2.out HB.out HOI.out hown3 ⟨hgrow.os, hgrow.tape, hgrow.output, hgrow.size, hgrow.block⟩).congr fun j hj => ?_⟩
            by_cases e : j = a
            · subst e; rw [if_pos rfl, HPR.out]
            · rw [if_neg e]
          case measure => simp [intOf]; omega
    · obtain rfl : a = rows.length * rows'.length := by omega
      have hltz : ¬ (((rows.length * rows'.length : Nat) : Int) < ((rows.length * rows'.length : Nat) : Int)) := by omega
      have hres := (ho.below.block _ (by rw [S2.out]; omega)).trans H0.out.res
      have hout := ho.out.cell
      have hrc := Boxed.cell hres
      have hrf := Boxed.frozen hres
      have hc9 := World.cell?_setCell_same' wo ⟨w.heap.size + 2, 0, none⟩ (.slice au (rows.length * rows'.length) Cu) (by rw [hrc]; rfl)
      clear ho hres
      go_wp2
      refine bodyPost_ret (v := .agg #[.slice au (rows.length * rows'.length) Cu]) (by simp [results, Tryd.results44, go_sem, hc9]) rfl ?_
      refine ⟨_, rfl, ?_, (HBW.out _ HK.out.below).setCell (p := ⟨w.heap.size + 2, 0, none⟩) (by show w.heap.size ≤ w.heap.size + 2; omega) _⟩
      rw [size_setCell]
      exact (HK.out.own.kept fun b hb _ => Below.heap_setCell _ _ _ b (show b ≠ w.heap.size + 2 by have := S2.out; omega)).wider (by rw [S2.out]; omega) (Nat.le_refl _)

theorem prod_bulk (rows rows' : Rows2) : bulk (prodL rows rows') ≤ 1048576 := by
  cases h : prodOk rows rows' with
  | false => rw [prodL_no h]; simp [bulk]
  | true =>
    have hl : rows.length * rows'.length ≤ 200 := by
      unfold prodOk at h
      rw [Bool.and_eq_true, decide_eq_true_iff] at h
      exact h.2
    have hb := lens_small (rows := prodL rows rows') (n := 200) (m := 200) (by rw [(prodL_yes h).1]; omega) (fun r hr => by
      unfold prodL at hr
      rw [if_pos h] at hr
      obtain ⟨q, _, rfl⟩ := List.mem_map.1 hr
      exact Nat.le_trans (bRow_len _ _ _) (by omega))
    omega
end Go.Proofs.YtkhhbpeheikmfaaDoor

/- The model's DomainCurry. -/
namespace Go.Proofs.YtkhhbpeheikmfaaDoor
open Go.RowKit Go.Deep Go.Shelf

theorem chunk_ints2 {W : World} {b o C m n k : Nat} {x : List Int} (hx : x.length = m * n) (hk : k < m) (h : IntsAt W (.slice (some ⟨b, o, none⟩) x.length C) x) : IntsAt W (.slice (some ⟨b, o + k * n, none⟩) n (C - k * n)) (chunk x n k) := by
  have h1 := chunk_bound (n := n) hk
  have h2 := chunk_len hx hk
  have h3 := chunk_ints hx hk h
  obtain ⟨_, C', e, hC, hm, _⟩ := h
  injection e with _ _ e3
  obtain ⟨a, C2, e, _, _, hw, hc⟩ := h3
  injection e with e1 _ _
  exact ⟨a, C - k * n, by rw [e1, h2], by rw [h2, e3]; omega, by omega, hw, hc⟩
theorem BelowBut.step {z B : Nat} {w W W' : World} (h : BelowBut z B w W) (hB : B ≤ w.heap.size) (hb : Below W.heap.size W W') : BelowBut z B w W' :=
  ⟨hb.os.trans h.os, hb.tape.trans h.tape, hb.output.trans h.output, Nat.le_trans h.size hb.size, fun b hl hz => (hb.block b (by have := h.size; omega)).trans (h.block b hl hz)⟩

set_option maxRecDepth 100000 in
set_option maxHeartbeats 8000000 in
theorem specCur_any (v v' v2 vf : Value) (r0 r1 r2 : Rows2) (x : List Int) (w : World) (hv : RowsAt w v r0) (hv' : RowsAt w v' r1) (hv2 : RowsAt w v2 r2) (hf : IntsAt w vf x) (hn : bulk r0 ≤ 1048576) (hn' : bulk r1 ≤ 1048576) (hn2 : bulk r2 ≤ 1048576) :
    Calls Tryd.prog 25 #[.agg #[v], .agg #[v'], .agg #[v2], vf] w (OwnB (curL r0 r1 r2 x) (curB r0 r1 r2 x) w) := by
  have h0 := Th3.start w 26 hv hv' hv2
  have HF := Lib.hid (fun W (h : Below w.heap.size w W) => hf.below h)
  obtain ⟨A, C, rfl, _⟩ := hv
  obtain ⟨A', C', rfl, _⟩ := hv'
  obtain ⟨A2, C2, rfl, _⟩ := hv2
  obtain ⟨Af, Cf, rfl, hCf, hmf, _⟩ := hf
  unfold maxLen at hmf
  obtain ⟨W0, hW0⟩ : ∃ W0, W0 = ((w.alloc (.cells #[.slice A r0.length C] 26)).alloc (.cells #[.slice A' r1.length C'] 26)).alloc (.cells #[.slice A2 r2.length C2] 26) := ⟨_, rfl⟩
  rw [← hW0] at h0
  have hbz := (Below.refl W0.heap.size W0).alloc (Nat.le_refl _) (.cells #[] 3)
  have HOW := Lib.hid (World.ownsRow_made (e := 3) (size := 1) W0 #[] 0 (base := W0.heap.size) (Nat.le_refl _) (Nat.zero_le _) (by simp))
  obtain ⟨W1, hW1⟩ : ∃ W1, W1 = W0.alloc (.cells #[] 3) := ⟨_, rfl⟩
  rw [← hW1] at hbz HOW
  have h1 := h0.step hbz
  have hz1 : W0.heap.size < W1.heap.size := by rw [hW1]; simp
  have hz0 : W0.heap.size = w.heap.size + 3 := by rw [hW0]; simp
  have hall := all2_any _ _ r1 r2 W1 h1.two.r1 h1.r2 hn' hn2
  have hcB := h1.two.c1
  have hcC := h1.c2
  have H1 := Lib.hid h1
  clear h0 h1 hbz
  go_enter Tryd.func25, Tryd.ntmps25
  go_upto_region 2 with fail
  rw [← hW0, ← hW1]
  clear hW0 hW1
  go_wp2_with fail
  refine hall.mono ?_
  rintro e w2 ⟨⟨a1, m1, C1, rfl, hyes⟩, hb2⟩
  have H2 := Lib.hid (H1.out.step hb2)
  have B12 := Lib.hid hb2
  clear hall hcB hcC hb2
  have HNO := Lib.hid (show ∀ (h : curB r0 r1 r2 x = false) W (hb : Below W1.heap.size W1 W), OwnB (curL r0 r1 r2 x) (curB r0 r1 r2 x) w (.returned (.tuple #[.slice (some ⟨w.heap.size + 1 + 1 + 1, 0, none⟩) 0 0, .bool false])) W from fun h W hb => by
    refine ⟨_, by rw [h], ?_, H1.out.two.below.trans (hb.mono H1.out.two.below.size)⟩
    rw [curL_no h]
    have ho := owns_below HOW.out hb
    rw [hz0] at ho
    have hs := hb.size
    exact (OwnI.of_owns (xs := []) ho (fun y hy => (by cases hy)) (fun b e => by
      have h4 : w.heap.size + 3 = b := by simpa [Value.ownBlock] using e
      omega)).wider (by omega) (Nat.le_refl _))
  have hub : curB r0 r1 r2 x = (domB r0 && funB r1 r2 && decide (r0.length * r1.length ≤ 200) && monoI (prodL r0 r1) r2 x) := rfl
  have hcA := H2.out.two.c0
  have hcB := H2.out.two.c1
  have hcC := H2.out.c2
  have hk0 := fun d os => cell_regrown hcA d os
  have hk1 := fun d os => cell_regrown hcB d os
  have hk2 := fun d os => cell_regrown hcC d os
  have hdi := fun d os => specDom_any (.slice A r0.length C) r0 _ (H2.out.step (below_regrown w2 d os)).two.r0 hn
  cases hfb : funB r1 r2 with
  | false =>
    rw [hfb, Bool.and_false, Bool.false_and, Bool.false_and] at hub
    have HE := Lib.hid (show curB r0 r1 r2 x = false from hub)
    clear hub hyes hcA hcB hcC
    go_upto_region 3 with fail
    refine wp_region_quiet_below (by kernel_rfl) (by kernel_rfl) ?_
    repeat (go_big_quiet_step (fail))
    refine wpQuiet_nil ?_
    intro _ hw'
    obtain ⟨⟨dq, osq⟩, hw''⟩ := hw'
    subst hw''
    clear hk0 hk1 hk2 hdi
    go_wp2
    go_ret2
    exact HNO.out HE.out _ (B12.out.trans ((below_regrown w2 dq osq).mono B12.out.size))
  | true =>
    rw [hfb, Bool.and_true] at hub
    cases h0 : domB r0 with
    | false =>
      rw [h0, Bool.false_and, Bool.false_and] at hub
      have HE := Lib.hid (show curB r0 r1 r2 x = false from hub)
      simp only [h0] at hdi
      clear hub hyes hcA hcB hcC
      go_upto_region 3 with fail
      refine wp_region_quiet_below (by kernel_rfl) (by kernel_rfl) ?_
      repeat (go_big_quiet_step (first | (go_at_call 42; exact Calls.regrown_of (hdi _ _))))
      refine wpQuiet_nil ?_
      intro _ hw'
      obtain ⟨⟨dq, osq⟩, hw''⟩ := hw'
      subst hw''
      clear hk0 hk1 hk2 hdi
      go_wp2
      go_ret2
      exact HNO.out HE.out _ (B12.out.trans ((below_regrown w2 dq osq).mono B12.out.size))
    | true =>
      rw [h0, Bool.true_and] at hub
      simp only [h0] at hdi
      obtain ⟨k1, k2, hle⟩ := funB_iff.1 hfb
      obtain ⟨rfl, hown⟩ := hyes hfb
      have ok0 := dom_ok h0
      have ok1 := dom_ok k1
      have ok2 := dom_ok k2
      have hl0 := ok0.len
      have hl1 := ok1.len
      have hN2 : r0.length * r1.length ≤ 40000 := Nat.le_trans (Nat.mul_le_mul hl0.2 hl1.2) (by decide)
      have HMP := Lib.hid (fun hl => mono_prod (x := x) h0 k1 hl ok2)
      by_cases hl : r0.length * r1.length ≤ 200
      · rw [decide_eq_true hl, Bool.true_and] at hub
        by_cases hx : x.length = r0.length * r1.length
        · obtain ⟨t, ht⟩ : ∃ t, monoI (prodL r0 r1) r2 x = t := ⟨_, rfl⟩
          rw [ht] at hub
          have HUB := Lib.hid hub
          have HXL := Lib.hid hx
          have hN0 : 0 < x.length := by rw [hx]; exact Nat.mul_pos (by omega) (by omega)
          obtain ⟨bx, ox, rfl, _⟩ := (HF.out w (Below.refl _ _)).get hN0
          have hp := prodOk_of h0 k1 hl
          have hl2 := ok2.len
          have HDI := Lib.hid (show ∀ W', Below w2.heap.size w2 W' → Calls Tryd.prog 42 #[.agg #[.slice A r0.length C]] W' (SaysN true W') from fun W' hb => by
            have h := specDom_any (.slice A r0.length C) r0 W' (H2.out.step hb).two.r0 hn
            rw [h0] at h
            exact h)
          have HPR := Lib.hid (show ∀ W', Below w2.heap.size w2 W' → Calls Tryd.prog 44 #[.agg #[.slice A r0.length C], .agg #[.slice A' r1.length C']] W' (OrdNew (r0.length * r1.length) (prodR r0 r1) W') from fun W' hb =>
            l2Product_any _ _ r0 r1 W' (H2.out.step hb).two.r0 (H2.out.step hb).two.r1 ok0 ok1 hl)
          have HMO := Lib.hid (show ∀ W' u, Below w2.heap.size w2 W' → (∃ lo hi, OwnR 3 37 W' u (r0.length * r1.length) (prodR r0 r1) lo hi) → Calls Tryd.prog 43 #[.agg #[u], .agg #[.slice A2 r2.length C2], .slice (some ⟨bx, ox, none⟩) x.length Cf] W' (SaysN t W') from fun W' u hb hu => by
            obtain ⟨lo, hi, hu⟩ := hu
            obtain ⟨e1, e2⟩ := prodL_yes hp
            have hu2 : RowsAt W' u (prodL r0 r1) := OwnR.at (by rw [e1]; exact hu.congr fun q hq => (prodR_row ok0 ok1 hq).trans (e2 q hq).symm)
            have h := l2Monotone_any u (.slice A2 r2.length C2) (.slice (some ⟨bx, ox, none⟩) x.length Cf) (prodL r0 r1) r2 x W' hu2 (H2.out.step hb).r2 (HF.out _ (H2.out.step hb).two.below) (prod_bulk _ _) hn2 (valid_lists (show validB (prodL r0 r1) = true by have h := prod_dom hp; unfold domB at h; rw [Bool.and_eq_true] at h; exact h.1)) (valid_lists (show validB r2 = true by have h := k2; unfold domB at h; rw [Bool.and_eq_true] at h; exact h.1))
            rw [ht] at h
            exact h)
          have SKEEP := Lib.hid (show ∀ W', Below w2.heap.size w2 W' → W'.cell? ⟨w.heap.size, 0, none⟩ = some (.slice A r0.length C) ∧ W'.cell? ⟨w.heap.size + 1, 0, none⟩ = some (.slice A' r1.length C') ∧ W'.cell? ⟨w.heap.size + 2, 0, none⟩ = some (.slice A2 r2.length C2) from fun W' hb => ⟨(H2.out.step hb).two.c0, (H2.out.step hb).two.c1, (H2.out.step hb).c2⟩)
          have HL1 := Lib.hid hown
          have hNZ : (r0.length : Int) * (r1.length : Int) = (x.length : Int) := by rw [hx, Int.natCast_mul]
          have hxl2 : x.length ≤ 200 := by rw [hx]; exact hl
          have hwN : IntKind.i64.wrap (x.length : Int) = (x.length : Int) := IntWalk.i64_in _ (by omega)
          have hlz : decide ((200 : Int) < (x.length : Int)) = false := decide_eq_false (by omega)
          clear hub hown hcA hcB hcC hx hdi hk0 hk1 hk2 hyes hN2 hp ht
          go_upto_region 3 with fail
          refine wp_region_held_drew (S := fun W' : World => W'.cell? ⟨w.heap.size, 0, none⟩ = some (.slice A r0.length C) ∧ W'.cell? ⟨w.heap.size + 1, 0, none⟩ = some (.slice A' r1.length C') ∧ W'.cell? ⟨w.heap.size + 2, 0, none⟩ = some (.slice A2 r2.length C2)) (by kernel_rfl) (SKEEP.out _ (below_drew w2 _)) (fun hHeld => ?_)
          refine' wpAnyH_take (i := 0) (oi := ?oo1_0) (v := ?vv1_0) ?hi1_0 (by kernel_rfl) (by kernel_rfl) (by kernel_rfl) ?hq1_0 (Or.inl ⟨?hw1_0, ?hy1_0⟩) hHeld ?rest1_0
          case hi1_0 => simp only [List.getElem?_toArray, List.getElem?_cons_zero]; rfl
          case hq1_0 => exact fun _ _ _ h => h
          case hw1_0 => rfl
          case hy1_0 => intro w hSw; (try dsimp only at hSw); go_simp; try (with_reducible rfl)
          try simp only [Act.put, List.setIfInBounds_toArray, List.set_cons_zero, List.set_cons_succ]
          refine' wpAnyH_take (i := 1) (oi := ?oo2_1) (v := ?vv2_1) ?hi2_1 (by kernel_rfl) (by kernel_rfl) (by kernel_rfl) ?hq2_1 (Or.inl ⟨?hw2_1, ?hy2_1⟩) hHeld ?rest2_1
          case hi2_1 => simp only [List.getElem?_toArray, List.getElem?_cons_succ, List.getElem?_cons_zero]; rfl
          case hq2_1 => exact fun _ _ _ h => h
          case hw2_1 => rfl
          case hy2_1 => intro w hSw; (try dsimp only at hSw); go_simp; try (with_reducible rfl)
          try simp only [Act.put, List.setIfInBounds_toArray, List.set_cons_zero, List.set_cons_succ]
          refine' wpAnyH_take (i := 2) (oi := ?oo3_2) (v := ?vv3_2) ?hi3_2 (by kernel_rfl) (by kernel_rfl) (by kernel_rfl) ?hq3_2 (Or.inl ⟨?hw3_2, ?hy3_2⟩) hHeld ?rest3_2
          case hi3_2 => simp only [List.getElem?_toArray, List.getElem?_cons_succ, List.getElem?_cons_zero]; rfl
          case hq3_2 => exact fun _ _ _ h => h
          case hw3_2 => rfl
          case hy3_2 => intro w hSw; (try dsimp only at hSw); go_simp; try (with_reducible rfl)
          try simp only [Act.put, List.setIfInBounds_toArray, List.set_cons_zero, List.set_cons_succ]
          refine' wpAnyH_take (i := 3) (oi := ?oo4_3) (v := ?vv4_3) ?hi4_3 (by kernel_rfl) (by kernel_rfl) (by kernel_rfl) ?hq4_3 (Or.inl ⟨?hw4_3, ?hy4_3⟩) hHeld ?rest4_3
          case hi4_3 => simp only [List.getElem?_toArray, List.getElem?_cons_succ, List.getElem?_cons_zero]; rfl
          case hq4_3 => exact fun _ _ _ h => h
          case hw4_3 => rfl
          case hy4_3 => intro w hSw; (try dsimp only at hSw); go_simp; try (with_reducible rfl)
          try simp only [Act.put, List.setIfInBounds_toArray, List.set_cons_zero, List.set_cons_succ]
          refine wpAnyH_ready (rs := [4]) (by kernel_rfl) (by simp) ?_
          refine' (AllReadyH.cons (o := ?ok5_4) ?hk5_4 (fun K hK => ?st5_4) AllReadyH.nil)
          case hk5_4 => simp only [List.getElem?_toArray, List.getElem?_cons_succ, List.getElem?_cons_zero]; rfl
          case st5_4 =>
            go_simp
            go_at_call 42
            refine (HDI.out _ (below_drew w2 _)).mono ?_
            rintro e w3 ⟨rfl, hb3⟩
            have B3 := Lib.hid ((below_drew w2 _).trans hb3)
            have hS3 := SKEEP.out _ B3.out
            clear hb3
            go_wp2_with fail
            refine hK.out _ _ (hS3) (fun hHeld => ?_)
            clear hK K
            try simp only [Act.put, List.setIfInBounds_toArray, List.set_cons_zero, List.set_cons_succ]
            refine' wpAnyH_take (i := 5) (oi := ?oo6_5) (v := ?vv6_5) ?hi6_5 (by kernel_rfl) (by kernel_rfl) (by kernel_rfl) ?hq6_5 (Or.inl ⟨?hw6_5, ?hy6_5⟩) hHeld ?rest6_5
            case hi6_5 => simp only [List.getElem?_toArray, List.getElem?_cons_succ, List.getElem?_cons_zero]; rfl
            case hq6_5 => exact fun _ _ _ h => h
            case hw6_5 => rfl
            case hy6_5 => intro w hSw; (try dsimp only at hSw); go_simp; try (with_reducible rfl)
            try simp only [Act.put, List.setIfInBounds_toArray, List.set_cons_zero, List.set_cons_succ]
            refine' wpAnyH_take (i := 6) (oi := ?oo7_6) (v := ?vv7_6) ?hi7_6 (by kernel_rfl) (by kernel_rfl) (by kernel_rfl) ?hq7_6 (Or.inl ⟨?hw7_6, ?hy7_6⟩) hHeld ?rest7_6
            case hi7_6 => simp only [List.getElem?_toArray, List.getElem?_cons_succ, List.getElem?_cons_zero]; rfl
            case hq7_6 => exact fun _ _ _ h => h
            case hw7_6 => rfl
            case hy7_6 => intro w hSw; (try dsimp only at hSw); go_simp; try (with_reducible rfl)
            try simp only [Act.put, List.setIfInBounds_toArray, List.set_cons_zero, List.set_cons_succ]
            refine' wpAnyH_take (i := 7) (oi := ?oo8_7) (v := ?vv8_7) ?hi8_7 (by kernel_rfl) (by kernel_rfl) (by kernel_rfl) ?hq8_7 (Or.inl ⟨?hw8_7, ?hy8_7⟩) hHeld ?rest8_7
            case hi8_7 => simp only [List.getElem?_toArray, List.getElem?_cons_succ, List.getElem?_cons_zero]; rfl
            case hq8_7 => exact fun _ _ _ h => h
            case hw8_7 => rfl
            case hy8_7 => intro w hSw; (try dsimp only at hSw); go_simp; try (with_reducible rfl)
            try simp only [Act.put, List.setIfInBounds_toArray, List.set_cons_zero, List.set_cons_succ]
            refine' wpAnyH_take (i := 8) (oi := ?oo9_8) (v := ?vv9_8) ?hi9_8 (by kernel_rfl) (by kernel_rfl) (by kernel_rfl) ?hq9_8 (Or.inl ⟨?hw9_8, ?hy9_8⟩) hHeld ?rest9_8
            case hi9_8 => simp only [List.getElem?_toArray, List.getElem?_cons_succ, List.getElem?_cons_zero]; rfl
            case hq9_8 => exact fun _ _ _ h => h
            case hw9_8 => rfl
            case hy9_8 => intro w hSw; (try dsimp only at hSw); go_simp; try (with_reducible rfl)
            try simp only [Act.put, List.setIfInBounds_toArray, List.set_cons_zero, List.set_cons_succ]
            refine' wpAnyH_take (i := 9) (oi := ?oo10_9) (v := ?vv10_9) ?hi10_9 (by kernel_rfl) (by kernel_rfl) (by kernel_rfl) ?hq10_9 (Or.inl ⟨?hw10_9, ?hy10_9⟩) hHeld ?rest10_9
            case hi10_9 => simp only [List.getElem?_toArray, List.getElem?_cons_succ, List.getElem?_cons_zero]; rfl
            case hq10_9 => exact fun _ _ _ h => h
            case hw10_9 => rfl
            case hy10_9 => intro w hSw; (try dsimp only at hSw); go_simp; try (with_reducible rfl)
            try simp only [Act.put, List.setIfInBounds_toArray, List.set_cons_zero, List.set_cons_succ]
            refine' wpAnyH_take (i := 10) (oi := ?oo11_10) (v := ?vv11_10) ?hi11_10 (by kernel_rfl) (by kernel_rfl) (by kernel_rfl) ?hq11_10 (Or.inl ⟨?hw11_10, ?hy11_10⟩) hHeld ?rest11_10
            case hi11_10 => simp only [List.getElem?_toArray, List.getElem?_cons_succ, List.getElem?_cons_zero]; rfl
            case hq11_10 => exact fun _ _ _ h => h
            case hw11_10 => rfl
            case hy11_10 => intro w hSw; (try dsimp only at hSw); go_simp; try (with_reducible rfl)
            try simp only [Act.put, List.setIfInBounds_toArray, List.set_cons_zero, List.set_cons_succ]
            refine' wpAnyH_take (i := 11) (oi := ?oo12_11) (v := ?vv12_11) ?hi12_11 (by kernel_rfl) (by kernel_rfl) (by kernel_rfl) ?hq12_11 (Or.inl ⟨?hw12_11, ?hy12_11⟩) hHeld ?rest12_11
            case hi12_11 => simp only [List.getElem?_toArray, List.getElem?_cons_succ, List.getElem?_cons_zero]; rfl
            case hq12_11 => exact fun _ _ _ h => h
            case hw12_11 => rfl
            case hy12_11 => intro w hSw; (try dsimp only at hSw); go_simp; try (with_reducible rfl)
            try simp only [Act.put, List.setIfInBounds_toArray, List.set_cons_zero, List.set_cons_succ]
            refine' wpAnyH_take (i := 12) (oi := ?oo13_12) (v := ?vv13_12) ?hi13_12 (by kernel_rfl) (by kernel_rfl) (by kernel_rfl) ?hq13_12 (Or.inl ⟨?hw13_12, ?hy13_12⟩) hHeld ?rest13_12
            case hi13_12 => simp only [List.getElem?_toArray, List.getElem?_cons_succ, List.getElem?_cons_zero]; rfl
            case hq13_12 => exact fun _ _ _ h => h
            case hw13_12 => rfl
            case hy13_12 => intro w hSw; (try dsimp only at hSw); go_simp; try (with_reducible rfl)
            try simp only [Act.put, List.setIfInBounds_toArray, List.set_cons_zero, List.set_cons_succ]
            refine' wpAnyH_take (i := 13) (oi := ?oo14_13) (v := ?vv14_13) ?hi14_13 (by kernel_rfl) (by kernel_rfl) (by kernel_rfl) ?hq14_13 (Or.inl ⟨?hw14_13, ?hy14_13⟩) hHeld ?rest14_13
            case hi14_13 => simp only [List.getElem?_toArray, List.getElem?_cons_succ, List.getElem?_cons_zero]; rfl
            case hq14_13 => exact fun _ _ _ h => h
            case hw14_13 => rfl
            case hy14_13 => intro w hSw; (try dsimp only at hSw); go_simp; try (with_reducible rfl)
            try simp only [Act.put, List.setIfInBounds_toArray, List.set_cons_zero, List.set_cons_succ]
            refine' wpAnyH_take (i := 14) (oi := ?oo15_14) (v := ?vv15_14) ?hi15_14 (by kernel_rfl) (by kernel_rfl) (by kernel_rfl) ?hq15_14 (Or.inl ⟨?hw15_14, ?hy15_14⟩) hHeld ?rest15_14
            case hi15_14 => simp only [List.getElem?_toArray, List.getElem?_cons_succ, List.getElem?_cons_zero]; rfl
            case hq15_14 => exact fun _ _ _ h => h
            case hw15_14 => rfl
            case hy15_14 => intro w hSw; (try dsimp only at hSw); go_simp; try (with_reducible rfl)
            try simp only [Act.put, List.setIfInBounds_toArray, List.set_cons_zero, List.set_cons_succ]
            refine' wpAnyH_take (i := 15) (oi := ?oo16_15) (v := ?vv16_15) ?hi16_15 (by kernel_rfl) (by kernel_rfl) (by kernel_rfl) ?hq16_15 (Or.inl ⟨?hw16_15, ?hy16_15⟩) hHeld ?rest16_15
            case hi16_15 => simp only [List.getElem?_toArray, List.getElem?_cons_succ, List.getElem?_cons_zero]; rfl
            case hq16_15 => exact fun _ _ _ h => h
            case hw16_15 => rfl
            case hy16_15 => intro w hSw; (try dsimp only at hSw); go_simp; try (with_reducible rfl)
            try simp only [Act.put, List.setIfInBounds_toArray, List.set_cons_zero, List.set_cons_succ]
            refine' wpAnyH_take (i := 16) (oi := ?oo17_16) (v := ?vv17_16) ?hi17_16 (by kernel_rfl) (by kernel_rfl) (by kernel_rfl) ?hq17_16 (Or.inl ⟨?hw17_16, ?hy17_16⟩) hHeld ?rest17_16
            case hi17_16 => simp only [List.getElem?_toArray, List.getElem?_cons_succ, List.getElem?_cons_zero]; rfl
            case hq17_16 => exact fun _ _ _ h => h
            case hw17_16 => rfl
            case hy17_16 => intro w hSw; (try dsimp only at hSw); go_simp; try (with_reducible rfl)
            try simp only [Act.put, List.setIfInBounds_toArray, List.set_cons_zero, List.set_cons_succ]
            refine' wpAnyH_take (i := 17) (oi := ?oo18_17) (v := ?vv18_17) ?hi18_17 (by kernel_rfl) (by kernel_rfl) (by kernel_rfl) ?hq18_17 (Or.inl ⟨?hw18_17, ?hy18_17⟩) hHeld ?rest18_17
            case hi18_17 => simp only [List.getElem?_toArray, List.getElem?_cons_succ, List.getElem?_cons_zero]; rfl
            case hq18_17 => exact fun _ _ _ h => h
            case hw18_17 => rfl
            case hy18_17 => intro w hSw; (try dsimp only at hSw); go_simp; try (with_reducible rfl)
            try simp only [Act.put, List.setIfInBounds_toArray, List.set_cons_zero, List.set_cons_succ]
            refine' wpAnyH_take (i := 18) (oi := ?oo19_18) (v := ?vv19_18) ?hi19_18 (by kernel_rfl) (by kernel_rfl) (by kernel_rfl) ?hq19_18 (Or.inl ⟨?hw19_18, ?hy19_18⟩) hHeld ?rest19_18
            case hi19_18 => simp only [List.getElem?_toArray, List.getElem?_cons_succ, List.getElem?_cons_zero]; rfl
            case hq19_18 => exact fun _ _ _ h => h
            case hw19_18 => rfl
            case hy19_18 => intro w hSw; (try dsimp only at hSw); go_simp; try (with_reducible rfl)
            try simp only [Act.put, List.setIfInBounds_toArray, List.set_cons_zero, List.set_cons_succ]
            refine' wpAnyH_take (i := 19) (oi := ?oo20_19) (v := ?vv20_19) ?hi20_19 (by kernel_rfl) (by kernel_rfl) (by kernel_rfl) ?hq20_19 (Or.inl ⟨?hw20_19, ?hy20_19⟩) hHeld ?rest20_19
            case hi20_19 => simp only [List.getElem?_toArray, List.getElem?_cons_succ, List.getElem?_cons_zero]; rfl
            case hq20_19 => exact fun _ _ _ h => h
            case hw20_19 => rfl
            case hy20_19 => intro w hSw; (try dsimp only at hSw); go_simp; try (with_reducible rfl)
            try simp only [Act.put, List.setIfInBounds_toArray, List.set_cons_zero, List.set_cons_succ]
            refine' wpAnyH_take (i := 20) (oi := ?oo21_20) (v := ?vv21_20) ?hi21_20 (by kernel_rfl) (by kernel_rfl) (by kernel_rfl) ?hq21_20 (Or.inl ⟨?hw21_20, ?hy21_20⟩) hHeld ?rest21_20
            case hi21_20 => simp only [List.getElem?_toArray, List.getElem?_cons_succ, List.getElem?_cons_zero]; rfl
            case hq21_20 => exact fun _ _ _ h => h
            case hw21_20 => rfl
            case hy21_20 => intro w hSw; (try dsimp only at hSw); go_simp; try (with_reducible rfl)
            try simp only [Act.put, List.setIfInBounds_toArray, List.set_cons_zero, List.set_cons_succ]
            refine' wpAnyH_take (i := 21) (oi := ?oo22_21) (v := ?vv22_21) ?hi22_21 (by kernel_rfl) (by kernel_rfl) (by kernel_rfl) ?hq22_21 (Or.inl ⟨?hw22_21, ?hy22_21⟩) hHeld ?rest22_21
            case hi22_21 => simp only [List.getElem?_toArray, List.getElem?_cons_succ, List.getElem?_cons_zero]; rfl
            case hq22_21 => exact fun _ _ _ h => h
            case hw22_21 => rfl
            case hy22_21 => intro w hSw; (try dsimp only at hSw); go_simp; try (with_reducible rfl)
            try simp only [Act.put, List.setIfInBounds_toArray, List.set_cons_zero, List.set_cons_succ]
            refine' wpAnyH_take (i := 22) (oi := ?oo23_22) (v := ?vv23_22) ?hi23_22 (by kernel_rfl) (by kernel_rfl) (by kernel_rfl) ?hq23_22 (Or.inl ⟨?hw23_22, ?hy23_22⟩) hHeld ?rest23_22
            case hi23_22 => simp only [List.getElem?_toArray, List.getElem?_cons_succ, List.getElem?_cons_zero]; rfl
            case hq23_22 => exact fun _ _ _ h => h
            case hw23_22 => rfl
            case hy23_22 => intro w hSw; (try dsimp only at hSw); go_simp; try (with_reducible rfl)
            try simp only [Act.put, List.setIfInBounds_toArray, List.set_cons_zero, List.set_cons_succ]
            refine' wpAnyH_take (i := 23) (oi := ?oo24_23) (v := ?vv24_23) ?hi24_23 (by kernel_rfl) (by kernel_rfl) (by kernel_rfl) ?hq24_23 (Or.inl ⟨?hw24_23, ?hy24_23⟩) hHeld ?rest24_23
            case hi24_23 => simp only [List.getElem?_toArray, List.getElem?_cons_succ, List.getElem?_cons_zero]; rfl
            case hq24_23 => exact fun _ _ _ h => h
            case hw24_23 => rfl
            case hy24_23 => intro w hSw; (try dsimp only at hSw); go_simp; try (with_reducible rfl)
            try simp only [Act.put, List.setIfInBounds_toArray, List.set_cons_zero, List.set_cons_succ]
            refine' wpAnyH_take (i := 24) (oi := ?oo25_24) (v := ?vv25_24) ?hi25_24 (by kernel_rfl) (by kernel_rfl) (by kernel_rfl) ?hq25_24 (Or.inl ⟨?hw25_24, ?hy25_24⟩) hHeld ?rest25_24
            case hi25_24 => simp only [List.getElem?_toArray, List.getElem?_cons_succ, List.getElem?_cons_zero]; rfl
            case hq25_24 => exact fun _ _ _ h => h
            case hw25_24 => rfl
            case hy25_24 => intro w hSw; (try dsimp only at hSw); go_simp; try (with_reducible rfl)
            try simp only [Act.put, List.setIfInBounds_toArray, List.set_cons_zero, List.set_cons_succ]
            refine' wpAnyH_take (i := 25) (oi := ?oo26_25) (v := ?vv26_25) ?hi26_25 (by kernel_rfl) (by kernel_rfl) (by kernel_rfl) ?hq26_25 (Or.inl ⟨?hw26_25, ?hy26_25⟩) hHeld ?rest26_25
            case hi26_25 => simp only [List.getElem?_toArray, List.getElem?_cons_succ, List.getElem?_cons_zero]; rfl
            case hq26_25 => exact fun _ _ _ h => h
            case hw26_25 => rfl
            case hy26_25 => intro w hSw; (try dsimp only at hSw); go_simp; try (with_reducible rfl)
            try simp only [Act.put, List.setIfInBounds_toArray, List.set_cons_zero, List.set_cons_succ]
            refine' wpAnyH_take (i := 26) (oi := ?oo27_26) (v := ?vv27_26) ?hi27_26 (by kernel_rfl) (by kernel_rfl) (by kernel_rfl) ?hq27_26 (Or.inl ⟨?hw27_26, ?hy27_26⟩) hHeld ?rest27_26
            case hi27_26 => simp only [List.getElem?_toArray, List.getElem?_cons_succ, List.getElem?_cons_zero]; rfl
            case hq27_26 => exact fun _ _ _ h => h
            case hw27_26 => rfl
            case hy27_26 => intro w hSw; (try dsimp only at hSw); go_simp; try (with_reducible rfl)
            try simp only [Act.put, List.setIfInBounds_toArray, List.set_cons_zero, List.set_cons_succ]
            refine' wpAnyH_take (i := 27) (oi := ?oo28_27) (v := ?vv28_27) ?hi28_27 (by kernel_rfl) (by kernel_rfl) (by kernel_rfl) ?hq28_27 (Or.inl ⟨?hw28_27, ?hy28_27⟩) hHeld ?rest28_27
            case hi28_27 => simp only [List.getElem?_toArray, List.getElem?_cons_succ, List.getElem?_cons_zero]; rfl
            case hq28_27 => exact fun _ _ _ h => h
            case hw28_27 => rfl
            case hy28_27 => intro w hSw; (try dsimp only at hSw); go_simp; try (with_reducible rfl)
            try simp only [Act.put, List.setIfInBounds_toArray, List.set_cons_zero, List.set_cons_succ]
            refine' wpAnyH_take (i := 28) (oi := ?oo29_28) (v := ?vv29_28) ?hi29_28 (by kernel_rfl) (by kernel_rfl) (by kernel_rfl) ?hq29_28 (Or.inl ⟨?hw29_28, ?hy29_28⟩) hHeld ?rest29_28
            case hi29_28 => simp only [List.getElem?_toArray, List.getElem?_cons_succ, List.getElem?_cons_zero]; rfl
            case hq29_28 => exact fun _ _ _ h => h
            case hw29_28 => rfl
            case hy29_28 => intro w hSw; (try dsimp only at hSw); go_simp; try (with_reducible rfl)
            try simp only [Act.put, List.setIfInBounds_toArray, List.set_cons_zero, List.set_cons_succ]
            refine' wpAnyH_take (i := 29) (oi := ?oo30_29) (v := ?vv30_29) ?hi30_29 (by kernel_rfl) (by kernel_rfl) (by kernel_rfl) ?hq30_29 (Or.inl ⟨?hw30_29, ?hy30_29⟩) hHeld ?rest30_29
            case hi30_29 => simp only [List.getElem?_toArray, List.getElem?_cons_succ, List.getElem?_cons_zero]; rfl
            case hq30_29 => exact fun _ _ _ h => h
            case hw30_29 => rfl
            case hy30_29 => intro w hSw; (try dsimp only at hSw); go_simp; try (with_reducible rfl)
            try simp only [Act.put, List.setIfInBounds_toArray, List.set_cons_zero, List.set_cons_succ]
            refine' wpAnyH_take (i := 30) (oi := ?oo31_30) (v := ?vv31_30) ?hi31_30 (by kernel_rfl) (by kernel_rfl) (by kernel_rfl) ?hq31_30 (Or.inl ⟨?hw31_30, ?hy31_30⟩) hHeld ?rest31_30
            case hi31_30 => simp only [List.getElem?_toArray, List.getElem?_cons_succ, List.getElem?_cons_zero]; rfl
            case hq31_30 => exact fun _ _ _ h => h
            case hw31_30 => rfl
            case hy31_30 => intro w hSw; (try dsimp only at hSw); go_simp; try (with_reducible rfl)
            try simp only [Act.put, List.setIfInBounds_toArray, List.set_cons_zero, List.set_cons_succ]
            refine' wpAnyH_take (i := 31) (oi := ?oo32_31) (v := ?vv32_31) ?hi32_31 (by kernel_rfl) (by kernel_rfl) (by kernel_rfl) ?hq32_31 (Or.inl ⟨?hw32_31, ?hy32_31⟩) hHeld ?rest32_31
            case hi32_31 => simp only [List.getElem?_toArray, List.getElem?_cons_succ, List.getElem?_cons_zero]; rfl
            case hq32_31 => exact fun _ _ _ h => h
            case hw32_31 => rfl
            case hy32_31 => intro w hSw; (try dsimp only at hSw); go_simp; try (with_reducible rfl)
            try simp only [Act.put, List.setIfInBounds_toArray, List.set_cons_zero, List.set_cons_succ]
            refine' wpAnyH_take (i := 33) (oi := ?oo33_33) (v := ?vv33_33) ?hi33_33 (by kernel_rfl) (by kernel_rfl) (by kernel_rfl) ?hq33_33 (Or.inl ⟨?hw33_33, ?hy33_33⟩) hHeld ?rest33_33
            case hi33_33 => simp only [List.getElem?_toArray, List.getElem?_cons_succ, List.getElem?_cons_zero]; rfl
            case hq33_33 => exact fun _ _ _ h => h
            case hw33_33 => rfl
            case hy33_33 => intro w hSw; (try dsimp only at hSw); go_simp; try (with_reducible rfl)
            try simp only [Act.put, List.setIfInBounds_toArray, List.set_cons_zero, List.set_cons_succ]
            refine' wpAnyH_take (i := 34) (oi := ?oo34_34) (v := ?vv34_34) ?hi34_34 (by kernel_rfl) (by kernel_rfl) (by kernel_rfl) ?hq34_34 (Or.inl ⟨?hw34_34, ?hy34_34⟩) hHeld ?rest34_34
            case hi34_34 => simp only [List.getElem?_toArray, List.getElem?_cons_succ, List.getElem?_cons_zero]; rfl
            case hq34_34 => exact fun _ _ _ h => h
            case hw34_34 => rfl
            case hy34_34 => intro w hSw; (try dsimp only at hSw); go_simp; try (with_reducible rfl)
            try simp only [Act.put, List.setIfInBounds_toArray, List.set_cons_zero, List.set_cons_succ]
            refine wpAnyH_ready (rs := [32]) (by kernel_rfl) (by simp) ?_
            refine' (AllReadyH.cons (o := ?ok35_32) ?hk35_32 (fun K hK => ?st35_32) AllReadyH.nil)
            case hk35_32 => simp only [List.getElem?_toArray, List.getElem?_cons_succ, List.getElem?_cons_zero]; rfl
            case st35_32 =>
              go_simp
              go_at_call 44
              refine (HPR.out _ B3.out).mono ?_
              rintro e w4 ⟨u4, rfl, hu4, hb4⟩
              obtain ⟨a4, C4, rfl⟩ := hu4.form
              have B4 := Lib.hid (B3.out.trans (hb4.mono B3.out.size))
              have HU4 := Lib.hid hu4
              have hS4 := SKEEP.out _ B4.out
              clear hb4 hu4
              go_wp2_with fail
              refine hK.out _ _ (hS4) (fun hHeld => ?_)
              clear hK K
              try simp only [Act.put, List.setIfInBounds_toArray, List.set_cons_zero, List.set_cons_succ]
              refine wpAnyH_ready (rs := [35]) (by kernel_rfl) (by simp) ?_
              refine' (AllReadyH.cons (o := ?ok36_35) ?hk36_35 (fun K hK => ?st36_35) AllReadyH.nil)
              case hk36_35 => simp only [List.getElem?_toArray, List.getElem?_cons_succ, List.getElem?_cons_zero]; rfl
              case st36_35 =>
                go_simp
                go_at_call 43
                refine (HMO.out _ _ B4.out ⟨_, _, HU4.out⟩).mono ?_
                rintro e w5 ⟨rfl, hb5⟩
                have B5 := Lib.hid (B4.out.trans (hb5.mono B4.out.size))
                have hS5 := SKEEP.out _ B5.out
                clear hb5
                go_wp2_with fail
                refine hK.out _ _ (hS5) (fun hHeld => ?_)
                clear hK K
                try simp only [Act.put, List.setIfInBounds_toArray, List.set_cons_zero, List.set_cons_succ]
                refine' wpAnyH_take (i := 36) (oi := ?oo37_36) (v := ?vv37_36) ?hi37_36 (by kernel_rfl) (by kernel_rfl) (by kernel_rfl) ?hq37_36 (Or.inl ⟨?hw37_36, ?hy37_36⟩) hHeld ?rest37_36
                case hi37_36 => simp only [List.getElem?_toArray, List.getElem?_cons_succ, List.getElem?_cons_zero]; rfl
                case hq37_36 => exact fun _ _ _ h => h
                case hw37_36 => rfl
                case hy37_36 => intro w hSw; (try dsimp only at hSw); go_simp; try (with_reducible rfl)
                try simp only [Act.put, List.setIfInBounds_toArray, List.set_cons_zero, List.set_cons_succ]
                refine' wpAnyH_take (i := 37) (oi := ?oo38_37) (v := ?vv38_37) ?hi38_37 (by kernel_rfl) (by kernel_rfl) (by kernel_rfl) ?hq38_37 (Or.inl ⟨?hw38_37, ?hy38_37⟩) hHeld ?rest38_37
                case hi38_37 => simp only [List.getElem?_toArray, List.getElem?_cons_succ, List.getElem?_cons_zero]; rfl
                case hq38_37 => exact fun _ _ _ h => h
                case hw38_37 => rfl
                case hy38_37 => intro w hSw; (try dsimp only at hSw); go_simp; try (with_reducible rfl)
                try simp only [Act.put, List.setIfInBounds_toArray, List.set_cons_zero, List.set_cons_succ]
                refine wpAnyH_done (by kernel_rfl) ?_ _
                have HB5 := Lib.hid (show Below w2.heap.size w2 w5 from B5.out)
                have H5 := Lib.hid (H2.out.step HB5.out)
                have B15 := Lib.hid (B12.out.trans (HB5.out.mono B12.out.size))
                clear hHeld hlz hNZ hwN hxl2
                cases t with
                | false =>
                  have HE := Lib.hid (show curB r0 r1 r2 x = false from HUB.out)
                  go_wp2
                  go_ret2
                  exact HNO.out HE.out _ B15.out
                | true =>
                  have HE := Lib.hid (show curB r0 r1 r2 x = true from HUB.out)
                  obtain ⟨i0, hi0, hz0', hz1', hz2'⟩ := info_parts infoInt
                  have hO0 := owns_below HOW.out B15.out
                  rw [hz0] at hO0
                  have HO0 := Lib.hid hO0
                  obtain ⟨L, hL⟩ : ∃ L, L = I2 (funsR r1 r2) := ⟨_, rfl⟩
                  have HLL := Lib.hid (show L.length ≤ 200 by rw [hL, I2_len]; exact hle)
                  have HLE := Lib.hid hL
                  have hzz1 : w.heap.size + 3 < W1.heap.size := by omega
                  have HZ2 := Lib.hid (show W1.heap.size ≤ w2.heap.size from B12.out.size)
                  have HZ5 := Lib.hid (show w2.heap.size ≤ w5.heap.size from HB5.out.size)
                  have HV := Lib.hid (show ∀ W, BelowBut (w.heap.size + 3) w2.heap.size w5 W → RowsAt W (.slice a1 (funsR r1 r2).length C1) L from fun W hb => by
                    rw [hL]
                    refine I2_at (lo := W1.heap.size) (hi := w2.heap.size) (HL1.out.kept fun b h1 h2 => ?_)
                    exact (hb.block b h2 (by omega)).trans (HB5.out.block b h2))
                  have HXA := Lib.hid (show ∀ W, BelowBut (w.heap.size + 3) w2.heap.size w5 W → IntsAt W (.slice (some ⟨bx, ox, none⟩) x.length Cf) x from fun W hb => HF.out _ (H5.out.two.below.trans (hb.below (n := w.heap.size) (by omega) (by have := HZ2.out; omega))))
                  have HC0 := Lib.hid (show ∀ W, BelowBut (w.heap.size + 3) w2.heap.size w5 W → W.cell? ⟨w.heap.size, 0, none⟩ = some (.slice A r0.length C) from fun W hb => (World.cell?_of_block (a := ⟨w.heap.size, 0, none⟩) (hb.block w.heap.size (by have := HZ2.out; omega) (by omega))).trans H5.out.two.c0)
                  have hcB := H5.out.two.c1
                  clear hL hO0
                  go_wp2
                  clear hcB
                  simp only [Nat.add_assoc, Nat.reduceAdd, Bool.not_true]
                  go_loopw [10, 14] (fun u iv wr => ∃ k : Nat, k ≤ r0.length ∧ iv = .int .i64 k ∧ wr.ownsRow (w.heap.size + 3) 3 1 u k (cellsI (curX L x r1.length k)) ∧ (u.ownBlock = some (w.heap.size + 3) ∨ ∀ b, u.ownBlock = some b → w2.heap.size ≤ b) ∧ BelowBut (w.heap.size + 3) w2.heap.size w5 wr) (fun _ iv _ => r0.length - (intOf iv).toNat)
                  case atStart => exact ⟨0, Nat.zero_le _, rfl, HO0.out, .inl rfl, BelowBut.refl _ _ _⟩
                  case round =>
                    obtain ⟨k, hk, rfl, hown, hfr, hbw⟩ := hrel
                    have HOWN := Lib.hid hown
                    have HFR := Lib.hid hfr
                    have HBW := Lib.hid hbw
                    have hc0 := HC0.out _ hbw
                    clear hown hbw hfr HO0
                    by_cases hlt : k < r0.length
                    · have hltz : (k : Int) < (r0.length : Int) := by omega
                      have hcb := chunk_bound (n := r1.length) hlt
                      have HIX := Lib.hid (show ∀ W, BelowBut (w.heap.size + 3) w2.heap.size w5 W → Calls Tryd.prog 40 #[.slice a1 (funsR r1 r2).length C1, .slice (some ⟨bx, ox + k * r1.length, none⟩) r1.length (Cf - k * r1.length)] W (SaysJ (idxL L (chunk x r1.length k)) W) from fun W hb => l2Index_any _ _ L (chunk x r1.length k) W (HV.out W hb) (chunk_ints2 HXL.out hlt (HXA.out W hb)))
                      have HS := Lib.hid (curX_succ L x r1.length k)
                      have hcC : k * r1.length + r1.length ≤ Cf := by rw [← HXL.out] at hcb; omega
                      have hqz : (k : Int) * (r1.length : Int) = ((k * r1.length : Nat) : Int) := (Int.natCast_mul _ _).symm
                      have hcq : k * r1.length + r1.length ≤ 40000 := Nat.le_trans hcb (Nat.le_trans (Nat.mul_le_mul hl0.2 hl1.2) (by decide))
                      clear hcb
                      generalize k * r1.length = q at *
                      generalize chunk x r1.length k = ck at *
                      have hwq : IntKind.i64.wrap (q : Int) = (q : Int) := IntWalk.i64_in _ (by omega)
                      have hwq2 : IntKind.i64.wrap ((q : Int) + (r1.length : Int)) = (q : Int) + (r1.length : Int) := IntWalk.i64_in _ (by omega)
                      have hq0 : (0 : Int) ≤ (q : Int) := by omega
                      have hqn : (q : Int) ≤ (q : Int) + (r1.length : Int) := by omega
                      have hqC : (q : Int) + (r1.length : Int) ≤ (Cf : Int) := by omega
                      have htn : ((q : Int) + (r1.length : Int)).toNat = q + r1.length := by omega
                      have hbs : w.heap.size + 3 ≤ wr.heap.size := by have := HBW.out.size; have := HZ2.out; have := HZ5.out; omega
                      go_wp2_with (first | (go_at_call 40; refine (HIX.out _ HBW.out).mono ?_; rintro e w7 ⟨rfl, hb7⟩; have B7 := Lib.hid hb7; have hz7 := hb7.size; clear hb7) | (at_builtin; refine wpList_append_lies _ rfl _ _ 37 rfl (w.heap.size + 3) 3 i0 (.int .i64 0) 1 8 Tryd.underlying37 hi0 hz0' hz1' hz2' rfl (by decide) _ k (cellsI (curX L x r1.length k)) (by rfl) ((owns_below HOWN.out B7.out).alloc _) ⟨w7.heap.size, 0, none⟩ 1 1 [.int .i64 (idxL L ck)] (by rfl) rfl (World.news_of_block (heap_alloc_new w7 _)) (by simp [Value.oneCell']) (by omega) (by unfold maxLen; omega) (by omega) (by simp; omega) (w7.heap.size + 1) (by simp) ?_; intro g2 cap2 w8 hown2 hgrow2 hat2 hlt2))
                      go_roundw
                      case rel =>
                        refine ⟨k + 1, by omega, by go_num, ?_, ?_, ?_⟩
                        · rw [HS.out, show ∀ P Q : List Int, cellsI (P ++ Q) = cellsI P ++ cellsI Q from fun P Q => by simp]
                          exact hown2
                        · rcases hat2 with h | h
                          · rcases HFR.out with k1 | k1
                            · have h5 : some (w.heap.size + 3) = some g2 := k1.symm.trans h
                              injection h5 with h5
                              exact .inl (by rw [h5]; rfl)
                            · exact .inr fun b e => by
                                have h3 : g2 = b := by simpa [Value.ownBlock] using e
                                subst h3
                                exact k1 _ h
                          · exact .inr fun b e => by
                              have h3 : g2 = b := by simpa [Value.ownBlock] using e
                              have := HBW.out.size
                              have := HZ5.out
                              omega
                        · exact ((HBW.out.step HZ5.out B7.out).step HZ5.out ((Below.refl _ w7).alloc (Nat.le_refl _) _)).grown HZ5.out hgrow2 HFR.out
                      case measure => simp [intOf]; omega
                    · obtain rfl : k = r0.length := by omega
                      go_wp2
                      go_ret2
                      refine ⟨_, by rw [HE.out]; rfl, ?_, H5.out.two.below.trans (HBW.out.below (n := w.heap.size) (by omega) (by have := HZ2.out; omega))⟩
                      rw [curL_yes HE.out, ← HLE.out]
                      refine (OwnI.of_owns (by rw [curX_len]; exact HOWN.out) (fun y hy => ?_) (fun b hb => (HOWN.out.lt b hb).2)).wider (by omega) (Nat.le_refl _)
                      unfold curX at hy
                      obtain ⟨i, _, rfl⟩ := List.mem_map.1 hy
                      exact wf_idx L (chunk x r1.length i) HLL.out
        · have hm : monoI (prodL r0 r1) r2 x = false := by
            cases h : monoI (prodL r0 r1) r2 x with
            | false => rfl
            | true => exact absurd ((HMP.out hl).1 h).1 hx
          rw [hm] at hub
          have HE := Lib.hid (show curB r0 r1 r2 x = false from hub)
          have hNZ : (r0.length : Int) * (r1.length : Int) = ((r0.length * r1.length : Nat) : Int) := (Int.natCast_mul _ _).symm
          clear HMP hm hub
          generalize r0.length * r1.length = N at *
          have hwN : IntKind.i64.wrap (N : Int) = (N : Int) := IntWalk.i64_in _ (by omega)
          have hlz : decide ((200 : Int) < (N : Int)) = false := decide_eq_false (by omega)
          have hb : ((x.length : Int) == (N : Int)) = false := by rw [beq_eq_false_iff_ne]; omega
          have hb2 : (x.length == N) = false := by rw [beq_eq_false_iff_ne]; omega
          have hb3 : ((x.length : Int) != (N : Int)) = true := by unfold bne; rw [hb]; rfl
          have hb4 : (x.length != N) = true := by unfold bne; rw [hb2]; rfl
          clear hown hcA hcB hcC hx
          go_upto_region 3 with fail
          refine wp_region_quiet_below (by kernel_rfl) (by kernel_rfl) ?_
          repeat (go_big_quiet_step (first | (go_at_call 42; exact Calls.regrown_of (hdi _ _))))
          refine wpQuiet_nil ?_
          intro _ hw'
          obtain ⟨⟨dq, osq⟩, hw''⟩ := hw'
          subst hw''
          clear hk0 hk1 hk2 hdi
          go_wp2
          go_ret2
          exact HNO.out HE.out _ (B12.out.trans ((below_regrown w2 dq osq).mono B12.out.size))
      · rw [decide_eq_false hl, Bool.false_and] at hub
        have HE := Lib.hid (show curB r0 r1 r2 x = false from hub)
        have hNZ : (r0.length : Int) * (r1.length : Int) = ((r0.length * r1.length : Nat) : Int) := (Int.natCast_mul _ _).symm
        clear HMP
        generalize r0.length * r1.length = N at *
        have hwN : IntKind.i64.wrap (N : Int) = (N : Int) := IntWalk.i64_in _ (by omega)
        have hlz : (200 : Int) < (N : Int) := by omega
        clear hub hown hcA hcB hcC
        go_upto_region 3 with fail
        refine wp_region_quiet_below (by kernel_rfl) (by kernel_rfl) ?_
        repeat (go_big_quiet_step (first | (go_at_call 42; exact Calls.regrown_of (hdi _ _))))
        refine wpQuiet_nil ?_
        intro _ hw'
        obtain ⟨⟨dq, osq⟩, hw''⟩ := hw'
        subst hw''
        clear hk0 hk1 hk2 hdi
        go_wp2
        go_ret2
        exact HNO.out HE.out _ (B12.out.trans ((below_regrown w2 dq osq).mono B12.out.size))

theorem cur_short (r0 r1 r2 : Rows2) (x : List Int) : (curL r0 r1 r2 x).length ≤ 1048576 := by
  cases h : curB r0 r1 r2 x with
  | false => rw [curL_no h]; exact Nat.zero_le _
  | true =>
    rw [curL_yes h, curX_len]
    have := (dom_ok (curB_parts h).1).len.2
    omega
end Go.Proofs.YtkhhbpeheikmfaaDoor
