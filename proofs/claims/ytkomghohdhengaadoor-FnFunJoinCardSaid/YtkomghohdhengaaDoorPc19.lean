/- Orders as grids: what holds of their rows and their size; gridOf with its Boolean known. -/
import Derived.Test.YtkomghohdhengaaDoorPc11
import Derived.Test.YtkomghohdhengaaDoorPc12
import Derived.Test.YtkomghohdhengaaDoorPc13
import Derived.Test.YtkomghohdhengaaDoorPc15
import Derived.Test.YtkomghohdhengaaDoorPc8
import Derived.Test.YtkomghohdhengaaDoorPc14
import Derived.StillTailTactics
import Derived.Lib.QuietBelow
import Derived.BigQuiet
import Derived.Test.YtkomghohdhengaaDoorPc10
import Derived.Test.YtkomghohdhengaaDoorPc1
import Derived.Maps.AppendAt
import Derived.Test.YtkomghohdhengaaDoorPc17
import Derived.Test.YtkomghohdhengaaDoorPc18
import Derived.RangeFuncBox
import Derived.Deep.AppendLies
import Derived.Test.YtkomghohdhengaaDoorPc4
import Derived.Test.YtkomghohdhengaaDoorPc6
namespace Go.Proofs.YtkomghohdhengaaDoor
open Go.RowKit Go.Deep Go.Shelf

theorem Ok.gridN {rows : List (List Int)} (h : Ok rows) : GridN (gridF rows) rows.length :=
  ⟨h.len.2, fun i hi e => by have := h.own i hi; rw [e] at this; simp at this, fun _ => gridF_out rows (Nat.le_refl _)⟩

/-- What gridOf answers, its Boolean being known. -/
def GridT (t : Bool) (rows : Rows2) (w : World) (e : Ending) (w' : World) : Prop :=
  (∃ g : Nat → Nat, ((∀ i, g i < 2 ^ 256) ∧ (t = true → g = gridF rows)) ∧ e = .returned (.tuple #[.agg (gridCells g), .bool t])) ∧ Below w.heap.size w w'
theorem gridOf_t (v : Value) (rows : Rows2) (w : World) (hv : RowsAt w v rows) (hT : Tab w) (hn : bulk rows ≤ 1048576) {t : Bool} (ht : validB rows = t) :
    Calls Tryd.prog 82 #[.agg #[v]] w (GridT t rows w) :=
  (gridOf_any v rows w hv hT hn).mono fun _ _ ⟨⟨g, h1, h2, h3⟩, h4⟩ => ⟨⟨g, ⟨h1, fun h => h2 (by rw [ht]; exact h)⟩, by rw [h3, ht]⟩, h4⟩

theorem Ok.lt200 {rows : List (List Int)} (h : Ok rows) {i k : Nat} (hk : (gridF rows i).testBit k = true) : k < 200 := by
  have := (h.bit_lt hk).2
  have := h.len
  omega

theorem backN_rows {rows : List (List Int)} (h : Ok rows) : backN (gridF rows) rows.length = gridF (backRows rows) := by
  funext k
  apply Nat.eq_of_testBit_eq
  intro i
  rw [backN_bit, back_bit h]
  cases hb : (gridF rows i).testBit k with
  | false => simp
  | true => rw [decide_eq_true (h.bit_lt hb).1]; rfl

theorem sum_le {m : Nat} : ∀ l : List Nat, (∀ x ∈ l, x ≤ m) → l.sum ≤ l.length * m
  | [], _ => by simp
  | x :: l, h => by
    have h1 := sum_le l fun y hy => h y (by simp [hy])
    have h2 := h x (by simp)
    rw [List.sum_cons, List.length_cons, Nat.succ_mul]
    omega
/-- An order is not large. -/
theorem Ok.bulk {rows : Rows2} (h : Ok rows) : bulk rows ≤ 1048576 := by
  unfold Go.Proofs.YtkomghohdhengaaDoor.bulk
  have h1 := sum_le (m := 256) (rows.map List.length) fun x hx => by
    obtain ⟨r, hr, rfl⟩ := List.mem_map.1 hx
    obtain ⟨i, hi, rfl⟩ := List.getElem_of_mem hr
    rw [h.elems hi, List.length_map]
    exact elems_length_le _
  rw [List.length_map] at h1
  have h2 := h.len.2
  have h3 := Nat.mul_le_mul_right 256 h2
  omega

end Go.Proofs.YtkomghohdhengaaDoor

/- The rows that a relation makes. Plain facts: no function is walked here. -/
namespace Go.Proofs.YtkomghohdhengaaDoor
open Go.RowKit Go.Deep

/-- What row a holds when b elements have been looked at. -/
def bRow (B : Nat → Nat → Bool) (a b : Nat) : List Int := ((List.range b).filter fun k => B a k).map fun k : Nat => (k : Int)
theorem bRow_yes {B : Nat → Nat → Bool} {a b : Nat} (h : B a b = true) : bRow B a (b + 1) = bRow B a b ++ [(b : Int)] := by
  unfold bRow
  rw [List.range_succ, List.filter_append, List.map_append, List.filter_cons, h]
  rfl
theorem bRow_no {B : Nat → Nat → Bool} {a b : Nat} (h : B a b = false) : bRow B a (b + 1) = bRow B a b := by
  unfold bRow
  rw [List.range_succ, List.filter_append, List.filter_cons, h]
  simp
theorem bRow_len (B : Nat → Nat → Bool) (a b : Nat) : (bRow B a b).length ≤ b := by
  unfold bRow
  rw [List.length_map]
  have := List.length_filter_le (fun k => B a k) (List.range b)
  simpa using this
end Go.Proofs.YtkomghohdhengaaDoor

/- Monotone functions, in numbers; two orders held by their variables. -/
namespace Go.Proofs.YtkomghohdhengaaDoor
open Go.RowKit Go.Deep

/-- The list f is a monotone function of the one order to the other. -/
def Mono (rows rows' : Rows2) (f : List Int) : Prop :=
  f.length = rows.length ∧ (∀ x ∈ f, 0 ≤ x ∧ x < rows'.length) ∧
    ∀ a b : Nat, a < rows.length → b < rows.length → upB rows a b = true → upB rows' (f.getD a 0).toNat (f.getD b 0) = true
open Classical in
noncomputable def monoI (rows rows' : Rows2) (f : List Int) : Bool := decide (Mono rows rows' f)
noncomputable def monoB (rows rows' : Rows2) (f : List Int) : Bool := domB rows && domB rows' && monoI rows rows' f

theorem monoI_len {rows rows' : Rows2} {f : List Int} (h : f.length ≠ rows.length) : monoI rows rows' f = false := by
  classical exact decide_eq_false fun hm => h hm.1
theorem monoI_out {rows rows' : Rows2} {f : List Int} {i : Nat} (hi : i < f.length) (h : ¬ (0 ≤ f[i] ∧ f[i] < rows'.length)) : monoI rows rows' f = false := by
  classical exact decide_eq_false fun hm => h (hm.2.1 _ (List.getElem_mem hi))
theorem monoI_bad {rows rows' : Rows2} {f : List Int} {a b : Nat} (ha : a < rows.length) (hb : b < rows.length) (hab : upB rows a b = true) (h : upB rows' (f.getD a 0).toNat (f.getD b 0) = false) : monoI rows rows' f = false := by
  classical exact decide_eq_false fun hm => by rw [hm.2.2 a b ha hb hab] at h; cases h
theorem monoI_yes {rows rows' : Rows2} {f : List Int} (h1 : f.length = rows.length) (h2 : ∀ i (hi : i < f.length), 0 ≤ f[i] ∧ f[i] < rows'.length)
    (h3 : ∀ a b : Nat, a < rows.length → b < rows.length → upB rows a b = true → upB rows' (f.getD a 0).toNat (f.getD b 0) = true) : monoI rows rows' f = true := by
  classical exact decide_eq_true ⟨h1, fun x hx => by obtain ⟨i, hi, rfl⟩ := List.getElem_of_mem hx; exact h2 i hi, h3⟩

/-- Two orders lie in the variables at blocks w.heap.size and the next. -/
structure Two (w : World) (v v' : Value) (rows rows' : Rows2) (W : World) : Prop where
  c0 : W.cell? ⟨w.heap.size, 0, none⟩ = some v
  c1 : W.cell? ⟨w.heap.size + 1, 0, none⟩ = some v'
  r0 : RowsAt W v rows
  r1 : RowsAt W v' rows'
  below : Below w.heap.size w W
theorem Two.step {w : World} {v v' : Value} {rows rows' : Rows2} {W W' : World} (h : Two w v v' rows rows' W) (hb : Below W.heap.size W W') : Two w v v' rows rows' W' :=
  ⟨by rw [hb.cell (p := ⟨w.heap.size, 0, none⟩) (cell_lt h.c0)]; exact h.c0, by rw [hb.cell (p := ⟨w.heap.size + 1, 0, none⟩) (cell_lt h.c1)]; exact h.c1, h.r0.below hb, h.r1.below hb, h.below.trans (hb.mono h.below.size)⟩
theorem Two.start (w : World) {v v' : Value} {rows rows' : Rows2} (t t' : TypeId) (hv : RowsAt w v rows) (hv' : RowsAt w v' rows') : Two w v v' rows rows' ((w.alloc (.cells #[v] t)).alloc (.cells #[v'] t')) := by
  have s1 : (w.alloc (.cells #[v] t)).heap.size = w.heap.size + 1 := World.size_alloc _ _
  have c0 : (w.alloc (.cells #[v] t)).cell? ⟨w.heap.size, 0, none⟩ = some v := (World.rowIs_alloc w #[v] t (fun _ => v) (fun i hi => by simp at hi; subst hi; rfl)).cell (by simp)
  have c1 : ((w.alloc (.cells #[v] t)).alloc (.cells #[v'] t')).cell? ⟨w.heap.size + 1, 0, none⟩ = some v' := by
    have h := (World.rowIs_alloc (w.alloc (.cells #[v] t)) #[v'] t' (fun _ => v') (fun i hi => by simp at hi; subst hi; rfl)).cell (i := 0) (by simp)
    rw [s1] at h
    exact h
  have b1 : Below w.heap.size w (w.alloc (.cells #[v] t)) := (Below.refl _ w).alloc (Nat.le_refl _) _
  have b2 : Below (w.alloc (.cells #[v] t)).heap.size (w.alloc (.cells #[v] t)) ((w.alloc (.cells #[v] t)).alloc (.cells #[v'] t')) := (Below.refl _ _).alloc (Nat.le_refl _) _
  exact ⟨cell_alloc_any c0 _, c1, (hv.below b1).below b2, (hv'.below b1).below b2, b1.trans (b2.mono (by omega))⟩
theorem Two.drew {w : World} {v v' : Value} {rows rows' : Rows2} {W : World} (h : Two w v v' rows rows' W) : Two w v v' rows rows' W.drew := h.step ⟨rfl, rfl, rfl, Nat.le_refl _, fun _ _ => rfl⟩
end Go.Proofs.YtkomghohdhengaaDoor

/- The model's check of a monotone function (l2Monotone), and its FunMonotone. -/
namespace Go.Proofs.YtkomghohdhengaaDoor
open Go.RowKit Go.Deep

theorem IntsAt.get {W : World} {A : Option Addr} {C : Nat} {xs : List Int} (h : IntsAt W (.slice A xs.length C) xs) {i : Nat} (hi : i < xs.length) :
    ∃ b o, A = some ⟨b, o, none⟩ ∧ W.cell? ⟨b, o + i, none⟩ = some (.int .i64 xs[i]) := by
  obtain ⟨a, C', e, _, _, _, hy⟩ := h
  cases e
  exact hy i hi

/-- Two orders in their variables, and a list. -/
def TwoF (w : World) (v v' vf : Value) (rows rows' : Rows2) (f : List Int) (W : World) : Prop := Two w v v' rows rows' W ∧ IntsAt W vf f
theorem TwoF.step {w : World} {v v' vf : Value} {rows rows' : Rows2} {f : List Int} {W W' : World} (h : TwoF w v v' vf rows rows' f W) (hb : Below W.heap.size W W') : TwoF w v v' vf rows rows' f W' := ⟨h.1.step hb, h.2.below hb⟩
theorem TwoF.drew {w : World} {v v' vf : Value} {rows rows' : Rows2} {f : List Int} {W : World} (h : TwoF w v v' vf rows rows' f W) : TwoF w v v' vf rows rows' f W.drew := h.step ⟨rfl, rfl, rfl, Nat.le_refl _, fun _ _ => rfl⟩
theorem TwoF.start (w : World) {v v' vf : Value} {rows rows' : Rows2} {f : List Int} (t t' : TypeId) (hv : RowsAt w v rows) (hv' : RowsAt w v' rows') (hf : IntsAt w vf f) : TwoF w v v' vf rows rows' f ((w.alloc (.cells #[v] t)).alloc (.cells #[v'] t')) :=
  ⟨Two.start w t t' hv hv', hf.below (Two.start w t t' hv hv').below⟩

/-- All numbers of the first i rows keep their order. -/
def MonoTo (rows rows' : Rows2) (f : List Int) (i : Nat) : Prop :=
  ∀ q (hq : q < rows.length), q < i → ∀ m (hm : m < rows[q].length), upB rows' (f.getD q 0).toNat (f.getD rows[q][m].toNat 0) = true
theorem MonoTo.all {rows rows' : Rows2} {f : List Int} (h : MonoTo rows rows' f rows.length) (h1 : f.length = rows.length) (h2 : ∀ i (hi : i < f.length), 0 ≤ f[i] ∧ f[i] < rows'.length) : monoI rows rows' f = true :=
  monoI_yes h1 h2 fun a b ha _ hab => by
    have hm := (upB_iff ha).1 hab
    obtain ⟨m, hml, e⟩ := List.getElem_of_mem hm
    have h3 := h a ha ha m hml
    rw [e] at h3
    simpa using h3

set_option maxRecDepth 100000 in
set_option maxHeartbeats 8000000 in
theorem l2Monotone_any (v v' vf : Value) (rows rows' : Rows2) (f : List Int) (w : World) (hv : RowsAt w v rows) (hv' : RowsAt w v' rows') (hf : IntsAt w vf f)
    (hn : bulk rows ≤ 1048576) (hn' : bulk rows' ≤ 1048576) (hl : listsB rows = true) (hl' : listsB rows' = true) :
    Calls Tryd.prog 86 #[.agg #[v], .agg #[v'], vf] w (SaysN (monoI rows rows' f) w) := by
  have hT := TwoF.start w 25 25 hv hv' hf
  have hlen : rows.length ≤ 1048576 := by unfold bulk at hn; omega
  have hlen' : rows'.length ≤ 1048576 := by unfold bulk at hn'; omega
  obtain ⟨A, C, rfl, hC, hm, _⟩ := hv
  obtain ⟨A', C', rfl, hC', hm', _⟩ := hv'
  obtain ⟨Af, Cf, rfl, hCf, hmf, _⟩ := hf
  unfold maxLen at hm hm' hmf
  have H0 := Lib.hid hT
  have hcell := hT.1.c0
  clear hT
  by_cases hfl : f.length = rows.length
  · have hb : ((f.length : Int) == (rows.length : Int)) = true := by rw [beq_iff_eq]; omega
    have hb2 : (f.length == rows.length) = true := by rw [beq_iff_eq]; omega
    have hb3 : ((f.length : Int) != (rows.length : Int)) = false := by unfold bne; rw [hb]; rfl
    have hb4 : (f.length != rows.length) = false := by unfold bne; rw [hb2]; rfl
    have hfn : f.length ≤ 1048576 := by omega
    have HFL := Lib.hid hfl
    clear hfl
    go_enter Tryd.func86, Tryd.ntmps86
    go_wp2
    go_loopw [7] (fun iv wr => ∃ i : Nat, i ≤ f.length ∧ iv = .int .i64 i ∧ (∀ q (hq : q < f.length), q < i → 0 ≤ f[q] ∧ f[q] < rows'.length) ∧ TwoF w (.slice A rows.length C) (.slice A' rows'.length C') (.slice Af f.length Cf) rows rows' f wr) (fun iv _ => f.length - (intOf iv).toNat)
    case atStart => exact ⟨0, Nat.zero_le _, rfl, fun _ _ h => absurd h (Nat.not_lt_zero _), H0.out⟩
    case round =>
      obtain ⟨i, hi, rfl, hp, hh⟩ := hrel
      have HP := Lib.hid hp
      have HK := Lib.hid hh
      have hcell1 := hh.1.c1
      clear hp hcell H0
      by_cases hlt : i < f.length
      · obtain ⟨bf, o_f, rfl, hcf⟩ := hh.2.get hlt
        have hs1 := i64_sub1 rows'.length hlen'
        clear hh
        by_cases hin : 0 ≤ f[i] ∧ f[i] ≤ (rows'.length : Int) - 1
        · have HIN := Lib.hid hin
          clear hin
          go_wp2
          go_still_tail 8, (by kernel_rfl)
          go_wp2_with (go_at_call 123; refine (l6In_yes _ _ _ _ HIN.out.1 HIN.out.2).mono ?_; rintro e w3 ⟨rfl, rfl⟩)
          go_roundw
          case rel =>
            refine ⟨i + 1, by omega, by go_num, fun q hq hlt' => ?_, HK.out.drew⟩
            by_cases e : q = i
            · subst e; exact ⟨HIN.out.1, by have := HIN.out.2; omega⟩
            · exact HP.out q hq (by omega)
          case measure => simp [intOf]; omega
        · have HE := Lib.hid (monoI_out (rows := rows) (rows' := rows') hlt (fun h => hin ⟨h.1, by omega⟩))
          have HIN := Lib.hid hin
          clear hin
          go_wp2
          go_still_tail 8, (by kernel_rfl)
          go_wp2_with (go_at_call 123; refine (l6In_no _ _ _ _ HIN.out).mono ?_; rintro e w3 ⟨rfl, rfl⟩)
          go_ret
          exact ⟨by rw [HE.out]; rfl, HK.out.drew.1.below⟩
      · obtain rfl : i = f.length := by omega
        have HRNG := Lib.hid (fun q (hq : q < f.length) => HP.out q hq hq)
        clear hh HP hcell1
        go_wp2
        go_loopw [8] (fun iv wr => ∃ i : Nat, i ≤ f.length ∧ iv = .int .i64 i ∧ MonoTo rows rows' f i ∧ TwoF w (.slice A rows.length C) (.slice A' rows'.length C') (.slice Af f.length Cf) rows rows' f wr) (fun iv _ => f.length - (intOf iv).toNat)
        case atStart => exact ⟨0, Nat.zero_le _, rfl, fun _ _ h => absurd h (Nat.not_lt_zero _), HK.out⟩
        case round =>
          obtain ⟨i, hi, rfl, hp, hh⟩ := hrel
          have HP := Lib.hid hp
          have HK2 := Lib.hid hh
          clear hp HK
          by_cases hlt : i < f.length
          · have hir : i < rows.length := by have := HFL.out; omega
            obtain ⟨_, _, e0, _, _, hx⟩ := hh.1.r0
            cases e0
            obtain ⟨b0, o0, u, rfl, _, _⟩ := hx i hir
            obtain ⟨bf, o_f, rfl, _⟩ := hh.2.get hlt
            have hli : rows[i].length ≤ 1048576 := by have := bulk_row hir; omega
            clear hh hx
            go_wp2
            go_loopw [9] (fun kv wr => ∃ k : Nat, k ≤ rows[i].length ∧ kv = .int .i64 k ∧ (∀ m (hm : m < rows[i].length), m < k → upB rows' (f.getD i 0).toNat (f.getD rows[i][m].toNat 0) = true) ∧ TwoF w (.slice (some ⟨b0, o0, none⟩) rows.length C) (.slice A' rows'.length C') (.slice (some ⟨bf, o_f, none⟩) f.length Cf) rows rows' f wr) (fun kv _ => rows[i].length - (intOf kv).toNat)
            case atStart => exact ⟨0, Nat.zero_le _, rfl, fun _ _ h => absurd h (Nat.not_lt_zero _), HK2.out⟩
            case round =>
              obtain ⟨k, hk, rfl, hp, hh⟩ := hrel
              have HP3 := Lib.hid hp
              have HK3 := Lib.hid hh
              have hcell0 := hh.1.c0
              have hcell1 := hh.1.c1
              obtain ⟨A1, C1, hC1, hm1, hc, hyy⟩ := hh.1.r0.row hir
              unfold maxLen at hm1
              clear hp HK2
              by_cases hkl : k < rows[i].length
              · obtain ⟨b1, o1, rfl, hc1⟩ := hyy k hkl
                clear hyy
                have hrange := (lists_at hl i hir).2 _ (List.getElem_mem hkl)
                obtain ⟨cn, hcn⟩ : ∃ cn : Nat, rows[i][k] = (cn : Int) := ⟨rows[i][k].toNat, by omega⟩
                have hcl : cn < f.length := by have := HFL.out; omega
                obtain ⟨_, _, e1, hcf⟩ := hh.2.get hlt
                cases e1
                obtain ⟨_, _, e1, hcg⟩ := hh.2.get hcl
                cases e1
                have hfi := HRNG.out i hlt
                have hgi : f.getD i 0 = f[i] := getD_lt 0 hlt
                have hgc : f.getD rows[i][k].toNat 0 = f[cn] := by rw [hcn, Int.toNat_natCast]; exact getD_lt 0 hcl
                rw [hcn] at hc1
                cases hup : upB rows' f[i].toNat f[cn] with
                | true =>
                  have HCALL := Lib.hid (le_call (HK3.out.drew).1.r1 hl' hn' f[i] f[cn] hfi.1 hfi.2 (r := true) hup)
                  have HU := Lib.hid (show upB rows' (f.getD i 0).toNat (f.getD rows[i][k].toNat 0) = true by rw [hgi, hgc]; exact hup)
                  clear hup hgi hgc hcn hrange hh hfi
                  go_wp2
                  go_still_tail 16, (by kernel_rfl)
                  go_wp2_with (go_at_call 98; refine HCALL.out.mono ?_; clear HCALL; rintro e w3 ⟨rfl, hb3⟩; have H3 := Lib.hid (HK3.out.drew.step hb3); clear hb3)
                  go_roundw
                  case rel =>
                    refine ⟨k + 1, by omega, by go_num, fun q hq hlt' => ?_, H3.out⟩
                    by_cases e : q = k
                    · subst e; exact HU.out
                    · exact HP3.out q hq (by omega)
                  case measure => simp [intOf]; omega
                | false =>
                  have HCALL := Lib.hid (le_call (HK3.out.drew).1.r1 hl' hn' f[i] f[cn] hfi.1 hfi.2 (r := false) hup)
                  have HE := Lib.hid (monoI_bad (rows' := rows') (f := f) (a := i) (b := cn) hir (by have := HFL.out; omega) ((upB_iff hir).2 (by rw [← hcn]; exact List.getElem_mem hkl)) (by rw [hgi, getD_lt 0 hcl]; exact hup))
                  clear hup hgi hgc hcn hrange hh hfi
                  go_wp2
                  go_still_tail 16, (by kernel_rfl)
                  go_wp2_with (go_at_call 98; refine HCALL.out.mono ?_; clear HCALL; rintro e w3 ⟨rfl, hb3⟩; have H3 := Lib.hid (HK3.out.drew.step hb3); clear hb3)
                  go_ret
                  exact ⟨by rw [HE.out]; rfl, H3.out.1.below⟩
              · obtain rfl : k = rows[i].length := by omega
                clear hh hyy
                go_wp2
                go_roundw
                case rel =>
                  refine ⟨i + 1, by omega, by go_num, fun q hq hlt' m hm => ?_, HK3.out⟩
                  by_cases e : q = i
                  · subst e; exact HP3.out m hm hm
                  · exact HP.out q hq (by omega) m hm
                case measure => simp [intOf]; omega
          · obtain rfl : i = f.length := by omega
            have HE := Lib.hid (MonoTo.all (by rw [← HFL.out]; exact HP.out) HFL.out HRNG.out)
            clear hh
            go_wp2
            go_ret
            exact ⟨by rw [HE.out]; rfl, HK2.out.1.below⟩
  · have hb : ((f.length : Int) == (rows.length : Int)) = false := by rw [beq_eq_false_iff_ne]; omega
    have hb2 : (f.length == rows.length) = false := by rw [beq_eq_false_iff_ne]; omega
    have hb3 : ((f.length : Int) != (rows.length : Int)) = true := by unfold bne; rw [hb]; rfl
    have hb4 : (f.length != rows.length) = true := by unfold bne; rw [hb2]; rfl
    have HE := Lib.hid (monoI_len (rows' := rows') hfl)
    clear hfl
    go_enter Tryd.func86, Tryd.ntmps86
    go_wp2
    go_ret
    exact ⟨by rw [HE.out]; rfl, H0.out.1.below⟩

set_option maxRecDepth 100000 in
set_option maxHeartbeats 8000000 in
theorem specMono_any (v v' vf : Value) (rows rows' : Rows2) (f : List Int) (w : World) (hv : RowsAt w v rows) (hv' : RowsAt w v' rows') (hf : IntsAt w vf f)
    (hn : bulk rows ≤ 1048576) (hn' : bulk rows' ≤ 1048576) :
    Calls Tryd.prog 76 #[.agg #[v], .agg #[v'], vf] w (SaysN (monoB rows rows' f) w) := by
  have hT := TwoF.start w 25 25 hv hv' hf
  obtain ⟨A, C, rfl, _⟩ := hv
  obtain ⟨A', C', rfl, _⟩ := hv'
  obtain ⟨Af, Cf, rfl, _⟩ := hf
  have H0 := Lib.hid hT
  have hcell := hT.1.c0
  have hd1 := specDom_any _ rows _ hT.1.r0 hn
  clear hT
  unfold monoB
  cases h1 : domB rows with
  | false =>
    rw [h1] at hd1
    go_enter Tryd.func76, Tryd.ntmps76
    go_wp2_with (go_at_call 109; refine hd1.mono ?_; clear hd1; rintro e w1 ⟨rfl, hb1⟩; have H1 := Lib.hid (H0.out.step hb1); clear hb1)
    go_ret
    exact ⟨rfl, H1.out.1.below⟩
  | true =>
    rw [h1] at hd1
    cases h2 : domB rows' with
    | false =>
      go_enter Tryd.func76, Tryd.ntmps76
      go_wp2_with (first | (go_at_call 109; refine hd1.mono ?_; clear hd1; rintro e w1 ⟨rfl, hb1⟩; have H1 := Lib.hid (H0.out.step hb1); have hc1 := H1.out.1.c1; have hd2 := specDom_any _ rows' _ H1.out.1.r1 hn'; rw [h2] at hd2; clear hb1) | (go_at_call 109; refine hd2.mono ?_; clear hd2; rintro e w2 ⟨rfl, hb2⟩; have H2 := Lib.hid (H1.out.step hb2); clear hb2))
      go_ret
      exact ⟨rfl, H2.out.1.below⟩
    | true =>
      have hl := valid_lists (show validB rows = true by unfold domB at h1; rw [Bool.and_eq_true] at h1; exact h1.1)
      have hl' := valid_lists (show validB rows' = true by unfold domB at h2; rw [Bool.and_eq_true] at h2; exact h2.1)
      have HCALL := Lib.hid (fun W (h : TwoF w (.slice A rows.length C) (.slice A' rows'.length C') (.slice Af f.length Cf) rows rows' f W) => l2Monotone_any _ _ _ rows rows' f W h.1.r0 h.1.r1 h.2 hn hn' hl hl')
      clear hl hl'
      generalize monoI rows rows' f = t at HCALL ⊢
      go_enter Tryd.func76, Tryd.ntmps76
      go_wp2_with (first | (go_at_call 109; refine hd1.mono ?_; clear hd1; rintro e w1 ⟨rfl, hb1⟩; have H1 := Lib.hid (H0.out.step hb1); have hc1 := H1.out.1.c1; have hd2 := specDom_any _ rows' _ H1.out.1.r1 hn'; rw [h2] at hd2; clear hb1) | (go_at_call 109; refine hd2.mono ?_; clear hd2; rintro e w2 ⟨rfl, hb2⟩; have H2 := Lib.hid (H1.out.step hb2); have hc2 := H2.out.1.c0; have hc3 := H2.out.1.c1; clear hb2) | (go_at_call 86; refine (HCALL.out _ H2.out).mono ?_; rintro e w3 ⟨rfl, hb3⟩; have H3 := Lib.hid (H2.out.step hb3); clear hb3))
      go_ret
      exact ⟨by simp, H3.out.1.below⟩
end Go.Proofs.YtkomghohdhengaaDoor

/- The model's FunStrict. -/
namespace Go.Proofs.YtkomghohdhengaaDoor
open Go.RowKit Go.Deep

theorem leastI_nat {rows : Rows2} (h : 0 ≤ leastI rows) : ∃ m : Nat, m < rows.length ∧ leastI rows = m := by
  unfold leastI at h ⊢
  cases e : (List.range rows.length).find? (fun i => (rows.getD i []).length == rows.length) with
  | none => rw [e] at h; exact absurd h (by decide)
  | some m => exact ⟨m, List.mem_range.1 (List.mem_of_find?_eq_some e), rfl⟩
theorem dom_least {rows : Rows2} (h : domB rows = true) : ∃ m : Nat, m < rows.length ∧ leastI rows = m := by
  unfold domB domI at h
  rw [Bool.and_eq_true, Bool.and_eq_true, decide_eq_true_iff] at h
  exact leastI_nat h.2.1
theorem monoB_parts {rows rows' : Rows2} {f : List Int} (h : monoB rows rows' f = true) : domB rows = true ∧ domB rows' = true ∧ Mono rows rows' f := by
  classical
  unfold monoB monoI at h
  rw [Bool.and_eq_true, Bool.and_eq_true, decide_eq_true_iff] at h
  exact ⟨h.1.1, h.1.2, h.2⟩

/-- A monotone function that has the least element for the least one. -/
noncomputable def strictB (rows rows' : Rows2) (f : List Int) : Bool := monoB rows rows' f && decide (f.getD (leastI rows).toNat 0 = leastI rows')

end Go.Proofs.YtkomghohdhengaaDoor

/- The model's steps (l3Step), and its FunStep. -/
namespace Go.Proofs.YtkomghohdhengaaDoor
open Go.RowKit Go.Deep

theorem owns_weaker {W : World} {lo lo' n : Nat} {t : TypeId} {v : Value} {xs : List Value} (h : W.ownsRow lo t 1 v n xs) (hl : lo' ≤ lo) : W.ownsRow lo' t 1 v n xs := by
  obtain ⟨h1, h2 | ⟨g, c, cur, rfl, h3, h4⟩⟩ := h
  · exact ⟨h1, .inl h2⟩
  · exact ⟨h1, .inr ⟨g, c, cur, rfl, by omega, h4⟩⟩
/-- What the step of a to b has for element i. -/
def stepAt (rows rows' : Rows2) (a : Nat) (b : Int) (i : Nat) : Int := if upB rows a (i : Int) = true then b else leastI rows'
def stepN (rows rows' : Rows2) (a : Nat) (b : Int) (k : Nat) : List Int := (List.range k).map (stepAt rows rows' a b)
theorem stepN_length (rows rows' : Rows2) (a : Nat) (b : Int) (k : Nat) : (stepN rows rows' a b k).length = k := by unfold stepN; simp
theorem stepN_succ (rows rows' : Rows2) (a : Nat) (b : Int) (k : Nat) : stepN rows rows' a b (k + 1) = stepN rows rows' a b k ++ [stepAt rows rows' a b k] := by
  unfold stepN
  rw [List.range_succ, List.map_append]
  rfl

/-- Behind an append to a list of the call's own. -/
theorem Two.grow {w : World} {v v' : Value} {rows rows' : Rows2} {W w1 : World} (h : Two w v v' rows rows' W) (hv : RowsAt w v rows) (hv' : RowsAt w v' rows') {u : Value} {n : Nat} {xs : List Value} (ho : W.ownsRow (w.heap.size + 2) 3 1 u n xs) (o : Obj) {row : Option Nat} (hg : (W.alloc o).grownBy w1 row) (hr : row = u.ownBlock := by rfl) : Two w v v' rows rows' w1 := by
  subst hr
  have hb1 : w.heap.size + 1 < W.heap.size := cell_lt h.c1
  have hb : Below (w.heap.size + 2) W w1 := ((Below.refl (w.heap.size + 2) W).alloc (by omega) o).grown hg (by rw [World.size_alloc]; omega) (fun b e => (ho.lt b e).1)
  have hw : Below w.heap.size w w1 := h.below.trans (hb.mono (by omega))
  exact ⟨(hb.cell (p := ⟨w.heap.size, 0, none⟩) (by show w.heap.size < w.heap.size + 2; omega)).trans h.c0, (hb.cell (p := ⟨w.heap.size + 1, 0, none⟩) (by show w.heap.size + 1 < w.heap.size + 2; omega)).trans h.c1, hv.below hw, hv'.below hw, hw⟩

/-- What FunStep answers. -/
noncomputable def stepOk (rows rows' : Rows2) (a b : Int) : Bool := domB rows && domB rows' && (decide (0 ≤ a ∧ a < rows.length) && decide (0 ≤ b ∧ b < rows'.length))
noncomputable def stepL (rows rows' : Rows2) (a b : Int) : List Int := if stepOk rows rows' a b = true then stepN rows rows' a.toNat b rows.length else []
/-- A list in memory of its own, and a Boolean. -/
def OwnB (xs : List Int) (t : Bool) (w : World) (e : Ending) (w' : World) : Prop :=
  ∃ v, e = .returned (.tuple #[v, .bool t]) ∧ OwnI 3 w' v xs w.heap.size w'.heap.size ∧ Below w.heap.size w w'
theorem stepOk_no1 {rows rows' : Rows2} {a b : Int} (h : domB rows = false) : stepOk rows rows' a b = false := by unfold stepOk; rw [h]; rfl
theorem stepOk_no2 {rows rows' : Rows2} {a b : Int} (h : domB rows' = false) : stepOk rows rows' a b = false := by unfold stepOk; rw [h]; simp
theorem stepOk_no3 {rows rows' : Rows2} {a b : Int} (h : ¬ (0 ≤ a ∧ a < rows.length)) : stepOk rows rows' a b = false := by unfold stepOk; rw [decide_eq_false h]; simp
theorem stepOk_no4 {rows rows' : Rows2} {a b : Int} (h : ¬ (0 ≤ b ∧ b < rows'.length)) : stepOk rows rows' a b = false := by unfold stepOk; rw [decide_eq_false h]; simp

/-- An empty list made by the call. -/
theorem ownB_none {rows rows' : Rows2} {a b : Int} {w W : World} (h : stepOk rows rows' a b = false) (hb : Below w.heap.size w W) : OwnB (stepL rows rows' a b) (stepOk rows rows' a b) w (.returned (.tuple #[.slice (some ⟨W.heap.size, 0, none⟩) 0 0, .bool false])) (W.alloc (.cells #[] 3)) := by
  unfold stepL
  rw [h]
  exact ⟨_, rfl, ⟨fun _ h => (by cases h), .inr ⟨W.heap.size, 0, fun _ => undef, rfl, Nat.le_refl _, Nat.zero_le _, hb.size, by rw [World.size_alloc]; omega, World.rowIs_alloc W #[] 3 (fun _ => undef) (fun _ h => absurd h (Nat.not_lt_zero _)), fun _ h => absurd h (Nat.not_lt_zero _)⟩⟩, hb.alloc hb.size _⟩

end Go.Proofs.YtkomghohdhengaaDoor

/- The model's FunAfter. -/
namespace Go.Proofs.YtkomghohdhengaaDoor
open Go.RowKit Go.Deep

/-- The one function behind the other, for the first k elements. -/
def afterN (f g : List Int) (k : Nat) : List Int := (List.range k).map fun i => g.getD (f.getD i 0).toNat 0
theorem afterN_length (f g : List Int) (k : Nat) : (afterN f g k).length = k := by unfold afterN; simp
theorem afterN_succ (f g : List Int) (k : Nat) : afterN f g (k + 1) = afterN f g k ++ [g.getD (f.getD k 0).toNat 0] := by
  unfold afterN
  rw [List.range_succ, List.map_append]
  rfl
noncomputable def afterOk (rows rows' rows2 : Rows2) (f g : List Int) : Bool := monoB rows rows' f && monoB rows' rows2 g
noncomputable def afterL (rows rows' rows2 : Rows2) (f g : List Int) : List Int := if afterOk rows rows' rows2 f g = true then afterN f g f.length else []

/-- Three orders lie in the variables at blocks w.heap.size and the next two. -/
structure Thr (w : World) (v v' v2 : Value) (rows rows' rows2 : Rows2) (W : World) : Prop where
  two : Two w v v' rows rows' W
  c2 : W.cell? ⟨w.heap.size + 2, 0, none⟩ = some v2
  r2 : RowsAt W v2 rows2
theorem Thr.step {w : World} {v v' v2 : Value} {rows rows' rows2 : Rows2} {W W' : World} (h : Thr w v v' v2 rows rows' rows2 W) (hb : Below W.heap.size W W') : Thr w v v' v2 rows rows' rows2 W' :=
  ⟨h.two.step hb, (hb.cell (p := ⟨w.heap.size + 2, 0, none⟩) (cell_lt h.c2)).trans h.c2, h.r2.below hb⟩
theorem Thr.start (w : World) {v v' v2 : Value} {rows rows' rows2 : Rows2} (t : TypeId) (hv : RowsAt w v rows) (hv' : RowsAt w v' rows') (hv2 : RowsAt w v2 rows2) : Thr w v v' v2 rows rows' rows2 (((w.alloc (.cells #[v] t)).alloc (.cells #[v'] t)).alloc (.cells #[v2] t)) := by
  have h := Two.start w t t hv hv'
  have s2 : ((w.alloc (.cells #[v] t)).alloc (.cells #[v'] t)).heap.size = w.heap.size + 2 := by rw [World.size_alloc, World.size_alloc]
  have b := (Below.refl ((w.alloc (.cells #[v] t)).alloc (.cells #[v'] t)).heap.size ((w.alloc (.cells #[v] t)).alloc (.cells #[v'] t))).alloc (Nat.le_refl _) (.cells #[v2] t)
  have hc := (World.rowIs_alloc ((w.alloc (.cells #[v] t)).alloc (.cells #[v'] t)) #[v2] t (fun _ => v2) (fun i hi => by simp at hi; subst hi; rfl)).cell (i := 0) (by simp)
  rw [s2] at hc
  exact ⟨h.step b, hc, (hv2.below h.below).below b⟩
/-- And two lists. -/
structure ThrL (w : World) (v v' v2 vf vg : Value) (rows rows' rows2 : Rows2) (f g : List Int) (W : World) : Prop where
  thr : Thr w v v' v2 rows rows' rows2 W
  f : IntsAt W vf f
  g : IntsAt W vg g
theorem ThrL.step {w : World} {v v' v2 vf vg : Value} {rows rows' rows2 : Rows2} {f g : List Int} {W W' : World} (h : ThrL w v v' v2 vf vg rows rows' rows2 f g W) (hb : Below W.heap.size W W') : ThrL w v v' v2 vf vg rows rows' rows2 f g W' := ⟨h.thr.step hb, h.f.below hb, h.g.below hb⟩
theorem ThrL.below {w : World} {v v' v2 vf vg : Value} {rows rows' rows2 : Rows2} {f g : List Int} {W : World} (h : ThrL w v v' v2 vf vg rows rows' rows2 f g W) : Below w.heap.size w W := h.thr.two.below
theorem ThrL.start (w : World) {v v' v2 vf vg : Value} {rows rows' rows2 : Rows2} {f g : List Int} (t : TypeId) (hv : RowsAt w v rows) (hv' : RowsAt w v' rows') (hv2 : RowsAt w v2 rows2) (hf : IntsAt w vf f) (hg : IntsAt w vg g) : ThrL w v v' v2 vf vg rows rows' rows2 f g (((w.alloc (.cells #[v] t)).alloc (.cells #[v'] t)).alloc (.cells #[v2] t)) :=
  have h := Thr.start w t hv hv' hv2
  ⟨h, hf.below h.two.below, hg.below h.two.below⟩

theorem dom_len {rows : Rows2} (h : domB rows = true) : rows.length ≤ 200 :=
  (ok_of_valid (show validB rows = true by unfold domB at h; rw [Bool.and_eq_true] at h; exact h.1)).len.2
theorem empty_own (W : World) {lo : Nat} (hlo : lo ≤ W.heap.size) : OwnI 3 (W.alloc (.cells #[] 3)) (.slice (some ⟨W.heap.size, 0, none⟩) 0 0) [] lo (W.alloc (.cells #[] 3)).heap.size :=
  ⟨fun _ h => (by cases h), .inr ⟨W.heap.size, 0, fun _ => undef, rfl, Nat.le_refl _, Nat.zero_le _, hlo, by rw [World.size_alloc]; omega, World.rowIs_alloc W #[] 3 (fun _ => undef) (fun _ h => absurd h (Nat.not_lt_zero _)), fun _ h => absurd h (Nat.not_lt_zero _)⟩⟩

end Go.Proofs.YtkomghohdhengaaDoor

/- The model's FunBelow. -/
namespace Go.Proofs.YtkomghohdhengaaDoor
open Go.RowKit Go.Deep

/-- Element by element, the one list is below the other. -/
def underI (rows' : Rows2) (f g : List Int) : Bool := (List.range f.length).all fun i => upB rows' (f.getD i 0).toNat (g.getD i 0)
theorem underI_no {rows' : Rows2} {f g : List Int} {i : Nat} (hi : i < f.length) (h : upB rows' (f.getD i 0).toNat (g.getD i 0) = false) : underI rows' f g = false := by
  unfold underI
  rw [List.all_eq_false]
  exact ⟨i, List.mem_range.2 hi, by rw [h]; simp⟩
theorem underI_yes {rows' : Rows2} {f g : List Int} (h : ∀ i, i < f.length → upB rows' (f.getD i 0).toNat (g.getD i 0) = true) : underI rows' f g = true := by
  unfold underI
  rw [List.all_eq_true]
  exact fun i hi => h i (List.mem_range.1 hi)
noncomputable def fbelowB (rows rows' : Rows2) (f g : List Int) : Bool := monoB rows rows' f && monoB rows rows' g && underI rows' f g

/-- An order in its variable, and two lists. -/
def HeldG (w : World) (v vf vg : Value) (rows : Rows2) (f g : List Int) (W : World) : Prop := Held w v rows W ∧ IntsAt W vf f ∧ IntsAt W vg g
theorem HeldG.step {w : World} {v vf vg : Value} {rows : Rows2} {f g : List Int} {W W' : World} (h : HeldG w v vf vg rows f g W) (hb : Below W.heap.size W W') : HeldG w v vf vg rows f g W' := ⟨h.1.below hb, h.2.1.below hb, h.2.2.below hb⟩
theorem HeldG.drew {w : World} {v vf vg : Value} {rows : Rows2} {f g : List Int} {W : World} (h : HeldG w v vf vg rows f g W) : HeldG w v vf vg rows f g W.drew := h.step ⟨rfl, rfl, rfl, Nat.le_refl _, fun _ _ => rfl⟩

set_option maxRecDepth 100000 in
set_option maxHeartbeats 4000000 in
theorem l2Under_any (v vf vg : Value) (rows : Rows2) (f g : List Int) (w : World) (hv : RowsAt w v rows) (hf : IntsAt w vf f) (hg : IntsAt w vg g) (hn : bulk rows ≤ 1048576) (hl : listsB rows = true)
    (hr : ∀ i (hi : i < f.length), 0 ≤ f[i] ∧ f[i] < rows.length) (he : f.length = g.length) (hfl : f.length ≤ 1048576) :
    Calls Tryd.prog 90 #[.agg #[v], vf, vg] w (SaysN (underI rows f g) w) := by
  have hH := Held.start w 25 hv
  have hh : HeldG w v vf vg rows f g (w.alloc (.cells #[v] 25)) := ⟨hH, hf.below ((Below.refl _ w).alloc (Nat.le_refl _) _), hg.below ((Below.refl _ w).alloc (Nat.le_refl _) _)⟩
  obtain ⟨A, C, rfl, _⟩ := hv
  obtain ⟨Af, Cf, rfl, _⟩ := hf
  obtain ⟨Ag, Cg, rfl, _⟩ := hg
  have HH := Lib.hid hh
  have HR := Lib.hid hr
  have HEQ := Lib.hid he
  clear hH hh hr he
  go_enter Tryd.func90, Tryd.ntmps90
  go_wp2
  go_loopw [7] (fun kv wr => ∃ k : Nat, k ≤ f.length ∧ kv = .int .i64 k ∧ (∀ q, q < k → upB rows (f.getD q 0).toNat (g.getD q 0) = true) ∧ HeldG w (.slice A rows.length C) (.slice Af f.length Cf) (.slice Ag g.length Cg) rows f g wr) (fun kv _ => f.length - (intOf kv).toNat)
  case atStart => exact ⟨0, Nat.zero_le _, rfl, fun _ h => absurd h (Nat.not_lt_zero _), HH.out⟩
  case round =>
    obtain ⟨k, hk, rfl, hp, hh⟩ := hrel
    have HP := Lib.hid hp
    have HK := Lib.hid hh
    have hcell := hh.1.1
    clear hp HH
    by_cases hlt : k < f.length
    · have hltg : k < g.length := by have := HEQ.out; omega
      obtain ⟨bf, o_f, rfl, hcf⟩ := hh.2.1.get hlt
      obtain ⟨bg, o_g, rfl, hcg⟩ := hh.2.2.get hltg
      have hrk := HR.out k hlt
      have e1 : f.getD k 0 = f[k] := getD_lt 0 hlt
      have e2 : g.getD k 0 = g[k] := getD_lt 0 hltg
      clear hh
      cases hup : upB rows f[k].toNat g[k] with
      | true =>
        have HCALL := Lib.hid (le_call (HK.out.drew).1.2.1 hl hn f[k] g[k] hrk.1 hrk.2 (r := true) hup)
        have HU := Lib.hid (show upB rows (f.getD k 0).toNat (g.getD k 0) = true by rw [e1, e2]; exact hup)
        clear hup e1 e2 hrk
        go_wp2
        go_still_tail 9, (by kernel_rfl)
        go_wp2_with (go_at_call 98; refine HCALL.out.mono ?_; clear HCALL; rintro e w3 ⟨rfl, hb3⟩; have H3 := Lib.hid (HK.out.drew.step hb3); clear hb3)
        go_roundw
        case rel =>
          refine ⟨k + 1, by omega, by go_num, fun q hq => ?_, H3.out⟩
          by_cases e : q = k
          · subst e; exact HU.out
          · exact HP.out q (by omega)
        case measure => simp [intOf]; omega
      | false =>
        have HCALL := Lib.hid (le_call (HK.out.drew).1.2.1 hl hn f[k] g[k] hrk.1 hrk.2 (r := false) hup)
        have HE := Lib.hid (underI_no (rows' := rows) (g := g) hlt (by rw [e1, e2]; exact hup))
        clear hup e1 e2 hrk
        go_wp2
        go_still_tail 9, (by kernel_rfl)
        go_wp2_with (go_at_call 98; refine HCALL.out.mono ?_; clear HCALL; rintro e w3 ⟨rfl, hb3⟩; have H3 := Lib.hid (HK.out.drew.step hb3); clear hb3)
        go_ret
        exact ⟨by rw [HE.out]; rfl, H3.out.1.2.2.1⟩
    · obtain rfl : k = f.length := by omega
      have HE := Lib.hid (underI_yes HP.out)
      clear hh
      go_wp2
      go_ret
      exact ⟨by rw [HE.out]; rfl, HK.out.1.2.2.1⟩

end Go.Proofs.YtkomghohdhengaaDoor

/- What FunJoin and FunMeet answer, and the model's: joins of what two lists have (l3Both). -/
namespace Go.Proofs.YtkomghohdhengaaDoor
open Go.RowKit Go.Deep

/-- The joins of what two lists have, for the first k elements. -/
def bothN (rows : Rows2) (f g : List Int) (k : Nat) : List Int := (List.range k).map fun i => joinI rows (f.getD i 0).toNat (g.getD i 0).toNat
theorem bothN_length (rows : Rows2) (f g : List Int) (k : Nat) : (bothN rows f g k).length = k := by unfold bothN; simp
theorem bothN_succ (rows : Rows2) (f g : List Int) (k : Nat) : bothN rows f g (k + 1) = bothN rows f g k ++ [joinI rows (f.getD k 0).toNat (g.getD k 0).toNat] := by
  unfold bothN
  rw [List.range_succ, List.map_append]
  rfl
def bothOk (rows : Rows2) (f g : List Int) : Bool := (List.range f.length).all fun i => decide (0 ≤ joinI rows (f.getD i 0).toNat (g.getD i 0).toNat)
theorem bothOk_no {rows : Rows2} {f g : List Int} {i : Nat} (hi : i < f.length) (h : joinI rows (f.getD i 0).toNat (g.getD i 0).toNat < 0) : bothOk rows f g = false := by
  unfold bothOk
  rw [List.all_eq_false]
  exact ⟨i, List.mem_range.2 hi, by rw [decide_eq_false (by omega)]; simp⟩
theorem bothOk_yes {rows : Rows2} {f g : List Int} (h : ∀ i, i < f.length → 0 ≤ joinI rows (f.getD i 0).toNat (g.getD i 0).toNat) : bothOk rows f g = true := by
  unfold bothOk
  rw [List.all_eq_true]
  exact fun i hi => decide_eq_true (h i (List.mem_range.1 hi))
theorem bothOk_at {rows : Rows2} {f g : List Int} (h : bothOk rows f g = true) {i : Nat} (hi : i < f.length) : 0 ≤ joinI rows (f.getD i 0).toNat (g.getD i 0).toNat := by
  unfold bothOk at h
  rw [List.all_eq_true] at h
  exact of_decide_eq_true (h i (List.mem_range.2 hi))
def bothL (rows : Rows2) (f g : List Int) : List Int := if bothOk rows f g = true then bothN rows f g f.length else []
theorem joinI_bounds {rows : Rows2} (h : Ok rows) {a : Nat} (ha : a < rows.length) (b : Nat) : -1 ≤ joinI rows a b ∧ joinI rows a b < rows.length := by
  unfold joinI
  cases hf : (rows.getD a []).find? (joinTest rows a b) with
  | none => exact ⟨by simp, by simp; omega⟩
  | some c =>
    have hm := List.mem_of_find?_eq_some hf
    rw [getD_at [] ha] at hm
    have := (h.asc a ha).2 c hm
    exact ⟨by simp; omega, by simp; omega⟩

theorem ownB_nil {xs : List Int} {t : Bool} {w W : World} (hx : xs = []) (ht : t = false) (hb : Below w.heap.size w W) : OwnB xs t w (.returned (.tuple #[.slice (some ⟨W.heap.size, 0, none⟩) 0 0, .bool false])) (W.alloc (.cells #[] 3)) := by
  subst hx ht
  exact ⟨_, rfl, empty_own W hb.size, hb.alloc hb.size _⟩
/-- Behind an append to a list of the call's own. -/
theorem HeldG.grow {w : World} {v vf vg : Value} {rows : Rows2} {f g : List Int} {W w1 : World} (h : HeldG w v vf vg rows f g W) (hv : RowsAt w v rows) (hf : IntsAt w vf f) (hg : IntsAt w vg g) {u : Value} {n : Nat} {xs : List Value} (ho : W.ownsRow (w.heap.size + 1) 3 1 u n xs) (o : Obj) {row : Option Nat} (hgr : (W.alloc o).grownBy w1 row) (hr : row = u.ownBlock := by rfl) : HeldG w v vf vg rows f g w1 := by
  subst hr
  have hz := h.1.2.2.2
  have hb : Below (w.heap.size + 1) W w1 := ((Below.refl (w.heap.size + 1) W).alloc (by omega) o).grown hgr (by rw [World.size_alloc]; omega) (fun b e => (ho.lt b e).1)
  have hw : Below w.heap.size w w1 := h.1.2.2.1.trans (hb.mono (by omega))
  exact ⟨⟨(hb.cell (p := ⟨w.heap.size, 0, none⟩) (by show w.heap.size < w.heap.size + 1; omega)).trans h.1.1, hv.below hw, hw, by have := hb.size; omega⟩, hf.below hw, hg.below hw⟩

set_option maxRecDepth 100000 in
set_option maxHeartbeats 4000000 in
theorem l3Both_any (v vf vg : Value) (rows : Rows2) (f g : List Int) (w : World) (hv : RowsAt w v rows) (hf : IntsAt w vf f) (hg : IntsAt w vg g) (hok : Ok rows)
    (hrf : ∀ x ∈ f, 0 ≤ x ∧ x < rows.length) (hrg : ∀ x ∈ g, 0 ≤ x ∧ x < rows.length) (he : f.length = g.length) (hfl : f.length ≤ 1048576) :
    Calls Tryd.prog 77 #[.agg #[v], vf, vg] w (OwnB (bothL rows f g) (bothOk rows f g) w) := by
  have HV0 := Lib.hid hv
  have HF0 := Lib.hid hf
  have HG0 := Lib.hid hg
  have hn := hok.bulk
  have hl := valid_lists (valid_of_ok hok)
  have hl200 := hok.len.2
  have hH := Held.start w 25 hv
  have hB1 := (Below.refl w.heap.size w).alloc (Nat.le_refl _) (.cells #[v] 25)
  have hh : HeldG w v vf vg rows f g (w.alloc (.cells #[v] 25)) := ⟨hH, hf.below hB1, hg.below hB1⟩
  have hs : (w.alloc (.cells #[v] 25)).heap.size = w.heap.size + 1 := World.size_alloc _ _
  have hO := World.ownsRow_made (e := 3) (size := 1) (w.alloc (.cells #[v] 25)) #[] 0 (base := w.heap.size + 1) (by rw [hs]; omega) (Nat.zero_le _) (by simp)
  rw [hs] at hO
  have hT := hh.step ((Below.refl _ _).alloc (Nat.le_refl _) (.cells #[] 3))
  obtain ⟨i0, hi0, hz0, hz1, hz2⟩ := info_parts infoInt
  obtain ⟨A, C, rfl, _⟩ := hv
  obtain ⟨Af, Cf, rfl, _⟩ := hf
  obtain ⟨Ag, Cg, rfl, _⟩ := hg
  have HO := Lib.hid hO
  have HT := Lib.hid hT
  have HRF := Lib.hid hrf
  have HRG := Lib.hid hrg
  have HEQ := Lib.hid he
  have HOK := Lib.hid hok
  clear hB1 hh hH hs hO hT hrf hrg he hok
  go_enter Tryd.func77, Tryd.ntmps77
  go_wp2
  go_loopw [8, 9] (fun ov kv wr => ∃ k : Nat, k ≤ f.length ∧ kv = .int .i64 k ∧ wr.ownsRow (w.heap.size + 1) 3 1 ov (bothN rows f g k).length (cellsI (bothN rows f g k)) ∧ (∀ q, q < k → 0 ≤ joinI rows (f.getD q 0).toNat (g.getD q 0).toNat) ∧ HeldG w (.slice A rows.length C) (.slice Af f.length Cf) (.slice Ag g.length Cg) rows f g wr) (fun _ kv _ => f.length - (intOf kv).toNat)
  case atStart => exact ⟨0, Nat.zero_le _, rfl, HO.out, fun _ h => absurd h (Nat.not_lt_zero _), HT.out⟩
  case round =>
    obtain ⟨k, hk, rfl, hown, hp, hh⟩ := hrel
    have HOWN := Lib.hid hown
    have HP := Lib.hid hp
    have HK := Lib.hid hh
    have hcell := hh.1.1
    have hcl := Nat.le_of_eq (bothN_length rows f g k)
    clear hown hp HO HT
    by_cases hlt : k < f.length
    · have hltg : k < g.length := by have := HEQ.out; omega
      have hkg : (k : Int) < (g.length : Int) := by omega
      obtain ⟨bf, o_f, rfl, hcf⟩ := hh.2.1.get hlt
      obtain ⟨bg, o_g, rfl, hcg⟩ := hh.2.2.get hltg
      have hr1 := HRF.out _ (List.getElem_mem hlt)
      have hr2 := HRG.out _ (List.getElem_mem hltg)
      have e1 : f.getD k 0 = f[k] := getD_lt 0 hlt
      have e2 : g.getD k 0 = g[k] := getD_lt 0 hltg
      have hcb := joinI_bounds HOK.out (a := f[k].toNat) (by omega) g[k].toNat
      have hj := l1Join_any _ rows f[k] g[k] f[k].toNat g[k].toNat _ (HK.out.drew).1.2.1 hn hl (by omega) (by omega) (by omega) (by omega)
      clear hh
      obtain ⟨c, hc⟩ : ∃ c, joinI rows f[k].toNat g[k].toNat = c := ⟨_, rfl⟩
      have HA := Lib.hid (show joinI rows (f.getD k 0).toNat (g.getD k 0).toNat = c by rw [e1, e2]; exact hc)
      rw [hc] at hj hcb
      have HJ := Lib.hid hj
      clear hj hc hr1 hr2 e1 e2
      by_cases hc0 : c < 0
      · have HE := Lib.hid (bothOk_no hlt (by rw [HA.out]; exact hc0))
        go_wp2
        go_still_tail 9, (by kernel_rfl)
        go_wp2_with (go_at_call 132; refine HJ.out.mono ?_; clear HJ; rintro e w3 ⟨rfl, hb3⟩; have H3 := Lib.hid (HK.out.drew.step hb3); clear hb3)
        go_ret2
        rw [HE.out]
        exact ownB_nil (by unfold bothL; rw [HE.out]; rfl) rfl H3.out.1.2.2.1
      · have HOD := Lib.hid (owns_below HOWN.out (below_drew wr _))
        go_wp2
        go_still_tail 9, (by kernel_rfl)
        clear hcf hcg hcell
        go_wp2_with (first | (go_at_call 132; refine HJ.out.mono ?_; clear HJ; rintro e w3 ⟨rfl, hb3⟩; have H3 := Lib.hid (HK.out.drew.step hb3); have HOW3 := Lib.hid (owns_below HOD.out hb3); have hbz : w.heap.size < w3.heap.size := H3.out.1.2.2.2; clear hb3) | (at_builtin; refine wpList_append_own _ rfl _ _ 26 rfl (w.heap.size + 1) 3 i0 (.int .i64 0) 1 8 Tryd.underlying26 hi0 hz0 hz1 hz2 rfl (by decide) _ _ _ rfl (HOW3.out.alloc _) ⟨w3.heap.size, 0, none⟩ 1 1 [.int .i64 c] rfl rfl (cell_one_new _ _ _) (by simp [Value.oneCell']) (by unfold maxLen; omega) (by omega) (by simp; omega) ?_; intro v' w1 hown' hgrow _))
        go_roundw
        case rel =>
          refine ⟨k + 1, by omega, by go_num, ?_, fun q hq => ?_, H3.out.grow HV0.out HF0.out HG0.out HOW3.out _ hgrow⟩
          · rw [bothN_succ, HA.out, List.length_append, show cellsI (bothN rows f g k ++ [c]) = cellsI (bothN rows f g k) ++ [.int .i64 c] by simp]
            exact hown'
          · by_cases e : q = k
            · subst e; rw [HA.out]; omega
            · exact HP.out q (by omega)
        case measure => simp [intOf]; omega
    · obtain rfl : k = f.length := by omega
      have HE := Lib.hid (bothOk_yes HP.out)
      clear hh
      go_wp2
      go_ret2
      refine ⟨_, by rw [HE.out]; rfl, ?_, HK.out.1.2.2.1⟩
      unfold bothL
      rw [if_pos HE.out]
      refine OwnI.of_owns (owns_weaker HOWN.out (Nat.le_add_right _ _)) ?_ (fun b hb => (HOWN.out.lt b hb).2)
      intro y hy
      unfold bothN at hy
      obtain ⟨i, hi, rfl⟩ := List.mem_map.1 hy
      rw [List.mem_range] at hi
      have h1 := HP.out i hi
      have hr1 := HRF.out (f.getD i 0) (by rw [getD_lt 0 hi]; exact List.getElem_mem _)
      have h2 := joinI_bounds HOK.out (a := (f.getD i 0).toNat) (by omega) (g.getD i 0).toNat
      exact wf_int h1 (by omega)

/-- What FunJoin answers. -/
noncomputable def fjoinOk (rows rows' : Rows2) (f g : List Int) : Bool := monoB rows rows' f && monoB rows rows' g && bothOk rows' f g
noncomputable def fjoinL (rows rows' : Rows2) (f g : List Int) : List Int := if fjoinOk rows rows' f g = true then bothN rows' f g f.length else []
theorem fjoin_no1 {rows rows' : Rows2} {f g : List Int} (h : monoB rows rows' f = false) : fjoinOk rows rows' f g = false := by unfold fjoinOk; rw [h]; rfl
theorem fjoin_no2 {rows rows' : Rows2} {f g : List Int} (h : monoB rows rows' g = false) : fjoinOk rows rows' f g = false := by unfold fjoinOk; rw [h]; simp
theorem fjoin_both {rows rows' : Rows2} {f g : List Int} (h1 : monoB rows rows' f = true) (h2 : monoB rows rows' g = true) : fjoinOk rows rows' f g = bothOk rows' f g ∧ fjoinL rows rows' f g = bothL rows' f g := by
  have h : fjoinOk rows rows' f g = bothOk rows' f g := by unfold fjoinOk; rw [h1, h2]; rfl
  refine ⟨h, ?_⟩
  unfold fjoinL bothL
  rw [h]
theorem fjoinL_nil {rows rows' : Rows2} {f g : List Int} (h : fjoinOk rows rows' f g = false) : fjoinL rows rows' f g = [] := by unfold fjoinL; rw [h]; rfl
theorem OwnB.later {xs : List Int} {t : Bool} {w W W' : World} {e : Ending} (hb : Below w.heap.size w W) (h : OwnB xs t W e W') : OwnB xs t w e W' := by
  obtain ⟨v, he, ho, hb'⟩ := h
  exact ⟨v, he, ho.wider hb.size (Nat.le_refl _), hb.trans (hb'.mono hb.size)⟩

set_option maxRecDepth 100000 in
set_option maxHeartbeats 8000000 in
theorem specFunJoin_any (v v' vf vg : Value) (rows rows' : Rows2) (f g : List Int) (w : World) (hv : RowsAt w v rows) (hv' : RowsAt w v' rows') (hf : IntsAt w vf f) (hg : IntsAt w vg g)
    (hn : bulk rows ≤ 1048576) (hn' : bulk rows' ≤ 1048576) :
    Calls Tryd.prog 18 #[.agg #[v], .agg #[v'], vf, vg] w (OwnB (fjoinL rows rows' f g) (fjoinOk rows rows' f g) w) := by
  have hT := TwoF.start w 25 25 hv hv' hf
  have hG := hg.below hT.1.below
  obtain ⟨A, C, rfl, _⟩ := hv
  obtain ⟨A', C', rfl, _⟩ := hv'
  obtain ⟨Af, Cf, rfl, _⟩ := hf
  obtain ⟨Ag, Cg, rfl, _⟩ := hg
  have H0 := Lib.hid hT
  have G0 := Lib.hid hG
  have hcell := hT.1.c0
  have hcell1 := hT.1.c1
  have hd1 := specMono_any _ _ _ rows rows' f _ hT.1.r0 hT.1.r1 hT.2 hn hn'
  clear hT hG
  cases h1 : monoB rows rows' f with
  | false =>
    rw [h1] at hd1
    have HE := Lib.hid (fjoin_no1 (g := g) h1)
    go_enter Tryd.func18, Tryd.ntmps18
    go_wp2_with (go_at_call 76; refine hd1.mono ?_; clear hd1; rintro e w1 ⟨rfl, hb1⟩; have H1 := Lib.hid (H0.out.step hb1); clear hb1)
    go_ret2
    exact ownB_nil (fjoinL_nil HE.out) HE.out H1.out.1.below
  | true =>
    rw [h1] at hd1
    cases h2 : monoB rows rows' g with
    | false =>
      have HE := Lib.hid (fjoin_no2 (f := f) h2)
      go_enter Tryd.func18, Tryd.ntmps18
      go_wp2_with (first | (go_at_call 76; refine hd1.mono ?_; clear hd1; rintro e w1 ⟨rfl, hb1⟩; have H1 := Lib.hid (H0.out.step hb1); have hc1 := H1.out.1.c0; have hc2 := H1.out.1.c1; have hd2 := specMono_any _ _ _ rows rows' g _ H1.out.1.r0 H1.out.1.r1 (G0.out.below hb1) hn hn'; rw [h2] at hd2; clear hb1) | (go_at_call 76; refine hd2.mono ?_; clear hd2; rintro e w2 ⟨rfl, hb2⟩; have H2 := Lib.hid (H1.out.step hb2); clear hb2))
      go_ret2
      exact ownB_nil (fjoinL_nil HE.out) HE.out H2.out.1.below
    | true =>
      obtain ⟨hD, hD', hm1⟩ := monoB_parts h1
      obtain ⟨_, _, hm2⟩ := monoB_parts h2
      have hok' := ok_of_valid (show validB rows' = true by unfold domB at hD'; rw [Bool.and_eq_true] at hD'; exact hD'.1)
      have hlen := dom_len hD
      have HC := Lib.hid (fun W a b c => l3Both_any (.slice A' rows'.length C') (.slice Af f.length Cf) (.slice Ag g.length Cg) rows' f g W a b c hok' hm1.2.1 hm2.2.1 (by rw [hm1.1, hm2.1]) (by rw [hm1.1]; omega))
      have HE := Lib.hid (fjoin_both h1 h2)
      clear hD hD' hm1 hm2 hok' hlen h1
      go_enter Tryd.func18, Tryd.ntmps18
      go_wp2_with (first | (go_at_call 76; refine hd1.mono ?_; clear hd1; rintro e w1 ⟨rfl, hb1⟩; have H1 := Lib.hid (H0.out.step hb1); have G1 := Lib.hid (G0.out.below hb1); have hc1 := H1.out.1.c0; have hc2 := H1.out.1.c1; have hd2 := specMono_any _ _ _ rows rows' g _ H1.out.1.r0 H1.out.1.r1 (G0.out.below hb1) hn hn'; rw [h2] at hd2; clear hb1) | (go_at_call 76; refine hd2.mono ?_; clear hd2; rintro e w2 ⟨rfl, hb2⟩; have H2 := Lib.hid (H1.out.step hb2); have G2 := Lib.hid (G1.out.below hb2); have hc3 := H2.out.1.c1; clear hb2) | (go_at_call 77; refine (HC.out _ H2.out.1.r1 H2.out.2 G2.out).mono ?_; rintro e w3 ⟨u, rfl, hu, hb3⟩; have HU := Lib.hid hu; have B3 := Lib.hid hb3; clear hu hb3))
      go_ret2
      rw [HE.out.1, HE.out.2]
      exact ⟨u, rfl, HU.out.wider H2.out.1.below.size (Nat.le_refl _), H2.out.1.below.trans (B3.out.mono H2.out.1.below.size)⟩
end Go.Proofs.YtkomghohdhengaaDoor

/- Meets of monotone functions are monotone; the model's FunMeet. -/
namespace Go.Proofs.YtkomghohdhengaaDoor
open Go.RowKit Go.Deep

theorem join_bits {rows : Rows2} (h : Ok rows) {a b c : Nat} (ha : a < rows.length) (hb : b < rows.length) (hc : joinI rows a b = (c : Int)) : gridF rows c = gridF rows a &&& gridF rows b := by
  rw [join_eq h ha hb] at hc
  unfold bottomF at hc
  cases hf : (elems (gridF rows a &&& gridF rows b)).find? (fun k => gridF rows k == gridF rows a &&& gridF rows b) with
  | none => rw [hf] at hc; simp at hc
  | some k =>
    rw [hf] at hc
    obtain rfl : k = c := by
      have h' : (k : Int) = (c : Int) := by simpa using hc
      omega
    have := List.find?_some hf
    simpa using this
theorem meet_low {rows : Rows2} (h : Ok rows) {a b c : Nat} (ha : a < rows.length) (hb : b < rows.length) (hc : joinI (backRows rows) a b = (c : Int)) (x : Nat) : (gridF rows x).testBit c = ((gridF rows x).testBit a && (gridF rows x).testBit b) := by
  have := congrArg (fun n => n.testBit x) (join_bits h.back (by rw [backRows_len]; exact ha) (by rw [backRows_len]; exact hb) hc)
  simp only [Nat.testBit_and, back_bit h] at this
  exact this
theorem meet_mono {rows rows' : Rows2} {f g : List Int} (h : Ok rows') (h1 : Mono rows rows' f) (h2 : Mono rows rows' g) (hb : bothOk (backRows rows') f g = true) : monoI rows rows' (bothN (backRows rows') f g f.length) = true := by
  have hl1 := h1.1
  have hl2 := h2.1
  have hat : ∀ i, i < f.length → ∃ a b c : Nat, f.getD i 0 = (a : Int) ∧ g.getD i 0 = (b : Int) ∧ (bothN (backRows rows') f g f.length).getD i 0 = (c : Int) ∧ a < rows'.length ∧ b < rows'.length ∧ c < rows'.length ∧ joinI (backRows rows') a b = (c : Int) := by
    intro i hi
    have hfi := h1.2.1 (f.getD i 0) (by rw [getD_lt 0 hi]; exact List.getElem_mem _)
    have hgi := h2.2.1 (g.getD i 0) (by rw [getD_lt 0 (by omega)]; exact List.getElem_mem _)
    have h0 := bothOk_at hb hi
    have hB := joinI_bounds h.back (a := (f.getD i 0).toNat) (by rw [backRows_len]; omega) (g.getD i 0).toNat
    rw [backRows_len] at hB
    refine ⟨(f.getD i 0).toNat, (g.getD i 0).toNat, (joinI (backRows rows') (f.getD i 0).toNat (g.getD i 0).toNat).toNat, by omega, by omega, ?_, by omega, by omega, by omega, by omega⟩
    rw [getD_lt 0 (by rw [bothN_length]; exact hi)]
    unfold bothN
    rw [List.getElem_map, List.getElem_range]
    omega
  refine monoI_yes (by rw [bothN_length, hl1]) (fun i hi => ?_) (fun a b ha hb' hab => ?_)
  · rw [bothN_length] at hi
    obtain ⟨_, _, c, _, _, e, _, _, hc, _⟩ := hat i hi
    rw [getD_lt 0 (by rw [bothN_length]; exact hi)] at e
    rw [e]
    omega
  · obtain ⟨fa, ga, ca, e1, e2, e3, l1, l2, l3, j1⟩ := hat a (by omega)
    obtain ⟨fb, gb, cb, k1, k2, k3, m1, m2, m3, j2⟩ := hat b (by omega)
    have hf := h1.2.2 a b ha hb' hab
    have hg := h2.2.2 a b ha hb' hab
    rw [e1, k1, Int.toNat_natCast, h.up l1] at hf
    rw [e2, k2, Int.toNat_natCast, h.up l2] at hg
    rw [e3, k3, Int.toNat_natCast, h.up l3, meet_low h m1 m2 j2]
    have ho := h.own ca l3
    rw [meet_low h l1 l2 j1, Bool.and_eq_true] at ho
    rw [h.trans ca fa l3 ho.1 fb hf, h.trans ca ga l3 ho.2 gb hg]
    rfl

/-- What FunMeet answers. -/
noncomputable def fmeetOk (rows rows' : Rows2) (f g : List Int) : Bool := monoB rows rows' f && monoB rows rows' g && bothOk (backRows rows') f g
noncomputable def fmeetL (rows rows' : Rows2) (f g : List Int) : List Int := if fmeetOk rows rows' f g = true then bothN (backRows rows') f g f.length else []
theorem fmeet_no1 {rows rows' : Rows2} {f g : List Int} (h : monoB rows rows' f = false) : fmeetOk rows rows' f g = false := by unfold fmeetOk; rw [h]; rfl
theorem fmeet_no2 {rows rows' : Rows2} {f g : List Int} (h : monoB rows rows' g = false) : fmeetOk rows rows' f g = false := by unfold fmeetOk; rw [h]; simp
theorem fmeet_both {rows rows' : Rows2} {f g : List Int} (h1 : monoB rows rows' f = true) (h2 : monoB rows rows' g = true) : fmeetOk rows rows' f g = bothOk (backRows rows') f g ∧ fmeetL rows rows' f g = bothL (backRows rows') f g := by
  have h : fmeetOk rows rows' f g = bothOk (backRows rows') f g := by unfold fmeetOk; rw [h1, h2]; rfl
  refine ⟨h, ?_⟩
  unfold fmeetL bothL
  rw [h]
theorem fmeetL_nil {rows rows' : Rows2} {f g : List Int} (h : fmeetOk rows rows' f g = false) : fmeetL rows rows' f g = [] := by unfold fmeetL; rw [h]; rfl

set_option maxRecDepth 100000 in
set_option maxHeartbeats 8000000 in
theorem specFunMeet_any (v v' vf vg : Value) (rows rows' : Rows2) (f g : List Int) (w : World) (hv : RowsAt w v rows) (hv' : RowsAt w v' rows') (hf : IntsAt w vf f) (hg : IntsAt w vg g)
    (hn : bulk rows ≤ 1048576) (hn' : bulk rows' ≤ 1048576) :
    Calls Tryd.prog 26 #[.agg #[v], .agg #[v'], vf, vg] w (OwnB (fmeetL rows rows' f g) (fmeetOk rows rows' f g) w) := by
  have hT := TwoF.start w 25 25 hv hv' hf
  have hG := hg.below hT.1.below
  obtain ⟨A, C, rfl, _⟩ := hv
  obtain ⟨A', C', rfl, _⟩ := hv'
  obtain ⟨Af, Cf, rfl, _⟩ := hf
  obtain ⟨Ag, Cg, rfl, _⟩ := hg
  have H0 := Lib.hid hT
  have G0 := Lib.hid hG
  have hcell := hT.1.c0
  have hcell1 := hT.1.c1
  have hd1 := specMono_any _ _ _ rows rows' f _ hT.1.r0 hT.1.r1 hT.2 hn hn'
  clear hT hG
  cases h1 : monoB rows rows' f with
  | false =>
    rw [h1] at hd1
    have HE := Lib.hid (fmeet_no1 (g := g) h1)
    go_enter Tryd.func26, Tryd.ntmps26
    go_wp2_with (go_at_call 76; refine hd1.mono ?_; clear hd1; rintro e w1 ⟨rfl, hb1⟩; have H1 := Lib.hid (H0.out.step hb1); clear hb1)
    go_ret2
    exact ownB_nil (fmeetL_nil HE.out) HE.out H1.out.1.below
  | true =>
    rw [h1] at hd1
    cases h2 : monoB rows rows' g with
    | false =>
      have HE := Lib.hid (fmeet_no2 (f := f) h2)
      go_enter Tryd.func26, Tryd.ntmps26
      go_wp2_with (first | (go_at_call 76; refine hd1.mono ?_; clear hd1; rintro e w1 ⟨rfl, hb1⟩; have H1 := Lib.hid (H0.out.step hb1); have hc1 := H1.out.1.c0; have hc2 := H1.out.1.c1; have hd2 := specMono_any _ _ _ rows rows' g _ H1.out.1.r0 H1.out.1.r1 (G0.out.below hb1) hn hn'; rw [h2] at hd2; clear hb1) | (go_at_call 76; refine hd2.mono ?_; clear hd2; rintro e w2 ⟨rfl, hb2⟩; have H2 := Lib.hid (H1.out.step hb2); clear hb2))
      go_ret2
      exact ownB_nil (fmeetL_nil HE.out) HE.out H2.out.1.below
    | true =>
      obtain ⟨hD, hD', hm1⟩ := monoB_parts h1
      obtain ⟨_, _, hm2⟩ := monoB_parts h2
      have hok := ok_of_valid (show validB rows = true by unfold domB at hD; rw [Bool.and_eq_true] at hD; exact hD.1)
      have hok' := ok_of_valid (show validB rows' = true by unfold domB at hD'; rw [Bool.and_eq_true] at hD'; exact hD'.1)
      have hlen := dom_len hD
      have HLN := Lib.hid (backRows_len rows')
      have HC := Lib.hid (fun W u a b c => l3Both_any u (.slice Af f.length Cf) (.slice Ag g.length Cg) (backRows rows') f g W a b c hok'.back (by rw [backRows_len]; exact hm1.2.1) (by rw [backRows_len]; exact hm2.2.1) (by rw [hm1.1, hm2.1]) (by rw [hm1.1]; omega))
      have HM := Lib.hid (fun (h : bothOk (backRows rows') f g = true) W u a b c => by
        have := l2Monotone_any (.slice A rows.length C) (.slice A' rows'.length C') u rows rows' (bothN (backRows rows') f g f.length) W a b c hn hn' (valid_lists (valid_of_ok hok)) (valid_lists (valid_of_ok hok'))
        rw [meet_mono hok' hm1 hm2 h] at this
        exact this)
      have HE := Lib.hid (fmeet_both h1 h2)
      have HOK := Lib.hid hok'
      clear hD hD' hm1 hm2 hok hok' hlen h1
      go_enter Tryd.func26, Tryd.ntmps26
      go_wp2_with (first | (go_at_call 76; refine hd1.mono ?_; clear hd1; rintro e w1 ⟨rfl, hb1⟩; have H1 := Lib.hid (H0.out.step hb1); have G1 := Lib.hid (G0.out.below hb1); have hc1 := H1.out.1.c0; have hc2 := H1.out.1.c1; have hd2 := specMono_any _ _ _ rows rows' g _ H1.out.1.r0 H1.out.1.r1 (G0.out.below hb1) hn hn'; rw [h2] at hd2; clear hb1) | (go_at_call 76; refine hd2.mono ?_; clear hd2; rintro e w2 ⟨rfl, hb2⟩; have H2 := Lib.hid (H1.out.step hb2); have G2 := Lib.hid (G1.out.below hb2); have hc3 := H2.out.1.c1; clear hb2 hc1 hc2))
      refine (l1Back_any _ rows' w2 H2.out.1.r1 HOK.out).mono ?_
      rintro e w3 ⟨v3, rfl, ho, hb3⟩
      have H3 := Lib.hid (H2.out.step hb3)
      have G3 := Lib.hid (G2.out.below hb3)
      have R3 : Hid (RowsAt w3 v3 (backRows rows')) := Lib.hid (OwnR.at (by rw [HLN.out]; exact ho))
      obtain ⟨a3, n3, C3, e3⟩ : ∃ a n C, v3 = .slice a n C := by
        obtain ⟨rfl, _⟩ | ⟨_, _, _, rfl, _⟩ := ho
        · exact ⟨_, _, _, rfl⟩
        · exact ⟨_, _, _, rfl⟩
      subst e3
      clear ho hb3 hc3
      have hcall := HC.out w3 _ R3.out H3.out.2 G3.out
      cases hb : bothOk (backRows rows') f g with
      | false =>
        rw [hb] at hcall
        go_wp2_with (go_at_call 77; refine hcall.mono ?_; clear hcall; rintro e w4 ⟨u, rfl, _, hb4⟩; have H4 := Lib.hid (H3.out.step hb4); clear hb4)
        go_ret2
        have hE := HE.out.1
        rw [hb] at hE
        exact ownB_nil (fmeetL_nil hE) hE H4.out.1.below
      | true =>
        rw [hb] at hcall
        have HXO := Lib.hid (show fmeetOk rows rows' f g = true by rw [HE.out.1]; exact hb)
        have HL := Lib.hid (show bothL (backRows rows') f g = bothN (backRows rows') f g f.length by unfold bothL; rw [if_pos hb])
        rw [HL.out] at hcall
        have HM2 := Lib.hid (HM.out hb)
        have HB3 := Lib.hid H3.out.1.below
        have HXS := Lib.hid (HE.out.2.trans HL.out)
        generalize bothN (backRows rows') f g f.length = xs at hcall HM2 HXS
        clear hb HM HC HL
        go_wp2_with (first | (go_at_call 77; refine hcall.mono ?_; clear hcall; rintro e w4 ⟨u, rfl, hu, hb4⟩; have H4 := Lib.hid (H3.out.step hb4); have HU := Lib.hid hu; obtain ⟨au, Cu, rfl⟩ := hu.form; have hc5 := H4.out.1.c0; have hc6 := H4.out.1.c1; clear hu hb4) | (go_at_call 86; refine (HM2.out _ _ H4.out.1.r0 H4.out.1.r1 HU.out.at).mono ?_; rintro e w5 ⟨rfl, hb5⟩; have H5 := Lib.hid (H4.out.step hb5); have HU5 := Lib.hid ((HU.out.kept (fun b hb => hb5.block b (HU.out.block b hb).2.1)).wider HB3.out.size hb5.size); clear hb5))
        go_ret2
        rw [HXS.out, HXO.out]
        exact ⟨_, rfl, HU5.out, H5.out.1.below⟩
end Go.Proofs.YtkomghohdhengaaDoor

/- The model's OrderMeet. -/
namespace Go.Proofs.YtkomghohdhengaaDoor
open Go.RowKit Go.Deep

/-- What OrderMeet answers. -/
noncomputable def meetB (rows : Rows2) (a b : Int) : Int := if hasB rows a b = true then joinI (backRows rows) a.toNat b.toNat else -1

end Go.Proofs.YtkomghohdhengaaDoor

/- The model's OrderCovers. -/
namespace Go.Proofs.YtkomghohdhengaaDoor
open Go.RowKit Go.Deep

/-- What OrderCovers answers. -/
noncomputable def coverB (rows : Rows2) : Rows2 := if validB rows = true then (List.range rows.length).map (coversI rows) else []

/-- The rows res in memory of their own, and the Boolean t. -/
def RowsP (res : Rows2) (t : Bool) (w : World) (e : Ending) (w' : World) : Prop :=
  ∃ v, e = .returned (.tuple #[v, .bool t]) ∧ OwnR 3 26 w' v res.length (rowsF res) w.heap.size w'.heap.size ∧ Below w.heap.size w w'

theorem ints_ne' : (3 : TypeId) ≠ 26 := by decide
theorem infoIntss : (Tryd.prog.info? 26).map (fun i => (i.zero, i.size, i.bytes)) = some (some (.slice none 0 0), 1, 24) := infoInts

end Go.Proofs.YtkomghohdhengaaDoor

/- The model's OrderHeight. -/
namespace Go.Proofs.YtkomghohdhengaaDoor
open Go.RowKit Go.Deep

/-- What OrderHeight answers. -/
noncomputable def heightB (rows : Rows2) : Int := if validB rows = true then ((heightF rows : Nat) : Int) else -1

theorem heightF_part (rows : Rows2) (k : Nat) : maxL (rankF (gridF rows)) (List.range (k + 1)) = max (maxL (rankF (gridF rows)) (List.range k)) (rankF (gridF rows) k) := by
  rw [List.range_succ, maxL_snoc]
theorem heightF_le (rows : Rows2) (k : Nat) : maxL (rankF (gridF rows)) (List.range k) ≤ 256 := by
  apply Nat.le_of_not_lt
  rw [lt_maxL]
  rintro ⟨c, _, hc⟩
  have := rank_le (gridF rows) c
  omega

end Go.Proofs.YtkomghohdhengaaDoor

/- An order that is built row by row in a variable of its own: 'out.Up = append(out.Up, row)'. Plain facts on worlds: no function is walked here. -/
namespace Go.Proofs.YtkomghohdhengaaDoor
open Go.RowKit Go.Deep

/-- Rows are as they were if no block turns but one of another type. -/
theorem OwnR.kept_but {t u : TypeId} {W W' : World} {v : Value} {n : Nat} {R : Nat → List Int} {lo hi z : Nat} {tz : TypeId} {x : Value} (h : OwnR t u W v n R lo hi) (hz : Boxed W z tz x) (h1 : tz ≠ t) (h2 : tz ≠ u) (hb : ∀ b, b ≠ z → W'.heap[b]? = W.heap[b]?) : OwnR t u W' v n R lo hi := by
  obtain h | ⟨g, C, f, rfl, k1, k2, k3, k4, k5, k6, k7⟩ := h
  · exact .inl h
  · have hg : g ≠ z := fun e => by
      obtain ⟨c, k5, _⟩ := k5
      unfold Boxed at hz
      rw [e, hz] at k5
      injection k5 with k5
      injection k5 with _ k5
      exact h2 k5
    refine .inr ⟨g, C, f, rfl, k1, k2, k3, k4, k5.of_block (hb g hg), fun j hj => (k6 j hj).kept fun b e => hb b fun e2 => ?_, k7⟩
    obtain ⟨_, _, c, k8⟩ := (k6 j hj).block b e
    unfold Boxed at hz
    rw [e2, hz] at k8
    injection k8 with k8
    injection k8 with _ k8
    exact h1 k8

theorem ord_ne_int : (25 : TypeId) ≠ 3 := by decide
theorem ord_ne_ints : (25 : TypeId) ≠ 26 := by decide
theorem int_ne_ints : (3 : TypeId) ≠ 26 := by decide

/-- While an order is built in the box Z: n rows R are there. -/
structure Out (w0 : World) (Z : Nat) (u : Value) (n : Nat) (R : Nat → List Int) (W : World) : Prop where
  below : Below w0.heap.size w0 W
  out : Boxed W Z 25 u
  own : OwnR 3 26 W u n R w0.heap.size W.heap.size
  place : w0.heap.size ≤ Z
theorem Out.step {w0 : World} {Z : Nat} {u : Value} {n : Nat} {R : Nat → List Int} {W W' : World} (h : Out w0 Z u n R W) (hb : Below W.heap.size W W') : Out w0 Z u n R W' :=
  ⟨h.below.trans (hb.mono h.below.size), (hb.block _ h.out.lt).trans h.out, (h.own.below hb (Nat.le_refl _)).wider (Nat.le_refl _) hb.size, h.place⟩
theorem Out.congr {w0 : World} {Z : Nat} {u : Value} {n : Nat} {R R' : Nat → List Int} {W : World} (h : Out w0 Z u n R W) (he : ∀ j, j < n → R j = R' j) : Out w0 Z u n R' W :=
  ⟨h.below, h.out, h.own.congr he, h.place⟩

theorem Out.pushed {w0 : World} {Z : Nat} {u : Value} {n : Nat} {R : Nat → List Int} {wr w2 w3 : World} {f : Nat → Value} {v' u2 : Value} {xs : List Int} {o : Obj} (h : Out w0 Z u n R wr)
    (h0 : wr.ownsRow w0.heap.size 26 1 u n ((List.range n).map f)) (h1 : ∀ j, j < n → OwnI 3 wr (f j) (R j) w0.heap.size wr.heap.size) (h2 : ∀ i j, i < j → j < n → (f i).ownBlock = none ∨ (f i).ownBlock ≠ (f j).ownBlock)
    (hb : Below wr.heap.size wr w2) (hn : OwnI 3 w2 v' xs wr.heap.size w2.heap.size) (hown : w3.ownsRow w0.heap.size 26 1 u2 (n + 1) ((List.range n).map f ++ [v'])) (hgrow : (w2.alloc o).grownBy w3 u.ownBlock) :
    Out w0 Z u2 (n + 1) (fun q => if q = n then xs else R q) (w3.setCell ⟨Z, 0, none⟩ u2) := by
  have hs := h.step hb
  have hw := h.below.size
  have hz := hb.size
  obtain ⟨k1, k2, k3, k4, k5⟩ := Boxed.appended (tmp := o) hs.out ord_ne_ints (owns_below h0 hb) hs.below.size h.place hown hgrow
  have h1' : ∀ j, j < n → OwnI 3 w2 (f j) (R j) w0.heap.size wr.heap.size := fun j hj => (h1 j hj).kept fun b hb' => hb.block b ((h1 j hj).block b hb').2.1
  have hp := OwnR.pushed (W := w2) (mid := wr.heap.size) (lo := w0.heap.size) int_ne_ints (owns_below h0 hb) h1' h2 hw hz hn ((Below.refl _ w2).alloc (Nat.le_refl _) o) hown hgrow
  refine ⟨hs.below.trans k5, k2, ?_, h.place⟩
  rw [size_setCell]
  exact hp.kept_but k1 ord_ne_int ord_ne_ints fun b hb' => Below.heap_setCell _ _ _ b hb'
/-- The variable's cell, behind the append. -/
theorem Out.far {w0 : World} {Z : Nat} {u : Value} {n : Nat} {R : Nat → List Int} {w2 w3 : World} {xs : List Value} {o : Obj} (h : Out w0 Z u n R w2) (h0 : w2.ownsRow w0.heap.size 26 1 u n xs) (hgrow : (w2.alloc o).grownBy w3 u.ownBlock) : Boxed w3 Z 25 u :=
  (h.out.alloc o).kept hgrow (Boxed.not_row h.out ord_ne_ints h0)
/-- An order of one row, right behind. -/
theorem Out.one {w0 W : World} {v : Value} {xs : List Int} (hb : Below w0.heap.size w0 W) (hv : OwnI 3 W v xs w0.heap.size W.heap.size) :
    Out w0 (W.heap.size + 1) (.slice (some ⟨W.heap.size, 0, none⟩) 1 1) 1 (fun _ => xs) ((W.alloc (.cells #[v] 26)).alloc (.cells #[.slice (some ⟨W.heap.size, 0, none⟩) 1 1] 25)) := by
  have s1 : (W.alloc (.cells #[v] 26)).heap.size = W.heap.size + 1 := World.size_alloc _ _
  have hz := hb.size
  have b1 := (Below.refl W.heap.size W).alloc (Nat.le_refl _) (.cells #[v] 26)
  have b2 := b1.alloc (by rw [s1]; omega) (.cells #[.slice (some ⟨W.heap.size, 0, none⟩) 1 1] 25)
  have r1 := World.rowIs_alloc W #[v] 26 (fun _ => v) (fun i hi => by
    obtain rfl : i = 0 := by simpa using hi
    rfl)
  have bx := Boxed.new (W.alloc (.cells #[v] 26)) 25 (.slice (some ⟨W.heap.size, 0, none⟩) 1 1)
  rw [s1] at bx
  refine ⟨hb.trans (b2.mono hz), bx, .inr ⟨W.heap.size, 1, fun _ => v, rfl, Nat.le_refl _, by decide, hz, by rw [World.size_alloc, s1]; omega, r1.alloc _, fun j _ => ?_, fun i j hij hj => absurd hj (by omega)⟩, by omega⟩
  exact (hv.wider (Nat.le_refl _) (by rw [World.size_alloc, s1]; omega)).kept fun b e => b2.block b (hv.block b e).2.1
end Go.Proofs.YtkomghohdhengaaDoor

/- An order that is new; no row of it yet. Plain facts on worlds: no function is walked here. -/
namespace Go.Proofs.YtkomghohdhengaaDoor
open Go.RowKit Go.Deep

/-- An order in new memory. -/
def OrdNew (N : Nat) (R : Nat → List Int) (w : World) (e : Ending) (w' : World) : Prop :=
  ∃ v, e = .returned (.agg #[v]) ∧ OwnR 3 26 w' v N R w.heap.size w'.heap.size ∧ Below w.heap.size w w'
/-- No row yet. -/
theorem Out.empty (w0 : World) (R : Nat → List Int) : Out w0 (w0.heap.size + 1) (.slice (some ⟨w0.heap.size, 0, none⟩) 0 0) 0 R ((w0.alloc (.cells #[] 26)).alloc (.cells #[.slice (some ⟨w0.heap.size, 0, none⟩) 0 0] 25)) := by
  have s1 : (w0.alloc (.cells #[] 26)).heap.size = w0.heap.size + 1 := World.size_alloc _ _
  have b1 := (Below.refl w0.heap.size w0).alloc (Nat.le_refl _) (.cells #[] 26)
  have b2 := b1.alloc (by rw [s1]; omega) (.cells #[.slice (some ⟨w0.heap.size, 0, none⟩) 0 0] 25)
  have r1 := World.rowIs_alloc w0 #[] 26 (fun _ => undef) (fun _ h => absurd h (Nat.not_lt_zero _))
  have bx := Boxed.new (w0.alloc (.cells #[] 26)) 25 (.slice (some ⟨w0.heap.size, 0, none⟩) 0 0)
  rw [s1] at bx
  exact ⟨b2, bx, .inr ⟨w0.heap.size, 0, _, rfl, Nat.le_refl _, Nat.zero_le _, Nat.le_refl _, by rw [World.size_alloc, s1]; omega, r1.alloc _, fun j hj => absurd hj (Nat.not_lt_zero _), fun i j _ hj => absurd hj (Nat.not_lt_zero _)⟩, Nat.le_succ _⟩
end Go.Proofs.YtkomghohdhengaaDoor

/- The program's order of a domain that is not built yet (built): its rows, one after the other. -/
namespace Go.Proofs.YtkomghohdhengaaDoor
open Go.RowKit Go.Deep Go.Shelf

/-- All rows, when b elements of row a have been looked at. -/
def bP (B : Nat → Nat → Bool) (N a b q : Nat) : List Int := if q < a then bRow B q N else if q = a then bRow B a b else []
theorem bP_start (B : Nat → Nat → Bool) (N : Nat) : bP B N 0 0 = fun _ => [] := by
  funext q
  unfold bP
  rw [if_neg (Nat.not_lt_zero _)]
  split
  · rfl
  · rfl
theorem bP_yes {B : Nat → Nat → Bool} {N a b : Nat} (h : B a b = true) : bP B N a (b + 1) = fun q => if q = a then bP B N a b a ++ [(b : Int)] else bP B N a b q := by
  funext q
  unfold bP
  by_cases e : q = a
  · subst e
    rw [if_neg (Nat.lt_irrefl _), if_pos rfl, if_pos rfl, if_neg (Nat.lt_irrefl _), if_pos rfl, bRow_yes h]
  · rw [if_neg e, if_neg e, if_neg e]
theorem bP_no {B : Nat → Nat → Bool} {N a b : Nat} (h : B a b = false) : bP B N a (b + 1) = bP B N a b := by
  funext q
  unfold bP
  rw [bRow_no h]
theorem bP_next (B : Nat → Nat → Bool) (N a : Nat) : bP B N a N = bP B N (a + 1) 0 := by
  funext q
  unfold bP
  by_cases e : q = a
  · subst e
    rw [if_neg (Nat.lt_irrefl _), if_pos rfl, if_pos (Nat.lt_succ_self _)]
  · by_cases e2 : q < a
    · rw [if_pos e2, if_pos (by omega)]
    · rw [if_neg e2, if_neg e, if_neg (by omega)]
      split
      · rfl
      · rfl
theorem bP_at (B : Nat → Nat → Bool) (N a b : Nat) : bP B N a b a = bRow B a b := by unfold bP; rw [if_neg (Nat.lt_irrefl _), if_pos rfl]
theorem bP_done {B : Nat → Nat → Bool} {N q : Nat} (h : q < N) : bP B N N 0 q = bRow B q N := by unfold bP; rw [if_pos h]

/-- While the order is built; K is what of the domain's own memory is needed. -/
structure BlG (w : World) (K : World → Prop) (L N : Nat) (R : Nat → List Int) (W : World) : Prop where
  kept : K W
  res : Boxed W w.heap.size 25 (.slice none 0 0)
  own : OwnR 3 26 W (.slice (some ⟨L, 0, none⟩) N N) N R (w.heap.size + 1) W.heap.size
  below : Below w.heap.size w W
/-- K holds on when no memory turns that was there ahead of the call. -/
def Stays (w : World) (K : World → Prop) : Prop := ∀ W W' : World, Below w.heap.size W W' → K W → K W'
theorem BlG.step {w : World} {K : World → Prop} {L N : Nat} {R : Nat → List Int} {W W' : World} (hK : Stays w K) (h : BlG w K L N R W) (hb : Below W.heap.size W W') : BlG w K L N R W' :=
  ⟨hK W W' (hb.mono h.below.size) h.kept, (hb.block _ h.res.lt).trans h.res, (h.own.below hb (Nat.le_refl _)).wider (Nat.le_refl _) hb.size, h.below.trans (hb.mono h.below.size)⟩

theorem BlG.appended {w : World} {K : World → Prop} {L N : Nat} {R : Nat → List Int} {W W1 W2 : World} {f : Nat → Value} {j g' cap' : Nat} {y : Int} (hK : Stays w K) (h : BlG w K L N R W) (hN : N ≤ maxLen) (hL : w.heap.size + 1 ≤ L) (hr : W.rowIs L 26 N f)
    (hI : ∀ q, q < N → OwnI 3 W (f q) (R q) (w.heap.size + 1) W.heap.size) (hD : ∀ p q, p < q → q < N → (f p).ownBlock = none ∨ (f p).ownBlock ≠ (f q).ownBlock) (hj : j < N)
    (hy : (Lit.int .i64 y).wf = true) (hb1 : Below W.heap.size W W1)
    (hown : W2.ownsRow (w.heap.size + 1) 3 1 (.slice (some ⟨g', 0, none⟩) ((R j).length + 1) cap') ((R j).length + 1) (cellsI (R j) ++ [.int .i64 y])) (hgrow : W1.grownBy W2 (f j).ownBlock) (hat : (f j).ownBlock = some g' ∨ g' = W.heap.size + 1) (hlt : g' < W2.heap.size) :
    BlG w K L N (fun q => if q = j then R j ++ [y] else R q) (W2.setCell ⟨L, j, none⟩ (.slice (some ⟨g', 0, none⟩) ((R j).length + 1) cap')) := by
  have hz : w.heap.size < W.heap.size := h.res.lt
  have ho := OwnR.appended (t := 3) (u := 26) ints_ne (Nat.le_refl _) hN hL hr hI hD hj hy hb1.size (fun b hb => hb1.block b hb) hown hgrow (by rcases hat with h | h; exact .inl h; exact .inr (by omega)) hlt
  have hk : Below (w.heap.size + 1) W W2 := (hb1.mono (by omega)).grown hgrow (by have := hb1.size; omega) (fun b e => ((hI j hj).block b e).1)
  have hk2 := hk.setCell (p := ⟨L, j, none⟩) hL (.slice (some ⟨g', 0, none⟩) ((R j).length + 1) cap')
  exact ⟨hK _ _ (hk2.mono (by omega)) h.kept, (hk2.block _ (by omega)).trans h.res, by rw [size_setCell]; exact ho, h.below.trans (hk2.mono (by omega))⟩
/-- Rows in memory of their own, and a Boolean. -/
def RowsG (N : Nat) (R : Nat → List Int) (t : Bool) (w : World) (e : Ending) (w' : World) : Prop :=
  ∃ v, e = .returned (.tuple #[.agg #[v], .bool t]) ∧ OwnR 3 26 w' v N R w.heap.size w'.heap.size ∧ Below w.heap.size w w'
theorem Stays.grid {w : World} {p : Nat} {g : Nat → Nat} (h : p < w.heap.size) : Stays w (fun W => GridAt W p g) := fun _ _ hb hg => hg.below hb h
theorem Stays.grids {w : World} {p p' : Nat} {g g' : Nat → Nat} (h : p < w.heap.size) (h' : p' < w.heap.size) : Stays w (fun W => GridAt W p g ∧ GridAt W p' g') := fun _ _ hb hg => ⟨hg.1.below hb h, hg.2.below hb h'⟩
end Go.Proofs.YtkomghohdhengaaDoor

/- The program's look at a monotone function (isMonotone). -/
namespace Go.Proofs.YtkomghohdhengaaDoor
open Go.RowKit Go.Deep Go.Shelf

theorem gbelow_any (b : Nat) (g : Nat → Nat) (x y : Int) (i j : Nat) (w : World) (hg : GridAt w b g) (hx : x = i) (hi : i < 200) (hy : y = j) (hj : j < 256) :
    Calls Tryd.prog 148 #[.pointer (some ⟨b, 0, none⟩), .int .i64 x, .int .i64 y] w (SaysN ((g i).testBit j) w) := by
  subst hx hy
  obtain ⟨c0, c1, c2, c3⟩ := hg.row i hi
  have hi0 : (0 : Int) ≤ (i : Int) := by omega
  have hi1 : (i : Int) < 200 := by omega
  go_enter Tryd.func148, Tryd.ntmps148
  go_wp2_with (go_at_call 89; refine (has_any (g i) j j w rfl hj).mono ?_; rintro e w1 ⟨rfl, hb1⟩)
  go_ret
  exact ⟨rfl, hb1⟩

/-- A number that is no element. -/
def outN (n : Nat) (k : Int) : Bool := decide (k < 0) || decide ((n : Int) ≤ k)

theorem outside_any (p n : Nat) (k : Int) (W : World) (hc : W.cell? ⟨p, 0, none⟩ = some (.int .i64 (n : Int))) :
    Calls Tryd.prog 165 #[.int .i64 k, .pointer (some ⟨p, 0, none⟩)] W (fun e W' => e = .returned (.bool (outN n k)) ∧ W' = W) := by
  unfold outN
  by_cases h1 : k < 0
  · rw [decide_eq_true h1]
    go_enter Tryd.func165, Tryd.ntmps165
    go_wp2
    go_ret
    exact ⟨rfl, rfl⟩
  · rw [decide_eq_false h1]
    by_cases h2 : (n : Int) ≤ k
    · rw [decide_eq_true h2]
      go_enter Tryd.func165, Tryd.ntmps165
      go_wp2
      go_ret
      exact ⟨rfl, rfl⟩
    · rw [decide_eq_false h2]
      go_enter Tryd.func165, Tryd.ntmps165
      go_wp2
      go_ret
      exact ⟨rfl, rfl⟩

/-- Where the first number that is no element stands, or -1. -/
def IdxPost (f : List Int) (n : Nat) (w : World) (e : Ending) (w' : World) : Prop :=
  (∃ r : Int, e = .returned (.int .i64 r) ∧ (0 ≤ r ↔ ∃ x ∈ f, outN n x = true)) ∧ w' = w

set_option maxRecDepth 100000 in
set_option maxHeartbeats 4000000 in
theorem indexFunc_any (vf : Value) (f : List Int) (p n : Nat) (w : World) (hf : IntsAt w vf f) (hc : w.cell? ⟨p, 0, none⟩ = some (.int .i64 (n : Int))) :
    Calls Tryd.prog 172 #[vf, .func (.func 165) #[] #[.pointer (some ⟨p, 0, none⟩)]] w (IdxPost f n w) := by
  obtain ⟨Af, Cf, rfl, hCf, hmf, _, hy⟩ := hf
  unfold maxLen at hmf
  have HY := Lib.hid hy
  clear hy
  go_enter Tryd.func172, Tryd.ntmps172
  go_wp2
  go_loopw [5, 8] (fun _ kv wr => ∃ k : Nat, k ≤ f.length ∧ kv = .int .i64 k ∧ (∀ q (hq : q < f.length), q < k → outN n f[q] = false) ∧ wr = w) (fun _ kv _ => f.length - (intOf kv).toNat)
  case atStart => exact ⟨0, Nat.zero_le _, rfl, fun _ _ h => absurd h (Nat.not_lt_zero _), rfl⟩
  case round =>
    obtain ⟨k, hk, rfl, hp, rfl⟩ := hrel
    have HP := Lib.hid hp
    clear hp
    by_cases hlt : k < f.length
    · obtain ⟨b, o, rfl, hcf⟩ := HY.out k hlt
      have hcall := outside_any p n f[k] wr hc
      cases hq : outN n f[k] with
      | true =>
        rw [hq] at hcall
        have HE := Lib.hid (show ∃ x ∈ f, outN n x = true from ⟨_, List.getElem_mem hlt, hq⟩)
        clear hq
        go_wp2_with (go_at_call 165; refine hcall.mono ?_; clear hcall; rintro e w1 ⟨rfl, rfl⟩)
        go_ret
        exact ⟨⟨_, rfl, ⟨fun _ => HE.out, fun _ => by omega⟩⟩, rfl⟩
      | false =>
        rw [hq] at hcall
        have HQ := Lib.hid hq
        clear hq
        go_wp2_with (go_at_call 165; refine hcall.mono ?_; clear hcall; rintro e w1 ⟨rfl, rfl⟩)
        go_roundw
        case rel =>
          refine ⟨k + 1, by omega, by go_num, fun q hq hlt' => ?_, by first | trivial | rfl⟩
          by_cases e : q = k
          · subst e; exact HQ.out
          · exact HP.out q hq (by omega)
        case measure => simp [intOf]; omega
    · obtain rfl : k = f.length := by omega
      have HE := Lib.hid (show ¬ ∃ x ∈ f, outN n x = true by
        rintro ⟨x, hx, ho⟩
        obtain ⟨i, hi, rfl⟩ := List.getElem_of_mem hx
        rw [HP.out i hi hi] at ho
        cases ho)
      go_wp2
      go_ret
      exact ⟨⟨_, rfl, ⟨fun h => absurd h (by omega), fun h => absurd h HE.out⟩⟩, rfl⟩

theorem containsFunc_any (vf : Value) (f : List Int) (p n : Nat) (w : World) (t : Bool) (ht : t = true ↔ ∃ x ∈ f, outN n x = true) (hf : IntsAt w vf f) (hc : w.cell? ⟨p, 0, none⟩ = some (.int .i64 (n : Int))) :
    Calls Tryd.prog 164 #[vf, .func (.func 165) #[] #[.pointer (some ⟨p, 0, none⟩)]] w (fun e w' => e = .returned (.bool t) ∧ w' = w) := by
  have hcall := indexFunc_any vf f p n w hf hc
  obtain ⟨Af, Cf, rfl, _⟩ := hf
  go_enter Tryd.func164, Tryd.ntmps164
  go_wp2_with (go_at_call 172; refine hcall.mono ?_; clear hcall; rintro e w1 ⟨⟨r, rfl, hr⟩, rfl⟩; have HR := Lib.hid hr; clear hr)
  go_ret
  refine ⟨?_, rfl⟩
  have : decide (0 ≤ r) = t := by
    rw [Bool.eq_iff_iff, decide_eq_true_iff, HR.out, ht]
  rw [← this]
  rfl

/-- All numbers of a list are from 0 to n - 1. -/
theorem allBelow_any (vf : Value) (f : List Int) (n : Nat) (w : World) (t : Bool) (ht : t = true ↔ ∀ x ∈ f, outN n x = false) (hf : IntsAt w vf f) :
    Calls Tryd.prog 149 #[vf, .int .i64 (n : Int)] w (SaysN t w) := by
  have hb := (Below.refl w.heap.size w).alloc (Nat.le_refl _) (.cells #[.int .i64 (n : Int)] 3)
  have hbox := (World.rowIs_alloc w #[.int .i64 (n : Int)] 3 (fun _ => .int .i64 (n : Int)) (fun i hi => by simp at hi; subst hi; rfl)).cell (i := 0) (by simp)
  have hcall := containsFunc_any vf f w.heap.size n _ (!t) (by
    rw [Bool.not_eq_true', ← Bool.not_eq_true, ht]
    constructor
    · intro h
      refine Classical.byContradiction fun h' => h fun x hx => ?_
      cases hq : outN n x with
      | false => rfl
      | true => exact absurd ⟨x, hx, hq⟩ h'
    · rintro ⟨x, hx, hq⟩ h
      rw [h x hx] at hq
      cases hq) (hf.below hb) hbox
  obtain ⟨Af, Cf, rfl, _⟩ := hf
  have HB := Lib.hid hb
  clear hb
  go_enter Tryd.func149, Tryd.ntmps149
  go_wp2_with (go_at_call 164; refine hcall.mono ?_; clear hcall; rintro e w1 ⟨rfl, rfl⟩)
  go_ret
  exact ⟨by simp, HB.out⟩
end Go.Proofs.YtkomghohdhengaaDoor

/- The program's check of a monotone function (isMonotone). -/
namespace Go.Proofs.YtkomghohdhengaaDoor
open Go.RowKit Go.Deep Go.Shelf

theorem run_size (m b : Nat) (w : World) : (Go.method (m + 1) 70 (.pointer (some ⟨b, 0, none⟩)) "loop.example/scottdomains/impl.size").run Tryd.prog w = .ok (106, .pointer (some ⟨b, 0, none⟩)) w := by kernel_rfl
theorem run_below (m b : Nat) (w : World) : (Go.method (m + 1) 70 (.pointer (some ⟨b, 0, none⟩)) "loop.example/scottdomains/impl.below").run Tryd.prog w = .ok (148, .pointer (some ⟨b, 0, none⟩)) w := by kernel_rfl

theorem run_nilAhead (m b : Nat) (w : World) : (Go.nilAhead (m + 1) 70 (.pointer (some ⟨b, 0, none⟩)) "loop.example/scottdomains/impl.below").run Tryd.prog w = .ok (some false) w := by kernel_rfl

/-- The list f is a monotone function of the n rows g to the n' rows g'. -/
def MonoG (g g' : Nat → Nat) (n n' : Nat) (f : List Int) : Prop :=
  f.length = n ∧ (∀ x ∈ f, outN n' x = false) ∧ ∀ a b : Nat, a < n → b < n → (g a).testBit b = true → (g' (f.getD a 0).toNat).testBit (f.getD b 0).toNat = true

/-- Two grids and a list. -/
structure MG (w : World) (b b' : Nat) (g g' : Nat → Nat) (vf : Value) (f : List Int) (W : World) : Prop where
  g0 : GridAt W b g
  g1 : GridAt W b' g'
  f : IntsAt W vf f
  below : Below w.heap.size w W
theorem MG.step {w : World} {b b' : Nat} {g g' : Nat → Nat} {vf : Value} {f : List Int} {W W' : World} (h : MG w b b' g g' vf f W) (hb : Below W.heap.size W W') : MG w b b' g g' vf f W' :=
  ⟨h.g0.below hb h.g0.lt, h.g1.below hb h.g1.lt, h.f.below hb, h.below.trans (hb.mono h.below.size)⟩
theorem MG.drew {w : World} {b b' : Nat} {g g' : Nat → Nat} {vf : Value} {f : List Int} {W : World} (h : MG w b b' g g' vf f W) : MG w b b' g g' vf f W.drew := h.step ⟨rfl, rfl, rfl, Nat.le_refl _, fun _ _ => rfl⟩

set_option maxRecDepth 100000 in
set_option maxHeartbeats 8000000 in
theorem isMonotone_any (b b' n n' : Nat) (g g' : Nat → Nat) (vf : Value) (f : List Int) (w : World) (hg : GridAt w b g) (hg' : GridAt w b' g') (hn : GridN g n) (hn' : GridN g' n') (hf : IntsAt w vf f) (t : Bool) (ht : t = true ↔ MonoG g g' n n' f) :
    Calls Tryd.prog 104 #[.iface 70 (.pointer (some ⟨b, 0, none⟩)), .iface 70 (.pointer (some ⟨b', 0, none⟩)), vf] w (SaysN t w) := by
  have hmS := run_size
  have hmB := run_below
  have hmN := fun b w => run_nilAhead 296 b w
  have hM : MG w b b' g g' vf f w := ⟨hg, hg', hf, Below.refl _ _⟩
  have hnle := hn.le
  have hnle' := hn'.le
  have hsz := fun W h => size_any b n g W h hn.le hn.some hn.none
  have hsz' := fun W h => size_any b' n' g' W h hn'.le hn'.some hn'.none
  obtain ⟨Af, Cf, rfl, hCf, hmf, _, _⟩ := hf
  unfold maxLen at hmf
  have HM := Lib.hid hM
  have HSZ := Lib.hid hsz
  have HSZ' := Lib.hid hsz'
  have HT := Lib.hid ht
  clear hg hg' hM hn hn' hsz hsz' ht
  by_cases hfl : f.length = n
  · have hb : ((f.length : Int) == (n : Int)) = true := by rw [beq_iff_eq]; omega
    have hb2 : (f.length == n) = true := by rw [beq_iff_eq]; omega
    have hb3 : ((f.length : Int) != (n : Int)) = false := by unfold bne; rw [hb]; rfl
    have hb4 : (f.length != n) = false := by unfold bne; rw [hb2]; rfl
    have hfn : f.length ≤ 200 := by omega
    have HFL := Lib.hid hfl
    clear hfl
    by_cases hout : ∃ x ∈ f, outN n' x = true
    · obtain rfl : t = false := by
        cases t with
        | false => rfl
        | true =>
          obtain ⟨x, hx, ho⟩ := hout
          have := (HT.out.1 rfl).2.1 x hx
          rw [this] at ho
          cases ho
      have HAB := Lib.hid (fun W h => allBelow_any (.slice Af f.length Cf) f n' W false ⟨fun h => (by cases h), fun h => by obtain ⟨x, hx, ho⟩ := hout; rw [h x hx] at ho; cases ho⟩ h)
      clear hout
      go_enter Tryd.func104, Tryd.ntmps104
      go_wp2_with (first | (go_at_call_of 106 (Value.pointer (some ⟨b, 0, none⟩)); refine (HSZ.out _ HM.out.g0).mono ?_; clear HSZ; rintro e w1 ⟨rfl, hb1⟩; have M1 := Lib.hid (HM.out.step hb1); clear hb1) | (go_at_call_of 106 (Value.pointer (some ⟨b', 0, none⟩)); refine (HSZ'.out _ M1.out.g1).mono ?_; clear HSZ'; rintro e w2 ⟨rfl, hb2⟩; have M2 := Lib.hid (M1.out.step hb2); clear hb2) | (go_at_call 149; refine (HAB.out _ M2.out.f).mono ?_; rintro e w3 ⟨rfl, hb9⟩; have M3 := Lib.hid (M2.out.step hb9); clear hb9))
      go_ret
      exact ⟨rfl, M3.out.below⟩
    · have HAB := Lib.hid (fun W h => allBelow_any (.slice Af f.length Cf) f n' W true ⟨fun _ x hx => by cases hq : outN n' x with | false => rfl | true => exact absurd ⟨x, hx, hq⟩ hout, fun _ => rfl⟩ h)
      have HO := Lib.hid hout
      clear hout
      go_enter Tryd.func104, Tryd.ntmps104
      go_wp2_with (first | (go_at_call_of 106 (Value.pointer (some ⟨b, 0, none⟩)); refine (HSZ.out _ HM.out.g0).mono ?_; clear HSZ; rintro e w1 ⟨rfl, hb1⟩; have M1 := Lib.hid (HM.out.step hb1); clear hb1) | (go_at_call_of 106 (Value.pointer (some ⟨b', 0, none⟩)); refine (HSZ'.out _ M1.out.g1).mono ?_; clear HSZ'; rintro e w2 ⟨rfl, hb2⟩; have M2 := Lib.hid (M1.out.step hb2); clear hb2) | (go_at_call 149; refine (HAB.out _ M2.out.f).mono ?_; rintro e w3 ⟨rfl, hb9⟩; have M3 := Lib.hid (M2.out.step hb9); clear hb9))
      have HRNG := Lib.hid (show ∀ q (hq : q < f.length), 0 ≤ f[q] ∧ f[q] < n' from fun q hq => by
        have h : ¬ (outN n' f[q] = true) := fun h => HO.out ⟨_, List.getElem_mem hq, h⟩
        unfold outN at h
        rw [Bool.or_eq_true, decide_eq_true_iff, decide_eq_true_iff] at h
        omega)
      clear HO
      go_loopw [7, 23] (fun _ av wr => ∃ a : Nat, a ≤ f.length ∧ av = .int .i64 a ∧ (∀ q, q < a → ∀ c, c < f.length → (g q).testBit c = true → (g' (f.getD q 0).toNat).testBit (f.getD c 0).toNat = true) ∧ MG w b b' g g' (.slice Af f.length Cf) f wr) (fun _ av _ => f.length - (intOf av).toNat)
      case atStart => exact ⟨0, Nat.zero_le _, rfl, fun _ h => absurd h (Nat.not_lt_zero _), M3.out⟩
      case round =>
        obtain ⟨a, ha, rfl, hp, hm⟩ := hrel
        have HP := Lib.hid hp
        have MA := Lib.hid hm
        clear hp hm
        by_cases hal : a < f.length
        · go_wp2
          go_loopw [8, 28] (fun _ cv wr => ∃ c : Nat, c ≤ f.length ∧ cv = .int .i64 c ∧ (∀ q, q < c → (g a).testBit q = true → (g' (f.getD a 0).toNat).testBit (f.getD q 0).toNat = true) ∧ MG w b b' g g' (.slice Af f.length Cf) f wr) (fun _ cv _ => f.length - (intOf cv).toNat)
          case atStart => exact ⟨0, Nat.zero_le _, rfl, fun _ h => absurd h (Nat.not_lt_zero _), MA.out⟩
          case round =>
            obtain ⟨c, hc, rfl, hp, hm⟩ := hrel
            have HQ := Lib.hid hp
            have MC := Lib.hid hm
            clear hp hm
            by_cases hcl : c < f.length
            · have hfa := HRNG.out a hal
              have hfc := HRNG.out c hcl
              obtain ⟨ka, hka⟩ : ∃ ka : Nat, f[a] = (ka : Int) := ⟨f[a].toNat, by omega⟩
              obtain ⟨kc, hkc⟩ : ∃ kc : Nat, f[c] = (kc : Int) := ⟨f[c].toNat, by omega⟩
              have hDa : (f.getD a 0).toNat = ka := by rw [getD_lt 0 hal, hka]; rfl
              have hDc : (f.getD c 0).toNat = kc := by rw [getD_lt 0 hcl, hkc]; rfl
              have hka2 : ka < 200 := by omega
              have hkc2 : kc < 256 := by omega
              have hcA : ∀ W, IntsAt W (.slice Af f.length Cf) f → ∃ b o, Af = some ⟨b, o, none⟩ ∧ W.cell? ⟨b, o + a, none⟩ = some (.int .i64 (ka : Int)) ∧ W.cell? ⟨b, o + c, none⟩ = some (.int .i64 (kc : Int)) := fun W h => by
                obtain ⟨b1, o1, e1, h1⟩ := h.get hal
                obtain ⟨b2, o2, e2, h2⟩ := h.get hcl
                rw [e1] at e2
                cases e2
                rw [hka] at h1
                rw [hkc] at h2
                exact ⟨b1, o1, e1, h1, h2⟩
              have HCA := Lib.hid hcA
              obtain ⟨b1, o1, rfl, h1, h2⟩ := hcA _ MC.out.f
              clear hcA hfa hfc hka hkc
              have hcall := fun d os => gbelow_any b g a c a c _ (MC.out.g0.below (below_regrown wr d os) MC.out.g0.lt) rfl (by omega) rfl (by omega)
              have hcall' := fun d os => gbelow_any b' g' ka kc ka kc _ (MC.out.g1.below (below_regrown wr d os) MC.out.g1.lt) rfl hka2 rfl hkc2
              have hl1 := fun d os => cell_regrown h1 d os
              have hl2 := fun d os => cell_regrown h2 d os
              cases hbit : (g a).testBit c with
              | false =>
                simp only [hbit] at hcall
                have HB := Lib.hid hbit
                clear hbit
                go_wp2
                refine wp_region_quiet_below (by kernel_rfl) (by kernel_rfl) ?_
                repeat (go_big_quiet_step (first | (go_at_call_of 148 (Value.pointer (some ⟨b, 0, none⟩)); exact Calls.regrown_of (hcall _ _)) | (go_at_call_of 148 (Value.pointer (some ⟨b', 0, none⟩)); exact Calls.regrown_of (hcall' _ _))))
                refine wpQuiet_nil ?_
                intro _ hw'
                obtain ⟨⟨dq, osq⟩, hw''⟩ := hw'
                subst hw''
                clear hcall hcall' hl1 hl2
                go_wp2
                go_roundw
                case rel =>
                  refine ⟨c + 1, by omega, by go_num, fun q hq hb => ?_, (MC.out.step (below_regrown wr dq osq))⟩
                  by_cases e : q = c
                  · subst e; rw [HB.out] at hb; cases hb
                  · exact HQ.out q (by omega) hb
                case measure => simp [intOf]; omega
              | true =>
                simp only [hbit] at hcall
                cases hbit' : (g' ka).testBit kc with
                | true =>
                  simp only [hbit'] at hcall'
                  have HB := Lib.hid (show (g' (f.getD a 0).toNat).testBit (f.getD c 0).toNat = true by rw [hDa, hDc]; exact hbit')
                  clear hbit hbit' hDa hDc
                  go_wp2
                  refine wp_region_quiet_below (by kernel_rfl) (by kernel_rfl) ?_
                  repeat (go_big_quiet_step (first | (go_at_call_of 148 (Value.pointer (some ⟨b, 0, none⟩)); exact Calls.regrown_of (hcall _ _)) | (go_at_call_of 148 (Value.pointer (some ⟨b', 0, none⟩)); exact Calls.regrown_of (hcall' _ _))))
                  refine wpQuiet_nil ?_
                  intro _ hw'
                  obtain ⟨⟨dq, osq⟩, hw''⟩ := hw'
                  subst hw''
                  clear hcall hcall' hl1 hl2
                  go_wp2
                  go_roundw
                  case rel =>
                    refine ⟨c + 1, by omega, by go_num, fun q hq hb => ?_, (MC.out.step (below_regrown wr dq osq))⟩
                    by_cases e : q = c
                    · subst e; exact HB.out
                    · exact HQ.out q (by omega) hb
                  case measure => simp [intOf]; omega
                | false =>
                  simp only [hbit'] at hcall'
                  obtain rfl : t = false := by
                    cases t with
                    | false => rfl
                    | true =>
                      have := (HT.out.1 rfl).2.2 a c (by have := HFL.out; omega) (by have := HFL.out; omega) hbit
                      rw [hDa, hDc, hbit'] at this
                      cases this
                  clear hbit hbit' hDa hDc
                  go_wp2
                  refine wp_region_quiet_below (by kernel_rfl) (by kernel_rfl) ?_
                  repeat (go_big_quiet_step (first | (go_at_call_of 148 (Value.pointer (some ⟨b, 0, none⟩)); exact Calls.regrown_of (hcall _ _)) | (go_at_call_of 148 (Value.pointer (some ⟨b', 0, none⟩)); exact Calls.regrown_of (hcall' _ _))))
                  refine wpQuiet_nil ?_
                  intro _ hw'
                  obtain ⟨⟨dq, osq⟩, hw''⟩ := hw'
                  subst hw''
                  clear hcall hcall' hl1 hl2
                  go_wp2
                  go_ret
                  exact ⟨rfl, (MC.out.step (below_regrown wr dq osq)).below⟩
            · obtain rfl : c = f.length := by omega
              go_wp2
              go_roundw
              case rel =>
                refine ⟨a + 1, by omega, by go_num, fun q hq c hc hb => ?_, MC.out⟩
                by_cases e : q = a
                · subst e; exact HQ.out c hc hb
                · exact HP.out q (by omega) c hc hb
              case measure => simp [intOf]; omega
        · obtain rfl : a = f.length := by omega
          obtain rfl : t = true := HT.out.2 ⟨HFL.out, fun x hx => by
            obtain ⟨i, hi, rfl⟩ := List.getElem_of_mem hx
            have := HRNG.out i hi
            unfold outN
            rw [Bool.or_eq_false_iff, decide_eq_false_iff_not, decide_eq_false_iff_not]
            omega, fun p q hp hq hb => HP.out p (by rw [HFL.out]; exact hp) q (by rw [HFL.out]; exact hq) hb⟩
          go_wp2
          go_ret
          exact ⟨rfl, MA.out.below⟩
  · have hb : ((f.length : Int) == (n : Int)) = false := by rw [beq_eq_false_iff_ne]; omega
    have hb2 : (f.length == n) = false := by rw [beq_eq_false_iff_ne]; omega
    have hb3 : ((f.length : Int) != (n : Int)) = true := by unfold bne; rw [hb]; rfl
    have hb4 : (f.length != n) = true := by unfold bne; rw [hb2]; rfl
    obtain rfl : t = false := by
      cases t with
      | false => rfl
      | true => exact absurd (HT.out.1 rfl).1 hfl
    clear hfl
    go_enter Tryd.func104, Tryd.ntmps104
    go_wp2_with (go_at_call_of 106 (Value.pointer (some ⟨b, 0, none⟩)); refine (HSZ.out _ HM.out.g0).mono ?_; clear HSZ; rintro e w1 ⟨rfl, hb1⟩; have M1 := Lib.hid (HM.out.step hb1); clear hb1)
    go_ret
    exact ⟨rfl, M1.out.below⟩
end Go.Proofs.YtkomghohdhengaaDoor

/- The rows of a domain that is not built yet, as numbers (rowsOf), and its order (built). -/
namespace Go.Proofs.YtkomghohdhengaaDoor
open Go.RowKit Go.Deep Go.Shelf

theorem bNum_elems (B : Nat → Nat → Bool) (a : Nat) {n : Nat} (h : n ≤ 256) : intsOf (elems (bNum B a n)) = bRow B a n := by
  unfold intsOf elems bRow
  congr 1
  have hf : (fun b => (bNum B a n).testBit b) = fun k => decide (k < n) && B a k := by funext k; exact bNum_bit B a k n
  rw [hf]
  obtain ⟨m, hm⟩ : ∃ m, 256 = n + m := ⟨256 - n, by omega⟩
  rw [hm, List.range_add, List.filter_append]
  have h1 : (List.filter (fun k => decide (k < n) && B a k) (List.range n)) = List.filter (fun k => B a k) (List.range n) := List.filter_congr fun k hk => by
    rw [List.mem_range] at hk
    rw [decide_eq_true hk, Bool.true_and]
  have h2 : List.filter (fun k => decide (k < n) && B a k) (List.map (fun x => n + x) (List.range m)) = [] := List.filter_eq_nil_iff.2 fun k hk => by
    obtain ⟨x, _, rfl⟩ := List.mem_map.1 hk
    rw [decide_eq_false (by omega)]
    simp
  rw [h1, h2, List.append_nil]
/-- All rows, when b elements of row a have been looked at. -/
def bG (B : Nat → Nat → Bool) (N a b q : Nat) : Nat := if q < a then bNum B q N else if q = a then bNum B a b else 0
theorem bG_start (B : Nat → Nat → Bool) (N : Nat) : bG B N 0 0 = fun _ => 0 := by
  funext q
  unfold bG
  rw [if_neg (Nat.not_lt_zero _)]
  split
  · rfl
  · rfl
theorem bG_yes {B : Nat → Nat → Bool} {N a b : Nat} (h : B a b = true) : bG B N a (b + 1) = fun j => if j = a then put (bG B N a b a) b else bG B N a b j := by
  funext q
  unfold bG
  by_cases e : q = a
  · subst e
    rw [if_neg (Nat.lt_irrefl _), if_pos rfl, if_pos rfl, if_neg (Nat.lt_irrefl _), if_pos rfl]
    show (if B q b = true then _ else _) = _
    rw [if_pos h]
  · rw [if_neg e, if_neg e, if_neg e]
theorem bG_no {B : Nat → Nat → Bool} {N a b : Nat} (h : B a b = false) : bG B N a (b + 1) = bG B N a b := by
  funext q
  unfold bG
  have e : bNum B a (b + 1) = bNum B a b := by
    show (if B a b = true then _ else _) = _
    rw [h]; rfl
  rw [e]
theorem bG_next (B : Nat → Nat → Bool) (N a : Nat) : bG B N a N = bG B N (a + 1) 0 := by
  funext q
  unfold bG
  by_cases e : q = a
  · subst e
    rw [if_neg (Nat.lt_irrefl _), if_pos rfl, if_pos (Nat.lt_succ_self _)]
  · by_cases e2 : q < a
    · rw [if_pos e2, if_pos (by omega)]
    · rw [if_neg e2, if_neg e, if_neg (by omega)]
      split
      · rfl
      · rfl
/-- The rows of the domain. -/
def madeG (B : Nat → Nat → Bool) (N : Nat) : Nat → Nat := bG B N N 0
theorem madeG_lt {B : Nat → Nat → Bool} {N q : Nat} (h : q < N) : madeG B N q = bNum B q N := by unfold madeG bG; rw [if_pos h]
theorem madeG_out {B : Nat → Nat → Bool} {N q : Nat} (h : N ≤ q) : madeG B N q = 0 := by
  unfold madeG bG
  rw [if_neg (by omega)]
  split
  · rfl
  · rfl
theorem madeG_bit (B : Nat → Nat → Bool) (N q k : Nat) : (madeG B N q).testBit k = (decide (q < N) && decide (k < N) && B q k) := by
  by_cases h : q < N
  · rw [madeG_lt h, bNum_bit, decide_eq_true h, Bool.true_and]
  · rw [madeG_out (by omega), Nat.zero_testBit, decide_eq_false h]; rfl
theorem madeG_gridN {B : Nat → Nat → Bool} {N : Nat} (hN : N ≤ 200) (hr : ∀ q, q < N → B q q = true) : GridN (madeG B N) N :=
  ⟨hN, fun i hi h => (by
    have e := madeG_bit B N i i
    rw [h, Nat.zero_testBit, decide_eq_true hi, hr i hi] at e
    cases e), fun _ => madeG_out (Nat.le_refl _)⟩

/-- What rowsOf answers: none, or rows in memory of their own. -/
def RowsNo (w : World) (e : Ending) (w' : World) : Prop := e = .returned (.tuple #[.pointer none, .bool false]) ∧ Below w.heap.size w w'
def RowsYes (G : Nat → Nat) (w : World) (e : Ending) (w' : World) : Prop :=
  (∃ p : Nat, e = .returned (.tuple #[.pointer (some ⟨p, 0, none⟩), .bool true]) ∧ w.heap.size ≤ p ∧ GridAt w' p G) ∧ Below w.heap.size w w'

/-- While the rows are laid; K is what of the domain's own memory is needed. -/
structure RwG (w : World) (K : World → Prop) (p : Nat) (G : Nat → Nat) (W : World) : Prop where
  kept : K W
  grid : GridAt W p G
  own : w.heap.size ≤ p
  below : Below w.heap.size w W
theorem RwG.step {w : World} {K : World → Prop} {p : Nat} {G : Nat → Nat} {W W' : World} (hK : Stays w K) (h : RwG w K p G W) (hb : Below W.heap.size W W') : RwG w K p G W' :=
  ⟨hK W W' (hb.mono h.below.size) h.kept, h.grid.below hb h.grid.lt, h.own, h.below.trans (hb.mono h.below.size)⟩
theorem RwG.put {w : World} {K : World → Prop} {p : Nat} {G : Nat → Nat} {W : World} (hK : Stays w K) (h : RwG w K p G W) {k i : Nat} (hk : k < 200) (hi : i < 200) (m : Nat) :
    RwG w K p (fun j => if j = k then put (G k) i else G j) ((W.drewN m).setCell ⟨p, k * 4 + i / 64, none⟩ (.int .u64 ((word (G k) (i / 64) ||| 2 ^ (i % 64) : Nat) : Int))) := by
  have hb := below_put (Below.refl w.heap.size W) m (q := p) h.own (k * 4 + i / 64) (.int .u64 ((word (G k) (i / 64) ||| 2 ^ (i % 64) : Nat) : Int))
  exact ⟨hK _ _ hb h.kept, h.grid.putAt hk (by omega) m, h.own, h.below.trans hb⟩

set_option maxRecDepth 100000 in
set_option maxHeartbeats 4000000 in
/-- An order of too many elements is not made. -/
theorem built_no (x : Value) (w : World) (h : ∀ W, Below w.heap.size w W → Calls Tryd.prog 134 #[x] W (RowsNo W)) :
    Calls Tryd.prog 79 #[x] w (RowsG 0 (fun _ => []) false w) := by
  have b0 := (Below.refl w.heap.size w).alloc (Nat.le_refl _) (.cells #[.slice none 0 0] 25)
  have hbx := Boxed.new w 25 (.slice none 0 0)
  have hc1 := h _ b0
  have HBX := Lib.hid hbx
  have HB0 := Lib.hid b0
  clear b0 hbx h
  go_enter Tryd.func79, Tryd.ntmps79
  go_wp2_with (go_at_call 134; refine hc1.mono ?_; clear hc1; rintro e w1 ⟨rfl, hb1⟩; have HBX1 : Hid (Boxed w1 w.heap.size 25 (.slice none 0 0)) := Lib.hid ((hb1.block _ HBX.out.lt).trans HBX.out); have HB1 := Lib.hid (HB0.out.trans (hb1.mono HB0.out.size)); have hres := HBX1.out.cell; have hfr := HBX1.out.frozen; clear hb1)
  have hc9 := World.cell?_setCell_same' w1 ⟨w.heap.size, 0, none⟩ (.slice none 0 0) (by rw [hres]; rfl)
  refine bodyPost_ret (v := .tuple #[.agg #[.slice none 0 0], .bool false]) (by simp [results, Tryd.results79, go_sem, hc9]) rfl ?_
  exact ⟨_, rfl, OwnR.nil _ _ _ _ _ _, HB1.out.setCell (p := ⟨w.heap.size, 0, none⟩) (Nat.le_refl _) _⟩

set_option maxRecDepth 100000 in
set_option maxHeartbeats 4000000 in
theorem built_yes (x : Value) (B : Nat → Nat → Bool) (N : Nat) (w : World) (hT : Tab w) (hN : N ≤ 200) (hr : ∀ q, q < N → B q q = true) (h : ∀ W, Below w.heap.size w W → Calls Tryd.prog 134 #[x] W (RowsYes (madeG B N) W)) :
    Calls Tryd.prog 79 #[x] w (RowsG N (fun q => bRow B q N) true w) := by
  have b0 := (Below.refl w.heap.size w).alloc (Nat.le_refl _) (.cells #[.slice none 0 0] 25)
  have hbx := Boxed.new w 25 (.slice none 0 0)
  have hc1 := h _ b0
  have HBX := Lib.hid hbx
  have HB0 := Lib.hid b0
  have HORD := Lib.hid (fun W p (hg : GridAt W p (madeG B N)) (hW : Below w.heap.size w W) => order_any p N (madeG B N) W hg (hT.below hW) (madeG_gridN hN hr))
  clear b0 hbx h hr hT
  go_enter Tryd.func79, Tryd.ntmps79
  go_wp2_with (first | (go_at_call 134; refine hc1.mono ?_; clear hc1; rintro e w1 ⟨⟨p, rfl, _, hg⟩, hb1⟩; have HG := Lib.hid hg; have HBX1 : Hid (Boxed w1 w.heap.size 25 (.slice none 0 0)) := Lib.hid ((hb1.block _ HBX.out.lt).trans HBX.out); have HB1 := Lib.hid (HB0.out.trans (hb1.mono HB0.out.size)); clear hb1 hg) | (go_at_call 122; refine (HORD.out _ p HG.out HB1.out).mono ?_; rintro e w2 ⟨u, rfl, hu, hb2⟩; obtain ⟨a2, C2, rfl⟩ := hu.form; have HU := Lib.hid hu; have HBX2 : Hid (Boxed w2 w.heap.size 25 (.slice none 0 0)) := Lib.hid ((hb2.block _ HBX1.out.lt).trans HBX1.out); have HB2 := Lib.hid (HB1.out.trans (hb2.mono HB1.out.size)); have hres := HBX2.out.cell; have hfr := HBX2.out.frozen; clear hu hb2))
  have hc9 := World.cell?_setCell_same' w2 ⟨w.heap.size, 0, none⟩ (.slice a2 N C2) (by rw [hres]; rfl)
  have hw1 : w.heap.size < w1.heap.size := HBX1.out.lt
  refine bodyPost_ret (v := .tuple #[.agg #[.slice a2 N C2], .bool true]) (by simp [results, Tryd.results79, go_sem, hc9]) rfl ?_
  refine ⟨_, rfl, ?_, HB2.out.setCell (p := ⟨w.heap.size, 0, none⟩) (Nat.le_refl _) _⟩
  rw [size_setCell]
  exact ((HU.out.kept fun b hb _ => Below.heap_setCell _ _ _ b (show b ≠ w.heap.size by omega)).wider (by omega) (Nat.le_refl _)).congr fun q hq => by rw [madeG_lt hq]; exact bNum_elems B q (by omega)
end Go.Proofs.YtkomghohdhengaaDoor

/- The model's l2Moved: a list, each number moved on. -/
namespace Go.Proofs.YtkomghohdhengaaDoor
open Go.RowKit Go.Deep

/-- The first k numbers, each moved on. -/
def movedN (xs : List Int) (by' : Int) (k : Nat) : List Int := (xs.take k).map fun x => x + by'
theorem movedN_length {xs : List Int} {y : Int} {k : Nat} (h : k ≤ xs.length) : (movedN xs y k).length = k := by unfold movedN; simp; omega
theorem movedN_succ {xs : List Int} {y : Int} {k : Nat} (h : k < xs.length) : movedN xs y (k + 1) = movedN xs y k ++ [xs[k] + y] := by
  unfold movedN
  rw [List.take_succ_eq_append_getElem h, List.map_append]
  rfl

set_option maxRecDepth 100000 in
set_option maxHeartbeats 4000000 in
theorem l2Moved_any (v : Value) (xs : List Int) (y : Int) (w : World) (hv : IntsAt w v xs) (hn : xs.length ≤ 1048576) (hr : ∀ x ∈ xs, 0 ≤ x + y ∧ x + y ≤ 1048576) :
    Calls Tryd.prog 152 #[v, .int .i64 y] w (OwnQ (movedN xs y xs.length) w) := by
  have HFA := Lib.hid (fun W (h : Below w.heap.size w W) => (by
    obtain ⟨a, C, e, h1, h2, h3, h4⟩ := hv
    exact ⟨a, C, e, h1, h2, h3, fun i hi => by
      obtain ⟨b, o, ea, hc⟩ := h4 i hi
      exact ⟨b, o, ea, (h.cell (p := ⟨b, o + i, none⟩) (cell_lt hc)).trans hc⟩⟩ : IntsAt W v xs))
  obtain ⟨A, C, rfl, hC, hm, _⟩ := hv
  unfold maxLen at hm
  obtain ⟨i0, hi0, hz0, hz1, hz2⟩ := info_parts infoInt
  have HO := Lib.hid (World.ownsRow_made (e := 3) (size := 1) w #[] 0 (base := w.heap.size) (Nat.le_refl _) (Nat.zero_le _) (by simp))
  have HB0 := Lib.hid ((Below.refl w.heap.size w).alloc (Nat.le_refl _) (.cells #[] 3))
  have HR := Lib.hid hr
  clear hr
  go_enter Tryd.func152, Tryd.ntmps152
  go_wp2
  go_loopw [5, 6] (fun ov kv wr => ∃ k : Nat, k ≤ xs.length ∧ kv = .int .i64 k ∧ wr.ownsRow w.heap.size 3 1 ov (movedN xs y k).length (cellsI (movedN xs y k)) ∧ Below w.heap.size w wr) (fun _ kv _ => xs.length - (intOf kv).toNat)
  case atStart => exact ⟨0, Nat.zero_le _, rfl, by unfold movedN; simpa using HO.out, HB0.out⟩
  case round =>
    obtain ⟨k, hk, rfl, hown, hB⟩ := hrel
    have HOWN := Lib.hid hown
    have HB := Lib.hid hB
    have hcl := Nat.le_of_eq (movedN_length (y := y) hk)
    clear hown hB HO HB0
    by_cases hlt : k < xs.length
    · obtain ⟨b1, o1, rfl, hcf⟩ := (HFA.out wr HB.out).get hlt
      have hr := HR.out _ (List.getElem_mem hlt)
      have hwr : IntKind.i64.wrap (xs[k] + y) = xs[k] + y := IntWalk.i64_in _ (by omega)
      have hbz := HB.out.size
      clear hr
      go_wp2_with (at_builtin; refine wpList_append_own _ rfl _ _ 26 rfl w.heap.size 3 i0 (.int .i64 0) 1 8 Tryd.underlying26 hi0 hz0 hz1 hz2 rfl (by decide) _ _ _ rfl (HOWN.out.alloc _) ⟨wr.heap.size, 0, none⟩ 1 1 [.int .i64 (xs[k] + y)] rfl rfl (cell_one_new _ _ _) (by simp [Value.oneCell']) (by unfold maxLen; omega) (by omega) (by simp; omega) ?_; intro v' w1 hown' hgrow _)
      go_roundw
      case rel =>
        refine ⟨k + 1, by omega, by go_num, ?_, (HB.out.alloc HB.out.size _).grown hgrow (by rw [World.size_alloc]; omega) (fun b e => (HOWN.out.lt b e).1)⟩
        rw [movedN_succ hlt, List.length_append, show cellsI (movedN xs y k ++ [xs[k] + y]) = cellsI (movedN xs y k) ++ [.int .i64 (xs[k] + y)] by simp]
        exact hown'
      case measure => simp [intOf]; omega
    · obtain rfl : k = xs.length := by omega
      go_wp2
      go_ret
      refine ⟨_, rfl, OwnI.of_owns HOWN.out ?_ (fun b hb => (HOWN.out.lt b hb).2), HB.out⟩
      intro z hz
      unfold movedN at hz
      rw [List.take_length] at hz
      obtain ⟨x, hx, rfl⟩ := List.mem_map.1 hz
      exact wf_int (HR.out x hx).1 (HR.out x hx).2
end Go.Proofs.YtkomghohdhengaaDoor
