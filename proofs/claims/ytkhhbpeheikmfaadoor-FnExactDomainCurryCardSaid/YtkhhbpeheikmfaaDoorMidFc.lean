/- The program's function domain, unbuilt: how many elements it has, and what is below what. -/
import Derived.Test.YtkhhbpeheikmfaaDoorMidFb
import Derived.Test.YtkhhbpeheikmfaaDoorMidFa
import Derived.Test.YtkhhbpeheikmfaaDoorJoinS
import Derived.Test.YtkhhbpeheikmfaaDoorTo
import Derived.Test.YtkhhbpeheikmfaaDoorLw
import Derived.Maps.AppendAt
import Derived.Test.YtkhhbpeheikmfaaDoorBackS
import Derived.RangeFuncBox
import Derived.Deep.RegionLaw
import Derived.Deep.AppendLies
namespace Go.Proofs.YtkhhbpeheikmfaaDoor
open Go.RowKit Go.Deep Go.Shelf

theorem run_fun_size (m : Nat) (v v' : Value) (w : World) : (Go.method (m + 1) 54 (.agg #[v, v']) "loop.example/scottdomains/impl.size").run Tryd.prog w = .ok (122, .agg #[v, v']) w := by kernel_rfl
theorem run_fun_below (m : Nat) (v v' : Value) (w : World) : (Go.method (m + 1) 54 (.agg #[v, v']) "loop.example/scottdomains/impl.below").run Tryd.prog w = .ok (121, .agg #[v, v']) w := by kernel_rfl

theorem funSize_any (p : Nat) (vl : Value) (R : Rows2) (w : World) (hv : RowsAt w vl R) :
    Calls Tryd.prog 122 #[.agg #[vl, gridV p]] w (SaysI ((R.length : Nat) : Int) w) := by
  have b0 := (Below.refl w.heap.size w).alloc (Nat.le_refl _) (.cells #[vl, gridV p] 54)
  obtain ⟨hc, hc'⟩ := fresh2 w vl (gridV p) 54
  obtain ⟨A, C, rfl, _⟩ := hv
  have HB := Lib.hid b0
  clear b0
  go_enter Tryd.func122, Tryd.ntmps122
  go_wp2
  go_ret
  exact ⟨rfl, HB.out⟩

/-- Is the a-th of some lists below the b-th, for the first k of its elements? -/
def funT (g : Nat → Nat) (R : Rows2) (a b k : Nat) : Bool := (List.range k).all fun i => (g ((R.getD a []).getD i 0).toNat).testBit ((R.getD b []).getD i 0).toNat
theorem funT_zero (g : Nat → Nat) (R : Rows2) (a b : Nat) : funT g R a b 0 = true := rfl
theorem funT_succ (g : Nat → Nat) (R : Rows2) (a b k : Nat) : funT g R a b (k + 1) = (funT g R a b k && (g ((R.getD a []).getD k 0).toNat).testBit ((R.getD b []).getD k 0).toNat) := by
  unfold funT
  rw [List.range_succ, List.all_append]
  simp
theorem funT_no {g : Nat → Nat} {R : Rows2} {a b k n : Nat} (hk : k < n) (h : (g ((R.getD a []).getD k 0).toNat).testBit ((R.getD b []).getD k 0).toNat = false) : funT g R a b n = false := by
  unfold funT
  rw [List.all_eq_false]
  exact ⟨k, List.mem_range.2 hk, by rw [h]; decide⟩
def funG (g : Nat → Nat) (R : Rows2) (n a b : Nat) : Bool := funT g R a b n
/-- Lists of n elements. -/
def Lists (R : Rows2) (n : Nat) : Prop := ∀ r ∈ R, r.length = n ∧ ∀ x ∈ r, 0 ≤ x ∧ x < 200

set_option maxRecDepth 100000 in
set_option maxHeartbeats 4000000 in
theorem funBelow_any (p : Nat) (g : Nat → Nat) (vl : Value) (R : Rows2) (n a b : Nat) (w : World) (hg : GridAt w p g) (hv : RowsAt w vl R) (hR : Lists R n) (hn : n ≤ 200) (ha : a < R.length) (hb : b < R.length) :
    Calls Tryd.prog 121 #[.agg #[vl, gridV p], .int .i64 (a : Int), .int .i64 (b : Int)] w (SaysN (funG g R n a b) w) := by
  have b0 := (Below.refl w.heap.size w).alloc (Nat.le_refl _) (.cells #[vl, gridV p] 54)
  have hs : w.heap.size ≤ (w.alloc (.cells #[vl, gridV p] 54)).heap.size := b0.size
  have hsl : w.heap.size < (w.alloc (.cells #[vl, gridV p] 54)).heap.size := by simp
  obtain ⟨hc, hc'⟩ := fresh2 w vl (gridV p) 54
  have hv1 := hv.below b0
  have hg1 := hg.below b0 hg.lt
  obtain ⟨A, C, rfl, hC, hm, hx⟩ := hv
  obtain ⟨b1, o1, _, rfl, _⟩ := hx a ha
  unfold maxLen at hm
  obtain ⟨Aa, Ca, hCa, hma, hca, hra⟩ := hv1.row ha
  obtain ⟨Ab, Cb, hCb, hmb, hcb, hrb⟩ := hv1.row hb
  obtain ⟨hla, hva⟩ := hR _ (List.getElem_mem ha)
  obtain ⟨hlb, hvb⟩ := hR _ (List.getElem_mem hb)
  have hga : R.getD a [] = R[a] := getD_lt [] ha
  have hgb : R.getD b [] = R[b] := getD_lt [] hb
  obtain ⟨xs, hxs⟩ : ∃ xs, xs = R[a] := ⟨_, rfl⟩
  obtain ⟨ys, hys⟩ : ∃ ys, ys = R[b] := ⟨_, rfl⟩
  rw [← hxs] at hCa hca hra hla hva hga
  rw [← hys] at hCb hcb hrb hlb hvb hgb
  clear hxs hys hx
  rw [hla] at hca
  rw [hlb] at hcb
  unfold maxLen at hma hmb
  have haz : (a : Int) < (R.length : Int) := by omega
  have hbz : (b : Int) < (R.length : Int) := by omega
  have HRA := Lib.hid hra
  have HRB := Lib.hid hrb
  have HG := Lib.hid hg1
  have HB := Lib.hid b0
  have HVA := Lib.hid hva
  have HVB := Lib.hid hvb
  have HLA := Lib.hid hla
  have HLB := Lib.hid hlb
  have HGA := Lib.hid hga
  have HGB := Lib.hid hgb
  obtain ⟨W1, hW1⟩ : ∃ W1, W1 = w.alloc (.cells #[.slice (some ⟨b1, o1, none⟩) R.length C, gridV p] 54) := ⟨_, rfl⟩
  rw [← hW1] at HRA HRB HG HB hc hc' hca hcb hs hsl
  have HK := Lib.hid (show ∀ W, Below W1.heap.size W1 W → W.cell? ⟨w.heap.size, 0, none⟩ = some (.slice (some ⟨b1, o1, none⟩) R.length C) ∧ W.cell? ⟨w.heap.size, 1, none⟩ = some (gridV p) ∧ W.cell? ⟨b1, o1 + b, none⟩ = some (.slice Ab n Cb) from fun W hb =>
    ⟨(hb.cell (p := ⟨w.heap.size, 0, none⟩) (cell_lt hc)).trans hc, (hb.cell (p := ⟨w.heap.size, 1, none⟩) (cell_lt hc')).trans hc', (hb.cell (p := ⟨b1, o1 + b, none⟩) (cell_lt hcb)).trans hcb⟩)
  clear hra hrb hg1 b0 hva hvb hla hlb hga hgb hg hv1 hR
  have hmB := run_below
  have hmN := fun b w => run_nilAhead 252 b w
  go_enter Tryd.func121, Tryd.ntmps121
  go_upto_region 1 with fail
  rw [← hW1]
  clear hW1
  go_wp2
  go_loopw [7, 8, 15] (fun _ _ iv wr => ∃ i : Nat, i ≤ n ∧ iv = .int .i64 i ∧ funT g R a b i = true ∧ Below W1.heap.size W1 wr) (fun _ _ iv _ => n - (intOf iv).toNat)
  case atStart => exact ⟨0, Nat.zero_le _, rfl, rfl, Below.refl _ _⟩
  case round =>
    obtain ⟨i, hi, rfl, ht, hbw⟩ := hrel
    have HT := Lib.hid ht
    have HBW := Lib.hid hbw
    clear ht hbw
    by_cases hlt : i < n
    · obtain ⟨ba, oa, rfl, hxa⟩ := HRA.out i (by have := HLA.out; omega)
      obtain ⟨bb, ob, rfl, hxb⟩ := HRB.out i (by have := HLB.out; omega)
      have hka := HVA.out _ (List.getElem_mem (show i < xs.length by have := HLA.out; omega))
      have hkb := HVB.out _ (List.getElem_mem (show i < ys.length by have := HLB.out; omega))
      have hea : (R.getD a []).getD i 0 = xs[i]'(by have := HLA.out; omega) := by rw [HGA.out]; exact getD_lt 0 (by have := HLA.out; omega)
      have heb : (R.getD b []).getD i 0 = ys[i]'(by have := HLB.out; omega) := by rw [HGB.out]; exact getD_lt 0 (by have := HLB.out; omega)
      generalize xs[i]'(by have := HLA.out; omega) = xa at hxa hka hea
      generalize ys[i]'(by have := HLB.out; omega) = yb at hxb hkb heb
      obtain ⟨ka, rfl⟩ : ∃ ka : Nat, xa = (ka : Int) := ⟨xa.toNat, by omega⟩
      obtain ⟨kb, rfl⟩ : ∃ kb : Nat, yb = (kb : Int) := ⟨yb.toNat, by omega⟩
      have hbit : (g ((R.getD a []).getD i 0).toNat).testBit ((R.getD b []).getD i 0).toNat = (g ka).testBit kb := by rw [hea, heb, Int.toNat_natCast, Int.toNat_natCast]
      obtain ⟨q0, q1, q2⟩ := HK.out wr HBW.out
      have q3 := (HBW.out.cell (p := ⟨ba, oa + i, none⟩) (cell_lt hxa)).trans hxa
      have q4 := (HBW.out.cell (p := ⟨bb, ob + i, none⟩) (cell_lt hxb)).trans hxb
      have hgw := HG.out.below HBW.out HG.out.lt
      have hy := fun d os => Calls.regrown_of (d := d) (os := os) (gbelow_any p g (ka : Int) (kb : Int) ka kb _ (hgw.below (below_regrown _ d os) hgw.lt) rfl (by omega) rfl (by omega))
      have hiz : (i : Int) < (n : Int) := by omega
      have hk0 := fun d os => cell_regrown q0 d os
      have hk1 := fun d os => cell_regrown q1 d os
      have hk2 := fun d os => cell_regrown q2 d os
      have hk3 := fun d os => cell_regrown q3 d os
      have hk4 := fun d os => cell_regrown q4 d os
      have HBIT := Lib.hid hbit
      clear hgw hea heb hbit hka hkb hxa hxb
      generalize (g ka).testBit kb = t at hy HBIT
      go_upto_region 4 with fail
      refine wp_region_quiet_below (by kernel_rfl) (by kernel_rfl) ?_
      repeat (go_big_quiet_step (first | (go_at_call 99; exact hy _ _)))
      refine wpQuiet_nil ?_
      intro _ hw'
      obtain ⟨⟨dq, osq⟩, hw''⟩ := hw'
      subst hw''
      have HB2 := Lib.hid (HBW.out.trans ((below_regrown wr dq osq).mono HBW.out.size))
      clear hy hk0 hk1 hk2 hk3 hk4 q0 q1 q2 q3 q4
      generalize Go.Sort.grow (redrawn wr dq) osq = wz at HB2 ⊢
      cases t with
      | true =>
        have HT2 := Lib.hid (show funT g R a b (i + 1) = true by rw [funT_succ, HT.out, HBIT.out]; rfl)
        try rw [Bool.not_true]
        go_wp2
        go_roundw
        case rel => exact ⟨i + 1, by omega, by go_num, HT2.out, HB2.out⟩
        case measure => simp [intOf]; omega
      | false =>
        have HE := Lib.hid (show funG g R n a b = false from funT_no hlt HBIT.out)
        try rw [Bool.not_false]
        go_wp2
        go_ret
        exact ⟨by rw [HE.out]; rfl, HB.out.trans (HB2.out.mono HB.out.size)⟩
    · obtain rfl : i = n := by omega
      go_wp2
      go_ret
      exact ⟨by rw [show funG g R i a b = true from HT.out]; rfl, HB.out.trans (HBW.out.mono HB.out.size)⟩
end Go.Proofs.YtkhhbpeheikmfaaDoor

/- The walks of rowsOf and built at fun. -/
namespace Go.Proofs.YtkhhbpeheikmfaaDoor
open Go.RowKit Go.Deep Go.Shelf

set_option maxRecDepth 100000 in
set_option maxHeartbeats 4000000 in
theorem funRows_yes (p : Nat) (g : Nat → Nat) (vl : Value) (R : Rows2) (n : Nat) (N : Nat) (w : World) (hg : GridAt w p g) (hv : RowsAt w vl R) (hR : Lists R n) (hn : n ≤ 200) (hN : N = R.length) (hN2 : N ≤ 200) :
    Calls Tryd.prog 56 #[.iface 54 (.agg #[vl, .iface 63 (.pointer (some ⟨p, 0, none⟩))])] w (RowsYes (madeG (funG g R n) N) w) := by
  have hK : Stays w (fun W => Below w.heap.size w W) := fun _ _ hb hk => hk.trans hb
  have hcall0 := fun W (hk : (fun W => Below w.heap.size w W) W) => funSize_any p vl R W (hv.below hk)
  have hk0 : (fun W => Below w.heap.size w W) w := (Below.refl _ _)
  have hcall := hcall0 _ hk0
  rw [← hN] at hcall
  have HBC := Lib.hid (fun (a b : Nat) (ha : a < N) (hb : b < N) W (hk : (fun W => Below w.heap.size w W) W) => funBelow_any p g vl R n a b W (hg.below hk hg.lt) (hv.below hk) hR hn (by rw [← hN]; exact ha) (by rw [← hN]; exact hb))
  have hmS := run_fun_size
  have hmB := run_fun_below
  have hN3 : ¬ ((200 : Int) < (N : Int)) := by omega
  have hz := (zero_of_info zeroGrid).1
  have HK0 := Lib.hid hk0
  have HKK := Lib.hid hK
  clear hg hv hR hn hN hcall0 hk0 hK
  go_enter Tryd.func56, Tryd.ntmps56
  go_wp2_with (go_at_call 122; refine hcall.mono ?_; clear hcall; rintro e w1 ⟨rfl, hb1⟩; have HK1 := Lib.hid (HKK.out _ _ hb1 HK0.out); have HB1 := Lib.hid hb1; clear hb1)
  have bA := (Below.refl w1.heap.size w1).alloc (Nat.le_refl _) (.cells (gridCells fun _ => 0) 94)
  have HST := Lib.hid (show RwG w (fun W => Below w.heap.size w W) w1.heap.size (bG (funG g R n) N 0 0) (w1.alloc (.cells (gridCells fun _ => 0) 94)) from
    ⟨HKK.out _ _ (bA.mono HB1.out.size) HK1.out, by rw [bG_start]; exact store_new w1, HB1.out.size, HB1.out.trans (bA.mono HB1.out.size)⟩)
  clear bA hz
  go_loopw [6, 13] (fun _ av wr => ∃ a : Nat, a ≤ N ∧ av = .int .i64 a ∧ RwG w (fun W => Below w.heap.size w W) w1.heap.size (bG (funG g R n) N a 0) wr) (fun _ av _ => N - (intOf av).toNat)
  case atStart => exact ⟨0, Nat.zero_le _, rfl, HST.out⟩
  case round =>
    obtain ⟨a, ha, rfl, ht⟩ := hrel
    have HT := Lib.hid ht
    clear HST ht
    by_cases hal : a < N
    · go_wp2
      go_loopw [7, 17] (fun _ bv wr => ∃ b : Nat, b ≤ N ∧ bv = .int .i64 b ∧ RwG w (fun W => Below w.heap.size w W) w1.heap.size (bG (funG g R n) N a b) wr) (fun _ bv _ => N - (intOf bv).toNat)
      case atStart => exact ⟨0, Nat.zero_le _, rfl, HT.out⟩
      case round =>
        obtain ⟨b, hb, rfl, ht⟩ := hrel
        have HK := Lib.hid ht
        clear ht HT
        by_cases hbl : b < N
        · have hcall := HBC.out a b hal hbl wr HK.out.kept
          cases hbit : (funG g R n) a b with
          | false =>
            rw [hbit] at hcall
            have HE := Lib.hid (bG_no (N := N) hbit)
            clear hbit
            go_wp2_with (go_at_call 121; refine hcall.mono ?_; clear hcall; rintro e w2 ⟨rfl, hb2⟩; have H2 := Lib.hid (HK.out.step HKK.out hb2); clear hb2)
            go_roundw
            case rel => exact ⟨b + 1, by omega, by go_num, by rw [HE.out]; exact H2.out⟩
            case measure => simp [intOf]; omega
          | true =>
            rw [hbit] at hcall
            have HE := Lib.hid (bG_yes (N := N) hbit)
            have ha200 : a < 200 := by omega
            have hb200 : b < 200 := by omega
            have ha0 : (0 : Int) ≤ (a : Int) := by omega
            have ha1 : (a : Int) < 200 := by omega
            clear hbit
            go_wp2_with (first | (go_at_call 121; refine hcall.mono ?_; clear hcall; rintro e w2 ⟨rfl, hb2⟩; have H2 := Lib.hid (HK.out.step HKK.out hb2); have hadd := addTo_any w1.heap.size a b (b : Int) _ w2 H2.out.grid ha200 hb200 rfl; clear hb2) | (go_at_call 76; refine hadd.mono ?_; clear hadd; rintro e w3 ⟨rfl, m, rfl⟩))
            go_roundw
            case rel => exact ⟨b + 1, by omega, by go_num, by rw [HE.out]; exact H2.out.put HKK.out ha200 hb200 m⟩
            case measure => simp [intOf]; omega
        · obtain rfl : b = N := by omega
          go_wp2
          go_roundw
          case rel => exact ⟨a + 1, by omega, by go_num, by rw [← bG_next]; exact HK.out⟩
          case measure => simp [intOf]; omega
    · obtain rfl : a = N := by omega
      go_wp2
      go_ret2
      exact ⟨⟨w1.heap.size, rfl, HT.out.own, HT.out.grid⟩, HT.out.below⟩
theorem funBuilt_yes (p : Nat) (g : Nat → Nat) (vl : Value) (R : Rows2) (n : Nat) (N : Nat) (w : World) (hg : GridAt w p g) (hv : RowsAt w vl R) (hR : Lists R n) (hn : n ≤ 200) (hN : N = R.length) (hN2 : N ≤ 200) (hT : Tab w) (hrf : ∀ q, q < N → (funG g R n) q q = true) :
    Calls Tryd.prog 39 #[.iface 54 (.agg #[vl, .iface 63 (.pointer (some ⟨p, 0, none⟩))])] w (RowsG N (fun q => bRow (funG g R n) q N) true w) :=
  built_yes _ (funG g R n) N w hT hN2 hrf fun W hB => funRows_yes p g vl R n N W (hg.below hB hg.lt) (hv.below hB) hR hn hN hN2
end Go.Proofs.YtkhhbpeheikmfaaDoor

/- The program's DomainFun. -/
namespace Go.Proofs.YtkhhbpeheikmfaaDoor
open Go.RowKit Go.Deep Go.Shelf

theorem I2_getD {L : List (List Nat)} {q : Nat} (h : q < L.length) : (I2 L).getD q [] = intsOf (L.getD q []) := by
  unfold I2
  rw [List.getD_eq_getElem?_getD, List.getElem?_map, List.getElem?_eq_getElem h, getD_lt [] h]
  rfl
theorem I2_at {W : World} {a : Option Addr} {C lo hi : Nat} {L : List (List Nat)} (h : OwnR 3 37 W (.slice a L.length C) L.length (rowsF (I2 L)) lo hi) : RowsAt W (.slice a L.length C) (I2 L) := by
  have e := I2_len L
  have h2 := h
  rw [← e] at h2
  have h3 := h2.at
  rw [e] at h3
  exact h3
theorem funs_len {rows rows' : Rows2} {l : List Nat} (h : l ∈ funsR rows rows') : l.length = rows.length ∧ (∀ x ∈ l, x < rows'.length) ∧ MonN (Bf rows) (Bf rows') l := by
  obtain ⟨t, h1, h2, rfl, h4⟩ := (mem_extL _ _).1 h
  exact ⟨h1, h2, monN_iff.1 h4⟩
theorem funs_lists {rows rows' : Rows2} (hl' : rows'.length ≤ 200) : Lists (I2 (funsR rows rows')) rows.length := fun r hr => by
  unfold I2 at hr
  obtain ⟨l, hl, rfl⟩ := List.mem_map.1 hr
  obtain ⟨h1, h2, _⟩ := funs_len hl
  refine ⟨by rw [intsOf_len]; exact h1, fun x hx => ?_⟩
  unfold intsOf at hx
  obtain ⟨y, hy, rfl⟩ := List.mem_map.1 hx
  have := h2 y hy
  omega
theorem funs_own {rows rows' : Rows2} (hok' : Ok rows') (q : Nat) (hq : q < (funsR rows rows').length) : funG (gridF rows') (I2 (funsR rows rows')) rows.length q q = true := by
  unfold funG funT
  rw [List.all_eq_true]
  intro i hi
  rw [List.mem_range] at hi
  have hq2 : q < (I2 (funsR rows rows')).length := by rw [I2_len]; exact hq
  obtain ⟨h1, h2, _⟩ := funs_len (List.getElem_mem hq)
  have e : (I2 (funsR rows rows')).getD q [] = intsOf (funsR rows rows')[q] := by rw [I2_getD hq, getD_lt [] hq]
  rw [e]
  have hi2 : i < (intsOf (funsR rows rows')[q]).length := by rw [intsOf_len, h1]; exact hi
  rw [getD_lt 0 hi2, intsOf_at hi2, Int.toNat_natCast]
  refine hok'.own _ (h2 _ ?_)
  rw [getD_lt 0 (by rw [h1]; exact hi)]
  exact List.getElem_mem _

/-- What DomainFun answers. -/
noncomputable def funRow (rows rows' : Rows2) (q : Nat) : List Int := bRow (funG (gridF rows') (I2 (funsR rows rows')) rows.length) q (funsR rows rows').length
noncomputable def funL (rows rows' : Rows2) : Rows2 := if funB rows rows' = true then (List.range (funsR rows rows').length).map (funRow rows rows') else []
theorem funL_yes {rows rows' : Rows2} (h : funB rows rows' = true) : (funL rows rows').length = (funsR rows rows').length ∧ ∀ q, q < (funsR rows rows').length → rowsF (funL rows rows') q = funRow rows rows' q := by
  unfold funL
  rw [if_pos h]
  refine ⟨by simp, fun q hq => ?_⟩
  rw [rowsF_lt (by simpa using hq)]
  simp
theorem funL_no {rows rows' : Rows2} (h : funB rows rows' = false) : funL rows rows' = [] := by unfold funL; rw [if_neg (by rw [h]; simp)]
theorem funB_iff {rows rows' : Rows2} : funB rows rows' = true ↔ domB rows = true ∧ domB rows' = true ∧ (funsR rows rows').length ≤ 200 := by
  unfold funB
  rw [Bool.and_eq_true, Bool.and_eq_true, decide_eq_true_iff, and_assoc]

set_option maxRecDepth 100000 in
set_option maxHeartbeats 8000000 in
theorem implFun_any (v v' : Value) (rows rows' : Rows2) (w : World) (hv : RowsAt w v rows) (hv' : RowsAt w v' rows') (hT : Tab w) (hn : bulk rows ≤ 1048576) (hn' : bulk rows' ≤ 1048576) :
    Calls Tryd.prog 12 #[.agg #[v], .agg #[v']] w (OrderP (funL rows rows') (funB rows rows') w) := by
  have h0 := TwoR.start w hv hv'
  have hfo := funsOf_any _ _ rows rows' _ h0.r0 h0.r1 (hT.below h0.below) hn hn'
  have hc0 := h0.c0
  have hc1 := h0.c1
  obtain ⟨A, C, rfl, _⟩ := hv
  obtain ⟨A', C', rfl, _⟩ := hv'
  have H0 := Lib.hid h0
  have HTA := Lib.hid (fun W (h : Below w.heap.size w W) => hT.below h)
  clear h0 hT
  go_enter Tryd.func12, Tryd.ntmps12
  go_wp2_with fail
  refine hfo.mono ?_
  rintro e w1 ⟨⟨u1, u2, rfl, hyes, hno⟩, hb1⟩
  have H1 := Lib.hid (H0.out.step hb1)
  clear hfo hc0 hc1 hb1
  cases hfb : funB rows rows' with
  | false =>
    obtain ⟨rfl, rfl⟩ := hno hfb
    have HE := Lib.hid hfb
    have hb2 := (Below.refl w1.heap.size w1).alloc (Nat.le_refl _) (.cells #[.slice none 0 0, .nilIface] 54)
    have H2 := Lib.hid (H1.out.step hb2)
    have hres := H2.out.res.cell
    have hfr := H2.out.res.frozen
    clear hyes hno hb2
    go_wp2
    simp only [Nat.add_assoc, Nat.reduceAdd]
    have hc9 := World.cell?_setCell_same' _ ⟨w.heap.size + 2, 0, none⟩ (.slice none 0 0) (by rw [hres]; rfl)
    refine bodyPost_ret (v := .tuple #[.agg #[.slice none 0 0], .bool false]) (by simp [results, Tryd.results12, go_sem, hc9]) rfl ?_
    exact orderP_no (funL_no HE.out) HE.out H2.out.below (by omega) _
  | true =>
    obtain ⟨p', rfl, ho, hg'⟩ := hyes hfb
    obtain ⟨h1, h2, hle⟩ := funB_iff.1 hfb
    have hok' := (domB_iff.1 h2).1
    obtain ⟨a1, C1, rfl⟩ := ho.form
    have hb2 := (Below.refl w1.heap.size w1).alloc (Nat.le_refl _) (.cells #[.slice a1 (funsR rows rows').length C1, .iface 63 (.pointer (some ⟨p', 0, none⟩))] 54)
    obtain ⟨n0, n1, n2⟩ := two_new w1 (.slice a1 (funsR rows rows').length C1) (.iface 63 (.pointer (some ⟨p', 0, none⟩))) 54
    have H2 := Lib.hid (H1.out.step hb2)
    have hat := I2_at ho
    have hbu := funBuilt_yes p' (gridF rows') (.slice a1 (funsR rows rows').length C1) (I2 (funsR rows rows')) rows.length (funsR rows rows').length _ (hg'.below hb2 hg'.lt) (hat.below hb2) (funs_lists hok'.len.2) ((domB_iff.1 h1).1.len.2) (I2_len _).symm hle (HTA.out _ H2.out.below) (funs_own hok')
    obtain ⟨e1, e2⟩ := funL_yes hfb
    have HE := Lib.hid hfb
    have HL := Lib.hid e1
    have HR := Lib.hid e2
    clear hyes hno ho hg' hat hb2 e1 e2
    go_wp2_with fail
    refine hbu.mono ?_
    rintro e w3 ⟨u, rfl, hu, hb3⟩
    obtain ⟨a3, C3, rfl⟩ := hu.form
    have HU := Lib.hid hu
    have H3 := Lib.hid (H2.out.step hb3)
    have hres := H3.out.res.cell
    have hfr := H3.out.res.frozen
    have hw2 := H2.out.res.lt
    clear hu hb3 hbu n0 n1 n2
    go_wp2
    simp only [Nat.add_assoc, Nat.reduceAdd]
    have hc9 := World.cell?_setCell_same' w3 ⟨w.heap.size + 2, 0, none⟩ (.slice a3 (funsR rows rows').length C3) (by rw [hres]; rfl)
    refine bodyPost_ret (v := .tuple #[.agg #[.slice a3 (funsR rows rows').length C3], .bool true]) (by simp [results, Tryd.results12, go_sem, hc9]) rfl ?_
    refine ⟨_, by rw [HE.out], ?_, H3.out.below.setCell (p := ⟨w.heap.size + 2, 0, none⟩) (by show w.heap.size ≤ w.heap.size + 2; omega) _⟩
    rw [HL.out, size_setCell]
    exact ((HU.out.kept fun b hb _ => Below.heap_setCell _ _ _ b (show b ≠ w.heap.size + 2 by omega)).wider (by omega) (Nat.le_refl _)).congr fun q hq => (HR.out q hq).symm
end Go.Proofs.YtkhhbpeheikmfaaDoor

/- A list of numbers as an answer, in memory of its own. Plain facts: no function is walked here. -/
namespace Go.Proofs.YtkhhbpeheikmfaaDoor
open Go.RowKit Go.Deep

/-- The numbers xs, in memory of their own. -/
def OwnQ (xs : List Int) (w : World) (e : Ending) (w' : World) : Prop :=
  ∃ v, e = .returned v ∧ OwnI 3 w' v xs w.heap.size w'.heap.size ∧ Below w.heap.size w w'
end Go.Proofs.YtkhhbpeheikmfaaDoor

/- The model's l2Row: the indexes that are kept. -/
namespace Go.Proofs.YtkhhbpeheikmfaaDoor
open Go.RowKit Go.Deep

/-- The indexes below k that are kept. -/
def keptN (K : Nat → Bool) (k : Nat) : List Int := ((List.range k).filter K).map fun i : Nat => (i : Int)
theorem keptN_succ (K : Nat → Bool) (k : Nat) : keptN K (k + 1) = if K k = true then keptN K k ++ [(k : Int)] else keptN K k := by
  unfold keptN
  rw [List.range_succ, List.filter_append, List.map_append, List.filter_cons]
  cases K k with
  | true => rfl
  | false => simp
theorem keptN_le (K : Nat → Bool) (k : Nat) : (keptN K k).length ≤ k := by
  unfold keptN
  rw [List.length_map]
  have := List.length_filter_le K (List.range k)
  simpa using this
theorem keptN_range {K : Nat → Bool} {k : Nat} : ∀ x ∈ keptN K k, 0 ≤ x ∧ x < (k : Int) := by
  intro x hx
  unfold keptN at hx
  obtain ⟨i, hi, rfl⟩ := List.mem_map.1 hx
  have := List.mem_range.1 (List.mem_filter.1 hi).1
  omega

set_option maxRecDepth 100000 in
set_option maxHeartbeats 2000000 in
theorem l2Row_any (g n C : Nat) (K : Nat → Bool) (w : World) (hn : n ≤ 1048576) (hk : ∀ i, i < n → w.cell? ⟨g, i, none⟩ = some (.bool (K i))) :
    Calls Tryd.prog 36 #[.slice (some ⟨g, 0, none⟩) n C] w (OwnQ (keptN K n) w) := by
  have HC := Lib.hid (fun W (h : Below w.heap.size w W) i (hi : i < n) => (h.cell (p := ⟨g, i, none⟩) (cell_lt (hk i hi))).trans (hk i hi))
  have HO := Lib.hid (World.ownsRow_made (e := 3) (size := 1) w #[] 0 (base := w.heap.size) (Nat.le_refl _) (Nat.zero_le _) (by simp))
  have HB0 := Lib.hid ((Below.refl w.heap.size w).alloc (Nat.le_refl _) (.cells #[] 3))
  obtain ⟨i0, hi0, hz0, hz1, hz2⟩ := info_parts infoInt
  clear hk
  go_enter Tryd.func36, Tryd.ntmps36
  go_wp2
  go_loopw [3, 4] (fun ov iv wr => ∃ i : Nat, i ≤ n ∧ iv = .int .i64 i ∧ wr.ownsRow w.heap.size 3 1 ov (keptN K i).length (cellsI (keptN K i)) ∧ Below w.heap.size w wr) (fun _ iv _ => n - (intOf iv).toNat)
  case atStart => exact ⟨0, Nat.zero_le _, rfl, HO.out, HB0.out⟩
  case round =>
    obtain ⟨i, hi, rfl, hown, hB⟩ := hrel
    have HOWN := Lib.hid hown
    have HB := Lib.hid hB
    have hcl := keptN_le K i
    clear hown hB HO HB0
    by_cases hlt : i < n
    · have hltz : (i : Int) < (n : Int) := by omega
      have hc := HC.out _ HB.out i hlt
      have hbz := HB.out.size
      cases hq : K i with
      | true =>
        rw [hq] at hc
        have HE := Lib.hid (show keptN K (i + 1) = keptN K i ++ [(i : Int)] by rw [keptN_succ, if_pos hq])
        clear hq
        go_wp2_with (at_builtin; refine wpList_append_own _ rfl _ _ 37 rfl w.heap.size 3 i0 (.int .i64 0) 1 8 Tryd.underlying37 hi0 hz0 hz1 hz2 rfl (by decide) _ _ _ rfl (HOWN.out.alloc _) ⟨wr.heap.size, 0, none⟩ 1 1 [.int .i64 (i : Int)] rfl rfl (cell_one_new _ _ _) (by simp [Value.oneCell']) (by unfold maxLen; omega) (by omega) (by simp; omega) ?_; intro v' w1 hown' hgrow _)
        go_roundw
        case rel =>
          refine ⟨i + 1, by omega, by go_num, ?_, (HB.out.alloc HB.out.size _).grown hgrow (by rw [World.size_alloc]; omega) (fun b e => (HOWN.out.lt b e).1)⟩
          rw [HE.out, List.length_append, show cellsI (keptN K i ++ [(i : Int)]) = cellsI (keptN K i) ++ [.int .i64 (i : Int)] by simp]
          exact hown'
        case measure => simp [intOf]; omega
      | false =>
        rw [hq] at hc
        have HE := Lib.hid (show keptN K (i + 1) = keptN K i by rw [keptN_succ, if_neg (by rw [hq]; simp)])
        clear hq
        go_wp2
        go_roundw
        case rel => exact ⟨i + 1, by omega, by go_num, by rw [HE.out]; exact HOWN.out, HB.out⟩
        case measure => simp [intOf]; omega
    · obtain rfl : i = n := by omega
      go_wp2
      go_ret
      refine ⟨_, rfl, OwnI.of_owns HOWN.out (fun y hy => ?_) (fun b hb => (HOWN.out.lt b hb).2), HB.out⟩
      have := keptN_range y hy
      exact wf_int (by omega) (by omega)
end Go.Proofs.YtkhhbpeheikmfaaDoor

/- The model's comparison of two functions (l2Under). -/
namespace Go.Proofs.YtkhhbpeheikmfaaDoor
open Go.RowKit Go.Deep

/-- Is the list xs below ys, for the first k elements? -/
def unT (rows' : Rows2) (xs ys : List Int) (k : Nat) : Bool := (List.range k).all fun i => upB rows' (xs.getD i 0).toNat (ys.getD i 0)
theorem unT_succ (rows' : Rows2) (xs ys : List Int) (k : Nat) : unT rows' xs ys (k + 1) = (unT rows' xs ys k && upB rows' (xs.getD k 0).toNat (ys.getD k 0)) := by
  unfold unT
  rw [List.range_succ, List.all_append]
  simp
theorem unT_no {rows' : Rows2} {xs ys : List Int} {k n : Nat} (hk : k < n) (h : upB rows' (xs.getD k 0).toNat (ys.getD k 0) = false) : unT rows' xs ys n = false := by
  unfold unT
  rw [List.all_eq_false]
  exact ⟨k, List.mem_range.2 hk, by rw [h]; decide⟩

set_option maxRecDepth 100000 in
set_option maxHeartbeats 4000000 in
theorem l2Under_any (v vx vy : Value) (rows' : Rows2) (xs ys : List Int) (n : Nat) (w : World) (hv : RowsAt w v rows') (hx : IntsAt w vx xs) (hy : IntsAt w vy ys) (hok : Ok rows') (hlx : xs.length = n) (hly : ys.length = n) (hn : n ≤ 200) (hrx : ∀ x ∈ xs, 0 ≤ x ∧ x < rows'.length) :
    Calls Tryd.prog 35 #[.agg #[v], vx, vy] w (SaysN (unT rows' xs ys n) w) := by
  have b0 := (Below.refl w.heap.size w).alloc (Nat.le_refl _) (.cells #[v] 26)
  have hc := one_new w v 26
  have hv1 := hv.below b0
  have hx1 := hx.below b0
  have hy1 := hy.below b0
  have hbk := hok.bulk
  obtain ⟨A, C, rfl, _⟩ := hv
  obtain ⟨Ax, Cx, rfl, hCx, hmx, _⟩ := hx
  obtain ⟨Ay, Cy, rfl, hCy, hmy, _⟩ := hy
  unfold maxLen at hmx hmy
  rw [hlx] at hCx
  rw [hly] at hCy
  obtain ⟨W1, hW1⟩ : ∃ W1, W1 = w.alloc (.cells #[.slice A rows'.length C] 26) := ⟨_, rfl⟩
  rw [← hW1] at b0 hc hv1 hx1 hy1
  have HB := Lib.hid b0
  have HV := Lib.hid hv1
  have HX := Lib.hid hx1
  have HY := Lib.hid hy1
  have HLX := Lib.hid hlx
  have HLY := Lib.hid hly
  have HRX := Lib.hid hrx
  have HOK := Lib.hid hok
  have HK := Lib.hid (show ∀ W, Below W1.heap.size W1 W → W.cell? ⟨w.heap.size, 0, none⟩ = some (.slice A rows'.length C) from fun W hb => (hb.cell (p := ⟨w.heap.size, 0, none⟩) (cell_lt hc)).trans hc)
  rw [hlx, hly]
  clear b0 hv1 hx1 hy1 hlx hly hrx hok
  go_enter Tryd.func35, Tryd.ntmps35
  go_upto_region 1 with fail
  rw [← hW1]
  clear hW1
  go_wp2
  go_loopw [7] (fun iv wr => ∃ i : Nat, i ≤ n ∧ iv = .int .i64 i ∧ unT rows' xs ys i = true ∧ Below W1.heap.size W1 wr) (fun iv _ => n - (intOf iv).toNat)
  case atStart => exact ⟨0, Nat.zero_le _, rfl, rfl, Below.refl _ _⟩
  case round =>
    obtain ⟨i, hi, rfl, ht, hbw⟩ := hrel
    have HT := Lib.hid ht
    have HBW := Lib.hid hbw
    clear ht hbw
    by_cases hlt : i < n
    · have hix : i < xs.length := by have := HLX.out; omega
      have hiy : i < ys.length := by have := HLY.out; omega
      obtain ⟨bx, ox, rfl, hxa⟩ := HX.out.get hix
      obtain ⟨by', oy, rfl, hyb⟩ := HY.out.get hiy
      have hkx := HRX.out _ (List.getElem_mem hix)
      have hex : xs.getD i 0 = xs[i] := getD_lt 0 hix
      have hey : ys.getD i 0 = ys[i] := getD_lt 0 hiy
      generalize xs[i] = xa at hxa hkx hex
      generalize ys[i] = yb at hyb hey
      obtain ⟨ka, rfl⟩ : ∃ ka : Nat, xa = (ka : Int) := ⟨xa.toNat, by omega⟩
      have hkl : ka < rows'.length := by omega
      have hbit : upB rows' (xs.getD i 0).toNat (ys.getD i 0) = upB rows' ka yb := by rw [hex, hey, Int.toNat_natCast]
      have q0 := HK.out wr HBW.out
      have q3 := (HBW.out.cell (p := ⟨bx, ox + i, none⟩) (cell_lt hxa)).trans hxa
      have q4 := (HBW.out.cell (p := ⟨by', oy + i, none⟩) (cell_lt hyb)).trans hyb
      have hvw := HV.out.below HBW.out
      have hyc := fun d os => Calls.regrown_of (d := d) (os := os) (l1Le_any (.slice A rows'.length C) rows' (ka : Int) ka yb _ (hvw.below (below_regrown wr d os)) hkl rfl (HOK.out.asc ka hkl).1 hbk)
      have hiz : (i : Int) < (n : Int) := by omega
      have hk0 := fun d os => cell_regrown q0 d os
      have hk3 := fun d os => cell_regrown q3 d os
      have hk4 := fun d os => cell_regrown q4 d os
      have HBIT := Lib.hid hbit
      clear hvw hex hey hbit hkx hxa hyb hix hiy
      generalize upB rows' ka yb = t at hyc HBIT
      go_upto_region 4 with fail
      refine wp_region_quiet_below (by kernel_rfl) (by kernel_rfl) ?_
      repeat (go_big_quiet_step (first | (go_at_call 54; exact hyc _ _)))
      refine wpQuiet_nil ?_
      intro _ hw'
      obtain ⟨⟨dq, osq⟩, hw''⟩ := hw'
      subst hw''
      have HB2 := Lib.hid (HBW.out.trans ((below_regrown wr dq osq).mono HBW.out.size))
      clear hyc hk0 hk3 hk4 q0 q3 q4
      generalize Go.Sort.grow (redrawn wr dq) osq = wz at HB2 ⊢
      cases t with
      | true =>
        have HT2 := Lib.hid (show unT rows' xs ys (i + 1) = true by rw [unT_succ, HT.out, HBIT.out]; rfl)
        try rw [Bool.not_true]
        go_wp2
        go_roundw
        case rel => exact ⟨i + 1, by omega, by go_num, HT2.out, HB2.out⟩
        case measure => simp [intOf]; omega
      | false =>
        have HE := Lib.hid (show unT rows' xs ys n = false from unT_no hlt HBIT.out)
        try rw [Bool.not_false]
        go_wp2
        go_ret
        exact ⟨by rw [HE.out]; rfl, HB.out.trans (HB2.out.mono HB.out.size)⟩
    · obtain rfl : i = n := by omega
      go_wp2
      go_ret
      exact ⟨by rw [HT.out]; rfl, HB.out.trans (HBW.out.mono HB.out.size)⟩
end Go.Proofs.YtkhhbpeheikmfaaDoor

/- An order that is built row by row in a variable of its own: 'out.Up = append(out.Up, row)'. Plain facts on worlds: no function is walked here. -/
namespace Go.Proofs.YtkhhbpeheikmfaaDoor
open Go.RowKit Go.Deep

/-- Rows are as they were if no block turns but one of another type. -/
theorem OwnR.kept_but {t u : TypeId} {W W' : World} {v : Value} {n : Nat} {R : Nat → List Int} {lo hi z : Nat} {tz : TypeId} {x : Value} (h : OwnR t u W v n R lo hi) (hz : Boxed W z tz x) (h1 : tz ≠ t) (h2 : tz ≠ u) (hb : ∀ b, b ≠ z → W'.heap[b]? = W.heap[b]?) : OwnR t u W' v n R lo hi := by
  obtain h | ⟨g, C, f, rfl, k1, k2, k3, k4, k5, k6, k7⟩ := h
  · exact .inl h
  · have hg : g ≠ z := fun e => by
      obtain ⟨c, k5, _⟩ := k5
      unfold Boxed at hz
      rw [e, hz] at k5
      injection k5 with k5
      injection k5 with _ k5
      exact h2 k5
    refine .inr ⟨g, C, f, rfl, k1, k2, k3, k4, k5.of_block (hb g hg), fun j hj => (k6 j hj).kept fun b e => hb b fun e2 => ?_, k7⟩
    obtain ⟨_, _, c, k8⟩ := (k6 j hj).block b e
    unfold Boxed at hz
    rw [e2, hz] at k8
    injection k8 with k8
    injection k8 with _ k8
    exact h1 k8

theorem ord_ne_int : (26 : TypeId) ≠ 3 := by decide
theorem ord_ne_ints : (26 : TypeId) ≠ 37 := by decide
theorem int_ne_ints : (3 : TypeId) ≠ 37 := by decide

/-- While an order is built in the box Z: n rows R are there. -/
structure Out (w0 : World) (Z : Nat) (u : Value) (n : Nat) (R : Nat → List Int) (W : World) : Prop where
  below : Below w0.heap.size w0 W
  out : Boxed W Z 26 u
  own : OwnR 3 37 W u n R w0.heap.size W.heap.size
  place : w0.heap.size ≤ Z
theorem Out.step {w0 : World} {Z : Nat} {u : Value} {n : Nat} {R : Nat → List Int} {W W' : World} (h : Out w0 Z u n R W) (hb : Below W.heap.size W W') : Out w0 Z u n R W' :=
  ⟨h.below.trans (hb.mono h.below.size), (hb.block _ h.out.lt).trans h.out, (h.own.below hb (Nat.le_refl _)).wider (Nat.le_refl _) hb.size, h.place⟩
theorem Out.congr {w0 : World} {Z : Nat} {u : Value} {n : Nat} {R R' : Nat → List Int} {W : World} (h : Out w0 Z u n R W) (he : ∀ j, j < n → R j = R' j) : Out w0 Z u n R' W :=
  ⟨h.below, h.out, h.own.congr he, h.place⟩

theorem Out.pushed {w0 : World} {Z : Nat} {u : Value} {n : Nat} {R : Nat → List Int} {wr w2 w3 : World} {f : Nat → Value} {v' u2 : Value} {xs : List Int} {o : Obj} (h : Out w0 Z u n R wr)
    (h0 : wr.ownsRow w0.heap.size 37 1 u n ((List.range n).map f)) (h1 : ∀ j, j < n → OwnI 3 wr (f j) (R j) w0.heap.size wr.heap.size) (h2 : ∀ i j, i < j → j < n → (f i).ownBlock = none ∨ (f i).ownBlock ≠ (f j).ownBlock)
    (hb : Below wr.heap.size wr w2) (hn : OwnI 3 w2 v' xs wr.heap.size w2.heap.size) (hown : w3.ownsRow w0.heap.size 37 1 u2 (n + 1) ((List.range n).map f ++ [v'])) (hgrow : (w2.alloc o).grownBy w3 u.ownBlock) :
    Out w0 Z u2 (n + 1) (fun q => if q = n then xs else R q) (w3.setCell ⟨Z, 0, none⟩ u2) := by
  have hs := h.step hb
  have hw := h.below.size
  have hz := hb.size
  obtain ⟨k1, k2, k3, k4, k5⟩ := Boxed.appended (tmp := o) hs.out ord_ne_ints (owns_below h0 hb) hs.below.size h.place hown hgrow
  have h1' : ∀ j, j < n → OwnI 3 w2 (f j) (R j) w0.heap.size wr.heap.size := fun j hj => (h1 j hj).kept fun b hb' => hb.block b ((h1 j hj).block b hb').2.1
  have hp := OwnR.pushed (W := w2) (mid := wr.heap.size) (lo := w0.heap.size) int_ne_ints (owns_below h0 hb) h1' h2 hw hz hn ((Below.refl _ w2).alloc (Nat.le_refl _) o) hown hgrow
  refine ⟨hs.below.trans k5, k2, ?_, h.place⟩
  rw [size_setCell]
  exact hp.kept_but k1 ord_ne_int ord_ne_ints fun b hb' => Below.heap_setCell _ _ _ b hb'
/-- The variable's cell, behind the append. -/
theorem Out.far {w0 : World} {Z : Nat} {u : Value} {n : Nat} {R : Nat → List Int} {w2 w3 : World} {xs : List Value} {o : Obj} (h : Out w0 Z u n R w2) (h0 : w2.ownsRow w0.heap.size 37 1 u n xs) (hgrow : (w2.alloc o).grownBy w3 u.ownBlock) : Boxed w3 Z 26 u :=
  (h.out.alloc o).kept hgrow (Boxed.not_row h.out ord_ne_ints h0)
/-- An order of one row, right behind. -/
theorem Out.one {w0 W : World} {v : Value} {xs : List Int} (hb : Below w0.heap.size w0 W) (hv : OwnI 3 W v xs w0.heap.size W.heap.size) :
    Out w0 (W.heap.size + 1) (.slice (some ⟨W.heap.size, 0, none⟩) 1 1) 1 (fun _ => xs) ((W.alloc (.cells #[v] 37)).alloc (.cells #[.slice (some ⟨W.heap.size, 0, none⟩) 1 1] 26)) := by
  have s1 : (W.alloc (.cells #[v] 37)).heap.size = W.heap.size + 1 := World.size_alloc _ _
  have hz := hb.size
  have b1 := (Below.refl W.heap.size W).alloc (Nat.le_refl _) (.cells #[v] 37)
  have b2 := b1.alloc (by rw [s1]; omega) (.cells #[.slice (some ⟨W.heap.size, 0, none⟩) 1 1] 26)
  have r1 := World.rowIs_alloc W #[v] 37 (fun _ => v) (fun i hi => by
    obtain rfl : i = 0 := by simpa using hi
    rfl)
  have bx := Boxed.new (W.alloc (.cells #[v] 37)) 26 (.slice (some ⟨W.heap.size, 0, none⟩) 1 1)
  rw [s1] at bx
  refine ⟨hb.trans (b2.mono hz), bx, .inr ⟨W.heap.size, 1, fun _ => v, rfl, Nat.le_refl _, by decide, hz, by rw [World.size_alloc, s1]; omega, r1.alloc _, fun j _ => ?_, fun i j hij hj => absurd hj (by omega)⟩, by omega⟩
  exact (hv.wider (Nat.le_refl _) (by rw [World.size_alloc, s1]; omega)).kept fun b e => b2.block b (hv.block b e).2.1
end Go.Proofs.YtkhhbpeheikmfaaDoor

/- An order that is new; no row of it yet. Plain facts on worlds: no function is walked here. -/
namespace Go.Proofs.YtkhhbpeheikmfaaDoor
open Go.RowKit Go.Deep

/-- An order in new memory. -/
def OrdNew (N : Nat) (R : Nat → List Int) (w : World) (e : Ending) (w' : World) : Prop :=
  ∃ v, e = .returned (.agg #[v]) ∧ OwnR 3 37 w' v N R w.heap.size w'.heap.size ∧ Below w.heap.size w w'
/-- No row yet. -/
theorem Out.empty (w0 : World) (R : Nat → List Int) : Out w0 (w0.heap.size + 1) (.slice (some ⟨w0.heap.size, 0, none⟩) 0 0) 0 R ((w0.alloc (.cells #[] 37)).alloc (.cells #[.slice (some ⟨w0.heap.size, 0, none⟩) 0 0] 26)) := by
  have s1 : (w0.alloc (.cells #[] 37)).heap.size = w0.heap.size + 1 := World.size_alloc _ _
  have b1 := (Below.refl w0.heap.size w0).alloc (Nat.le_refl _) (.cells #[] 37)
  have b2 := b1.alloc (by rw [s1]; omega) (.cells #[.slice (some ⟨w0.heap.size, 0, none⟩) 0 0] 26)
  have r1 := World.rowIs_alloc w0 #[] 37 (fun _ => undef) (fun _ h => absurd h (Nat.not_lt_zero _))
  have bx := Boxed.new (w0.alloc (.cells #[] 37)) 26 (.slice (some ⟨w0.heap.size, 0, none⟩) 0 0)
  rw [s1] at bx
  exact ⟨b2, bx, .inr ⟨w0.heap.size, 0, _, rfl, Nat.le_refl _, Nat.zero_le _, Nat.le_refl _, by rw [World.size_alloc, s1]; omega, r1.alloc _, fun j hj => absurd hj (Nat.not_lt_zero _), fun i j _ hj => absurd hj (Nat.not_lt_zero _)⟩, Nat.le_succ _⟩
end Go.Proofs.YtkhhbpeheikmfaaDoor

/- The model's DomainFun. -/
namespace Go.Proofs.YtkhhbpeheikmfaaDoor
open Go.RowKit Go.Deep

theorem infoBoolM : (Tryd.prog.info? 4).map (fun i => (i.zero, i.size, i.bytes)) = some (some (.bool false), 1, 1) := by kernel_rfl

/-- Is the a-th function below the b-th? -/
noncomputable def cmpB (rows rows' : Rows2) (a b : Nat) : Bool := unT rows' ((I2 (funsR rows rows')).getD a []) ((I2 (funsR rows rows')).getD b []) rows.length
theorem RowsAt.get {W : World} {A : Option Addr} {n C : Nat} {rows : Rows2} (h : RowsAt W (.slice A n C) rows) {i : Nat} (hi : i < rows.length) : ∃ b o, A = some ⟨b, o, none⟩ ∧ ∀ k, k < rows.length → ∃ u, W.cell? ⟨b, o + k, none⟩ = some u ∧ IntsAt W u (rows.getD k []) := by
  obtain ⟨a, C', e, _, _, hx⟩ := h
  cases e
  obtain ⟨b, o, _, rfl, _⟩ := hx i hi
  refine ⟨b, o, rfl, fun k hk => ?_⟩
  obtain ⟨b', o', u, e, hc, hu⟩ := hx k hk
  cases e
  exact ⟨u, hc, by rw [getD_lt [] hk]; exact hu⟩

theorem bRow_same {B B' : Nat → Nat → Bool} {a N : Nat} (h : ∀ k, k < N → B a k = B' a k) : bRow B a N = bRow B' a N := by
  unfold bRow
  refine congrArg (List.map _) (List.filter_congr fun k hk => ?_)
  rw [h k (List.mem_range.1 hk)]
theorem cmp_eq {rows rows' : Rows2} (hok' : Ok rows') {a b : Nat} (ha : a < (funsR rows rows').length) (hb : b < (funsR rows rows').length) : cmpB rows rows' a b = funG (gridF rows') (I2 (funsR rows rows')) rows.length a b := by
  unfold cmpB unT funG funT
  obtain ⟨l1, l2, _⟩ := funs_len (List.getElem_mem ha)
  rw [I2_getD ha, getD_lt [] ha]
  rw [Bool.eq_iff_iff, List.all_eq_true, List.all_eq_true]
  refine forall_congr' fun i => forall_congr' fun hi => ?_
  rw [List.mem_range] at hi
  have hi2 : i < (intsOf (funsR rows rows')[a]).length := by rw [intsOf_len, l1]; exact hi
  obtain ⟨m1, m2, _⟩ := funs_len (List.getElem_mem hb)
  rw [I2_getD hb, getD_lt [] hb]
  have hi3 : i < (intsOf (funsR rows rows')[b]).length := by rw [intsOf_len, m1]; exact hi
  rw [getD_lt 0 hi2, intsOf_at hi2, getD_lt 0 hi3, intsOf_at hi3, Int.toNat_natCast, Int.toNat_natCast, upB_grid hok' (l2 _ (by rw [getD_lt 0 (by rw [l1]; exact hi)]; exact List.getElem_mem _))]

set_option maxRecDepth 100000 in
set_option maxHeartbeats 8000000 in
theorem specFun_any (v v' : Value) (rows rows' : Rows2) (w : World) (hv : RowsAt w v rows) (hv' : RowsAt w v' rows') (hn : bulk rows ≤ 1048576) (hn' : bulk rows' ≤ 1048576) :
    Calls Tryd.prog 10 #[.agg #[v], .agg #[v']] w (OrderP (funL rows rows') (funB rows rows') w) := by
  have h0 := TwoR.start w hv hv'
  have hall := all2_any _ _ rows rows' _ h0.r0 h0.r1 hn hn'
  have hc0 := h0.c0
  have hc1 := h0.c1
  obtain ⟨A, C, rfl, _⟩ := hv
  obtain ⟨A', C', rfl, _⟩ := hv'
  have H0 := Lib.hid h0
  clear h0
  go_enter Tryd.func10, Tryd.ntmps10
  go_wp2_with fail
  refine hall.mono ?_
  rintro e w1 ⟨⟨a1, m1, C1, rfl, hyes⟩, hb1⟩
  have H1 := Lib.hid (H0.out.step hb1)
  clear hall hc0 hc1
  cases hfb : funB rows rows' with
  | false =>
    have HE := Lib.hid hfb
    have hres := H1.out.res.cell
    have hfr := H1.out.res.frozen
    clear hyes hb1
    go_wp2
    simp only [Nat.add_assoc, Nat.reduceAdd]
    have hc9 := World.cell?_setCell_same' w1 ⟨w.heap.size + 2, 0, none⟩ (.slice none 0 0) (by rw [hres]; rfl)
    refine bodyPost_ret (v := .tuple #[.agg #[.slice none 0 0], .bool false]) (by simp [results, Tryd.results10, go_sem, hc9]) rfl ?_
    exact orderP_no (funL_no HE.out) HE.out H1.out.below (by omega) _
  | true =>
    obtain ⟨rfl, hown⟩ := hyes hfb
    obtain ⟨h1, h2, hle⟩ := funB_iff.1 hfb
    have hok' := (domB_iff.1 h2).1
    have hn200 := (domB_iff.1 h1).1.len.2
    have hat := I2_at hown
    have HAT := Lib.hid hat
    have HE := Lib.hid hfb
    have HL := Lib.hid (funL_yes hfb)
    have HOK := Lib.hid hok'
    have HLS := Lib.hid (show ∀ a, a < (funsR rows rows').length → ((I2 (funsR rows rows')).getD a []).length = rows.length ∧ ∀ x ∈ (I2 (funsR rows rows')).getD a [], 0 ≤ x ∧ x < rows'.length from fun a ha => by
      obtain ⟨q1, q2, _⟩ := funs_len (List.getElem_mem ha)
      rw [I2_getD ha, getD_lt [] ha]
      refine ⟨by rw [intsOf_len]; exact q1, fun x hx => ?_⟩
      unfold intsOf at hx
      obtain ⟨y, hy, rfl⟩ := List.mem_map.1 hx
      have := q2 y hy
      omega)
    obtain ⟨N, hN⟩ : ∃ N, N = (funsR rows rows').length := ⟨_, rfl⟩
    have HNI := Lib.hid (show (I2 (funsR rows rows')).length = N by rw [I2_len, hN])
    have HNN := Lib.hid hN
    rw [← hN] at HLS HAT hle
    rw [← hN]
    have hN0 : ∀ {a : Nat}, a < N → a < (I2 (funsR rows rows')).length := fun h => by rw [HNI.out]; exact h
    obtain ⟨i0, hi0, hz0, hz1, hz2⟩ := info_parts infoInt
    obtain ⟨j0, hj0, hy0, hy1, hy2⟩ := info_parts infoInts
    have hE := Out.empty w1 (fun a => bRow (cmpB rows rows') a N)
    have hmk := run_make_row' (P := Tryd.prog) 47 4 (.bool false) 1 Tryd.underlying47 infoBoolM rfl .i64 .i64 N (by omega) (by omega)
    have hz1' := H1.out.res.lt
    clear hyes hown hat hok' hN hb1 hfb
    go_upto_region 5 with fail
    generalize ((w1.alloc (.cells #[] 37)).alloc (.cells #[.slice (some ⟨w1.heap.size, 0, none⟩) 0 0] 26)) = wq at hE ⊢
    obtain ⟨Z, hZ⟩ : ∃ Z, Z = w1.heap.size + 1 := ⟨_, rfl⟩
    rw [← hZ] at hE ⊢
    clear hZ
    have HST := Lib.hid hE
    clear hE
    go_wp2
    go_loopw [9] (fun av wx => ∃ (a : Nat) (u : Value), a ≤ N ∧ av = .int .i64 a ∧ Out w1 Z u a (fun a => bRow (cmpB rows rows') a N) wx) (fun av _ => N - (intOf av).toNat)
    case atStart => exact ⟨0, _, Nat.zero_le _, rfl, HST.out⟩
    case round =>
      obtain ⟨wo, hwo⟩ : ∃ wo : World, wo = wr := ⟨_, rfl⟩
      subst hwo
      obtain ⟨a, u, ha, rfl, ho⟩ := hrel
      have HK := Lib.hid ho
      obtain ⟨au, Cu, rfl⟩ := ho.own.form
      clear HST
      by_cases hlt : a < N
      · have hltz : (a : Int) < (N : Int) := by omega
        have HRW := Lib.hid (World.rowIs_made wo (.bool false) N 4)
        have HBB := Lib.hid ((Below.refl wo.heap.size wo).alloc (Nat.le_refl _) (.cells (madeCells #[.bool false] N) 4))
        clear ho
        go_upto_region 9 with fail
        generalize wo.alloc (.cells (madeCells #[.bool false] N) 4) = wa at HRW HBB ⊢
        go_wp2
        go_loopw [11] (fun bv wx => ∃ b : Nat, b ≤ N ∧ bv = .int .i64 b ∧ wx.rowIs wo.heap.size 4 N (fun i => if i < b then .bool (cmpB rows rows' a i) else .bool false) ∧ Below wo.heap.size wo wx) (fun bv _ => N - (intOf bv).toNat)
        case atStart => exact ⟨0, Nat.zero_le _, rfl, HRW.out.congr (fun i _ => by rw [if_neg (Nat.not_lt_zero i)]), HBB.out⟩
        case round =>
          obtain ⟨b, hb, rfl, hr, hB⟩ := hrel
          have HR := Lib.hid hr
          have HB := Lib.hid hB
          clear HRW HBB hB
          by_cases hbl : b < N
          · have hbz : (b : Int) < (N : Int) := by omega
            have hc := hr.cell hbl
            have hfz := hr.frozen b
            have hLz := hr.lt
            rw [if_neg (Nat.lt_irrefl b)] at hc
            have HOX := Lib.hid (HK.out.step HB.out)
            have HBW := Lib.hid HOX.out.below
            have H2 := Lib.hid (H1.out.step HBW.out)
            have hcell := H2.out.c1
            obtain ⟨b1, o1, rfl, hget0⟩ := HAT.out.get (hN0 hlt)
            have hget : ∀ k, k < (I2 (funsR rows rows')).length → ∃ u, wr.cell? ⟨b1, o1 + k, none⟩ = some u ∧ IntsAt wr u ((I2 (funsR rows rows')).getD k []) := fun k hk => by
              obtain ⟨b2, o2, e2, hg2⟩ := (HAT.out.below HBW.out).get (hN0 hlt)
              cases e2
              exact hg2 k hk
            replace hget0 := hget0 a (hN0 hlt)
            obtain ⟨ua, hua, hia⟩ := hget a (hN0 hlt)
            obtain ⟨ub, hub, hib⟩ := hget b (hN0 hbl)
            obtain ⟨l1, l2⟩ := HLS.out a hlt
            obtain ⟨l3, _⟩ := HLS.out b hbl
            obtain ⟨xs, hxs⟩ : ∃ xs, xs = (I2 (funsR rows rows')).getD a [] := ⟨_, rfl⟩
            obtain ⟨ys, hys⟩ : ∃ ys, ys = (I2 (funsR rows rows')).getD b [] := ⟨_, rfl⟩
            have hA : cmpB rows rows' a b = unT rows' xs ys rows.length := by rw [hxs, hys]; rfl
            rw [← hxs] at hia l1 l2
            rw [← hys] at hib l3
            have hcE := l2Under_any _ ua ub rows' xs ys rows.length wr.drew (H2.out.r1.below (below_drew wr _)) (hia.below (below_drew wr _)) (hib.below (below_drew wr _)) HOK.out l1 l3 hn200 l2
            generalize unT rows' xs ys rows.length = q at hcE hA
            have HA := Lib.hid hA
            obtain ⟨Aa, Ca, rfl, _⟩ := hia
            obtain ⟨Ab, Cb, rfl, _⟩ := hib
            rw [l1] at hua hcE
            rw [l3] at hub hcE
            have hbw : w.heap.size + 2 < wo.heap.size := Nat.lt_of_lt_of_le hz1' HK.out.below.size
            have hb1w : b1 < wo.heap.size := by
              obtain ⟨_, hq, _⟩ := hget0
              exact Nat.lt_of_lt_of_le (cell_lt hq) HK.out.below.size
            clear hr hget l1 l2 l3 hA hxs hys hget0
            obtain ⟨SS, hSS⟩ : ∃ SS : World → Prop, SS = fun W' => W'.cell? ⟨w.heap.size + 1, 0, none⟩ = some (.slice A' rows'.length C') ∧ W'.cell? ⟨b1, o1 + a, none⟩ = some (.slice Aa rows.length Ca) ∧ W'.cell? ⟨b1, o1 + b, none⟩ = some (.slice Ab rows.length Cb) := ⟨_, rfl⟩
            have hS0 : SS wr.drew := by rw [hSS]; exact ⟨hcell, hua, hub⟩
            have HSB : Hid (∀ (w3 : World), Below wr.heap.size wr w3 → SS w3) := Lib.hid (fun w3 h3 => by
              rw [hSS]
              exact ⟨(h3.cell (p := ⟨w.heap.size + 1, 0, none⟩) (cell_lt hcell)).trans hcell, (h3.cell (p := ⟨b1, o1 + a, none⟩) (cell_lt hua)).trans hua, (h3.cell (p := ⟨b1, o1 + b, none⟩) (cell_lt hub)).trans hub⟩)
            have HSS : Hid (∀ (w3 : World) (x : Value), Below wr.heap.size wr w3 → SS (w3.setCell ⟨wo.heap.size, b, none⟩ x)) := Lib.hid (fun w3 x h3 => by
              have h4 := HSB.out w3 h3
              rw [hSS] at h4 ⊢
              refine ⟨?_, ?_, ?_⟩
              · rw [World.cell?_setCell_far _ _ _ _ (show wo.heap.size ≠ w.heap.size + 1 by omega)]; exact h4.1
              · rw [World.cell?_setCell_far _ _ _ _ (show wo.heap.size ≠ b1 by omega)]; exact h4.2.1
              · rw [World.cell?_setCell_far _ _ _ _ (show wo.heap.size ≠ b1 by omega)]; exact h4.2.2)
            clear hcell hua hub
            subst hSS
            go_upto_region 12 with fail
            go_region_held3 (fun W' : World => W'.cell? ⟨w.heap.size + 1, 0, none⟩ = some (.slice A' rows'.length C') ∧ W'.cell? ⟨b1, o1 + a, none⟩ = some (.slice Aa rows.length Ca) ∧ W'.cell? ⟨b1, o1 + b, none⟩ = some (.slice Ab rows.length Cb)) (first | exact HSS.out _ _ HB3.out | exact HSB.out _ HB3.out | exact hS0) (first | (go_at_call 35; refine hcE.mono ?_; clear hcE; rintro e w3 ⟨rfl, hb3⟩; have HB3 := Lib.hid ((below_drew wr _).trans hb3); have hc3 : w3.cell? ⟨wo.heap.size, b, none⟩ = some (.bool false) := (HB3.out.cell (p := ⟨wo.heap.size, b, none⟩) hLz).trans hc; have hf3 : w3.frozen? ⟨wo.heap.size, b, none⟩ = false := (HB3.out.frozen (p := ⟨wo.heap.size, b, none⟩) hLz).trans hfz; clear hb3))
            all_goals
              go_wp2
              go_roundw
              case rel =>
                refine ⟨b + 1, by omega, by go_num, ((HR.out.of_block (HB3.out.block _ hLz)).set b (.bool q)).congr (fun i hi => ?_), (HB.out.trans (HB3.out.mono HB.out.size)).setCell (p := ⟨wo.heap.size, b, none⟩) (Nat.le_refl _) _⟩
                by_cases e : i = b
                · subst e; rw [if_pos (Nat.lt_succ_self i), HA.out]; simp
                · by_cases e2 : i < b
                  · simp [e, e2, show i < b + 1 by omega]
                  · simp [e, e2, show ¬ i < b + 1 by omega]
              case measure => simp [intOf]; omega
          · obtain rfl : N = b := by omega
            have hbz : ¬ ((N : Int) < (N : Int)) := by omega
            have HOX := Lib.hid (HK.out.step HB.out)
            have hout := HOX.out.out.cell
            have hZ2 := HOX.out.out.lt
            have hb0 := HOX.out.below.size
            have HRO := Lib.hid (l2Row_any wo.heap.size N N (cmpB rows rows' a) wr.drew (by omega) (fun i hi => by have := HR.out.cell hi; rw [if_pos hi] at this; exact this))
            obtain ⟨f, hf0, hf1, hf2⟩ := HOX.out.own.owns
            have HF0 := Lib.hid hf0
            have HF1 := Lib.hid hf1
            have HF2 := Lib.hid hf2
            clear hf0 hf1 hf2 hr
            go_upto_region 13 with fail
            go_region_law (first | (go_simp; go_at_call 36; refine HRO.out.mono ?_; clear HRO; rintro e w2 ⟨v', rfl, hv', hb2⟩; obtain ⟨a2, C2, rfl⟩ := hv'.form; have HV2 := Lib.hid hv'; have HB2 := Lib.hid ((below_drew wr _).trans hb2); have HK2 := Lib.hid (HOX.out.step HB2.out); have HW0 := Lib.hid (owns_below HF0.out HB2.out); have hout2 := HK2.out.out.cell; have hout3 := cell_alloc_any hout2; have hz22 : wr.heap.size ≤ w2.heap.size := hb2.size; clear hv' hb2) | (refine step_append_lies _ (by rfl) _ _ 22 (by rfl) w1.heap.size 37 j0 (.slice none 0 0) 1 24 Tryd.underlying22 hj0 hy0 hy1 hy2 rfl (by decide) (.slice au a Cu) a ((List.range a).map f) (by rfl) (HW0.out.alloc _) ⟨w2.heap.size, 0, none⟩ 1 1 [.slice a2 (keptN (cmpB rows rows' a) N).length C2] (by rfl) rfl (World.news_of_block (heap_alloc_new w2 _)) (by simp [Value.oneCell']) (by omega) (by unfold maxLen; omega) (by omega) (by simp; omega) (w2.heap.size + 1) (by simp) ?_; intro g' cap' w3 hown hgrow hat hlt'; have hfar := HK2.out.far HW0.out hgrow; have hc3 := hfar.cell; have hf3 := hfar.frozen; clear hfar))
            all_goals
              go_wp2
              go_roundw
              case rel =>
                refine ⟨a + 1, _, by omega, by go_num, (HOX.out.pushed HF0.out HF1.out HF2.out HB2.out HV2.out hown ⟨hgrow.os, hgrow.tape, hgrow.output, hgrow.size, hgrow.block⟩).congr fun j hj => ?_⟩
                by_cases e : j = a
                · subst e; rw [if_pos rfl]; rfl
                · rw [if_neg e]
              case measure => simp [intOf]; omega
      · obtain rfl : N = a := by omega
        have H2 := Lib.hid (H1.out.step ho.below)
        have hres := H2.out.res
        have hrc := Boxed.cell hres
        have hrf := Boxed.frozen hres
        have hout := ho.out.cell
        have hc9 := World.cell?_setCell_same' wo ⟨w.heap.size + 2, 0, none⟩ (.slice au N Cu) (by rw [hrc]; rfl)
        clear ho hres
        go_wp2
        simp only [Nat.add_assoc, Nat.reduceAdd]
        refine bodyPost_ret (v := .tuple #[.agg #[.slice au N Cu], .bool true]) (by simp [results, Tryd.results10, go_sem, hc9]) rfl ?_
        refine ⟨_, by rw [HE.out], ?_, H2.out.below.setCell (p := ⟨w.heap.size + 2, 0, none⟩) (by show w.heap.size ≤ w.heap.size + 2; omega) _⟩
        rw [HL.out.1, ← HNN.out, size_setCell]
        exact ((HK.out.own.kept fun b hb _ => Below.heap_setCell _ _ _ b (show b ≠ w.heap.size + 2 by omega)).wider (by have := H1.out.below.size; omega) (Nat.le_refl _)).congr fun q hq => by
          rw [HL.out.2 q (by rw [← HNN.out]; exact hq)]
          unfold funRow
          rw [← HNN.out]
          exact bRow_same (fun k hk => (cmp_eq HOK.out (by rw [← HNN.out]; exact hq) (by rw [← HNN.out]; exact hk)))

theorem lens_small2 {rows : Rows2} {m n : Nat} (hl : rows.length ≤ n) (h : ∀ r ∈ rows, r.length ≤ m) : bulk rows ≤ n + n * m := by
  have hs : ∀ l : List Nat, (∀ x ∈ l, x ≤ m) → l.sum ≤ l.length * m := fun l => by
    induction l with
    | nil => intro _; simp
    | cons x l ih =>
      intro hx
      have h1 := hx x List.mem_cons_self
      have h2 := ih fun y hy => hx y (List.mem_cons_of_mem _ hy)
      rw [List.sum_cons, List.length_cons, Nat.succ_mul]
      omega
  unfold bulk
  have h1 := hs (rows.map List.length) fun x hx => by
    obtain ⟨r, hr, rfl⟩ := List.mem_map.1 hx
    exact h r hr
  rw [List.length_map] at h1
  have h2 := Nat.mul_le_mul_right m hl
  omega
theorem fun_bulk (rows rows' : Rows2) : bulk (funL rows rows') ≤ 1048576 := by
  cases h : funB rows rows' with
  | false => rw [funL_no h]; simp [bulk]
  | true =>
    have hl := (funB_iff.1 h).2.2
    have hb := lens_small2 (rows := funL rows rows') (n := 200) (m := 200) (by rw [(funL_yes h).1]; omega) (fun r hr => by
      unfold funL at hr
      rw [if_pos h] at hr
      obtain ⟨q, _, rfl⟩ := List.mem_map.1 hr
      exact Nat.le_trans (bRow_len _ _ _) (by omega))
    omega
end Go.Proofs.YtkhhbpeheikmfaaDoor
