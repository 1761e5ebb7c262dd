import Derived.Test.YtkomghohdhengaaDoorPc25
import Derived.Test.YtkomghohdhengaaDoorPc23
import Derived.Test.YtkomghohdhengaaDoorPc19
import Derived.Test.YtkomghohdhengaaDoorPc13
import Derived.Deep.RegionLaw
import Derived.Deep.AppendLies
import Derived.Laws.EntriesVeiled
import Derived.Test.YtkomghohdhengaaDoorPc24
import Derived.Test.YtkomghohdhengaaDoorPc16
import Derived.Laws.MakeOwn
import Derived.Test.YtkomghohdhengaaDoorPc20
import Derived.Test.YtkomghohdhengaaDoorPc22
import Derived.Test.YtkomghohdhengaaDoorPc11
import Derived.Test.YtkomghohdhengaaDoorPc26
namespace Go.Proofs.YtkomghohdhengaaDoor
open Go.RowKit Go.Deep

/-- Is the list xs below ys, for the first k elements? -/
def unT (rows' : Rows2) (xs ys : List Int) (k : Nat) : Bool := (List.range k).all fun i => upB rows' (xs.getD i 0).toNat (ys.getD i 0)
theorem unT_succ (rows' : Rows2) (xs ys : List Int) (k : Nat) : unT rows' xs ys (k + 1) = (unT rows' xs ys k && upB rows' (xs.getD k 0).toNat (ys.getD k 0)) := by
  unfold unT
  rw [List.range_succ, List.all_append]
  simp
theorem unT_no {rows' : Rows2} {xs ys : List Int} {k n : Nat} (hk : k < n) (h : upB rows' (xs.getD k 0).toNat (ys.getD k 0) = false) : unT rows' xs ys n = false := by
  unfold unT
  rw [List.all_eq_false]
  exact ⟨k, List.mem_range.2 hk, by rw [h]; decide⟩

set_option maxRecDepth 100000 in
set_option maxHeartbeats 4000000 in
theorem l2UnderN_any (v vx vy : Value) (rows' : Rows2) (xs ys : List Int) (n : Nat) (w : World) (hv : RowsAt w v rows') (hx : IntsAt w vx xs) (hy : IntsAt w vy ys) (hok : Ok rows') (hlx : xs.length = n) (hly : ys.length = n) (hn : n ≤ 200) (hrx : ∀ x ∈ xs, 0 ≤ x ∧ x < rows'.length) :
    Calls Tryd.prog 90 #[.agg #[v], vx, vy] w (SaysN (unT rows' xs ys n) w) := by
  have b0 := (Below.refl w.heap.size w).alloc (Nat.le_refl _) (.cells #[v] 25)
  have hc := one_new w v 25
  have hv1 := hv.below b0
  have hx1 := hx.below b0
  have hy1 := hy.below b0
  have hbk := hok.bulk
  obtain ⟨A, C, rfl, _⟩ := hv
  obtain ⟨Ax, Cx, rfl, hCx, hmx, _⟩ := hx
  obtain ⟨Ay, Cy, rfl, hCy, hmy, _⟩ := hy
  unfold maxLen at hmx hmy
  rw [hlx] at hCx
  rw [hly] at hCy
  obtain ⟨W1, hW1⟩ : ∃ W1, W1 = w.alloc (.cells #[.slice A rows'.length C] 25) := ⟨_, rfl⟩
  rw [← hW1] at b0 hc hv1 hx1 hy1
  have HB := Lib.hid b0
  have HV := Lib.hid hv1
  have HX := Lib.hid hx1
  have HY := Lib.hid hy1
  have HLX := Lib.hid hlx
  have HLY := Lib.hid hly
  have HRX := Lib.hid hrx
  have HOK := Lib.hid hok
  have HK := Lib.hid (show ∀ W, Below W1.heap.size W1 W → W.cell? ⟨w.heap.size, 0, none⟩ = some (.slice A rows'.length C) from fun W hb => (hb.cell (p := ⟨w.heap.size, 0, none⟩) (cell_lt hc)).trans hc)
  rw [hlx, hly]
  clear b0 hv1 hx1 hy1 hlx hly hrx hok
  go_enter Tryd.func90, Tryd.ntmps90
  go_upto_region 1 with fail
  rw [← hW1]
  clear hW1
  go_wp2
  go_loopw [7] (fun iv wr => ∃ i : Nat, i ≤ n ∧ iv = .int .i64 i ∧ unT rows' xs ys i = true ∧ Below W1.heap.size W1 wr) (fun iv _ => n - (intOf iv).toNat)
  case atStart => exact ⟨0, Nat.zero_le _, rfl, rfl, Below.refl _ _⟩
  case round =>
    obtain ⟨i, hi, rfl, ht, hbw⟩ := hrel
    have HT := Lib.hid ht
    have HBW := Lib.hid hbw
    clear ht hbw
    by_cases hlt : i < n
    · have hix : i < xs.length := by have := HLX.out; omega
      have hiy : i < ys.length := by have := HLY.out; omega
      obtain ⟨bx, ox, rfl, hxa⟩ := HX.out.get hix
      obtain ⟨by', oy, rfl, hyb⟩ := HY.out.get hiy
      have hkx := HRX.out _ (List.getElem_mem hix)
      have hex : xs.getD i 0 = xs[i] := getD_lt 0 hix
      have hey : ys.getD i 0 = ys[i] := getD_lt 0 hiy
      generalize xs[i] = xa at hxa hkx hex
      generalize ys[i] = yb at hyb hey
      obtain ⟨ka, rfl⟩ : ∃ ka : Nat, xa = (ka : Int) := ⟨xa.toNat, by omega⟩
      have hkl : ka < rows'.length := by omega
      have hbit : upB rows' (xs.getD i 0).toNat (ys.getD i 0) = upB rows' ka yb := by rw [hex, hey, Int.toNat_natCast]
      have q0 := HK.out wr HBW.out
      have q3 := (HBW.out.cell (p := ⟨bx, ox + i, none⟩) (cell_lt hxa)).trans hxa
      have q4 := (HBW.out.cell (p := ⟨by', oy + i, none⟩) (cell_lt hyb)).trans hyb
      have hvw := HV.out.below HBW.out
      have hyc := fun d os => Calls.regrown_of (d := d) (os := os) (l1Le_any (.slice A rows'.length C) rows' (ka : Int) ka yb _ (hvw.below (below_regrown wr d os)) hkl rfl (HOK.out.asc ka hkl).1 hbk)
      have hiz : (i : Int) < (n : Int) := by omega
      have hk0 := fun d os => cell_regrown q0 d os
      have hk3 := fun d os => cell_regrown q3 d os
      have hk4 := fun d os => cell_regrown q4 d os
      have HBIT := Lib.hid hbit
      clear hvw hex hey hbit hkx hxa hyb hix hiy
      generalize upB rows' ka yb = t at hyc HBIT
      go_upto_region 4 with fail
      refine wp_region_quiet_below (by kernel_rfl) (by kernel_rfl) ?_
      repeat (go_big_quiet_step (first | (go_at_call 98; exact hyc _ _)))
      refine wpQuiet_nil ?_
      intro _ hw'
      obtain ⟨⟨dq, osq⟩, hw''⟩ := hw'
      subst hw''
      have HB2 := Lib.hid (HBW.out.trans ((below_regrown wr dq osq).mono HBW.out.size))
      clear hyc hk0 hk3 hk4 q0 q3 q4
      generalize Go.Sort.grow (redrawn wr dq) osq = wz at HB2 ⊢
      cases t with
      | true =>
        have HT2 := Lib.hid (show unT rows' xs ys (i + 1) = true by rw [unT_succ, HT.out, HBIT.out]; rfl)
        try rw [Bool.not_true]
        go_wp2
        go_roundw
        case rel => exact ⟨i + 1, by omega, by go_num, HT2.out, HB2.out⟩
        case measure => simp [intOf]; omega
      | false =>
        have HE := Lib.hid (show unT rows' xs ys n = false from unT_no hlt HBIT.out)
        try rw [Bool.not_false]
        go_wp2
        go_ret
        exact ⟨by rw [HE.out]; rfl, HB.out.trans (HB2.out.mono HB.out.size)⟩
    · obtain rfl : i = n := by omega
      go_wp2
      go_ret
      exact ⟨by rw [HT.out]; rfl, HB.out.trans (HBW.out.mono HB.out.size)⟩
end Go.Proofs.YtkomghohdhengaaDoor

namespace Go.Proofs.YtkomghohdhengaaDoor
open Go.RowKit Go.Deep

theorem infoBoolM : (Tryd.prog.info? 4).map (fun i => (i.zero, i.size, i.bytes)) = some (some (.bool false), 1, 1) := by kernel_rfl

/-- Is the a-th function below the b-th? -/
noncomputable def cmpB (rows rows' : Rows2) (a b : Nat) : Bool := unT rows' ((I2 (funsR rows rows')).getD a []) ((I2 (funsR rows rows')).getD b []) rows.length
theorem RowsAt.get {W : World} {A : Option Addr} {n C : Nat} {rows : Rows2} (h : RowsAt W (.slice A n C) rows) {i : Nat} (hi : i < rows.length) : ∃ b o, A = some ⟨b, o, none⟩ ∧ ∀ k, k < rows.length → ∃ u, W.cell? ⟨b, o + k, none⟩ = some u ∧ IntsAt W u (rows.getD k []) := by
  obtain ⟨a, C', e, _, _, hx⟩ := h
  cases e
  obtain ⟨b, o, _, rfl, _⟩ := hx i hi
  refine ⟨b, o, rfl, fun k hk => ?_⟩
  obtain ⟨b', o', u, e, hc, hu⟩ := hx k hk
  cases e
  exact ⟨u, hc, by rw [getD_lt [] hk]; exact hu⟩

theorem bRow_same {B B' : Nat → Nat → Bool} {a N : Nat} (h : ∀ k, k < N → B a k = B' a k) : bRow B a N = bRow B' a N := by
  unfold bRow
  refine congrArg (List.map _) (List.filter_congr fun k hk => ?_)
  rw [h k (List.mem_range.1 hk)]
theorem cmp_eq {rows rows' : Rows2} (hok' : Ok rows') {a b : Nat} (ha : a < (funsR rows rows').length) (hb : b < (funsR rows rows').length) : cmpB rows rows' a b = funG (gridF rows') (I2 (funsR rows rows')) rows.length a b := by
  unfold cmpB unT funG funT
  obtain ⟨l1, l2, _⟩ := funs_len (List.getElem_mem ha)
  rw [I2_getD ha, getD_lt [] ha]
  rw [Bool.eq_iff_iff, List.all_eq_true, List.all_eq_true]
  refine forall_congr' fun i => forall_congr' fun hi => ?_
  rw [List.mem_range] at hi
  have hi2 : i < (intsOf (funsR rows rows')[a]).length := by rw [intsOf_len, l1]; exact hi
  obtain ⟨m1, m2, _⟩ := funs_len (List.getElem_mem hb)
  rw [I2_getD hb, getD_lt [] hb]
  have hi3 : i < (intsOf (funsR rows rows')[b]).length := by rw [intsOf_len, m1]; exact hi
  rw [getD_lt 0 hi2, intsOf_at hi2, getD_lt 0 hi3, intsOf_at hi3, Int.toNat_natCast, Int.toNat_natCast, upB_grid hok' (l2 _ (by rw [getD_lt 0 (by rw [l1]; exact hi)]; exact List.getElem_mem _))]

set_option maxRecDepth 100000 in
set_option maxHeartbeats 8000000 in
theorem specFun_any (v v' : Value) (rows rows' : Rows2) (w : World) (hv : RowsAt w v rows) (hv' : RowsAt w v' rows') (hn : bulk rows ≤ 1048576) (hn' : bulk rows' ≤ 1048576) :
    Calls Tryd.prog 36 #[.agg #[v], .agg #[v']] w (OrderP (funL rows rows') (funB rows rows') w) := by
  have h0 := TwoR.start w hv hv'
  have hall := all2_any _ _ rows rows' _ h0.r0 h0.r1 hn hn'
  have hc0 := h0.c0
  have hc1 := h0.c1
  obtain ⟨A, C, rfl, _⟩ := hv
  obtain ⟨A', C', rfl, _⟩ := hv'
  have H0 := Lib.hid h0
  clear h0
  go_enter Tryd.func36, Tryd.ntmps36
  go_wp2_with fail
  refine hall.mono ?_
  rintro e w1 ⟨⟨a1, m1, C1, rfl, hyes⟩, hb1⟩
  have H1 := Lib.hid (H0.out.step hb1)
  clear hall hc0 hc1
  cases hfb : funB rows rows' with
  | false =>
    have HE := Lib.hid hfb
    have hres := H1.out.res.cell
    have hfr := H1.out.res.frozen
    clear hyes hb1
    go_wp2
    simp only [Nat.add_assoc, Nat.reduceAdd]
    have hc9 := World.cell?_setCell_same' w1 ⟨w.heap.size + 2, 0, none⟩ (.slice none 0 0) (by rw [hres]; rfl)
    refine bodyPost_ret (v := .tuple #[.agg #[.slice none 0 0], .bool false]) (by simp [results, Tryd.results36, go_sem, hc9]) rfl ?_
    exact orderP_no (funL_no HE.out) HE.out H1.out.below (by omega) _
  | true =>
    obtain ⟨rfl, hown⟩ := hyes hfb
    obtain ⟨h1, h2, hle⟩ := funB_iff.1 hfb
    have hok' := (domB_iff.1 h2).1
    have hn200 := (domB_iff.1 h1).1.len.2
    have hat := I2_at hown
    have HAT := Lib.hid hat
    have HE := Lib.hid hfb
    have HL := Lib.hid (funL_yes hfb)
    have HOK := Lib.hid hok'
    have HLS := Lib.hid (show ∀ a, a < (funsR rows rows').length → ((I2 (funsR rows rows')).getD a []).length = rows.length ∧ ∀ x ∈ (I2 (funsR rows rows')).getD a [], 0 ≤ x ∧ x < rows'.length from fun a ha => by
      obtain ⟨q1, q2, _⟩ := funs_len (List.getElem_mem ha)
      rw [I2_getD ha, getD_lt [] ha]
      refine ⟨by rw [intsOf_len]; exact q1, fun x hx => ?_⟩
      unfold intsOf at hx
      obtain ⟨y, hy, rfl⟩ := List.mem_map.1 hx
      have := q2 y hy
      omega)
    obtain ⟨N, hN⟩ : ∃ N, N = (funsR rows rows').length := ⟨_, rfl⟩
    have HNI := Lib.hid (show (I2 (funsR rows rows')).length = N by rw [I2_len, hN])
    have HNN := Lib.hid hN
    rw [← hN] at HLS HAT hle
    rw [← hN]
    have hN0 : ∀ {a : Nat}, a < N → a < (I2 (funsR rows rows')).length := fun h => by rw [HNI.out]; exact h
    obtain ⟨i0, hi0, hz0, hz1, hz2⟩ := info_parts infoInt
    obtain ⟨j0, hj0, hy0, hy1, hy2⟩ := info_parts infoInts
    have hE := Out.empty w1 (fun a => bRow (cmpB rows rows') a N)
    have hmk := run_make_row' (P := Tryd.prog) 101 4 (.bool false) 1 Tryd.underlying101 infoBoolM rfl .i64 .i64 N (by omega) (by omega)
    have hz1' := H1.out.res.lt
    clear hyes hown hat hok' hN hb1 hfb
    go_upto_region 5 with fail
    generalize ((w1.alloc (.cells #[] 26)).alloc (.cells #[.slice (some ⟨w1.heap.size, 0, none⟩) 0 0] 25)) = wq at hE ⊢
    obtain ⟨Z, hZ⟩ : ∃ Z, Z = w1.heap.size + 1 := ⟨_, rfl⟩
    rw [← hZ] at hE ⊢
    clear hZ
    have HST := Lib.hid hE
    clear hE
    go_wp2
    go_loopw [9] (fun av wx => ∃ (a : Nat) (u : Value), a ≤ N ∧ av = .int .i64 a ∧ Out w1 Z u a (fun a => bRow (cmpB rows rows') a N) wx) (fun av _ => N - (intOf av).toNat)
    case atStart => exact ⟨0, _, Nat.zero_le _, rfl, HST.out⟩
    case round =>
      obtain ⟨wo, hwo⟩ : ∃ wo : World, wo = wr := ⟨_, rfl⟩
      subst hwo
      obtain ⟨a, u, ha, rfl, ho⟩ := hrel
      have HK := Lib.hid ho
      obtain ⟨au, Cu, rfl⟩ := ho.own.form
      clear HST
      by_cases hlt : a < N
      · have hltz : (a : Int) < (N : Int) := by omega
        have HRW := Lib.hid (World.rowIs_made wo (.bool false) N 4)
        have HBB := Lib.hid ((Below.refl wo.heap.size wo).alloc (Nat.le_refl _) (.cells (madeCells #[.bool false] N) 4))
        clear ho
        go_upto_region 9 with fail
        generalize wo.alloc (.cells (madeCells #[.bool false] N) 4) = wa at HRW HBB ⊢
        go_wp2
        go_loopw [11] (fun bv wx => ∃ b : Nat, b ≤ N ∧ bv = .int .i64 b ∧ wx.rowIs wo.heap.size 4 N (fun i => if i < b then .bool (cmpB rows rows' a i) else .bool false) ∧ Below wo.heap.size wo wx) (fun bv _ => N - (intOf bv).toNat)
        case atStart => exact ⟨0, Nat.zero_le _, rfl, HRW.out.congr (fun i _ => by rw [if_neg (Nat.not_lt_zero i)]), HBB.out⟩
        case round =>
          obtain ⟨b, hb, rfl, hr, hB⟩ := hrel
          have HR := Lib.hid hr
          have HB := Lib.hid hB
          clear HRW HBB hB
          by_cases hbl : b < N
          · have hbz : (b : Int) < (N : Int) := by omega
            have hc := hr.cell hbl
            have hfz := hr.frozen b
            have hLz := hr.lt
            rw [if_neg (Nat.lt_irrefl b)] at hc
            have HOX := Lib.hid (HK.out.step HB.out)
            have HBW := Lib.hid HOX.out.below
            have H2 := Lib.hid (H1.out.step HBW.out)
            have hcell := H2.out.c1
            obtain ⟨b1, o1, rfl, hget0⟩ := HAT.out.get (hN0 hlt)
            have hget : ∀ k, k < (I2 (funsR rows rows')).length → ∃ u, wr.cell? ⟨b1, o1 + k, none⟩ = some u ∧ IntsAt wr u ((I2 (funsR rows rows')).getD k []) := fun k hk => by
              obtain ⟨b2, o2, e2, hg2⟩ := (HAT.out.below HBW.out).get (hN0 hlt)
              cases e2
              exact hg2 k hk
            replace hget0 := hget0 a (hN0 hlt)
            obtain ⟨ua, hua, hia⟩ := hget a (hN0 hlt)
            obtain ⟨ub, hub, hib⟩ := hget b (hN0 hbl)
            obtain ⟨l1, l2⟩ := HLS.out a hlt
            obtain ⟨l3, _⟩ := HLS.out b hbl
            obtain ⟨xs, hxs⟩ : ∃ xs, xs = (I2 (funsR rows rows')).getD a [] := ⟨_, rfl⟩
            obtain ⟨ys, hys⟩ : ∃ ys, ys = (I2 (funsR rows rows')).getD b [] := ⟨_, rfl⟩
            have hA : cmpB rows rows' a b = unT rows' xs ys rows.length := by rw [hxs, hys]; rfl
            rw [← hxs] at hia l1 l2
            rw [← hys] at hib l3
            have hcE := l2UnderN_any _ ua ub rows' xs ys rows.length wr.drew (H2.out.r1.below (below_drew wr _)) (hia.below (below_drew wr _)) (hib.below (below_drew wr _)) HOK.out l1 l3 hn200 l2
            generalize unT rows' xs ys rows.length = q at hcE hA
            have HA := Lib.hid hA
            obtain ⟨Aa, Ca, rfl, _⟩ := hia
            obtain ⟨Ab, Cb, rfl, _⟩ := hib
            rw [l1] at hua hcE
            rw [l3] at hub hcE
            have hbw : w.heap.size + 2 < wo.heap.size := Nat.lt_of_lt_of_le hz1' HK.out.below.size
            have hb1w : b1 < wo.heap.size := by
              obtain ⟨_, hq, _⟩ := hget0
              exact Nat.lt_of_lt_of_le (cell_lt hq) HK.out.below.size
            clear hr hget l1 l2 l3 hA hxs hys hget0
            obtain ⟨SS, hSS⟩ : ∃ SS : World → Prop, SS = fun W' => W'.cell? ⟨w.heap.size + 1, 0, none⟩ = some (.slice A' rows'.length C') ∧ W'.cell? ⟨b1, o1 + a, none⟩ = some (.slice Aa rows.length Ca) ∧ W'.cell? ⟨b1, o1 + b, none⟩ = some (.slice Ab rows.length Cb) := ⟨_, rfl⟩
            have hS0 : SS wr.drew := by rw [hSS]; exact ⟨hcell, hua, hub⟩
            have HSB : Hid (∀ (w3 : World), Below wr.heap.size wr w3 → SS w3) := Lib.hid (fun w3 h3 => by
              rw [hSS]
              exact ⟨(h3.cell (p := ⟨w.heap.size + 1, 0, none⟩) (cell_lt hcell)).trans hcell, (h3.cell (p := ⟨b1, o1 + a, none⟩) (cell_lt hua)).trans hua, (h3.cell (p := ⟨b1, o1 + b, none⟩) (cell_lt hub)).trans hub⟩)
            have HSS : Hid (∀ (w3 : World) (x : Value), Below wr.heap.size wr w3 → SS (w3.setCell ⟨wo.heap.size, b, none⟩ x)) := Lib.hid (fun w3 x h3 => by
              have h4 := HSB.out w3 h3
              rw [hSS] at h4 ⊢
              refine ⟨?_, ?_, ?_⟩
              · rw [World.cell?_setCell_far _ _ _ _ (show wo.heap.size ≠ w.heap.size + 1 by omega)]; exact h4.1
              · rw [World.cell?_setCell_far _ _ _ _ (show wo.heap.size ≠ b1 by omega)]; exact h4.2.1
              · rw [World.cell?_setCell_far _ _ _ _ (show wo.heap.size ≠ b1 by omega)]; exact h4.2.2)
            clear hcell hua hub
            subst hSS
            go_upto_region 12 with fail
            go_region_held3 (fun W' : World => W'.cell? ⟨w.heap.size + 1, 0, none⟩ = some (.slice A' rows'.length C') ∧ W'.cell? ⟨b1, o1 + a, none⟩ = some (.slice Aa rows.length Ca) ∧ W'.cell? ⟨b1, o1 + b, none⟩ = some (.slice Ab rows.length Cb)) (first | exact HSS.out _ _ HB3.out | exact HSB.out _ HB3.out | exact hS0) (first | (go_at_call 90; refine hcE.mono ?_; clear hcE; rintro e w3 ⟨rfl, hb3⟩; have HB3 := Lib.hid ((below_drew wr _).trans hb3); have hc3 : w3.cell? ⟨wo.heap.size, b, none⟩ = some (.bool false) := (HB3.out.cell (p := ⟨wo.heap.size, b, none⟩) hLz).trans hc; have hf3 : w3.frozen? ⟨wo.heap.size, b, none⟩ = false := (HB3.out.frozen (p := ⟨wo.heap.size, b, none⟩) hLz).trans hfz; clear hb3))
            all_goals
              go_wp2
              go_roundw
              case rel =>
                refine ⟨b + 1, by omega, by go_num, ((HR.out.of_block (HB3.out.block _ hLz)).set b (.bool q)).congr (fun i hi => ?_), (HB.out.trans (HB3.out.mono HB.out.size)).setCell (p := ⟨wo.heap.size, b, none⟩) (Nat.le_refl _) _⟩
                by_cases e : i = b
                · subst e; rw [if_pos (Nat.lt_succ_self i), HA.out]; simp
                · by_cases e2 : i < b
                  · simp [e, e2, show i < b + 1 by omega]
                  · simp [e, e2, show ¬ i < b + 1 by omega]
              case measure => simp [intOf]; omega
          · obtain rfl : N = b := by omega
            have hbz : ¬ ((N : Int) < (N : Int)) := by omega
            have HOX := Lib.hid (HK.out.step HB.out)
            have hout := HOX.out.out.cell
            have hZ2 := HOX.out.out.lt
            have hb0 := HOX.out.below.size
            have HRO := Lib.hid (l2Row_any wo.heap.size N N (cmpB rows rows' a) wr.drew (by omega) (fun i hi => by have := HR.out.cell hi; rw [if_pos hi] at this; exact this))
            obtain ⟨f, hf0, hf1, hf2⟩ := HOX.out.own.owns
            have HF0 := Lib.hid hf0
            have HF1 := Lib.hid hf1
            have HF2 := Lib.hid hf2
            clear hf0 hf1 hf2 hr
            go_upto_region 13 with fail
            go_region_law (first | (go_simp; go_at_call 91; refine HRO.out.mono ?_; clear HRO; rintro e w2 ⟨v', rfl, hv', hb2⟩; obtain ⟨a2, C2, rfl⟩ := hv'.form; have HV2 := Lib.hid hv'; have HB2 := Lib.hid ((below_drew wr _).trans hb2); have HK2 := Lib.hid (HOX.out.step HB2.out); have HW0 := Lib.hid (owns_below HF0.out HB2.out); have hout2 := HK2.out.out.cell; have hout3 := cell_alloc_any hout2; have hz22 : wr.heap.size ≤ w2.heap.size := hb2.size; clear hv' hb2) | (refine step_append_lies _ (by rfl) _ _ 23 (by rfl) w1.heap.size 26 j0 (.slice none 0 0) 1 24 Tryd.underlying23 hj0 hy0 hy1 hy2 rfl (by decide) (.slice au a Cu) a ((List.range a).map f) (by rfl) (HW0.out.alloc _) ⟨w2.heap.size, 0, none⟩ 1 1 [.slice a2 (keptN (cmpB rows rows' a) N).length C2] (by rfl) rfl (World.news_of_block (heap_alloc_new w2 _)) (by simp [Value.oneCell']) (by omega) (by unfold maxLen; omega) (by omega) (by simp; omega) (w2.heap.size + 1) (by simp) ?_; intro g' cap' w3 hown hgrow hat hlt'; have hfar := HK2.out.far HW0.out hgrow; have hc3 := hfar.cell; have hf3 := hfar.frozen; clear hfar))
            all_goals
              go_wp2
              go_roundw
              case rel =>
                refine ⟨a + 1, _, by omega, by go_num, (HOX.out.pushed HF0.out HF1.out HF2.out HB2.out HV2.out hown ⟨hgrow.os, hgrow.tape, hgrow.output, hgrow.size, hgrow.block⟩).congr fun j hj => ?_⟩
                by_cases e : j = a
                · subst e; rw [if_pos rfl]; rfl
                · rw [if_neg e]
              case measure => simp [intOf]; omega
      · obtain rfl : N = a := by omega
        have H2 := Lib.hid (H1.out.step ho.below)
        have hres := H2.out.res
        have hrc := Boxed.cell hres
        have hrf := Boxed.frozen hres
        have hout := ho.out.cell
        have hc9 := World.cell?_setCell_same' wo ⟨w.heap.size + 2, 0, none⟩ (.slice au N Cu) (by rw [hrc]; rfl)
        clear ho hres
        go_wp2
        simp only [Nat.add_assoc, Nat.reduceAdd]
        refine bodyPost_ret (v := .tuple #[.agg #[.slice au N Cu], .bool true]) (by simp [results, Tryd.results36, go_sem, hc9]) rfl ?_
        refine ⟨_, by rw [HE.out], ?_, H2.out.below.setCell (p := ⟨w.heap.size + 2, 0, none⟩) (by show w.heap.size ≤ w.heap.size + 2; omega) _⟩
        rw [HL.out.1, ← HNN.out, size_setCell]
        exact ((HK.out.own.kept fun b hb _ => Below.heap_setCell _ _ _ b (show b ≠ w.heap.size + 2 by omega)).wider (by have := H1.out.below.size; omega) (Nat.le_refl _)).congr fun q hq => by
          rw [HL.out.2 q (by rw [← HNN.out]; exact hq)]
          unfold funRow
          rw [← HNN.out]
          exact bRow_same (fun k hk => (cmp_eq HOK.out (by rw [← HNN.out]; exact hq) (by rw [← HNN.out]; exact hk)))

theorem lens_small2 {rows : Rows2} {m n : Nat} (hl : rows.length ≤ n) (h : ∀ r ∈ rows, r.length ≤ m) : bulk rows ≤ n + n * m := by
  have hs : ∀ l : List Nat, (∀ x ∈ l, x ≤ m) → l.sum ≤ l.length * m := fun l => by
    induction l with
    | nil => intro _; simp
    | cons x l ih =>
      intro hx
      have h1 := hx x List.mem_cons_self
      have h2 := ih fun y hy => hx y (List.mem_cons_of_mem _ hy)
      rw [List.sum_cons, List.length_cons, Nat.succ_mul]
      omega
  unfold bulk
  have h1 := hs (rows.map List.length) fun x hx => by
    obtain ⟨r, hr, rfl⟩ := List.mem_map.1 hx
    exact h r hr
  rw [List.length_map] at h1
  have h2 := Nat.mul_le_mul_right m hl
  omega
theorem fun_bulk (rows rows' : Rows2) : bulk (funL rows rows') ≤ 1048576 := by
  cases h : funB rows rows' with
  | false => rw [funL_no h]; simp [bulk]
  | true =>
    have hl := (funB_iff.1 h).2.2
    have hb := lens_small2 (rows := funL rows rows') (n := 200) (m := 200) (by rw [(funL_yes h).1]; omega) (fun r hr => by
      unfold funL at hr
      rw [if_pos h] at hr
      obtain ⟨q, _, rfl⟩ := List.mem_map.1 hr
      exact Nat.le_trans (bRow_len _ _ _) (by omega))
    omega
end Go.Proofs.YtkomghohdhengaaDoor
