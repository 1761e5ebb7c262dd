/- The program's product of two domains, unbuilt: how many elements it has, and what is below what. -/
import Derived.Test.YtkhhbpeheikmfaaDoorMidFb
import Derived.Test.YtkhhbpeheikmfaaDoorImplMono
import Derived.Test.YtkhhbpeheikmfaaDoorMidFa
import Derived.Test.YtkhhbpeheikmfaaDoorMidFc
import Derived.Test.YtkhhbpeheikmfaaDoorIsMono
import Derived.Lib.QuietBelow
import Derived.BigQuiet
import Derived.Laws.OwnMore
import Derived.Test.YtkhhbpeheikmfaaDoorMonoS
namespace Go.Proofs.YtkhhbpeheikmfaaDoor
open Go.RowKit Go.Deep Go.Shelf

theorem run_prod_size (m : Nat) (v v' : Value) (w : World) : (Go.method (m + 1) 67 (.agg #[v, v']) "loop.example/scottdomains/impl.size").run Tryd.prog w = .ok (46, .agg #[v, v']) w := by kernel_rfl
theorem run_prod_below (m : Nat) (v v' : Value) (w : World) : (Go.method (m + 1) 67 (.agg #[v, v']) "loop.example/scottdomains/impl.below").run Tryd.prog w = .ok (124, .agg #[v, v']) w := by kernel_rfl

set_option maxRecDepth 100000 in
set_option maxHeartbeats 4000000 in
theorem prodSize_any (p p' n n' : Nat) (g g' : Nat → Nat) (w : World) (hg : GridAt w p g) (hg' : GridAt w p' g') (hn : GridN g n) (hn' : GridN g' n') :
    Calls Tryd.prog 46 #[.agg #[gridV p, gridV p']] w (SaysI ((n * n' : Nat) : Int) w) := by
  have b0 := (Below.refl w.heap.size w).alloc (Nat.le_refl _) (.cells #[gridV p, gridV p'] 67)
  have hs : w.heap.size ≤ (w.alloc (.cells #[gridV p, gridV p'] 67)).heap.size := b0.size
  obtain ⟨hc, hc'⟩ := fresh2 w (gridV p) (gridV p') 67
  have hcall := fun d os => Calls.regrown_of (d := d) (os := os) (size_any p n g _ ((hg.below b0 hg.lt).below (below_regrown _ d os) (hg.below b0 hg.lt).lt) hn.le hn.some hn.none)
  have hcall' := fun d os => Calls.regrown_of (d := d) (os := os) (size_any p' n' g' _ ((hg'.below b0 hg'.lt).below (below_regrown _ d os) (hg'.below b0 hg'.lt).lt) hn'.le hn'.some hn'.none)
  have hq0 := fun d os => cell_regrown hc d os
  have hq1 := fun d os => cell_regrown hc' d os
  have hmS := run_size
  have hle := hn.le
  have hle' := hn'.le
  have hp : n * n' ≤ 40000 := Nat.le_trans (Nat.mul_le_mul hle hle') (by decide)
  have hw1 : IntKind.i64.wrap ((n : Int) * (n' : Int)) = (n : Int) * (n' : Int) := IntWalk.i64_in _ (by rw [← Int.natCast_mul]; omega)
  have HB := Lib.hid b0
  clear b0 hg hg' hn hn' hc hc'
  go_enter Tryd.func46, Tryd.ntmps46
  go_upto_region 1 with fail
  refine wp_region_quiet_below (by kernel_rfl) (by kernel_rfl) ?_
  repeat (go_big_quiet_step (first | (go_at_call_of 48 (Value.pointer (some ⟨p, 0, none⟩)); exact hcall _ _) | (go_at_call_of 48 (Value.pointer (some ⟨p', 0, none⟩)); exact hcall' _ _)))
  refine wpQuiet_nil ?_
  intro _ hw'
  obtain ⟨⟨dq, osq⟩, hw''⟩ := hw'
  subst hw''
  clear hcall hcall' hq0 hq1
  go_wp2
  go_ret
  exact ⟨by rw [Int.natCast_mul]; rfl, HB.out.trans ((below_regrown _ dq osq).mono hs)⟩

/-- Is a below b in the product? -/
def prodB (g g' : Nat → Nat) (n' a b : Nat) : Bool := (g (a / n')).testBit (b / n') && (g' (a % n')).testBit (b % n')

set_option maxRecDepth 100000 in
set_option maxHeartbeats 8000000 in
theorem prodBelow_any (p p' n n' : Nat) (g g' : Nat → Nat) (a b : Nat) (w : World) (hg : GridAt w p g) (hg' : GridAt w p' g') (hn : GridN g n) (hn' : GridN g' n') (ha : a < n * n') (hb : b < n * n') :
    Calls Tryd.prog 124 #[.agg #[gridV p, gridV p'], .int .i64 (a : Int), .int .i64 (b : Int)] w (SaysN (prodB g g' n' a b) w) := by
  have b0 := (Below.refl w.heap.size w).alloc (Nat.le_refl _) (.cells #[gridV p, gridV p'] 67)
  have hs : w.heap.size ≤ (w.alloc (.cells #[gridV p, gridV p'] 67)).heap.size := b0.size
  obtain ⟨hc, hc'⟩ := fresh2 w (gridV p) (gridV p') 67
  have hcall := size_any p' n' g' _ (hg'.below b0 hg'.lt) hn'.le hn'.some hn'.none
  have hmS := run_size
  have hmB := run_below
  have hmN := fun b w => run_nilAhead 252 b w
  have hle := hn.le
  have hle' := hn'.le
  have hn0 : 0 < n' := by
    rcases Nat.eq_zero_or_pos n' with h | h
    · subst h; simp at ha
    · exact h
  have hq1 : a / n' < n := Nat.div_lt_of_lt_mul (by rw [Nat.mul_comm]; exact ha)
  have hq2 : b / n' < n := Nat.div_lt_of_lt_mul (by rw [Nat.mul_comm]; exact hb)
  have hr1 : a % n' < n' := Nat.mod_lt _ hn0
  have hr2 : b % n' < n' := Nat.mod_lt _ hn0
  have hz : ((n' : Int) == 0) = false := by rw [beq_eq_false_iff_ne]; omega
  have hz2 : (n' == 0) = false := by rw [beq_eq_false_iff_ne]; omega
  have hz3 : ¬ n' = 0 := by omega
  unfold prodB
  have d1 : (a : Int).tdiv (n' : Int) = ((a / n' : Nat) : Int) := (Int.ofNat_tdiv a n').symm
  have d2 : (b : Int).tdiv (n' : Int) = ((b / n' : Nat) : Int) := (Int.ofNat_tdiv b n').symm
  have m1 : (a : Int).tmod (n' : Int) = ((a % n' : Nat) : Int) := (Int.ofNat_tmod a n').symm
  have m2 : (b : Int).tmod (n' : Int) = ((b % n' : Nat) : Int) := (Int.ofNat_tmod b n').symm
  have d3 : (a : Int) / (n' : Int) = ((a / n' : Nat) : Int) := (Int.natCast_ediv a n').symm
  have d4 : (b : Int) / (n' : Int) = ((b / n' : Nat) : Int) := (Int.natCast_ediv b n').symm
  have m3 : (a : Int) % (n' : Int) = ((a % n' : Nat) : Int) := (Int.natCast_emod a n').symm
  have m4 : (b : Int) % (n' : Int) = ((b % n' : Nat) : Int) := (Int.natCast_emod b n').symm
  generalize a / n' = qa at d1 d3 hq1 ⊢
  generalize b / n' = qb at d2 d4 hq2 ⊢
  generalize a % n' = ra at m1 m3 hr1 ⊢
  generalize b % n' = rb at m2 m4 hr2 ⊢
  have wa : IntKind.i64.wrap (qa : Int) = (qa : Int) := IntWalk.i64_in _ (by omega)
  have wb : IntKind.i64.wrap (qb : Int) = (qb : Int) := IntWalk.i64_in _ (by omega)
  have HB := Lib.hid b0
  have HC := Lib.hid hc
  have HC' := Lib.hid hc'
  have hd0 := hc'
  clear b0 hc hc' ha hb
  go_enter Tryd.func124, Tryd.ntmps124
  go_upto_region 2 with (go_at_call 48; refine hcall.mono ?_; clear hcall; rintro e w1 ⟨rfl, hb1⟩; have B1 := Lib.hid (HB.out.trans (hb1.mono hs)); have E0 := Lib.hid ((hb1.cell (p := ⟨w.heap.size, 0, none⟩) (cell_lt HC.out)).trans HC.out); have E1 := Lib.hid ((hb1.cell (p := ⟨w.heap.size, 1, none⟩) (cell_lt HC'.out)).trans HC'.out); clear hb1)
  clear hd0
  have hk0 := fun d os => cell_regrown E0.out d os
  have hk1 := fun d os => cell_regrown E1.out d os
  have hG := fun d os => (hg.below B1.out hg.lt).below (below_regrown w1 d os) (hg.below B1.out hg.lt).lt
  have hG' := fun d os => (hg'.below B1.out hg'.lt).below (below_regrown w1 d os) (hg'.below B1.out hg'.lt).lt
  have hx := fun d os => Calls.regrown_of (d := d) (os := os) (gbelow_any p g (qa : Int) (qb : Int) qa qb _ (hG d os) rfl (by omega) rfl (by omega))
  have hy := fun d os => Calls.regrown_of (d := d) (os := os) (gbelow_any p' g' (ra : Int) (rb : Int) ra rb _ (hG' d os) rfl (by omega) rfl (by omega))
  clear hG hG' hg hg' hn hn' HC HC'
  cases hbit : (g qa).testBit qb with
  | false =>
    simp only [hbit] at hx
    have HBIT := Lib.hid hbit
    clear hbit
    refine wp_region_quiet_below (by kernel_rfl) (by kernel_rfl) ?_
    repeat (go_big_quiet_step (first | (go_at_call_of 99 (Value.pointer (some ⟨p, 0, none⟩)); exact hx _ _) | (go_at_call_of 99 (Value.pointer (some ⟨p', 0, none⟩)); exact hy _ _)))
    refine wpQuiet_nil ?_
    intro _ hw'
    obtain ⟨⟨dq, osq⟩, hw''⟩ := hw'
    subst hw''
    clear hx hy hk0 hk1
    go_wp2
    go_ret
    exact ⟨by rw [HBIT.out, Bool.false_and]; rfl, B1.out.trans ((below_regrown w1 dq osq).mono B1.out.size)⟩
  | true =>
    simp only [hbit] at hx
    have HBIT := Lib.hid hbit
    clear hbit
    obtain ⟨t, ht⟩ : ∃ t, (g' ra).testBit rb = t := ⟨_, rfl⟩
    simp only [ht] at hy
    have HT := Lib.hid ht
    clear ht
    refine wp_region_quiet_below (by kernel_rfl) (by kernel_rfl) ?_
    repeat (go_big_quiet_step (first | (go_at_call_of 99 (Value.pointer (some ⟨p, 0, none⟩)); exact hx _ _) | (go_at_call_of 99 (Value.pointer (some ⟨p', 0, none⟩)); exact hy _ _)))
    refine wpQuiet_nil ?_
    intro _ hw'
    obtain ⟨⟨dq, osq⟩, hw''⟩ := hw'
    subst hw''
    clear hx hy hk0 hk1
    go_wp2
    go_ret
    exact ⟨by rw [HBIT.out, HT.out, Bool.true_and]; rfl, B1.out.trans ((below_regrown w1 dq osq).mono B1.out.size)⟩
end Go.Proofs.YtkhhbpeheikmfaaDoor

/- The walks of rowsOf and built at prod. -/
namespace Go.Proofs.YtkhhbpeheikmfaaDoor
open Go.RowKit Go.Deep Go.Shelf

set_option maxRecDepth 100000 in
set_option maxHeartbeats 4000000 in
theorem prodRows_no (p p' n n' : Nat) (g g' : Nat → Nat) (N : Nat) (w : World) (hg : GridAt w p g) (hg' : GridAt w p' g') (hn : GridN g n) (hn' : GridN g' n') (hN : N = n * n') (hN2 : 200 < N) :
    Calls Tryd.prog 56 #[.iface 67 (.agg #[.iface 63 (.pointer (some ⟨p, 0, none⟩)), .iface 63 (.pointer (some ⟨p', 0, none⟩))])] w (RowsNo w) := by
  have hcall := fun W (hk : (fun W => GridAt W p g ∧ GridAt W p' g') W) => prodSize_any p p' n n' g g' W hk.1 hk.2 hn hn'
  have hc1 := hcall _ ⟨hg, hg'⟩
  rw [← hN] at hc1
  have hmS := run_prod_size
  have hN3 : (200 : Int) < (N : Int) := by omega
  clear hg hg' hn hn' hN hcall
  go_enter Tryd.func56, Tryd.ntmps56
  go_wp2_with (go_at_call 46; refine hc1.mono ?_; clear hc1; rintro e w1 ⟨rfl, hb1⟩; have HB1 := Lib.hid hb1; clear hb1)
  go_ret2
  exact ⟨rfl, HB1.out⟩
theorem prodBuilt_no (p p' n n' : Nat) (g g' : Nat → Nat) (N : Nat) (w : World) (hg : GridAt w p g) (hg' : GridAt w p' g') (hn : GridN g n) (hn' : GridN g' n') (hN : N = n * n') (hN2 : 200 < N) :
    Calls Tryd.prog 39 #[.iface 67 (.agg #[.iface 63 (.pointer (some ⟨p, 0, none⟩)), .iface 63 (.pointer (some ⟨p', 0, none⟩))])] w (RowsG 0 (fun _ => []) false w) :=
  built_no _ w fun W hB => prodRows_no p p' n n' g g' N W (hg.below hB hg.lt) (hg'.below hB hg'.lt) hn hn' hN hN2

set_option maxRecDepth 100000 in
set_option maxHeartbeats 4000000 in
theorem prodRows_yes (p p' n n' : Nat) (g g' : Nat → Nat) (N : Nat) (w : World) (hg : GridAt w p g) (hg' : GridAt w p' g') (hn : GridN g n) (hn' : GridN g' n') (hN : N = n * n') (hN2 : N ≤ 200) :
    Calls Tryd.prog 56 #[.iface 67 (.agg #[.iface 63 (.pointer (some ⟨p, 0, none⟩)), .iface 63 (.pointer (some ⟨p', 0, none⟩))])] w (RowsYes (madeG (prodB g g' n') N) w) := by
  have hK : Stays w (fun W => GridAt W p g ∧ GridAt W p' g') := Stays.grids hg.lt hg'.lt
  have hcall0 := fun W (hk : (fun W => GridAt W p g ∧ GridAt W p' g') W) => prodSize_any p p' n n' g g' W hk.1 hk.2 hn hn'
  have hk0 : (fun W => GridAt W p g ∧ GridAt W p' g') w := ⟨hg, hg'⟩
  have hcall := hcall0 _ hk0
  rw [← hN] at hcall
  have HBC := Lib.hid (fun (a b : Nat) (ha : a < N) (hb : b < N) W (hk : (fun W => GridAt W p g ∧ GridAt W p' g') W) => prodBelow_any p p' n n' g g' a b W hk.1 hk.2 hn hn' (by rw [← hN]; exact ha) (by rw [← hN]; exact hb))
  have hmS := run_prod_size
  have hmB := run_prod_below
  have hN3 : ¬ ((200 : Int) < (N : Int)) := by omega
  have hz := (zero_of_info zeroGrid).1
  have HK0 := Lib.hid hk0
  have HKK := Lib.hid hK
  clear hg hg' hn hn' hN hcall0 hk0 hK
  go_enter Tryd.func56, Tryd.ntmps56
  go_wp2_with (go_at_call 46; refine hcall.mono ?_; clear hcall; rintro e w1 ⟨rfl, hb1⟩; have HK1 := Lib.hid (HKK.out _ _ hb1 HK0.out); have HB1 := Lib.hid hb1; clear hb1)
  have bA := (Below.refl w1.heap.size w1).alloc (Nat.le_refl _) (.cells (gridCells fun _ => 0) 94)
  have HST := Lib.hid (show RwG w (fun W => GridAt W p g ∧ GridAt W p' g') w1.heap.size (bG (prodB g g' n') N 0 0) (w1.alloc (.cells (gridCells fun _ => 0) 94)) from
    ⟨HKK.out _ _ (bA.mono HB1.out.size) HK1.out, by rw [bG_start]; exact store_new w1, HB1.out.size, HB1.out.trans (bA.mono HB1.out.size)⟩)
  clear bA hz
  go_loopw [6, 13] (fun _ av wr => ∃ a : Nat, a ≤ N ∧ av = .int .i64 a ∧ RwG w (fun W => GridAt W p g ∧ GridAt W p' g') w1.heap.size (bG (prodB g g' n') N a 0) wr) (fun _ av _ => N - (intOf av).toNat)
  case atStart => exact ⟨0, Nat.zero_le _, rfl, HST.out⟩
  case round =>
    obtain ⟨a, ha, rfl, ht⟩ := hrel
    have HT := Lib.hid ht
    clear HST ht
    by_cases hal : a < N
    · go_wp2
      go_loopw [7, 17] (fun _ bv wr => ∃ b : Nat, b ≤ N ∧ bv = .int .i64 b ∧ RwG w (fun W => GridAt W p g ∧ GridAt W p' g') w1.heap.size (bG (prodB g g' n') N a b) wr) (fun _ bv _ => N - (intOf bv).toNat)
      case atStart => exact ⟨0, Nat.zero_le _, rfl, HT.out⟩
      case round =>
        obtain ⟨b, hb, rfl, ht⟩ := hrel
        have HK := Lib.hid ht
        clear ht HT
        by_cases hbl : b < N
        · have hcall := HBC.out a b hal hbl wr HK.out.kept
          cases hbit : (prodB g g' n') a b with
          | false =>
            rw [hbit] at hcall
            have HE := Lib.hid (bG_no (N := N) hbit)
            clear hbit
            go_wp2_with (go_at_call 124; refine hcall.mono ?_; clear hcall; rintro e w2 ⟨rfl, hb2⟩; have H2 := Lib.hid (HK.out.step HKK.out hb2); clear hb2)
            go_roundw
            case rel => exact ⟨b + 1, by omega, by go_num, by rw [HE.out]; exact H2.out⟩
            case measure => simp [intOf]; omega
          | true =>
            rw [hbit] at hcall
            have HE := Lib.hid (bG_yes (N := N) hbit)
            have ha200 : a < 200 := by omega
            have hb200 : b < 200 := by omega
            have ha0 : (0 : Int) ≤ (a : Int) := by omega
            have ha1 : (a : Int) < 200 := by omega
            clear hbit
            go_wp2_with (first | (go_at_call 124; refine hcall.mono ?_; clear hcall; rintro e w2 ⟨rfl, hb2⟩; have H2 := Lib.hid (HK.out.step HKK.out hb2); have hadd := addTo_any w1.heap.size a b (b : Int) _ w2 H2.out.grid ha200 hb200 rfl; clear hb2) | (go_at_call 76; refine hadd.mono ?_; clear hadd; rintro e w3 ⟨rfl, m, rfl⟩))
            go_roundw
            case rel => exact ⟨b + 1, by omega, by go_num, by rw [HE.out]; exact H2.out.put HKK.out ha200 hb200 m⟩
            case measure => simp [intOf]; omega
        · obtain rfl : b = N := by omega
          go_wp2
          go_roundw
          case rel => exact ⟨a + 1, by omega, by go_num, by rw [← bG_next]; exact HK.out⟩
          case measure => simp [intOf]; omega
    · obtain rfl : a = N := by omega
      go_wp2
      go_ret2
      exact ⟨⟨w1.heap.size, rfl, HT.out.own, HT.out.grid⟩, HT.out.below⟩
theorem prodBuilt_yes (p p' n n' : Nat) (g g' : Nat → Nat) (N : Nat) (w : World) (hg : GridAt w p g) (hg' : GridAt w p' g') (hn : GridN g n) (hn' : GridN g' n') (hN : N = n * n') (hN2 : N ≤ 200) (hT : Tab w) (hrf : ∀ q, q < N → (prodB g g' n') q q = true) :
    Calls Tryd.prog 39 #[.iface 67 (.agg #[.iface 63 (.pointer (some ⟨p, 0, none⟩)), .iface 63 (.pointer (some ⟨p', 0, none⟩))])] w (RowsG N (fun q => bRow (prodB g g' n') q N) true w) :=
  built_yes _ (prodB g g' n') N w hT hN2 hrf fun W hB => prodRows_yes p p' n n' g g' N W (hg.below hB hg.lt) (hg'.below hB hg'.lt) hn hn' hN hN2
end Go.Proofs.YtkhhbpeheikmfaaDoor

/- The program's DomainProduct. -/
namespace Go.Proofs.YtkhhbpeheikmfaaDoor
open Go.RowKit Go.Deep Go.Shelf

theorem prod_refl {rows rows' : Rows2} (hok : Ok rows) (hok' : Ok rows') : ∀ q, q < rows.length * rows'.length → prodB (gridF rows) (gridF rows') rows'.length q q = true := fun q hq => by
  have h0 : 0 < rows'.length := Nat.pos_of_ne_zero fun e => by rw [e, Nat.mul_zero] at hq; omega
  unfold prodB
  rw [hok.own _ ((Nat.div_lt_iff_lt_mul h0).2 hq), hok'.own _ (Nat.mod_lt _ h0)]
  rfl

/-- What DomainProduct answers. -/
noncomputable def prodOk (rows rows' : Rows2) : Bool := domB rows && domB rows' && decide (rows.length * rows'.length ≤ 200)
noncomputable def prodRow (rows rows' : Rows2) (q : Nat) : List Int := bRow (prodB (gridF rows) (gridF rows') rows'.length) q (rows.length * rows'.length)
noncomputable def prodL (rows rows' : Rows2) : Rows2 := if prodOk rows rows' = true then (List.range (rows.length * rows'.length)).map (prodRow rows rows') else []
theorem prodL_yes {rows rows' : Rows2} (h : prodOk rows rows' = true) : (prodL rows rows').length = rows.length * rows'.length ∧ ∀ q, q < rows.length * rows'.length → rowsF (prodL rows rows') q = prodRow rows rows' q := by
  unfold prodL
  rw [if_pos h]
  refine ⟨by simp, fun q hq => ?_⟩
  rw [rowsF_lt (by simpa using hq)]
  simp
theorem prodL_no {rows rows' : Rows2} (h : prodOk rows rows' = false) : prodL rows rows' = [] := by unfold prodL; rw [if_neg (by rw [h]; simp)]
end Go.Proofs.YtkhhbpeheikmfaaDoor

/- The product of two domains is a domain; monotone functions to it. Plain facts: no function is walked here. -/
namespace Go.Proofs.YtkhhbpeheikmfaaDoor
open Go.RowKit Go.Deep

theorem prodL_made {rows rows' : Rows2} (h : prodOk rows rows' = true) : prodL rows rows' = madeL (prodB (gridF rows) (gridF rows') rows'.length) (rows.length * rows'.length) := by
  unfold prodL
  rw [if_pos h]
  rfl
theorem pair_parts {n' x y : Nat} (hy : y < n') : (x * n' + y) / n' = x ∧ (x * n' + y) % n' = y := by
  constructor
  · rw [Nat.add_comm, Nat.add_mul_div_right _ _ (by omega), Nat.div_eq_of_lt hy, Nat.zero_add]
  · rw [Nat.add_comm, Nat.add_mul_mod_self_right, Nat.mod_eq_of_lt hy]
theorem pair_lt {n n' x y : Nat} (hx : x < n) (hy : y < n') : x * n' + y < n * n' := by
  have := Nat.mul_le_mul_right n' (show x + 1 ≤ n from hx)
  rw [Nat.succ_mul] at this
  omega
theorem pair_eq {n' a b : Nat} (h1 : a / n' = b / n') (h2 : a % n' = b % n') : a = b := by
  rw [← Nat.div_add_mod a n', ← Nat.div_add_mod b n', h1, h2]

theorem prod_dom {rows rows' : Rows2} (h : prodOk rows rows' = true) : domB (prodL rows rows') = true := by
  have h' := h
  unfold prodOk at h'
  rw [Bool.and_eq_true, Bool.and_eq_true, decide_eq_true_iff] at h'
  obtain ⟨⟨hd, hd'⟩, hl⟩ := h'
  obtain ⟨ok, ⟨m, hm, hme⟩, hj⟩ := domB_iff.1 hd
  obtain ⟨ok', ⟨m', hm', hme'⟩, hj'⟩ := domB_iff.1 hd'
  rw [prodL_made h]
  have n1 := ok.len
  have n2 := ok'.len
  have hq : ∀ a, a < rows.length * rows'.length → a / rows'.length < rows.length := fun a ha => Nat.div_lt_of_lt_mul (by rw [Nat.mul_comm]; exact ha)
  have hr : ∀ a, a % rows'.length < rows'.length := fun a => Nat.mod_lt _ (by omega)
  have hand : ∀ p q r s : Bool, ((p && q) && (r && s)) = ((p && r) && (q && s)) := by decide
  refine made_dom (Nat.mul_pos n1.1 n2.1) hl (fun a ha => ?_) (fun a b ha hb hab hne => ?_) (fun a b c ha hb hc hab hbc => ?_) ⟨m * rows'.length + m', pair_lt hm hm', fun k hk => ?_⟩ (fun a b ha hb hc => ?_)
  · unfold prodB
    rw [ok.own _ (hq a ha), ok'.own _ (hr a)]
    rfl
  · unfold prodB at hab ⊢
    rw [Bool.and_eq_true] at hab
    by_cases e : b / rows'.length = a / rows'.length
    · rw [ok'.anti _ _ (hr a) hab.2 (fun e2 => hne (pair_eq e e2)), Bool.and_false]
    · rw [ok.anti _ _ (hq a ha) hab.1 e, Bool.false_and]
  · unfold prodB at hab hbc ⊢
    rw [Bool.and_eq_true] at hab hbc
    rw [ok.trans _ _ (hq a ha) hab.1 _ hbc.1, ok'.trans _ _ (hr a) hab.2 _ hbc.2]
    rfl
  · unfold prodB
    obtain ⟨e1, e2⟩ := pair_parts (x := m) hm'
    rw [e1, e2, hme, hme', testBit_allF, testBit_allF, decide_eq_true (hq k hk), decide_eq_true (hr k)]
    rfl
  · obtain ⟨c, hcl, h1, h2⟩ := hc
    unfold prodB at h1 h2
    rw [Bool.and_eq_true] at h1 h2
    have hne1 : gridF rows (a / rows'.length) &&& gridF rows (b / rows'.length) ≠ 0 := fun e => by
      have := congrArg (fun n => n.testBit (c / rows'.length)) e
      simp only [Nat.testBit_and, h1.1, h2.1, Nat.zero_testBit] at this
      cases this
    have hne2 : gridF rows' (a % rows'.length) &&& gridF rows' (b % rows'.length) ≠ 0 := fun e => by
      have := congrArg (fun n => n.testBit (c % rows'.length)) e
      simp only [Nat.testBit_and, h1.2, h2.2, Nat.zero_testBit] at this
      cases this
    obtain ⟨c1, hc1, e1⟩ := hj _ _ (hq a ha) (hq b hb) hne1
    obtain ⟨c2, hc2, e2⟩ := hj' _ _ (hr a) (hr b) hne2
    refine ⟨c1 * rows'.length + c2, pair_lt hc1 hc2, fun k _ => ?_⟩
    unfold prodB
    obtain ⟨p1, p2⟩ := pair_parts (x := c1) hc2
    rw [p1, p2, e1, e2, Nat.testBit_and, Nat.testBit_and, hand]

/-- The list f is a monotone function of n elements with the relation F to N elements with the relation B. -/
def MonoQ (F B : Nat → Nat → Bool) (n N : Nat) (f : List Int) : Prop :=
  f.length = n ∧ (∀ x ∈ f, outN N x = false) ∧ ∀ a b : Nat, a < n → b < n → F a b = true → B (f.getD a 0).toNat (f.getD b 0).toNat = true
theorem mono_made {rows : Rows2} {B : Nat → Nat → Bool} {N : Nat} (h : Ok rows) (f : List Int) : monoI rows (madeL B N) f = true ↔ MonoQ (bitB (gridF rows)) B rows.length N f := by
  classical
  unfold monoI
  rw [decide_eq_true_iff]
  have e : ∀ x : Int, outN N x = false ↔ (0 ≤ x ∧ x < (N : Int)) := fun x => by
    unfold outN
    rw [Bool.or_eq_false_iff, decide_eq_false_iff_not, decide_eq_false_iff_not]
    omega
  have hup : ∀ a b : Nat, a < N → b < N → (upB (madeL B N) a (b : Int) = true ↔ B a b = true) := fun a b ha hb => by
    unfold upB
    rw [getD_at [] (by rw [madeL_len]; exact ha), madeL_at, decide_eq_true_iff, bRow_mem]
    constructor
    · rintro ⟨k, _, h2, e3⟩
      obtain rfl : b = k := by omega
      exact h2
    · intro h2
      exact ⟨b, hb, h2, rfl⟩
  unfold Mono MonoQ bitB
  rw [madeL_len]
  constructor
  · rintro ⟨h1, h2, h3⟩
    refine ⟨h1, fun x hx => (e x).2 (h2 x hx), fun a b ha hb hab => ?_⟩
    have h4 := h3 a b ha hb (by rw [h.up ha]; exact hab)
    have hfa := h2 _ (getD_lt 0 (h1 ▸ ha) ▸ List.getElem_mem (h1 ▸ ha))
    have hfb := h2 _ (getD_lt 0 (h1 ▸ hb) ▸ List.getElem_mem (h1 ▸ hb))
    rw [← Int.toNat_of_nonneg hfb.1, hup _ _ (by omega) (by omega)] at h4
    exact h4
  · rintro ⟨h1, h2, h3⟩
    refine ⟨h1, fun x hx => (e x).1 (h2 x hx), fun a b ha hb hab => ?_⟩
    have h4 := h3 a b ha hb (by rw [← h.up ha]; exact hab)
    have ma : f.getD a 0 ∈ f := getD_lt 0 (h1 ▸ ha) ▸ List.getElem_mem (h1 ▸ ha)
    have mb : f.getD b 0 ∈ f := getD_lt 0 (h1 ▸ hb) ▸ List.getElem_mem (h1 ▸ hb)
    have hfa := (e _).1 (h2 _ ma)
    have hfb := (e _).1 (h2 _ mb)
    rw [← Int.toNat_of_nonneg hfb.1, hup _ _ (by omega) (by omega)]
    exact h4
end Go.Proofs.YtkhhbpeheikmfaaDoor

/- While isMonotone runs: what of the two domains' memory is needed, and the list. Plain facts on worlds: no function is walked here. -/
namespace Go.Proofs.YtkhhbpeheikmfaaDoor
open Go.RowKit Go.Deep

structure MK (w : World) (K : World → Prop) (vf : Value) (f : List Int) (W : World) : Prop where
  kept : K W
  f : IntsAt W vf f
  below : Below w.heap.size w W
theorem MK.step {w : World} {K : World → Prop} {vf : Value} {f : List Int} {W W' : World} (h : MK w K vf f W) (hK : Stays w K) (hb : Below W.heap.size W W') : MK w K vf f W' :=
  ⟨hK _ _ (hb.mono h.below.size) h.kept, h.f.below hb, h.below.trans (hb.mono h.below.size)⟩
theorem Stays.and {w : World} {K L : World → Prop} (h : Stays w K) (k : Stays w L) : Stays w (fun W => K W ∧ L W) := fun W W' hb hx => ⟨h W W' hb hx.1, k W W' hb hx.2⟩
theorem run_prod_nilAhead (m : Nat) (v v' : Value) (w : World) : (Go.nilAhead (m + 1) 67 (.agg #[v, v']) "loop.example/scottdomains/impl.below").run Tryd.prog w = .ok (some false) w := by kernel_rfl
end Go.Proofs.YtkhhbpeheikmfaaDoor

/- The walk of isMonotone: from a grid to a function domain. -/
namespace Go.Proofs.YtkhhbpeheikmfaaDoor
open Go.RowKit Go.Deep Go.Shelf

theorem run_fun_nilAhead (m : Nat) (v v' : Value) (w : World) : (Go.nilAhead (m + 1) 54 (.agg #[v, v']) "loop.example/scottdomains/impl.below").run Tryd.prog w = .ok (some false) w := by kernel_rfl

set_option maxRecDepth 100000 in
set_option maxHeartbeats 8000000 in
theorem toFunMono_any (b p m : Nat) (g h : Nat → Nat) (vl : Value) (R : Rows2) (n n' : Nat) (vf : Value) (f : List Int) (w : World) (hg : GridAt w b g) (hn : GridN g n) (kg : GridAt w p h) (kv : RowsAt w vl R) (kR : Lists R m) (km : m ≤ 200) (kl : R.length ≤ 200) (hNN : n' = R.length) (hf : IntsAt w vf f) (t : Bool) (ht : t = true ↔ MonoQ (bitB g) (funG h R m) n n' f) :
    Calls Tryd.prog 47 #[.iface 63 (.pointer (some ⟨b, 0, none⟩)), .iface 54 (.agg #[vl, gridV p]), vf] w (SaysN t w) := by
  have hmS := run_size
  have hmB := run_below
  have hmN := fun b w => run_nilAhead 252 b w
  have hmS2 := run_fun_size
  have hmB2 := run_fun_below
  have hmN2 := fun v v' w => run_fun_nilAhead 252 v v' w
  have hM : MK w (fun W => Below w.heap.size w W) vf f w := ⟨Below.refl _ _, hf, Below.refl _ _⟩
  have hK : Stays w (fun W => Below w.heap.size w W) := fun _ _ hb hk => hk.trans hb
  have hnle : n ≤ 200 := hn.le
  have hnle' : n' ≤ 40000 := by rw [hNN]; omega
  have hsz := fun W (hk : (fun W => Below w.heap.size w W) W) => size_any b n g W (hg.below hk hg.lt) hn.le hn.some hn.none
  have hsz' := fun W (hk : (fun W => Below w.heap.size w W) W) => (show Calls Tryd.prog 122 #[.agg #[vl, gridV p]] W (SaysI ((n' : Nat) : Int) W) by rw [hNN]; exact funSize_any p vl R W (kv.below hk))
  have hbF := fun W (hk : (fun W => Below w.heap.size w W) W) (x y : Nat) (hx : x < n) (hy : y < n) => (show Calls Tryd.prog 99 #[.pointer (some ⟨b, 0, none⟩), .int .i64 (x : Int), .int .i64 (y : Int)] W (SaysN (bitB g x y) W) from gbelow_any b g x y x y W (hg.below hk hg.lt) rfl (by omega) rfl (by omega))
  have hbT := fun W (hk : (fun W => Below w.heap.size w W) W) (x y : Nat) (hx : x < n') (hy : y < n') => funBelow_any p h vl R m x y W (kg.below hk kg.lt) (kv.below hk) kR km (by rw [← hNN]; exact hx) (by rw [← hNN]; exact hy)
  obtain ⟨Af, Cf, rfl, hCf, hmf, _, _⟩ := hf
  unfold maxLen at hmf
  have HM := Lib.hid hM
  have HSZ := Lib.hid hsz
  have HSZ' := Lib.hid hsz'
  have HT := Lib.hid ht
  have HBF := Lib.hid hbF
  have HBT := Lib.hid hbT
  have HKK := Lib.hid hK
  clear hg hn kg kv kR km kl hM hsz hsz' hbF hbT ht hK hNN
  by_cases hfl : f.length = n
  · have hb : ((f.length : Int) == (n : Int)) = true := by rw [beq_iff_eq]; omega
    have hb2 : (f.length == n) = true := by rw [beq_iff_eq]; omega
    have hb3 : ((f.length : Int) != (n : Int)) = false := by unfold bne; rw [hb]; rfl
    have hb4 : (f.length != n) = false := by unfold bne; rw [hb2]; rfl
    have hfn : f.length ≤ 200 := by omega
    have HFL := Lib.hid hfl
    clear hfl
    by_cases hout : ∃ x ∈ f, outN n' x = true
    · obtain rfl : t = false := by
        cases t with
        | false => rfl
        | true =>
          obtain ⟨x, hx, ho⟩ := hout
          have := (HT.out.1 rfl).2.1 x hx
          rw [this] at ho
          cases ho
      have HAB := Lib.hid (fun W h => allBelow_any (.slice Af f.length Cf) f n' W false ⟨fun h => (by cases h), fun h => by obtain ⟨x, hx, ho⟩ := hout; rw [h x hx] at ho; cases ho⟩ h)
      clear hout
      go_enter Tryd.func47, Tryd.ntmps47
      go_wp2_with (first | (go_at_call 48; refine (HSZ.out _ HM.out.kept).mono ?_; clear HSZ; rintro e w1 ⟨rfl, hb1⟩; have M1 := Lib.hid (HM.out.step HKK.out hb1); clear hb1) | (go_at_call 122; refine (HSZ'.out _ M1.out.kept).mono ?_; clear HSZ'; rintro e w2 ⟨rfl, hb2⟩; have M2 := Lib.hid (M1.out.step HKK.out hb2); clear hb2) | (go_at_call 69; refine (HAB.out _ M2.out.f).mono ?_; rintro e w3 ⟨rfl, hb9⟩; have M3 := Lib.hid (M2.out.step HKK.out hb9); clear hb9))
      go_ret
      exact ⟨rfl, M3.out.below⟩
    · have HAB := Lib.hid (fun W h => allBelow_any (.slice Af f.length Cf) f n' W true ⟨fun _ x hx => by cases hq : outN n' x with | false => rfl | true => exact absurd ⟨x, hx, hq⟩ hout, fun _ => rfl⟩ h)
      have HO := Lib.hid hout
      clear hout
      go_enter Tryd.func47, Tryd.ntmps47
      go_wp2_with (first | (go_at_call 48; refine (HSZ.out _ HM.out.kept).mono ?_; clear HSZ; rintro e w1 ⟨rfl, hb1⟩; have M1 := Lib.hid (HM.out.step HKK.out hb1); clear hb1) | (go_at_call 122; refine (HSZ'.out _ M1.out.kept).mono ?_; clear HSZ'; rintro e w2 ⟨rfl, hb2⟩; have M2 := Lib.hid (M1.out.step HKK.out hb2); clear hb2) | (go_at_call 69; refine (HAB.out _ M2.out.f).mono ?_; rintro e w3 ⟨rfl, hb9⟩; have M3 := Lib.hid (M2.out.step HKK.out hb9); clear hb9))
      have HRNG := Lib.hid (show ∀ q (hq : q < f.length), 0 ≤ f[q] ∧ f[q] < n' from fun q hq => by
        have h : ¬ (outN n' f[q] = true) := fun h => HO.out ⟨_, List.getElem_mem hq, h⟩
        unfold outN at h
        rw [Bool.or_eq_true, decide_eq_true_iff, decide_eq_true_iff] at h
        omega)
      clear HO
      go_loopw [7, 23] (fun _ av wr => ∃ a : Nat, a ≤ f.length ∧ av = .int .i64 a ∧ (∀ q, q < a → ∀ c, c < f.length → (bitB g) q c = true → (funG h R m) (f.getD q 0).toNat (f.getD c 0).toNat = true) ∧ MK w (fun W => Below w.heap.size w W) (.slice Af f.length Cf) f wr) (fun _ av _ => f.length - (intOf av).toNat)
      case atStart => exact ⟨0, Nat.zero_le _, rfl, fun _ h => absurd h (Nat.not_lt_zero _), M3.out⟩
      case round =>
        obtain ⟨a, ha, rfl, hp, hm⟩ := hrel
        have HP := Lib.hid hp
        have MA := Lib.hid hm
        clear hp hm
        by_cases hal : a < f.length
        · go_wp2
          go_loopw [8, 28] (fun _ cv wr => ∃ c : Nat, c ≤ f.length ∧ cv = .int .i64 c ∧ (∀ q, q < c → (bitB g) a q = true → (funG h R m) (f.getD a 0).toNat (f.getD q 0).toNat = true) ∧ MK w (fun W => Below w.heap.size w W) (.slice Af f.length Cf) f wr) (fun _ cv _ => f.length - (intOf cv).toNat)
          case atStart => exact ⟨0, Nat.zero_le _, rfl, fun _ h => absurd h (Nat.not_lt_zero _), MA.out⟩
          case round =>
            obtain ⟨c, hc, rfl, hp, hm⟩ := hrel
            have HQ := Lib.hid hp
            have MC := Lib.hid hm
            clear hp hm
            by_cases hcl : c < f.length
            · have hfa := HRNG.out a hal
              have hfc := HRNG.out c hcl
              obtain ⟨ka, hka⟩ : ∃ ka : Nat, f[a] = (ka : Int) := ⟨f[a].toNat, by omega⟩
              obtain ⟨kc, hkc⟩ : ∃ kc : Nat, f[c] = (kc : Int) := ⟨f[c].toNat, by omega⟩
              have hDa : (f.getD a 0).toNat = ka := by rw [getD_lt 0 hal, hka]; rfl
              have hDc : (f.getD c 0).toNat = kc := by rw [getD_lt 0 hcl, hkc]; rfl
              have hka2 : ka < n' := by omega
              have hkc2 : kc < n' := by omega
              have hcA : ∀ W, IntsAt W (.slice Af f.length Cf) f → ∃ b o, Af = some ⟨b, o, none⟩ ∧ W.cell? ⟨b, o + a, none⟩ = some (.int .i64 (ka : Int)) ∧ W.cell? ⟨b, o + c, none⟩ = some (.int .i64 (kc : Int)) := fun W h => by
                obtain ⟨b1, o1, e1, h1⟩ := h.get hal
                obtain ⟨b2, o2, e2, h2⟩ := h.get hcl
                rw [e1] at e2
                cases e2
                rw [hka] at h1
                rw [hkc] at h2
                exact ⟨b1, o1, e1, h1, h2⟩
              have HCA := Lib.hid hcA
              obtain ⟨b1, o1, rfl, h1, h2⟩ := hcA _ MC.out.f
              clear hcA hfa hfc hka hkc
              have hcall := fun d os => HBF.out _ (MC.out.step HKK.out (below_regrown wr d os)).kept a c (by have := HFL.out; omega) (by have := HFL.out; omega)
              have hcall' := fun d os => HBT.out _ (MC.out.step HKK.out (below_regrown wr d os)).kept ka kc hka2 hkc2
              have hl1 := fun d os => cell_regrown h1 d os
              have hl2 := fun d os => cell_regrown h2 d os
              cases hbit : (bitB g) a c with
              | false =>
                simp only [hbit] at hcall
                have HB := Lib.hid hbit
                clear hbit
                go_wp2
                refine wp_region_quiet_below (by kernel_rfl) (by kernel_rfl) ?_
                repeat (go_big_quiet_step (first | (go_at_call 99; exact Calls.regrown_of (hcall _ _)) | (go_at_call 121; exact Calls.regrown_of (hcall' _ _))))
                refine wpQuiet_nil ?_
                intro _ hw'
                obtain ⟨⟨dq, osq⟩, hw''⟩ := hw'
                subst hw''
                clear hcall hcall' hl1 hl2
                go_wp2
                go_roundw
                case rel =>
                  refine ⟨c + 1, by omega, by go_num, fun q hq hb => ?_, (MC.out.step HKK.out (below_regrown wr dq osq))⟩
                  by_cases e : q = c
                  · subst e; rw [HB.out] at hb; cases hb
                  · exact HQ.out q (by omega) hb
                case measure => simp [intOf]; omega
              | true =>
                simp only [hbit] at hcall
                cases hbit' : (funG h R m) ka kc with
                | true =>
                  simp only [hbit'] at hcall'
                  have HB := Lib.hid (show (funG h R m) (f.getD a 0).toNat (f.getD c 0).toNat = true by rw [hDa, hDc]; exact hbit')
                  clear hbit hbit' hDa hDc
                  go_wp2
                  refine wp_region_quiet_below (by kernel_rfl) (by kernel_rfl) ?_
                  repeat (go_big_quiet_step (first | (go_at_call 99; exact Calls.regrown_of (hcall _ _)) | (go_at_call 121; exact Calls.regrown_of (hcall' _ _))))
                  refine wpQuiet_nil ?_
                  intro _ hw'
                  obtain ⟨⟨dq, osq⟩, hw''⟩ := hw'
                  subst hw''
                  clear hcall hcall' hl1 hl2
                  go_wp2
                  go_roundw
                  case rel =>
                    refine ⟨c + 1, by omega, by go_num, fun q hq hb => ?_, (MC.out.step HKK.out (below_regrown wr dq osq))⟩
                    by_cases e : q = c
                    · subst e; exact HB.out
                    · exact HQ.out q (by omega) hb
                  case measure => simp [intOf]; omega
                | false =>
                  simp only [hbit'] at hcall'
                  obtain rfl : t = false := by
                    cases t with
                    | false => rfl
                    | true =>
                      have := (HT.out.1 rfl).2.2 a c (by have := HFL.out; omega) (by have := HFL.out; omega) hbit
                      rw [hDa, hDc, hbit'] at this
                      cases this
                  clear hbit hbit' hDa hDc
                  go_wp2
                  refine wp_region_quiet_below (by kernel_rfl) (by kernel_rfl) ?_
                  repeat (go_big_quiet_step (first | (go_at_call 99; exact Calls.regrown_of (hcall _ _)) | (go_at_call 121; exact Calls.regrown_of (hcall' _ _))))
                  refine wpQuiet_nil ?_
                  intro _ hw'
                  obtain ⟨⟨dq, osq⟩, hw''⟩ := hw'
                  subst hw''
                  clear hcall hcall' hl1 hl2
                  go_wp2
                  go_ret
                  exact ⟨rfl, (MC.out.step HKK.out (below_regrown wr dq osq)).below⟩
            · obtain rfl : c = f.length := by omega
              go_wp2
              go_roundw
              case rel =>
                refine ⟨a + 1, by omega, by go_num, fun q hq c hc hb => ?_, MC.out⟩
                by_cases e : q = a
                · subst e; exact HQ.out c hc hb
                · exact HP.out q (by omega) c hc hb
              case measure => simp [intOf]; omega
        · obtain rfl : a = f.length := by omega
          obtain rfl : t = true := HT.out.2 ⟨HFL.out, fun x hx => by
            obtain ⟨i, hi, rfl⟩ := List.getElem_of_mem hx
            have := HRNG.out i hi
            unfold outN
            rw [Bool.or_eq_false_iff, decide_eq_false_iff_not, decide_eq_false_iff_not]
            omega, fun p q hp hq hb => HP.out p (by rw [HFL.out]; exact hp) q (by rw [HFL.out]; exact hq) hb⟩
          go_wp2
          go_ret
          exact ⟨rfl, MA.out.below⟩
  · have hb : ((f.length : Int) == (n : Int)) = false := by rw [beq_eq_false_iff_ne]; omega
    have hb2 : (f.length == n) = false := by rw [beq_eq_false_iff_ne]; omega
    have hb3 : ((f.length : Int) != (n : Int)) = true := by unfold bne; rw [hb]; rfl
    have hb4 : (f.length != n) = true := by unfold bne; rw [hb2]; rfl
    obtain rfl : t = false := by
      cases t with
      | false => rfl
      | true => exact absurd (HT.out.1 rfl).1 hfl
    clear hfl
    go_enter Tryd.func47, Tryd.ntmps47
    go_wp2_with (go_at_call 48; refine (HSZ.out _ HM.out.kept).mono ?_; clear HSZ; rintro e w1 ⟨rfl, hb1⟩; have M1 := Lib.hid (HM.out.step HKK.out hb1); clear hb1)
    go_ret
    exact ⟨rfl, M1.out.below⟩
end Go.Proofs.YtkhhbpeheikmfaaDoor

/- The program's DomainUncurry. -/
namespace Go.Proofs.YtkhhbpeheikmfaaDoor
open Go.RowKit Go.Deep Go.Shelf

/-- The rows of L at the first k numbers of a list, one behind the other. -/
def flatX (L : Rows2) (xs : List Int) (k : Nat) : List Int := (xs.take k).flatMap fun x => L.getD x.toNat []
theorem flatX_zero (L : Rows2) (xs : List Int) : flatX L xs 0 = [] := rfl
theorem flatX_succ {L : Rows2} {xs : List Int} {k : Nat} (hk : k < xs.length) : flatX L xs (k + 1) = flatX L xs k ++ L.getD (xs.getD k 0).toNat [] := by
  unfold flatX
  rw [List.take_succ_eq_append_getElem hk, List.flatMap_append, getD_lt 0 hk]
  simp
theorem flatX_len {L : Rows2} {m : Nat} (hL : Lists L m) (xs : List Int) : ∀ k, (flatX L xs k).length ≤ k * m
  | 0 => Nat.zero_le _
  | k + 1 => by
    by_cases hk : k < xs.length
    · rw [flatX_succ hk, List.length_append]
      have h1 := flatX_len hL xs k
      have h2 : (L.getD (xs.getD k 0).toNat []).length ≤ m := by
        by_cases h : (xs.getD k 0).toNat < L.length
        · rw [getD_lt [] h]; exact Nat.le_of_eq (hL _ (List.getElem_mem h)).1
        · rw [List.getD_eq_getElem?_getD, List.getElem?_eq_none (by omega)]; exact Nat.zero_le _
      rw [Nat.succ_mul]
      omega
    · have h1 := flatX_len hL xs k
      have e : flatX L xs (k + 1) = flatX L xs k := by unfold flatX; rw [List.take_of_length_le (by omega), List.take_of_length_le (by omega)]
      rw [e, Nat.succ_mul]
      omega
theorem flatX_wf {L : Rows2} {m : Nat} (hL : Lists L m) (xs : List Int) (k : Nat) : ∀ y ∈ flatX L xs k, (Lit.int .i64 y).wf = true := fun y hy => by
  unfold flatX at hy
  obtain ⟨x, _, hy2⟩ := List.mem_flatMap.1 hy
  by_cases h : x.toNat < L.length
  · rw [getD_lt [] h] at hy2
    have := (hL _ (List.getElem_mem h)).2 y hy2
    exact wf_int (by omega) (by omega)
  · rw [List.getD_eq_getElem?_getD, List.getElem?_eq_none (by omega)] at hy2
    cases hy2

/-- A list in memory of its own, and a truth value. -/
def OwnB (xs : List Int) (t : Bool) (w : World) (e : Ending) (w' : World) : Prop :=
  ∃ v, e = .returned (.tuple #[v, .bool t]) ∧ OwnI 3 w' v xs w.heap.size w'.heap.size ∧ Below w.heap.size w w'
/-- What DomainUncurry answers. -/
noncomputable def uncB (r0 r1 r2 : Rows2) (x : List Int) : Bool := domB r0 && funB r1 r2 && monoI r0 (funL r1 r2) x
noncomputable def uncL (r0 r1 r2 : Rows2) (x : List Int) : List Int := if uncB r0 r1 r2 x = true then flatX (I2 (funsR r1 r2)) x x.length else []
theorem uncL_yes {r0 r1 r2 : Rows2} {x : List Int} (h : uncB r0 r1 r2 x = true) : uncL r0 r1 r2 x = flatX (I2 (funsR r1 r2)) x x.length := if_pos h
theorem uncL_no {r0 r1 r2 : Rows2} {x : List Int} (h : uncB r0 r1 r2 x = false) : uncL r0 r1 r2 x = [] := if_neg (by rw [h]; simp)
theorem funL_made {r1 r2 : Rows2} (h : funB r1 r2 = true) : funL r1 r2 = madeL (funG (gridF r2) (I2 (funsR r1 r2)) r1.length) (funsR r1 r2).length := if_pos h
theorem mono_funL {r0 r1 r2 : Rows2} (h : funB r1 r2 = true) (hok : Ok r0) (x : List Int) : monoI r0 (funL r1 r2) x = true ↔ MonoQ (bitB (gridF r0)) (funG (gridF r2) (I2 (funsR r1 r2)) r1.length) r0.length (funsR r1 r2).length x := by
  rw [funL_made h]
  exact mono_made hok x

theorem owns_lower {W : World} {lo lo' n : Nat} {t : TypeId} {v : Value} {xs : List Value} (h : W.ownsRow lo t 1 v n xs) (hl : lo' ≤ lo) : W.ownsRow lo' t 1 v n xs := by
  obtain ⟨h1, h2 | ⟨g, c, cur, rfl, h3, h4⟩⟩ := h
  · exact ⟨h1, .inl h2⟩
  · exact ⟨h1, .inr ⟨g, c, cur, rfl, by omega, h4⟩⟩
/-- Three orders in their variables. -/
structure Th3 (w : World) (v v' v2 : Value) (rows rows' rows2 : Rows2) (W : World) : Prop where
  two : Two w v v' rows rows' W
  c2 : W.cell? ⟨w.heap.size + 2, 0, none⟩ = some v2
  r2 : RowsAt W v2 rows2
theorem Th3.step {w : World} {v v' v2 : Value} {rows rows' rows2 : Rows2} {W W' : World} (h : Th3 w v v' v2 rows rows' rows2 W) (hb : Below W.heap.size W W') : Th3 w v v' v2 rows rows' rows2 W' :=
  ⟨h.two.step hb, (hb.cell (p := ⟨w.heap.size + 2, 0, none⟩) (cell_lt h.c2)).trans h.c2, h.r2.below hb⟩
theorem Th3.start (w : World) {v v' v2 : Value} {rows rows' rows2 : Rows2} (t : TypeId) (hv : RowsAt w v rows) (hv' : RowsAt w v' rows') (hv2 : RowsAt w v2 rows2) : Th3 w v v' v2 rows rows' rows2 (((w.alloc (.cells #[v] t)).alloc (.cells #[v'] t)).alloc (.cells #[v2] t)) := by
  have h := Two.start w t t hv hv'
  have s2 : ((w.alloc (.cells #[v] t)).alloc (.cells #[v'] t)).heap.size = w.heap.size + 2 := by rw [World.size_alloc, World.size_alloc]
  have b := (Below.refl ((w.alloc (.cells #[v] t)).alloc (.cells #[v'] t)).heap.size ((w.alloc (.cells #[v] t)).alloc (.cells #[v'] t))).alloc (Nat.le_refl _) (.cells #[v2] t)
  have hc := (World.rowIs_alloc ((w.alloc (.cells #[v] t)).alloc (.cells #[v'] t)) #[v2] t (fun _ => v2) (fun i hi => by simp at hi; subst hi; rfl)).cell (i := 0) (by simp)
  rw [s2] at hc
  exact ⟨h.step b, hc, (hv2.below h.below).below b⟩

set_option maxRecDepth 100000 in
set_option maxHeartbeats 8000000 in
theorem implUnc_any (v v' v2 vf : Value) (r0 r1 r2 : Rows2) (x : List Int) (w : World) (hv : RowsAt w v r0) (hv' : RowsAt w v' r1) (hv2 : RowsAt w v2 r2) (hf : IntsAt w vf x) (hT : Tab w) (hn : bulk r0 ≤ 1048576) (hn' : bulk r1 ≤ 1048576) (hn2 : bulk r2 ≤ 1048576) :
    Calls Tryd.prog 30 #[.agg #[v], .agg #[v'], .agg #[v2], vf] w (OwnB (uncL r0 r1 r2 x) (uncB r0 r1 r2 x) w) := by
  have h0 := Th3.start w 26 hv hv' hv2
  have hd1 := domainOf_any _ r0 _ h0.two.r0 (hT.below h0.two.below) hn
  have hc0 := h0.two.c0
  have HF := Lib.hid (fun W (h : Below w.heap.size w W) => hf.below h)
  have HTA := Lib.hid (fun W (h : Below w.heap.size w W) => hT.below h)
  obtain ⟨A, C, rfl, _⟩ := hv
  obtain ⟨A', C', rfl, _⟩ := hv'
  obtain ⟨A2, C2, rfl, _⟩ := hv2
  obtain ⟨Af, Cf, rfl, hCf, hmf, _⟩ := hf
  unfold maxLen at hmf
  have H0 := Lib.hid h0
  clear h0 hT
  go_enter Tryd.func30, Tryd.ntmps30
  go_wp2_with fail
  refine hd1.mono ?_
  rintro e w1 ⟨⟨q, rfl, hq⟩, hb1⟩
  have H1 := Lib.hid (H0.out.step hb1)
  have hc1 := H1.out.two.c1
  have hc2 := H1.out.c2
  have hfo := funsOf_any _ _ r1 r2 w1 H1.out.two.r1 H1.out.r2 (HTA.out _ H1.out.two.below) hn' hn2
  clear hd1 hc0 hb1
  go_wp2_with fail
  refine hfo.mono ?_
  rintro e w2 ⟨⟨u1, u2, rfl, hyes, hno⟩, hb2⟩
  have H2 := Lib.hid (H1.out.step hb2)
  have B12 := Lib.hid hb2
  have hz2 := H2.out.two.below.size
  clear hfo hc1 hc2 hb2
  have hub : uncB r0 r1 r2 x = (domB r0 && funB r1 r2 && monoI r0 (funL r1 r2) x) := rfl
  have HNO := Lib.hid (fun (h : uncB r0 r1 r2 x = false) W (hb : Below w.heap.size w W) => show OwnB (uncL r0 r1 r2 x) (uncB r0 r1 r2 x) w (.returned (.tuple #[.slice none 0 0, .bool false])) W from ⟨_, by rw [h], by rw [uncL_no h]; exact OwnI.nil _ _ _ _, hb⟩)
  cases h1 : domB r0 with
  | false =>
    rw [h1] at hub
    have HE := Lib.hid (show uncB r0 r1 r2 x = false from hub)
    have hform : ∃ a n C, u1 = .slice a n C := by
      cases ht : funB r1 r2 with
      | false => exact ⟨none, 0, 0, (hno ht).1⟩
      | true =>
        obtain ⟨_, _, ho, _⟩ := hyes ht
        obtain ⟨a, C, e⟩ := ho.form
        exact ⟨a, _, C, e⟩
    have hform2 : u2 = .nilIface ∨ ∃ v, u2 = .iface 63 v := by
      cases ht : funB r1 r2 with
      | false => exact .inl (hno ht).2
      | true =>
        obtain ⟨q, e, _⟩ := hyes ht
        exact .inr ⟨_, e⟩
    obtain ⟨a0, n0, C0, rfl⟩ := hform
    clear hyes hno hq hub
    rcases hform2 with rfl | ⟨v9, rfl⟩
    · go_wp2
      go_ret2
      exact HNO.out HE.out _ (H2.out.two.below.alloc hz2 _)
    · go_wp2
      go_ret2
      exact HNO.out HE.out _ (H2.out.two.below.alloc hz2 _)
  | true =>
    rw [h1, Bool.true_and] at hub
    cases hfb : funB r1 r2 with
    | false =>
      rw [hfb] at hub
      have HE := Lib.hid (show uncB r0 r1 r2 x = false from hub)
      obtain ⟨rfl, rfl⟩ := hno hfb
      clear hyes hno hq hub
      go_wp2
      go_ret2
      exact HNO.out HE.out _ (H2.out.two.below.alloc hz2 _)
    | true =>
      rw [hfb, Bool.true_and] at hub
      obtain ⟨p, rfl, hg⟩ := hq h1
      obtain ⟨p', rfl, ho, hg'⟩ := hyes hfb
      obtain ⟨a1, C1, rfl⟩ := ho.form
      obtain ⟨k1, k2, hle⟩ := funB_iff.1 hfb
      have hok := dom_ok h1
      have hok2 := dom_ok k2
      have hb3 := (Below.refl w2.heap.size w2).alloc (Nat.le_refl _) (.cells #[.slice a1 (funsR r1 r2).length C1, gridV p'] 54)
      obtain ⟨n0, n1, n2⟩ := two_new w2 (.slice a1 (funsR r1 r2).length C1) (gridV p') 54
      obtain ⟨w3, hw3⟩ : ∃ w3, w3 = w2.alloc (.cells #[.slice a1 (funsR r1 r2).length C1, gridV p'] 54) := ⟨_, rfl⟩
      rw [← hw3] at hb3 n0 n1 n2
      have H3 := Lib.hid (H2.out.step hb3)
      have G3 := Lib.hid ((hg.below B12.out hg.lt).below hb3 (Nat.lt_of_lt_of_le hg.lt B12.out.size))
      have G3' := Lib.hid (hg'.below hb3 hg'.lt)
      have V3 := Lib.hid ((I2_at ho).below hb3)
      have hmo := toFunMono_any p p' r1.length (gridF r0) (gridF r2) (.slice a1 (funsR r1 r2).length C1) (I2 (funsR r1 r2)) r0.length (funsR r1 r2).length _ x w3 G3.out hok.gridN G3'.out V3.out (funs_lists hok2.len.2) (dom_ok k1).len.2 (by rw [I2_len]; exact hle) (I2_len _).symm (HF.out _ H3.out.two.below) (monoI r0 (funL r1 r2) x) (mono_funL hfb hok x)
      clear hyes hno hq hg hg' ho hb3
      go_wp2_with fail
      rw [← hw3]
      refine hmo.mono ?_
      rintro e w4 ⟨rfl, hb4⟩
      have H4 := Lib.hid (H3.out.step hb4)
      have m0 := (hb4.cell (p := ⟨w2.heap.size, 0, none⟩) (cell_lt n0)).trans n0
      have m1 := (hb4.cell (p := ⟨w2.heap.size, 1, none⟩) (cell_lt n1)).trans n1
      have G4 := Lib.hid (G3.out.below hb4 G3.out.lt)
      have V4 := Lib.hid (V3.out.below hb4)
      clear hmo n0 n1 n2 hb4
      cases hmn : monoI r0 (funL r1 r2) x with
      | false =>
        rw [hmn] at hub
        have HE := Lib.hid (show uncB r0 r1 r2 x = false from hub)
        clear hub
        go_wp2
        go_ret2
        exact HNO.out HE.out _ H4.out.two.below
      | true =>
        rw [hmn] at hub
        have HE := Lib.hid (show uncB r0 r1 r2 x = true from hub)
        have HMQ := Lib.hid ((mono_funL hfb hok x).1 hmn)
        have HLX := Lib.hid HMQ.out.1
        have hl0 := hok.len
        have hl1 := (dom_ok k1).len
        have hsz := fun (W : World) (hb : Below w4.heap.size w4 W) => size_any p r0.length (gridF r0) W (G4.out.below hb G4.out.lt) hl0.2 hok.gridN.some hok.gridN.none
        have HSZ := Lib.hid hsz
        have hcB := H4.out.two.c1
        have hLS := funs_lists (rows := r1) (rows' := r2) hok2.len.2
        have HLS := Lib.hid hLS
        obtain ⟨i0, hi0, hz0, hz1, hz2'⟩ := info_parts infoInt
        obtain ⟨N, hN⟩ : ∃ N, N = r0.length * r1.length := ⟨_, rfl⟩
        have hNZ : (r0.length : Int) * (r1.length : Int) = (N : Int) := by rw [hN, Int.natCast_mul]
        have hN2 : N ≤ 40000 := by rw [hN]; exact Nat.le_trans (Nat.mul_le_mul hl0.2 hl1.2) (by decide)
        have hwN : IntKind.i64.wrap (N : Int) = (N : Int) := IntWalk.i64_in _ (by omega)
        have hmk : ∀ W : World, (Instr.makeSlice 37 (.int .i64 0) (.int .i64 (N : Int))).run Tryd.prog W = .ok (.slice (some ⟨W.heap.size, 0, none⟩) 0 N) (W.alloc (.cells (madeCells #[.int .i64 0] N) 3)) := fun W => by
          have h := run_make (P := Tryd.prog) W 37 3 i0 _ Tryd.underlying37 hi0 hz0 .i64 .i64 0 (N : Int) (by omega) (by omega) (by rw [hz2']; omega) (by omega)
          rw [hz1, Int.toNat_natCast, Nat.mul_one] at h
          exact h
        have HOW := Lib.hid (show ∀ W : World, (W.alloc (.cells (madeCells #[.int .i64 0] N) 3)).ownsRow W.heap.size 3 1 (.slice (some ⟨W.heap.size, 0, none⟩) 0 N) 0 [] from fun W =>
          ⟨rfl, .inr ⟨W.heap.size, N, _, rfl, Nat.le_refl _, heap_alloc_new _ _, Nat.zero_le _, by unfold maxLen; omega, by rw [size_madeCells]; omega, by simp⟩⟩)
        have HNN := Lib.hid hN
        clear hub hmn hLS hsz hN
        go_upto_region 5 with fail
        go_cut [14] (fun sv wx => ∃ b, sv = .slice (some ⟨b, 0, none⟩) 0 N ∧ w4.heap.size ≤ b ∧ wx.ownsRow w4.heap.size 3 1 (.slice (some ⟨b, 0, none⟩) 0 N) 0 [] ∧ Below w4.heap.size w4 wx)
        case first =>
          have hcz := cell_lt hcB
          go_region_held3 (fun W' : World => W'.cell? ⟨w.heap.size + 1, 0, none⟩ = some (.slice A' r1.length C')) (first | exact cell_alloc_any hcB5 _ | exact hcB5 | exact hcB) (first | (go_at_call 48; refine (HSZ.out _ (below_drew w4 _)).mono ?_; rintro e w5 ⟨rfl, hb5⟩; have HB5 := Lib.hid ((below_drew w4 _).trans hb5); have hcB5 := (HB5.out.cell (p := ⟨w.heap.size + 1, 0, none⟩) hcz).trans hcB; clear hb5))
          all_goals
            go_wp2_with fail
            go_meet
          all_goals exact ⟨_, rfl, HB5.out.size, owns_lower (HOW.out w5) HB5.out.size, HB5.out.alloc HB5.out.size _⟩
        obtain ⟨b0, rfl, hb0, hown0, hbw0⟩ := hcut
        have HOWN0 := Lib.hid hown0
        have HBW0 := Lib.hid hbw0
        obtain ⟨L, hL⟩ : ∃ L, L = I2 (funsR r1 r2) := ⟨_, rfl⟩
        have HLN := Lib.hid (show L.length = (funsR r1 r2).length by rw [hL, I2_len])
        rw [← hL] at HLS V4
        have HLE := Lib.hid hL
        clear hown0 hbw0 hcB hL
        go_wp2
        go_loopw [14, 16, 52] (fun u _ iv wr => ∃ k : Nat, k ≤ x.length ∧ iv = .int .i64 k ∧ wr.ownsRow w4.heap.size 3 1 u (flatX L x k).length (cellsI (flatX L x k)) ∧ Below w4.heap.size w4 wr) (fun _ _ iv _ => x.length - (intOf iv).toNat)
        case atStart => exact ⟨0, Nat.zero_le _, rfl, HOWN0.out, HBW0.out⟩
        case round =>
          obtain ⟨k, hk, rfl, hown, hbw⟩ := hrel
          have HOWN := Lib.hid hown
          have HBW := Lib.hid hbw
          have hfl := flatX_len HLS.out x k
          clear hown hbw HOWN0 HBW0
          by_cases hlt : k < x.length
          · have hltz : (k : Int) < (x.length : Int) := by omega
            obtain ⟨bx, ox, rfl, hxa⟩ := (HF.out _ (H4.out.two.below.trans (HBW.out.mono H4.out.two.below.size))).get hlt
            have hxo := HMQ.out.2.1 _ (List.getElem_mem hlt)
            have hxr : 0 ≤ x[k] ∧ x[k] < ((funsR r1 r2).length : Int) := by
              unfold outN at hxo
              rw [Bool.or_eq_false_iff, decide_eq_false_iff_not, decide_eq_false_iff_not] at hxo
              omega
            have hgd : x.getD k 0 = x[k] := getD_lt 0 hlt
            generalize x[k] = xk at hxa hxr hgd
            obtain ⟨kk, rfl⟩ : ∃ kk : Nat, xk = (kk : Int) := ⟨xk.toNat, by omega⟩
            have hkl : kk < L.length := by have := HLN.out; omega
            have hkz : (kk : Int) < ((funsR r1 r2).length : Int) := hxr.2
            obtain ⟨b1, o1, rfl, hget⟩ := (V4.out.below HBW.out).get hkl
            obtain ⟨uk, huk, hik⟩ := hget kk hkl
            have hrow : (L.getD kk []).length = r1.length := by rw [getD_lt [] hkl]; exact (HLS.out _ (List.getElem_mem hkl)).1
            have HS := Lib.hid (show flatX L x (k + 1) = flatX L x k ++ L.getD kk [] by rw [flatX_succ hlt, hgd, Int.toNat_natCast])
            obtain ⟨ys, hys⟩ : ∃ ys, ys = L.getD kk [] := ⟨_, rfl⟩
            rw [← hys] at hik hrow HS
            obtain ⟨Ak, Ck, rfl, _, _, _, hcy⟩ := hik
            obtain ⟨bk, ok, rfl⟩ : ∃ bk ok, Ak = some ⟨bk, ok, none⟩ := by
              obtain ⟨bk, ok, e, _⟩ := hcy 0 (by omega)
              exact ⟨bk, ok, e⟩
            have hnews : ∀ j u, (cellsI ys)[j]? = some u → wr.cell? ((⟨bk, ok, none⟩ : Addr).add j) = some u := fun j u hj => by
              obtain ⟨hj', rfl⟩ := cellsI_at hj
              obtain ⟨b', o', e, hc⟩ := hcy j hj'
              cases e
              rw [Addr.add_lit]
              exact hc
            have HNEWS := Lib.hid hnews
            have q0 := (HBW.out.cell (p := ⟨w2.heap.size, 0, none⟩) (cell_lt m0)).trans m0
            rw [hrow] at huk
            have hcl : (cellsI ys).length = r1.length * 1 := by rw [Nat.mul_one, ← hrow]; simp
            have HROW := Lib.hid hrow
            have hkb : k * r1.length ≤ 200 * 200 := Nat.mul_le_mul (by have := HLX.out; omega) hl1.2
            clear hget hcy hys hnews hrow hgd hxr
            go_wp2_with (at_builtin; refine wpList_append_own _ rfl _ _ 37 rfl w4.heap.size 3 i0 (.int .i64 0) 1 8 Tryd.underlying37 hi0 hz0 hz1 hz2' rfl (by decide) _ _ _ rfl HOWN.out ⟨bk, ok, none⟩ r1.length Ck (cellsI ys) rfl hcl HNEWS.out cellsI_one (by unfold maxLen; omega) (by omega) HBW.out.size ?_; intro v' w6 hown' hgrow _)
            go_roundw
            case rel =>
              refine ⟨k + 1, by omega, by go_num, ?_, HBW.out.grown hgrow HBW.out.size (fun b e => (HOWN.out.lt b e).1)⟩
              rw [HS.out, List.length_append, show (cellsI (flatX L x k ++ ys)) = cellsI (flatX L x k) ++ cellsI ys by simp [cellsI], HROW.out]
              exact hown'
            case measure => simp [intOf]; omega
          · obtain rfl : k = x.length := by omega
            go_wp2
            go_ret2
            refine ⟨_, by rw [HE.out]; rfl, ?_, H4.out.two.below.trans (HBW.out.mono H4.out.two.below.size)⟩
            rw [uncL_yes HE.out, ← HLE.out]
            refine (OwnI.of_owns HOWN.out (fun y hy => flatX_wf HLS.out x x.length y hy) (fun b hb => (HOWN.out.lt b hb).2)).wider H4.out.two.below.size (Nat.le_refl _)
end Go.Proofs.YtkhhbpeheikmfaaDoor

/- The model's DomainUncurry. -/
namespace Go.Proofs.YtkhhbpeheikmfaaDoor
open Go.RowKit Go.Deep Go.Shelf

/-- Below B, all but block z is as it was. -/
structure BelowBut (z B : Nat) (w w' : World) : Prop where
  os : w'.os = w.os
  tape : w'.tape = w.tape
  output : w'.output = w.output
  size : w.heap.size ≤ w'.heap.size
  block : ∀ b, b < B → b ≠ z → w'.heap[b]? = w.heap[b]?
theorem BelowBut.refl (z B : Nat) (w : World) : BelowBut z B w w := ⟨rfl, rfl, rfl, Nat.le_refl _, fun _ _ _ => rfl⟩
theorem BelowBut.grown {z B : Nat} {w W W' : World} {row : Option Nat} (h : BelowBut z B w W) (hB : B ≤ w.heap.size) (hg : W.grownBy W' row) (hr : row = some z ∨ ∀ b, row = some b → B ≤ b) : BelowBut z B w W' :=
  ⟨hg.os.trans h.os, hg.tape.trans h.tape, hg.output.trans h.output, Nat.le_trans h.size hg.size, fun b hb hz => (hg.block b (by have := h.size; omega) (fun e => by
    rcases hr with k | k
    · rw [k] at e; injection e with e; exact hz e
    · have := k b e.symm; omega)).trans (h.block b hb hz)⟩
theorem BelowBut.below {z B n : Nat} {w W : World} (h : BelowBut z B w W) (hn : n ≤ z) (hB : n ≤ B) : Below n w W := ⟨h.os, h.tape, h.output, h.size, fun b hb => h.block b (by omega) (by omega)⟩
theorem made_lists {B : Nat → Nat → Bool} {N : Nat} (h1 : 1 ≤ N) (h2 : N ≤ 200) : listsB (madeL B N) = true := by
  unfold listsB
  rw [Bool.and_eq_true, Bool.and_eq_true, decide_eq_true_iff, decide_eq_true_iff, madeL_len]
  refine ⟨?_, h1, h2⟩
  rw [List.all_eq_true]
  intro r hr
  obtain ⟨q, hq, rfl⟩ := List.getElem_of_mem hr
  have := (ascB_iff _ _).2 (made_asc B N q hq)
  rw [madeL_len] at this
  exact this
theorem funs_one {r1 r2 : Rows2} (h : funB r1 r2 = true) : 1 ≤ (funsR r1 r2).length := by
  obtain ⟨k1, k2, _⟩ := funB_iff.1 h
  have := funs_least (rows := r1) (rows' := r2) (dom_ok k1) k2
  omega

set_option maxRecDepth 100000 in
set_option maxHeartbeats 8000000 in
theorem specUnc_any (v v' v2 vf : Value) (r0 r1 r2 : Rows2) (x : List Int) (w : World) (hv : RowsAt w v r0) (hv' : RowsAt w v' r1) (hv2 : RowsAt w v2 r2) (hf : IntsAt w vf x) (hn : bulk r0 ≤ 1048576) (hn' : bulk r1 ≤ 1048576) (hn2 : bulk r2 ≤ 1048576) :
    Calls Tryd.prog 29 #[.agg #[v], .agg #[v'], .agg #[v2], vf] w (OwnB (uncL r0 r1 r2 x) (uncB r0 r1 r2 x) w) := by
  have h0 := Th3.start w 26 hv hv' hv2
  have HF := Lib.hid (fun W (h : Below w.heap.size w W) => hf.below h)
  obtain ⟨A, C, rfl, _⟩ := hv
  obtain ⟨A', C', rfl, _⟩ := hv'
  obtain ⟨A2, C2, rfl, _⟩ := hv2
  obtain ⟨Af, Cf, rfl, hCf, hmf, _⟩ := hf
  unfold maxLen at hmf
  obtain ⟨W0, hW0⟩ : ∃ W0, W0 = ((w.alloc (.cells #[.slice A r0.length C] 26)).alloc (.cells #[.slice A' r1.length C'] 26)).alloc (.cells #[.slice A2 r2.length C2] 26) := ⟨_, rfl⟩
  rw [← hW0] at h0
  have hbz := (Below.refl W0.heap.size W0).alloc (Nat.le_refl _) (.cells #[] 3)
  have HOW := Lib.hid (World.ownsRow_made (e := 3) (size := 1) W0 #[] 0 (base := W0.heap.size) (Nat.le_refl _) (Nat.zero_le _) (by simp))
  obtain ⟨W1, hW1⟩ : ∃ W1, W1 = W0.alloc (.cells #[] 3) := ⟨_, rfl⟩
  rw [← hW1] at hbz HOW
  have h1 := h0.step hbz
  have hz1 : W0.heap.size < W1.heap.size := by rw [hW1]; simp
  have hz0 : W0.heap.size = w.heap.size + 3 := by rw [hW0]; simp
  have hall := all2_any _ _ r1 r2 W1 h1.two.r1 h1.r2 hn' hn2
  have hcB := h1.two.c1
  have hcC := h1.c2
  have H1 := Lib.hid h1
  have hw0 := h0.two.below.size
  clear h0 h1 hbz
  go_enter Tryd.func29, Tryd.ntmps29
  go_upto_region 2 with fail
  rw [← hW0, ← hW1]
  clear hW0 hW1
  go_wp2_with fail
  refine hall.mono ?_
  rintro e w2 ⟨⟨a1, m1, C1, rfl, hyes⟩, hb2⟩
  have H2 := Lib.hid (H1.out.step hb2)
  have B12 := Lib.hid hb2
  have hcB2 := H2.out.two.c1
  have hcC2 := H2.out.c2
  have hfun := specFun_any _ _ r1 r2 w2 H2.out.two.r1 H2.out.r2 hn' hn2
  clear hall hcB hcC hb2
  go_wp2_with fail
  refine hfun.mono ?_
  rintro e w3 ⟨u3, rfl, hu3, hb3⟩
  have H3 := Lib.hid (H2.out.step hb3)
  have B23 := Lib.hid hb3
  have hz3 := H3.out.two.below.size
  clear hfun hcB2 hcC2 hb3
  obtain ⟨a3, C3, rfl⟩ := hu3.form
  have hb4 := (Below.refl w3.heap.size w3).alloc (Nat.le_refl _) (.cells #[.slice a3 (funL r1 r2).length C3] 26)
  have hc4 := one_new w3 (.slice a3 (funL r1 r2).length C3) 26
  obtain ⟨w4, hw4⟩ : ∃ w4, w4 = w3.alloc (.cells #[.slice a3 (funL r1 r2).length C3] 26) := ⟨_, rfl⟩
  rw [← hw4] at hb4 hc4
  have H4 := Lib.hid (H3.out.step hb4)
  have B34 := Lib.hid hb4
  have B14 := Lib.hid (B12.out.trans ((B23.out.mono B12.out.size).trans (hb4.mono (Nat.le_trans B12.out.size B23.out.size))))
  have R4 := Lib.hid (hu3.at.below hb4)
  have HNO := Lib.hid (show ∀ (h : uncB r0 r1 r2 x = false) W (hb : Below W1.heap.size W1 W), OwnB (uncL r0 r1 r2 x) (uncB r0 r1 r2 x) w (.returned (.tuple #[.slice (some ⟨w.heap.size + 1 + 1 + 1, 0, none⟩) 0 0, .bool false])) W from fun h W hb => by
    refine ⟨_, by rw [h], ?_, H1.out.two.below.trans (hb.mono H1.out.two.below.size)⟩
    rw [uncL_no h]
    have ho := owns_below HOW.out hb
    rw [hz0] at ho
    have hs := hb.size
    exact (OwnI.of_owns (xs := []) ho (fun y hy => (by cases hy)) (fun b e => by
      have h4 : w.heap.size + 3 = b := by simpa [Value.ownBlock] using e
      omega)).wider (by omega) (Nat.le_refl _))
  have hub : uncB r0 r1 r2 x = (domB r0 && funB r1 r2 && monoI r0 (funL r1 r2) x) := rfl
  cases hfb : funB r1 r2 with
  | false =>
    rw [hfb, Bool.and_false] at hub
    have HE := Lib.hid (show uncB r0 r1 r2 x = false from hub)
    clear hub
    go_wp2
    rw [← hw4]
    go_ret2
    exact HNO.out HE.out _ B14.out
  | true =>
    rw [hfb, Bool.and_true] at hub
    have hd1 := specDom_any _ r0 w4 H4.out.two.r0 hn
    have hcA := H4.out.two.c0
    go_upto_region 4 with fail
    rw [← hw4]
    clear hw4
    go_wp2_with fail
    refine hd1.mono ?_
    rintro e w5 ⟨rfl, hb5⟩
    have H5 := Lib.hid (H4.out.step hb5)
    have B15 := Lib.hid (B14.out.trans (hb5.mono B14.out.size))
    have R5 := Lib.hid (R4.out.below hb5)
    have B25 := Lib.hid (B23.out.trans ((B34.out.mono B23.out.size).trans (hb5.mono (Nat.le_trans B23.out.size B34.out.size))))
    have hc5 := (hb5.cell (p := ⟨w3.heap.size, 0, none⟩) (cell_lt hc4)).trans hc4
    clear hd1 hcA hc4 hb5
    cases h0 : domB r0 with
    | false =>
      rw [h0, Bool.false_and] at hub
      have HE := Lib.hid (show uncB r0 r1 r2 x = false from hub)
      clear hub
      go_wp2
      go_ret2
      exact HNO.out HE.out _ B15.out
    | true =>
      rw [h0, Bool.true_and] at hub
      obtain ⟨k1, k2, hle⟩ := funB_iff.1 hfb
      obtain ⟨rfl, hown⟩ := hyes hfb
      have hok := dom_ok h0
      have hok2 := dom_ok k2
      have hl1 := (dom_ok k1).len
      have hmo := l2Monotone_any _ _ _ r0 (funL r1 r2) x w5 H5.out.two.r0 R5.out (HF.out _ H5.out.two.below) hn (fun_bulk r1 r2) (valid_lists (show validB r0 = true by have h := h0; unfold domB at h; rw [Bool.and_eq_true] at h; exact h.1)) (by rw [funL_made hfb]; exact made_lists (funs_one hfb) hle)
      have hcA := H5.out.two.c0
      go_wp2_with fail
      refine hmo.mono ?_
      rintro e w6 ⟨rfl, hb6⟩
      have H6 := Lib.hid (H5.out.step hb6)
      have B16 := Lib.hid (B15.out.trans (hb6.mono B15.out.size))
      have B26 := Lib.hid (B25.out.trans (hb6.mono B25.out.size))
      clear hmo hcA hc5 hb6
      cases hmn : monoI r0 (funL r1 r2) x with
      | false =>
        rw [hmn] at hub
        have HE := Lib.hid (show uncB r0 r1 r2 x = false from hub)
        clear hub
        go_wp2
        go_ret2
        exact HNO.out HE.out _ B16.out
      | true =>
        rw [hmn] at hub
        have HE := Lib.hid (show uncB r0 r1 r2 x = true from hub)
        have HMQ := Lib.hid ((mono_funL hfb hok x).1 hmn)
        have HLX := Lib.hid HMQ.out.1
        have hl0 := hok.len
        have hLS := funs_lists (rows := r1) (rows' := r2) hok2.len.2
        have HOWN1 := Lib.hid hown
        obtain ⟨i0, hi0, hz0', hz1', hz2'⟩ := info_parts infoInt
        have hO0 := owns_below HOW.out B16.out
        rw [hz0] at hO0
        have HO0 := Lib.hid hO0
        obtain ⟨L, hL⟩ : ∃ L, L = I2 (funsR r1 r2) := ⟨_, rfl⟩
        have HLN := Lib.hid (show L.length = (funsR r1 r2).length by rw [hL, I2_len])
        have HLE := Lib.hid hL
        rw [← hL] at hLS
        have HLS := Lib.hid hLS
        have hzz1 : w.heap.size + 3 < W1.heap.size := by omega
        have hB6 := B16.out.size
        have HV := Lib.hid (show ∀ W, BelowBut (w.heap.size + 3) w2.heap.size w6 W → RowsAt W (.slice a1 (funsR r1 r2).length C1) L from fun W hb => by
          rw [hL]
          refine I2_at (lo := W1.heap.size) (hi := w2.heap.size) (hown.kept fun b h1 h2 => ?_)
          exact (hb.block b h2 (by omega)).trans (B26.out.block b h2))
        have HB6 := Lib.hid (show w2.heap.size ≤ w6.heap.size from B26.out.size)
        have HZ2 := Lib.hid (show W1.heap.size ≤ w2.heap.size from B12.out.size)
        clear hub hmn hown hLS hL hO0 hyes
        go_wp2
        simp only [Nat.add_assoc, Nat.reduceAdd]
        go_loopw [10, 15] (fun u iv wr => ∃ k : Nat, k ≤ x.length ∧ iv = .int .i64 k ∧ wr.ownsRow (w.heap.size + 3) 3 1 u (flatX L x k).length (cellsI (flatX L x k)) ∧ (u.ownBlock = some (w.heap.size + 3) ∨ ∀ b, u.ownBlock = some b → w2.heap.size ≤ b) ∧ BelowBut (w.heap.size + 3) w2.heap.size w6 wr) (fun _ iv _ => x.length - (intOf iv).toNat)
        case atStart => exact ⟨0, Nat.zero_le _, rfl, HO0.out, .inl rfl, BelowBut.refl _ _ _⟩
        case round =>
          obtain ⟨k, hk, rfl, hown, hfr, hbw⟩ := hrel
          have HOWN := Lib.hid hown
          have HFR := Lib.hid hfr
          have HBW := Lib.hid hbw
          have hfl := flatX_len HLS.out x k
          clear hown hbw hfr HO0
          by_cases hlt : k < x.length
          · have hltz : (k : Int) < (x.length : Int) := by omega
            obtain ⟨bx, ox, rfl, hxa⟩ := (HF.out _ (H6.out.two.below.trans (HBW.out.below (n := w.heap.size) (by omega) (by have := HZ2.out; omega)))).get hlt
            have hxo := HMQ.out.2.1 _ (List.getElem_mem hlt)
            have hxr : 0 ≤ x[k] ∧ x[k] < ((funsR r1 r2).length : Int) := by
              unfold outN at hxo
              rw [Bool.or_eq_false_iff, decide_eq_false_iff_not, decide_eq_false_iff_not] at hxo
              omega
            have hgd : x.getD k 0 = x[k] := getD_lt 0 hlt
            generalize x[k] = xk at hxa hxr hgd
            obtain ⟨kk, rfl⟩ : ∃ kk : Nat, xk = (kk : Int) := ⟨xk.toNat, by omega⟩
            have hkl : kk < L.length := by have := HLN.out; omega
            have hkz : (kk : Int) < ((funsR r1 r2).length : Int) := hxr.2
            obtain ⟨b1, o1, rfl, hget⟩ := (HV.out _ HBW.out).get hkl
            obtain ⟨uk, huk, hik⟩ := hget kk hkl
            have hrow : (L.getD kk []).length = r1.length := by rw [getD_lt [] hkl]; exact (HLS.out _ (List.getElem_mem hkl)).1
            have HS := Lib.hid (show flatX L x (k + 1) = flatX L x k ++ L.getD kk [] by rw [flatX_succ hlt, hgd, Int.toNat_natCast])
            obtain ⟨ys, hys⟩ : ∃ ys, ys = L.getD kk [] := ⟨_, rfl⟩
            rw [← hys] at hik hrow HS
            obtain ⟨Ak, Ck, rfl, _, _, _, hcy⟩ := hik
            obtain ⟨bk, ok, rfl⟩ : ∃ bk ok, Ak = some ⟨bk, ok, none⟩ := by
              obtain ⟨bk, ok, e, _⟩ := hcy 0 (by omega)
              exact ⟨bk, ok, e⟩
            have hnews : ∀ j u, (cellsI ys)[j]? = some u → wr.cell? ((⟨bk, ok, none⟩ : Addr).add j) = some u := fun j u hj => by
              obtain ⟨hj', rfl⟩ := cellsI_at hj
              obtain ⟨b', o', e, hc⟩ := hcy j hj'
              cases e
              rw [Addr.add_lit]
              exact hc
            have HNEWS := Lib.hid hnews
            rw [hrow] at huk
            have hcl : (cellsI ys).length = r1.length * 1 := by rw [Nat.mul_one, ← hrow]; simp
            have HROW := Lib.hid hrow
            have hkb : k * r1.length ≤ 200 * 200 := Nat.mul_le_mul (by have := HLX.out; omega) hl1.2
            have hbs : w.heap.size + 3 ≤ wr.heap.size := by have := HBW.out.size; omega
            clear hget hcy hys hnews hrow hgd hxr
            go_wp2_with (at_builtin; refine wpList_append_lies _ rfl _ _ 37 rfl (w.heap.size + 3) 3 i0 (.int .i64 0) 1 8 Tryd.underlying37 hi0 hz0' hz1' hz2' rfl (by decide) _ _ _ rfl HOWN.out ⟨bk, ok, none⟩ r1.length Ck (cellsI ys) rfl hcl HNEWS.out cellsI_one hl1.1 (by unfold maxLen; omega) (by omega) hbs wr.heap.size rfl ?_; intro g2 cap2 w7 hown2 hgrow2 hat2 hlt2)
            go_roundw
            case rel =>
              refine ⟨k + 1, by omega, by go_num, ?_, ?_, HBW.out.grown HB6.out hgrow2 HFR.out⟩
              · rw [HS.out, List.length_append, show (cellsI (flatX L x k ++ ys)) = cellsI (flatX L x k) ++ cellsI ys by simp [cellsI], HROW.out]
                exact hown2
              · rcases hat2 with h | h
                · rcases HFR.out with k1 | k1
                  · have h5 : some (w.heap.size + 3) = some g2 := k1.symm.trans h
                    injection h5 with h5
                    exact .inl (by rw [h5]; rfl)
                  · exact .inr fun b e => by
                      have h3 : g2 = b := by simpa [Value.ownBlock] using e
                      subst h3
                      exact k1 _ h
                · exact .inr fun b e => by
                    have h3 : g2 = b := by simpa [Value.ownBlock] using e
                    have := HBW.out.size
                    have := HB6.out
                    omega
            case measure => simp [intOf]; omega
          · obtain rfl : k = x.length := by omega
            go_wp2
            go_ret2
            refine ⟨_, by rw [HE.out]; rfl, ?_, H6.out.two.below.trans (HBW.out.below (n := w.heap.size) (by omega) (by have := HZ2.out; omega))⟩
            rw [uncL_yes HE.out, ← HLE.out]
            refine (OwnI.of_owns HOWN.out (fun y hy => flatX_wf HLS.out x x.length y hy) (fun b hb => (HOWN.out.lt b hb).2)).wider (by omega) (Nat.le_refl _)

theorem unc_short (r0 r1 r2 : Rows2) (x : List Int) : (uncL r0 r1 r2 x).length ≤ 1048576 := by
  cases h : uncB r0 r1 r2 x with
  | false => rw [uncL_no h]; exact Nat.zero_le _
  | true =>
    rw [uncL_yes h]
    unfold uncB at h
    rw [Bool.and_eq_true, Bool.and_eq_true] at h
    obtain ⟨⟨h0, hfb⟩, hmn⟩ := h
    obtain ⟨k1, k2, _⟩ := funB_iff.1 hfb
    have hm := (mono_funL hfb (dom_ok h0) x).1 hmn
    have h1 := flatX_len (funs_lists (rows := r1) (rows' := r2) (dom_ok k2).len.2) x x.length
    have h2 : x.length * r1.length ≤ 200 * 200 := Nat.mul_le_mul (by rw [hm.1]; exact (dom_ok h0).len.2) (dom_ok k1).len.2
    omega
end Go.Proofs.YtkhhbpeheikmfaaDoor
