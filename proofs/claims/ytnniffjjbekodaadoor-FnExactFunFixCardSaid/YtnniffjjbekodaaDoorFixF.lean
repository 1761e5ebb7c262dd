/- The program's FunFix. -/
import Derived.Test.YtnniffjjbekodaaDoorFixI
import Derived.Test.YtnniffjjbekodaaDoorImplFS
import Derived.Test.YtnniffjjbekodaaDoorMarks
import Derived.Test.YtnniffjjbekodaaDoorHgtL
import Derived.Test.YtnniffjjbekodaaDoorSz
import Derived.Sort.QuietIn
namespace Go.Proofs.YtnniffjjbekodaaDoor
open Go.RowKit Go.Deep Go.Shelf
attribute [local go_sem] Oper.semAt_some

set_option maxRecDepth 100000 in
set_option maxHeartbeats 4000000 in
theorem implFix_no (v vf : Value) (rows : Rows2) (f : List Int) (w : World) (hv : RowsAt w v rows) (hf : IntsAt w vf f) (hT : Tab w) (hn : bulk rows ≤ 1048576) (hm : monoB rows rows f = false) :
    Calls Tryd.prog 29 #[.agg #[v], vf] w (FixP false rows f w) := by
  have h0 := HeldF.start w 28 hv hf
  have hl := rows_one h0.2
  have b0 := (Below.refl w.heap.size w).alloc (Nat.le_refl _) (.cells #[v] 28)
  have b1 := (Below.refl (w.alloc (.cells #[v] 28)).heap.size (w.alloc (.cells #[v] 28))).alloc (Nat.le_refl _) (.cells #[vf] 25)
  have h1 := h0.step b1
  have hT1 := (hT.below b0).below b1
  have hcall := funTypeOf_any v v _ rows rows [f] _ h1.1.2.1 h1.1.2.1 hl hT1 hn hn
  have hs : (w.alloc (.cells #[v] 28)).heap.size = w.heap.size + 1 := World.size_alloc _ _
  rw [ftB_one, hs, hm] at hcall
  have hc0 := h0.1.1
  have HB := Lib.hid h1.1.2.2.1
  obtain ⟨A, C, rfl, _⟩ := hv
  obtain ⟨Af, Cf, rfl, _⟩ := hf
  clear h0 hl b0 b1 h1 hT1 hs hT hm
  go_enter Tryd.func29, Tryd.ntmps29
  go_wp2_with (go_at_call 55; refine hcall.mono ?_; clear hcall; rintro e w1 ⟨⟨q, q', rfl, _⟩, hb1⟩; have H1 := Lib.hid (HB.out.trans (hb1.mono HB.out.size)); clear hb1)
  refine bodyPost_ret (v := .tuple #[.int .i64 0, .int .i64 0, .bool false]) (by simp [results, Tryd.results29, go_sem]) rfl ?_
  exact ⟨rfl, H1.out.alloc H1.out.size _⟩

set_option maxRecDepth 100000 in
set_option maxHeartbeats 8000000 in
theorem implFix_yes (v vf : Value) (rows : Rows2) (f : List Int) (w : World) (hv : RowsAt w v rows) (hf : IntsAt w vf f) (hT : Tab w) (hn : bulk rows ≤ 1048576) (hm : monoB rows rows f = true) :
    Calls Tryd.prog 29 #[.agg #[v], vf] w (FixP true rows f w) := by
  have h0 := HeldF.start w 28 hv hf
  have hl := rows_one h0.2
  have b0 := (Below.refl w.heap.size w).alloc (Nat.le_refl _) (.cells #[v] 28)
  have b1 := (Below.refl (w.alloc (.cells #[v] 28)).heap.size (w.alloc (.cells #[v] 28))).alloc (Nat.le_refl _) (.cells #[vf] 25)
  have h1 := h0.step b1
  have hT1 := (hT.below b0).below b1
  have hcall0 := funTypeOf_any v v _ rows rows [f] _ h1.1.2.1 h1.1.2.1 hl hT1 hn hn
  have hs : (w.alloc (.cells #[v] 28)).heap.size = w.heap.size + 1 := World.size_alloc _ _
  rw [ftB_one, hs, hm] at hcall0
  have hcall := hcall0.mono (fun e w' h => h.yes)
  have hc0 := h0.1.1
  have HB := Lib.hid h1.1.2.2.1
  have T1 := Lib.hid hT1
  have HF := Lib.hid (fun W (h : Below w.heap.size w W) => (by
    obtain ⟨a, C, e, h1, h2, h3, h4⟩ := hf
    exact ⟨a, C, e, h1, h2, h3, fun i hi => by
      obtain ⟨b, o, ea, hc⟩ := h4 i hi
      exact ⟨b, o, ea, (h.cell (p := ⟨b, o + i, none⟩) (cell_lt hc)).trans hc⟩⟩ : IntsAt W vf f))
  obtain ⟨hok, hmo, m, hml, hme⟩ := monoB_self hm
  have hstart := OnWay.start hok hmo hml hme
  have HL := Lib.hid (fun b W hg hT => leastG hok b W hg hT)
  simp only [hme] at HL
  have HE := Lib.hid (show fixRun rows f = runF f rows.length m ∧ fixX rows f = ((runF f rows.length m).getLastD m : Nat) by
    unfold fixX fixRun
    rw [hme, Int.toNat_natCast]
    exact ⟨rfl, rfl⟩)
  have HS := Lib.hid hstart
  have HOK := Lib.hid hok
  have HMO := Lib.hid hmo
  obtain ⟨A, C, rfl, _⟩ := hv
  obtain ⟨Af, Cf, rfl, _⟩ := hf
  clear h0 hl b0 b1 h1 hT1 hs hT hm hcall0 hok hmo hstart hme
  refine (callsIn_wide (n := 8)).1 ?_
  refine callsIn_of_wp_marks Tryd.func29 rfl trivial ?_ rfl
  simp only [Tryd.ntmps29, List.size_toArray, List.length_cons, List.length_nil, Nat.reduceAdd, Nat.reduceSub, Array.replicate_succ, Array.replicate_zero, List.push_toArray, List.append_toArray, List.nil_append, List.cons_append]
  gi_wp2
  refine ⟨trivial, (callsIn_wide.2 hcall).mono ?_⟩
  clear hcall
  rintro e w1 ⟨⟨p, p', rfl, _, _, hg, _⟩, hb1⟩
  have B2 := Lib.hid ((HB.out.trans (hb1.mono HB.out.size)).alloc (Nat.le_trans HB.out.size hb1.size) (.cells #[.pointer (some ⟨p, 0, none⟩), .pointer (some ⟨p', 0, none⟩)] 60))
  have T2 := Lib.hid ((T1.out.below hb1).below ((Below.refl _ w1).alloc (Nat.le_refl _) (.cells #[.pointer (some ⟨p, 0, none⟩), .pointer (some ⟨p', 0, none⟩)] 60)))
  have G2 := Lib.hid (hg.below ((Below.refl _ w1).alloc (Nat.le_refl _) (.cells #[.pointer (some ⟨p, 0, none⟩), .pointer (some ⟨p', 0, none⟩)] 60)) hg.lt)
  have hq0 : (w1.alloc (.cells #[.pointer (some ⟨p, 0, none⟩), .pointer (some ⟨p', 0, none⟩)] 60)).cell? ⟨w1.heap.size, 0, none⟩ = some (.pointer (some ⟨p, 0, none⟩)) := by
    rw [cell_of_row _ w1.heap.size 0 _ _ _ (heap_alloc_new _ _)]; rfl
  clear hb1 hg hc0
  gi_wp2
  refine ⟨trivial, (callsIn_wide.2 (HL.out p _ G2.out T2.out)).mono ?_⟩
  rintro e w3 ⟨rfl, hb3⟩
  have B3 := Lib.hid (B2.out.trans (hb3.mono B2.out.size))
  clear hb3 hq0
  gi_wp2
  refine ⟨trivial, (callsIn_wide.2 (changes_any Af f.length Cf (m : Int) _)).mono ?_⟩
  rintro e w5 ⟨rfl, rfl⟩
  gi_wp2
  have s1 : (w3.alloc (.cells #[.int .i64 (m : Int)] 3)).heap.size = w3.heap.size + 1 := World.size_alloc _ _
  have s2 : ((w3.alloc (.cells #[.int .i64 (m : Int)] 3)).alloc (.cells #[.int .i64 0] 3)).heap.size = w3.heap.size + 2 := by rw [World.size_alloc, s1]
  have s3 : (((w3.alloc (.cells #[.int .i64 (m : Int)] 3)).alloc (.cells #[.int .i64 0] 3)).alloc (.cells #[.slice Af f.length Cf] 64)).heap.size = w3.heap.size + 3 := by rw [World.size_alloc, s2]
  have hz4 : ((((w3.alloc (.cells #[.int .i64 (m : Int)] 3)).alloc (.cells #[.int .i64 0] 3)).alloc (.cells #[.slice Af f.length Cf] 64)).alloc (.cells #[.int .i64 (m : Int)] 3)).heap.size = w3.heap.size + 4 := by rw [World.size_alloc, s3]
  have hB4 : Below w3.heap.size w3 ((((w3.alloc (.cells #[.int .i64 (m : Int)] 3)).alloc (.cells #[.int .i64 0] 3)).alloc (.cells #[.slice Af f.length Cf] 64)).alloc (.cells #[.int .i64 (m : Int)] 3)) :=
    ((((Below.refl _ w3).alloc (Nat.le_refl _) _).alloc (by rw [s1]; omega) _).alloc (by rw [s2]; omega) _).alloc (by rw [s3]; omega) _
  have bx : Boxed ((((w3.alloc (.cells #[.int .i64 (m : Int)] 3)).alloc (.cells #[.int .i64 0] 3)).alloc (.cells #[.slice Af f.length Cf] 64)).alloc (.cells #[.int .i64 (m : Int)] 3)) w3.heap.size 3 (.int .i64 (m : Int)) :=
    (((Boxed.new w3 _ _).alloc _).alloc _).alloc _
  have bu := Boxed.new (w3.alloc (.cells #[.int .i64 (m : Int)] 3)) 3 (.int .i64 0)
  rw [s1] at bu
  replace bu := (bu.alloc (.cells #[.slice Af f.length Cf] 64)).alloc (.cells #[.int .i64 (m : Int)] 3)
  have bf := Boxed.new ((w3.alloc (.cells #[.int .i64 (m : Int)] 3)).alloc (.cells #[.int .i64 0] 3)) 64 (.slice Af f.length Cf)
  rw [s2] at bf
  replace bf := (bf.alloc (.cells #[.int .i64 (m : Int)] 3)).cell
  have bk := Boxed.new (((w3.alloc (.cells #[.int .i64 (m : Int)] 3)).alloc (.cells #[.int .i64 0] 3)).alloc (.cells #[.slice Af f.length Cf] 64)) 3 (.int .i64 (m : Int))
  rw [s3] at bk
  replace bk := bk.cell
  clear s1 s2 s3
  revert hB4 hz4 bx bu bf bk
  generalize ((((w3.alloc (.cells #[.int .i64 (m : Int)] 3)).alloc (.cells #[.int .i64 0] 3)).alloc (.cells #[.slice Af f.length Cf] 64)).alloc (.cells #[.int .i64 (m : Int)] 3)) = w4
  intro hz4 hB4 bx bu bf bk
  have hw3 := B3.out.size
  have hBw : Below w.heap.size w w4 := B3.out.trans (hB4.mono hw3)
  refine wpIn_rangeFunc_ownG rfl (by omega) (gf := 91) (lb := #[.pointer (some ⟨w3.heap.size + 3, 0, none⟩), .pointer (some ⟨w3.heap.size + 2, 0, none⟩)]) rfl trivial (enters_of Tryd.func91 (by kernel_rfl) rfl)
    (changes1_stops _ w.heap.size (w3.heap.size + 3) (w3.heap.size + 2) m Af Cf rows f w4 (by omega) bk bf (fun W h => HF.out W (hBw.trans h)) (by omega) HOK.out HMO.out HS.out)
    (fun h k => ⟨h.1.trans k.1, k.2.trans h.2⟩) (fun W l o o' hl ho hc hwk => ⟨belowK_b (n₀ := w.heap.size) (w := w4) (by omega) W l o o' hl ho hc hwk, World.putObj_heap_other (by omega)⟩) (Below.refl _ _) (fun _ => rfl)
    (fun pre W => (Boxed W w3.heap.size 3 (.int .i64 ((pre.getLastD m : Nat) : Int)) ∧ Boxed W (w3.heap.size + 1) 3 (.int .i64 (pre.length : Int))) ∧ Below w.heap.size w W)
    (fun _ _ _ => False)
    (OwnFrom.and (Own.from (fun _ A B row hs hg hr => ⟨blk_kept hs.1 hg hr, blk_kept hs.2 hg hr⟩) _) (ownFrom_below (Nat.le_refl _) (by omega)))
    (fun _ _ _ _ _ hs _ _ => hs)
    ⟨⟨bx, bu⟩, hBw⟩
    (fun x => { tmps := #[.agg #[.slice A rows.length C], .slice Af f.length Cf, .pointer (some ⟨w.heap.size, 0, none⟩), undef, .int .i64 0, .int .i64 0, .bool false, .pointer (some ⟨w1.heap.size, 0, none⟩), .bool true, .pointer (some ⟨w3.heap.size, 0, none⟩), .pointer (some ⟨w3.heap.size + 1, 0, none⟩), .int .i64 ((x : Nat) : Int), .tuple #[.agg #[.pointer (some ⟨p, 0, none⟩), .pointer (some ⟨p', 0, none⟩)], .bool true], .agg #[.slice A rows.length C], .agg #[.slice A rows.length C], .slice Af f.length Cf, .slice (some ⟨w.heap.size + 1, 0, none⟩) 1 1, .tuple #[.agg #[.pointer (some ⟨p, 0, none⟩), .pointer (some ⟨p', 0, none⟩)], .bool true], .agg #[.pointer (some ⟨p, 0, none⟩), .pointer (some ⟨p', 0, none⟩)], .bool true, .bool true, .bool false, .pointer (some ⟨w1.heap.size, 0, none⟩), .pointer (some ⟨p, 0, none⟩), .int .i64 (m : Int), .slice Af f.length Cf, .int .i64 (m : Int), .func (.func 91) #[] #[.pointer (some ⟨w3.heap.size + 3, 0, none⟩), .pointer (some ⟨w3.heap.size + 2, 0, none⟩)], .int .i64 ((x : Nat) : Int), undef, undef, undef, undef, undef], defers := [] }) ?assign ?body ?done ?stop
  case assign =>
    intro l x W K hK
    unfold encN
    gi_wp2
    exact hK
  case body =>
    rintro l pre x W ⟨⟨hfx, hus⟩, hB⟩ hlt
    dsimp only
    have hc1 := hfx.cell
    have hc2 := hus.cell
    have hf1 := hfx.frozen
    have hf2 := hus.frozen
    have hx1 := hfx.lt
    have hx2 := hus.lt
    have hmx : Tryd.prog.follows .mixedOrders = true := by kernel_rfl
    have hpl : pre.length < 200 := by
      have h1 := HOK.out.len.2
      have h2 : ∀ k y, (runF f k y).length ≤ k := fun k => by
        induction k with
        | zero => intro y; exact Nat.le_refl _
        | succ k ih =>
          intro y
          unfold runF
          split
          · exact Nat.zero_le _
          · rw [List.length_cons]
            have := ih (nextF f y)
            omega
      have := h2 rows.length m
      omega
    have hwr : IntKind.i64.wrap ((pre.length : Int) + 1) = (pre.length : Int) + 1 := IntWalk.i64_in _ (by omega)
    have HFX := Lib.hid hfx
    have HUS := Lib.hid hus
    have HBB := Lib.hid hB
    clear hfx hus hB hlt
    gi_wp2
    gi_region_with_o (fail)
    all_goals
      gi_wp2
      refine ⟨(((KeepsOthers.setCell W ⟨w3.heap.size, 0, none⟩ _).trans (KeepsOthers.setCell _ ⟨w3.heap.size + 1, 0, none⟩ _)).trans (keeps_below (below_drew _ _))).from _, ⟨?_, ?_⟩, ⟨?_, ?_⟩, ?_⟩
      · exact (((Below.refl w.heap.size W).setCell (p := ⟨w3.heap.size, 0, none⟩) hw3 _).setCell (p := ⟨w3.heap.size + 1, 0, none⟩) (by show w.heap.size ≤ w3.heap.size + 1; omega) _).trans (below_drew _ _)
      · exact (Below.heap_setCell _ ⟨w3.heap.size + 1, 0, none⟩ _ (w3.heap.size + 2) (by show w3.heap.size + 2 ≠ w3.heap.size + 1; omega)).trans (Below.heap_setCell _ ⟨w3.heap.size, 0, none⟩ _ (w3.heap.size + 2) (by show w3.heap.size + 2 ≠ w3.heap.size; omega))
      · have h := (HFX.out.set (.int .i64 (x : Int))).other (B' := w3.heap.size + 1) (by omega) (.int .i64 ((pre.length : Int) + 1))
        rw [show (pre ++ [x]).getLastD m = x by simp]
        exact h
      · have h := (HUS.out.other (B' := w3.heap.size) (by omega) (.int .i64 (x : Int))).set (.int .i64 ((pre.length : Int) + 1))
        rw [show (((pre ++ [x]).length : Nat) : Int) = (pre.length : Int) + 1 by rw [List.length_append]; rfl]
        exact h
      · exact ((HBB.out.setCell (p := ⟨w3.heap.size, 0, none⟩) hw3 _).setCell (p := ⟨w3.heap.size + 1, 0, none⟩) (by show w.heap.size ≤ w3.heap.size + 1; omega) _).trans (below_drew _ _)
  case done =>
    rintro D ys W hD rfl ⟨⟨hfx, hus⟩, hB⟩ hK
    have hc1 := hfx.cell
    have hc2 := hus.cell
    have HFX := Lib.hid hfx
    have HUS := Lib.hid hus
    have HBB := Lib.hid hB
    have HKK := Lib.hid hK
    clear hfx hus hB hK
    gi_wp2
    gi_quiet (fail)
    gi_wp2
    refine leaves_marks (n₀ := w.heap.size) (K := fun W' => Below w.heap.size w W') (fun W' D' h h1 h2 => h.trans (belowK_b (w := w) (Nat.le_refl _) W' D' _ _ h1 h2 rfl rfl)) (fun W' h => ⟨.tuple #[.int .i64 (((runF f rows.length m).getLastD m : Nat) : Int), .int .i64 ((runF f rows.length m).length : Int), .bool true], by simp [results, Tryd.f29, go_sem], ⟨by rw [if_pos rfl, if_pos rfl, HE.out.2, HE.out.1], h⟩⟩) [D] _ (MarksAt.cons (MarksAt.nil _ _) (fun _ h => by cases h) (by omega) HKK.out) (HBB.out.trans (below_drewN' _ _ _))
  case stop =>
    rintro D c pre W _ _ h _
    exact h.elim
end Go.Proofs.YtnniffjjbekodaaDoor
