/- Flat domains and chains: the program's and the model's functions. -/
import Derived.Test.YtjlemkmpmjdjaaaDoorPa26
import Derived.Test.YtjlemkmpmjdjaaaDoorPa27
import Derived.Test.YtjlemkmpmjdjaaaDoorPa23
import Derived.Test.YtjlemkmpmjdjaaaDoorPa13
import Derived.Test.YtjlemkmpmjdjaaaDoorPa20
import Derived.Test.YtjlemkmpmjdjaaaDoorPa8
import Derived.Deep.RegionLaw
import Derived.Deep.AppendLies
import Derived.Test.YtjlemkmpmjdjaaaDoorPa25
namespace Go.Proofs.YtjlemkmpmjdjaaaDoor
open Go.RowKit Go.Deep Go.Shelf

/-- What DomainFlat and DomainChain answer. -/
def flatOk (z : Int) : Bool := decide (0 ≤ z ∧ z ≤ 199)
def flatL (z : Int) : Rows2 := if flatOk z = true then madeL flatB (z.toNat + 1) else []
def chainOk (z : Int) : Bool := decide (1 ≤ z ∧ z ≤ 200)
def chainL (z : Int) : Rows2 := if chainOk z = true then madeL chainB z.toNat else []

theorem orderP_zero {t : Bool} {xs : Rows2} {w W : World} (hx : xs = []) (ht : t = false) (hb : Below w.heap.size w W) : OrderP xs t w (.returned (.tuple #[.agg #[.slice none 0 0], .bool false])) W := by
  subst hx ht
  exact ⟨_, rfl, OwnR.nil _ _ _ _ _ _, hb⟩
theorem orderP_made {B : Nat → Nat → Bool} {N : Nat} {t : Bool} {xs : Rows2} {w W : World} {b : Nat} {u : Value} (hx : xs = madeL B N) (ht : t = true) (ho : OwnR 3 28 W u N (fun q => bRow B q N) (w.heap.size + 1) W.heap.size) (hb : Below w.heap.size w W) (he : b = w.heap.size) :
    OrderP xs t w (.returned (.tuple #[.agg #[u], .bool true])) (W.setCell ⟨b, 0, none⟩ u) := by
  subst hx ht he
  refine ⟨_, rfl, ?_, hb.setCell (p := ⟨w.heap.size, 0, none⟩) (Nat.le_refl _) _⟩
  rw [madeL_len, size_setCell]
  refine ((ho.kept fun b hb _ => Below.heap_setCell _ _ _ b (show b ≠ w.heap.size by omega)).wider (Nat.le_succ _) (Nat.le_refl _)).congr fun q hq => ?_
  rw [rowsF_lt (by rw [madeL_len]; exact hq), madeL_at]

set_option maxRecDepth 100000 in
set_option maxHeartbeats 4000000 in
theorem implFlat_any (z : Int) (w : World) (hT : Tab w) : Calls Tryd.prog 47 #[.int .i64 z] w (OrderP (flatL z) (flatOk z) w) := by
  have b0 := (Below.refl w.heap.size w).alloc (Nat.le_refl _) (.cells #[.slice none 0 0] 25)
  have hbx := Boxed.new w 25 (.slice none 0 0)
  have HB0 := Lib.hid b0
  have HBX := Lib.hid hbx
  by_cases hz : 0 ≤ z ∧ z ≤ 199
  · obtain ⟨n, rfl⟩ : ∃ n : Nat, z = (n : Int) := ⟨z.toNat, by omega⟩
    have hE : flatOk (n : Int) = true := decide_eq_true hz
    have HE := Lib.hid hE
    have HL := Lib.hid (show flatL (n : Int) = madeL flatB (n + 1) by unfold flatL; rw [if_pos hE, Int.toNat_natCast])
    have q1 : ¬ ((n : Int) < 0) := by omega
    have q2 : ¬ ((199 : Int) < (n : Int)) := by omega
    have hcall := flatBuilt_yes n (n + 1) (w.alloc (.cells #[.slice none 0 0] 25)) (by omega) rfl (by omega) (hT.below b0) (fun q _ => by unfold flatB; simp)
    clear b0 hbx hz hE
    go_enter Tryd.func47, Tryd.ntmps47
    go_wp2_with (go_at_call 96; refine hcall.mono ?_; clear hcall; rintro e w1 ⟨u, rfl, hu, hb1⟩; obtain ⟨a1, C1, rfl⟩ := hu.form; have HU := Lib.hid hu; have BX1 : Hid (Boxed w1 w.heap.size 25 (.slice none 0 0)) := Lib.hid ((hb1.block _ HBX.out.lt).trans HBX.out); have HB1 := Lib.hid (HB0.out.trans (hb1.mono HB0.out.size)); have hres := BX1.out.cell; have hfr := BX1.out.frozen; clear hu hb1)
    have hc9 := World.cell?_setCell_same' w1 ⟨w.heap.size, 0, none⟩ (.slice a1 (n + 1) C1) (by rw [hres]; rfl)
    refine bodyPost_ret (v := .tuple #[.agg #[.slice a1 (n + 1) C1], .bool true]) (by simp [results, Tryd.results47, go_sem, hc9]) rfl ?_
    have hu := HU.out
    rw [World.size_alloc] at hu
    exact orderP_made HL.out HE.out hu HB1.out rfl
  · have hE : flatOk z = false := decide_eq_false hz
    have HE := Lib.hid hE
    have HL := Lib.hid (show flatL z = [] by unfold flatL; rw [if_neg (by rw [hE]; simp)])
    have hres := hbx.cell
    have hfr := hbx.frozen
    clear hE hbx b0
    by_cases h0 : z < 0
    · clear hz
      go_enter Tryd.func47, Tryd.ntmps47
      go_wp2
      refine bodyPost_ret (v := .tuple #[.agg #[.slice none 0 0], .bool false]) (by simp [results, Tryd.results47, go_sem]) rfl ?_
      exact orderP_zero HL.out HE.out HB0.out
    · have h1 : (199 : Int) < z := by omega
      clear hz
      go_enter Tryd.func47, Tryd.ntmps47
      go_wp2
      refine bodyPost_ret (v := .tuple #[.agg #[.slice none 0 0], .bool false]) (by simp [results, Tryd.results47, go_sem]) rfl ?_
      exact orderP_zero HL.out HE.out HB0.out

set_option maxRecDepth 100000 in
set_option maxHeartbeats 4000000 in
theorem implChain_any (z : Int) (w : World) (hT : Tab w) : Calls Tryd.prog 50 #[.int .i64 z] w (OrderP (chainL z) (chainOk z) w) := by
  have b0 := (Below.refl w.heap.size w).alloc (Nat.le_refl _) (.cells #[.slice none 0 0] 25)
  have hbx := Boxed.new w 25 (.slice none 0 0)
  have HB0 := Lib.hid b0
  have HBX := Lib.hid hbx
  by_cases hz : 1 ≤ z ∧ z ≤ 200
  · obtain ⟨n, rfl⟩ : ∃ n : Nat, z = (n : Int) := ⟨z.toNat, by omega⟩
    have hE : chainOk (n : Int) = true := decide_eq_true hz
    have HE := Lib.hid hE
    have HL := Lib.hid (show chainL (n : Int) = madeL chainB n by unfold chainL; rw [if_pos hE, Int.toNat_natCast])
    have q1 : ¬ ((n : Int) < 1) := by omega
    have q2 : ¬ ((200 : Int) < (n : Int)) := by omega
    have hcall := chainBuilt_yes n n (w.alloc (.cells #[.slice none 0 0] 25)) rfl (by omega) (hT.below b0) (fun q _ => by unfold chainB; simp)
    clear b0 hbx hz hE
    go_enter Tryd.func50, Tryd.ntmps50
    go_wp2_with (go_at_call 96; refine hcall.mono ?_; clear hcall; rintro e w1 ⟨u, rfl, hu, hb1⟩; obtain ⟨a1, C1, rfl⟩ := hu.form; have HU := Lib.hid hu; have BX1 : Hid (Boxed w1 w.heap.size 25 (.slice none 0 0)) := Lib.hid ((hb1.block _ HBX.out.lt).trans HBX.out); have HB1 := Lib.hid (HB0.out.trans (hb1.mono HB0.out.size)); have hres := BX1.out.cell; have hfr := BX1.out.frozen; clear hu hb1)
    have hc9 := World.cell?_setCell_same' w1 ⟨w.heap.size, 0, none⟩ (.slice a1 n C1) (by rw [hres]; rfl)
    refine bodyPost_ret (v := .tuple #[.agg #[.slice a1 n C1], .bool true]) (by simp [results, Tryd.results50, go_sem, hc9]) rfl ?_
    have hu := HU.out
    rw [World.size_alloc] at hu
    exact orderP_made HL.out HE.out hu HB1.out rfl
  · have hE : chainOk z = false := decide_eq_false hz
    have HE := Lib.hid hE
    have HL := Lib.hid (show chainL z = [] by unfold chainL; rw [if_neg (by rw [hE]; simp)])
    have hres := hbx.cell
    have hfr := hbx.frozen
    clear hE hbx b0
    by_cases h0 : z < 1
    · clear hz
      go_enter Tryd.func50, Tryd.ntmps50
      go_wp2
      refine bodyPost_ret (v := .tuple #[.agg #[.slice none 0 0], .bool false]) (by simp [results, Tryd.results50, go_sem]) rfl ?_
      exact orderP_zero HL.out HE.out HB0.out
    · have h1 : (200 : Int) < z := by omega
      clear hz
      go_enter Tryd.func50, Tryd.ntmps50
      go_wp2
      refine bodyPost_ret (v := .tuple #[.agg #[.slice none 0 0], .bool false]) (by simp [results, Tryd.results50, go_sem]) rfl ?_
      exact orderP_zero HL.out HE.out HB0.out

/-- Rows of kept elements, while a row is told. -/
theorem kept_bRow (B : Nat → Nat → Bool) (a N : Nat) : keptN (B a) N = bRow B a N := rfl
end Go.Proofs.YtjlemkmpmjdjaaaDoor

/- Draws of one order: the form that the laws use. -/
namespace Go.Proofs.YtjlemkmpmjdjaaaDoor
open Go.RowKit Go.Deep Go.Shelf

/-- Some order, in memory of its own. -/
def OrdN (w : World) (e : Ending) (w' : World) : Prop :=
  ∃ (rows : Rows2) (u : Value), e = .returned (.agg #[u]) ∧ OwnR 3 28 w' u rows.length (rowsF rows) w.heap.size w'.heap.size ∧ bulk rows ≤ 100000 ∧ Below w.heap.size w w'
/-- An order in its variable. -/
structure HoldO (w : World) (b : Nat) (u : Value) (rows : Rows2) (W : World) : Prop where
  box : Boxed W b 25 u
  rows : RowsAt W u rows
  below : Below w.heap.size w W
theorem HoldO.step {w W W' : World} {b : Nat} {u : Value} {rows : Rows2} (h : HoldO w b u rows W) (hb : Below W.heap.size W W') : HoldO w b u rows W' :=
  ⟨(hb.block _ h.box.lt).trans h.box, h.rows.below hb, h.below.trans (hb.mono h.below.size)⟩
theorem HoldO.start {w W : World} {u : Value} {rows : Rows2} (hr : RowsAt W u rows) (hb : Below w.heap.size w W) : HoldO w W.heap.size u rows (W.alloc (.cells #[u] 25)) := by
  have h := (Below.refl W.heap.size W).alloc (Nat.le_refl _) (.cells #[u] 25)
  exact ⟨Boxed.new _ _ _, hr.below h, hb.trans (h.mono hb.size)⟩
theorem HoldO.len {w W : World} {b : Nat} {u : Value} {rows : Rows2} (h : HoldO w b u rows W) : ∃ a C, u = .slice a rows.length C := by
  obtain ⟨a, C, e, _⟩ := h.rows
  exact ⟨a, C, e⟩

/-- What a reader that is new has drawn. -/
theorem ordN_of {w w1 w2 : World} {b : Nat} {x : Value} {e : Ending} {v' : Value} (b0 : Below w.heap.size w w1) (hx : Boxed w1 w.heap.size 25 x) {K : Nat} (h : OrdE K b v' 0 w1 e w2) (hb : w.heap.size < b) :
    ∃ (rows : Rows2) (u : Value), e = .returned (.agg #[u]) ∧ OwnR 3 28 w2 u rows.length (rowsF rows) (w.heap.size + 1) w2.heap.size ∧ bulk rows ≤ 100000 ∧ Below w.heap.size w w2 ∧ Boxed w2 w.heap.size 25 x := by
  obtain ⟨rows, u, q, rfl, _, hd, ho, hbk⟩ := h
  have hl := hx.lt
  exact ⟨rows, u, rfl, ho.wider hl (Nat.le_refl _), hbk, b0.trans (hd.turned.below.mono (by omega)), (hd.turned.below.block _ hb).trans hx⟩

set_option maxRecDepth 100000 in
set_option maxHeartbeats 4000000 in
theorem drawValid_any (v : Value) (w : World) (hv : CodeAt w.heap.size w v) : Calls Tryd.prog 16 #[v] w (OrdN w) := by
  have s1 : (w.alloc (.cells #[.slice none 0 0] 25)).heap.size = w.heap.size + 1 := World.size_alloc _ _
  have b1 := (Below.refl w.heap.size w).alloc (Nat.le_refl _) (.cells #[.slice none 0 0] 25)
  have hopen := l6Open_any v (w.alloc (.cells #[.slice none 0 0] 25)) ((hv.below b1).wider (by rw [s1]; exact Nat.le_succ _))
  have HX := Lib.hid (Boxed.new w 25 (.slice none 0 0))
  have B1 := Lib.hid b1
  have S1 := Lib.hid s1
  have hord := fun W v' (h : RdAt (w.heap.size + 1) v' 0 W) => (show Calls Tryd.prog 64 #[.pointer (some ⟨w.heap.size + 1, 0, none⟩), .int .i64 6] W (OrdD (w.heap.size + 1) v' 0 W) from l91Order_any (w.heap.size + 1) v' 0 6 W h (by omega) (by omega) (by omega))
  clear b1 s1 hv
  go_enter Tryd.func16, Tryd.ntmps16
  go_wp2_with (first
    | (go_at_call 65; refine hopen.mono ?_; clear hopen; rintro e w1 ⟨v', rfl, hr, hb, hz⟩; rw [S1.out] at hr hb hz; have HR := Lib.hid hr; have HB := Lib.hid (B1.out.trans (hb.mono (Nat.le_succ _))); have HX1 : Hid (Boxed w1 w.heap.size 25 (.slice none 0 0)) := Lib.hid ((hb.block _ (Nat.lt_succ_self _)).trans HX.out); clear hr hb hz)
    | (go_at_call 64; refine (hord w1 v' HR.out).mono ?_; clear hord; rintro e w2 hod; obtain ⟨rows, u, rfl, ho, hbk, hbl, hbx⟩ := ordN_of HB.out HX1.out hod (Nat.lt_succ_self _); obtain ⟨a2, C2, rfl⟩ := ho.form; have HO := Lib.hid ho; have HBL := Lib.hid hbl; have hres := hbx.cell; have hrf := hbx.frozen; clear ho hbl hbx hod))
  have hc9 := World.cell?_setCell_same' w2 ⟨w.heap.size, 0, none⟩ (.slice a2 rows.length C2) (by rw [hres]; rfl)
  refine bodyPost_ret (v := .agg #[.slice a2 rows.length C2]) (by simp [results, Tryd.results16, go_sem, hc9]) rfl ?_
  refine ⟨rows, _, rfl, ?_, hbk, HBL.out.setCell (p := ⟨w.heap.size, 0, none⟩) (Nat.le_refl _) _⟩
  rw [size_setCell]
  exact (HO.out.kept fun b hb _ => Below.heap_setCell _ _ _ b (show b ≠ w.heap.size by omega)).wider (Nat.le_succ _) (Nat.le_refl _)

set_option maxRecDepth 100000 in
set_option maxHeartbeats 4000000 in
theorem drawLeast_any (v : Value) (w : World) (hv : CodeAt w.heap.size w v) : Calls Tryd.prog 24 #[v] w (OrdN w) := by
  have s1 : (w.alloc (.cells #[.slice none 0 0] 25)).heap.size = w.heap.size + 1 := World.size_alloc _ _
  have b1 := (Below.refl w.heap.size w).alloc (Nat.le_refl _) (.cells #[.slice none 0 0] 25)
  have hopen := l6Open_any v (w.alloc (.cells #[.slice none 0 0] 25)) ((hv.below b1).wider (by rw [s1]; exact Nat.le_succ _))
  have HX := Lib.hid (Boxed.new w 25 (.slice none 0 0))
  have B1 := Lib.hid b1
  have S1 := Lib.hid s1
  have hord := fun W v' (h : RdAt (w.heap.size + 1) v' 0 W) => (show Calls Tryd.prog 64 #[.pointer (some ⟨w.heap.size + 1, 0, none⟩), .int .i64 6] W (OrdD (w.heap.size + 1) v' 0 W) from l91Order_any (w.heap.size + 1) v' 0 6 W h (by omega) (by omega) (by omega))
  clear b1 s1 hv
  go_enter Tryd.func24, Tryd.ntmps24
  go_wp2_with (first
    | (go_at_call 65; refine hopen.mono ?_; clear hopen; rintro e w1 ⟨v', rfl, hr, hb, hz⟩; rw [S1.out] at hr hb hz; have HR := Lib.hid hr; have HB := Lib.hid (B1.out.trans (hb.mono (Nat.le_succ _))); have HX1 : Hid (Boxed w1 w.heap.size 25 (.slice none 0 0)) := Lib.hid ((hb.block _ (Nat.lt_succ_self _)).trans HX.out); clear hr hb hz)
    | (go_at_call 64; refine (hord w1 v' HR.out).mono ?_; clear hord; rintro e w2 hod; obtain ⟨rows, u, rfl, ho, hbk, hbl, hbx⟩ := ordN_of HB.out HX1.out hod (Nat.lt_succ_self _); obtain ⟨a2, C2, rfl⟩ := ho.form; have HO := Lib.hid ho; have HBL := Lib.hid hbl; have hres := hbx.cell; have hrf := hbx.frozen; clear ho hbl hbx hod))
  have hc9 := World.cell?_setCell_same' w2 ⟨w.heap.size, 0, none⟩ (.slice a2 rows.length C2) (by rw [hres]; rfl)
  refine bodyPost_ret (v := .agg #[.slice a2 rows.length C2]) (by simp [results, Tryd.results24, go_sem, hc9]) rfl ?_
  refine ⟨rows, _, rfl, ?_, hbk, HBL.out.setCell (p := ⟨w.heap.size, 0, none⟩) (Nat.le_refl _) _⟩
  rw [size_setCell]
  exact (HO.out.kept fun b hb _ => Below.heap_setCell _ _ _ b (show b ≠ w.heap.size by omega)).wider (Nat.le_succ _) (Nat.le_refl _)

set_option maxRecDepth 100000 in
set_option maxHeartbeats 4000000 in
theorem drawCovers_any (v : Value) (w : World) (hv : CodeAt w.heap.size w v) : Calls Tryd.prog 32 #[v] w (OrdN w) := by
  have s1 : (w.alloc (.cells #[.slice none 0 0] 25)).heap.size = w.heap.size + 1 := World.size_alloc _ _
  have b1 := (Below.refl w.heap.size w).alloc (Nat.le_refl _) (.cells #[.slice none 0 0] 25)
  have hopen := l6Open_any v (w.alloc (.cells #[.slice none 0 0] 25)) ((hv.below b1).wider (by rw [s1]; exact Nat.le_succ _))
  have HX := Lib.hid (Boxed.new w 25 (.slice none 0 0))
  have B1 := Lib.hid b1
  have S1 := Lib.hid s1
  have hord := fun W v' (h : RdAt (w.heap.size + 1) v' 0 W) => (show Calls Tryd.prog 64 #[.pointer (some ⟨w.heap.size + 1, 0, none⟩), .int .i64 7] W (OrdD (w.heap.size + 1) v' 0 W) from l91Order_any (w.heap.size + 1) v' 0 7 W h (by omega) (by omega) (by omega))
  clear b1 s1 hv
  go_enter Tryd.func32, Tryd.ntmps32
  go_wp2_with (first
    | (go_at_call 65; refine hopen.mono ?_; clear hopen; rintro e w1 ⟨v', rfl, hr, hb, hz⟩; rw [S1.out] at hr hb hz; have HR := Lib.hid hr; have HB := Lib.hid (B1.out.trans (hb.mono (Nat.le_succ _))); have HX1 : Hid (Boxed w1 w.heap.size 25 (.slice none 0 0)) := Lib.hid ((hb.block _ (Nat.lt_succ_self _)).trans HX.out); clear hr hb hz)
    | (go_at_call 64; refine (hord w1 v' HR.out).mono ?_; clear hord; rintro e w2 hod; obtain ⟨rows, u, rfl, ho, hbk, hbl, hbx⟩ := ordN_of HB.out HX1.out hod (Nat.lt_succ_self _); obtain ⟨a2, C2, rfl⟩ := ho.form; have HO := Lib.hid ho; have HBL := Lib.hid hbl; have hres := hbx.cell; have hrf := hbx.frozen; clear ho hbl hbx hod))
  have hc9 := World.cell?_setCell_same' w2 ⟨w.heap.size, 0, none⟩ (.slice a2 rows.length C2) (by rw [hres]; rfl)
  refine bodyPost_ret (v := .agg #[.slice a2 rows.length C2]) (by simp [results, Tryd.results32, go_sem, hc9]) rfl ?_
  refine ⟨rows, _, rfl, ?_, hbk, HBL.out.setCell (p := ⟨w.heap.size, 0, none⟩) (Nat.le_refl _) _⟩
  rw [size_setCell]
  exact (HO.out.kept fun b hb _ => Below.heap_setCell _ _ _ b (show b ≠ w.heap.size by omega)).wider (Nat.le_succ _) (Nat.le_refl _)

set_option maxRecDepth 100000 in
set_option maxHeartbeats 4000000 in
theorem drawHeight_any (v : Value) (w : World) (hv : CodeAt w.heap.size w v) : Calls Tryd.prog 40 #[v] w (OrdN w) := by
  have s1 : (w.alloc (.cells #[.slice none 0 0] 25)).heap.size = w.heap.size + 1 := World.size_alloc _ _
  have b1 := (Below.refl w.heap.size w).alloc (Nat.le_refl _) (.cells #[.slice none 0 0] 25)
  have hopen := l6Open_any v (w.alloc (.cells #[.slice none 0 0] 25)) ((hv.below b1).wider (by rw [s1]; exact Nat.le_succ _))
  have HX := Lib.hid (Boxed.new w 25 (.slice none 0 0))
  have B1 := Lib.hid b1
  have S1 := Lib.hid s1
  have hord := fun W v' (h : RdAt (w.heap.size + 1) v' 0 W) => (show Calls Tryd.prog 64 #[.pointer (some ⟨w.heap.size + 1, 0, none⟩), .int .i64 8] W (OrdD (w.heap.size + 1) v' 0 W) from l91Order_any (w.heap.size + 1) v' 0 8 W h (by omega) (by omega) (by omega))
  clear b1 s1 hv
  go_enter Tryd.func40, Tryd.ntmps40
  go_wp2_with (first
    | (go_at_call 65; refine hopen.mono ?_; clear hopen; rintro e w1 ⟨v', rfl, hr, hb, hz⟩; rw [S1.out] at hr hb hz; have HR := Lib.hid hr; have HB := Lib.hid (B1.out.trans (hb.mono (Nat.le_succ _))); have HX1 : Hid (Boxed w1 w.heap.size 25 (.slice none 0 0)) := Lib.hid ((hb.block _ (Nat.lt_succ_self _)).trans HX.out); clear hr hb hz)
    | (go_at_call 64; refine (hord w1 v' HR.out).mono ?_; clear hord; rintro e w2 hod; obtain ⟨rows, u, rfl, ho, hbk, hbl, hbx⟩ := ordN_of HB.out HX1.out hod (Nat.lt_succ_self _); obtain ⟨a2, C2, rfl⟩ := ho.form; have HO := Lib.hid ho; have HBL := Lib.hid hbl; have hres := hbx.cell; have hrf := hbx.frozen; clear ho hbl hbx hod))
  have hc9 := World.cell?_setCell_same' w2 ⟨w.heap.size, 0, none⟩ (.slice a2 rows.length C2) (by rw [hres]; rfl)
  refine bodyPost_ret (v := .agg #[.slice a2 rows.length C2]) (by simp [results, Tryd.results40, go_sem, hc9]) rfl ?_
  refine ⟨rows, _, rfl, ?_, hbk, HBL.out.setCell (p := ⟨w.heap.size, 0, none⟩) (Nat.le_refl _) _⟩
  rw [size_setCell]
  exact (HO.out.kept fun b hb _ => Below.heap_setCell _ _ _ b (show b ≠ w.heap.size by omega)).wider (Nat.le_succ _) (Nat.le_refl _)

end Go.Proofs.YtjlemkmpmjdjaaaDoor
