/- The program's narrowing of choices (funSearch.narrowed). -/
import Derived.Test.YtkomghohdhengaaDoorPc4
import Derived.Test.YtkomghohdhengaaDoorPc24
import Derived.Test.YtkomghohdhengaaDoorPc20
import Derived.Deep.RegionHeld3
import Derived.Deep.MidRow
import Derived.Test.YtkomghohdhengaaDoorPc1
import Derived.Test.YtkomghohdhengaaDoorPc22
import Derived.Test.YtkomghohdhengaaDoorPc13
namespace Go.Proofs.YtkomghohdhengaaDoor
open Go.RowKit Go.Deep Go.Shelf

/-- What is left to m when i goes to k. -/
def narR (rows rows' : Rows2) (i k m r : Nat) : Nat := if upB rows i (m : Int) = true then r &&& gridF rows' k else if upB rows m (i : Int) = true then r &&& gridF (backRows rows') k else r
def narO (rows rows' : Rows2) (i k : Nat) (O : Nat → Nat) (m : Nat) : Nat := if i < m then narR rows rows' i k m (O m) else O m
def narT (rows rows' : Rows2) (i k : Nat) (O : Nat → Nat) (m q : Nat) : Nat := if q < m then narO rows rows' i k O q else O q
theorem narT_self (rows rows' : Rows2) (i k : Nat) (O : Nat → Nat) (m : Nat) : narT rows rows' i k O m m = O m := if_neg (Nat.lt_irrefl m)
theorem narT_lt {rows rows' : Rows2} {i k : Nat} {O : Nat → Nat} {m q : Nat} (h : q < m) : narT rows rows' i k O m q = narO rows rows' i k O q := if_pos h
theorem narT_start (rows rows' : Rows2) (i k : Nat) (O : Nat → Nat) (q : Nat) : narT rows rows' i k O (i + 1) q = O q := by
  unfold narT
  by_cases e : q < i + 1
  · rw [if_pos e]; unfold narO; rw [if_neg (by omega)]
  · rw [if_neg e]
theorem narT_next {rows rows' : Rows2} {i k : Nat} {O : Nat → Nat} {m X : Nat} (hi : i < m) (hX : narR rows rows' i k m (O m) = X) (q : Nat) : (if q = m then X else narT rows rows' i k O m q) = narT rows rows' i k O (m + 1) q := by
  unfold narT
  by_cases e : q = m
  · subst e
    rw [if_pos rfl, if_pos (Nat.lt_succ_self q)]
    unfold narO
    rw [if_pos hi, hX]
  · rw [if_neg e]
    by_cases e2 : q < m
    · rw [if_pos e2, if_pos (by omega)]
    · rw [if_neg e2, if_neg (by omega)]
theorem narT_same {rows rows' : Rows2} {i k : Nat} {O : Nat → Nat} {m : Nat} (hi : i < m) (hX : narR rows rows' i k m (O m) = O m) (q : Nat) : narT rows rows' i k O m q = narT rows rows' i k O (m + 1) q := by
  rw [← narT_next hi hX]
  split
  next e => subst e; exact narT_self _ _ _ _ _ _
  next => rfl
/-- Has each one behind i some choice? -/
def narOk (rows rows' : Rows2) (i k : Nat) (O : Nat → Nat) (n : Nat) : Bool := (List.range n).all fun m => !decide (i < m) || !decide (narO rows rows' i k O m = 0)
theorem narOk_no {rows rows' : Rows2} {i k n m : Nat} {O : Nat → Nat} (hm : m < n) (hi : i < m) (h : narR rows rows' i k m (O m) = 0) : narOk rows rows' i k O n = false := by
  unfold narOk
  rw [List.all_eq_false]
  refine ⟨m, List.mem_range.2 hm, ?_⟩
  unfold narO
  rw [if_pos hi, decide_eq_true hi, decide_eq_true h]
  simp
theorem narOk_yes {rows rows' : Rows2} {i k n : Nat} {O : Nat → Nat} (h : ∀ m, i < m → m < n → narR rows rows' i k m (O m) ≠ 0) : narOk rows rows' i k O n = true := by
  unfold narOk
  rw [List.all_eq_true]
  intro m hm
  rw [List.mem_range] at hm
  by_cases hi : i < m
  · unfold narO
    rw [if_pos hi, decide_eq_false (h m hi hm)]
    simp
  · rw [decide_eq_false hi]
    rfl
/-- The search's own variable: the grids, the limit, the list, what has been found. -/
structure Srch (sb p p' G lb n : Nat) (lim : Int) (vf : Value) (W : World) : Prop where
  from_ : W.cell? ⟨sb, 0, none⟩ = some (.pointer (some ⟨p, 0, none⟩))
  up : W.cell? ⟨sb, 1, none⟩ = some (.pointer (some ⟨p', 0, none⟩))
  low : W.cell? ⟨sb, 2, none⟩ = some (.pointer (some ⟨G, 0, none⟩))
  limit : W.cell? ⟨sb, 3, none⟩ = some (.int .i64 lim)
  list : W.cell? ⟨sb, 4, none⟩ = some (.slice (some ⟨lb, 0, none⟩) n n)
  found : W.cell? ⟨sb, 5, none⟩ = some vf
theorem Srch.block {sb p p' G lb n : Nat} {lim : Int} {vf : Value} {W W' : World} (h : Srch sb p p' G lb n lim vf W) (e : W'.heap[sb]? = W.heap[sb]?) : Srch sb p p' G lb n lim vf W' :=
  ⟨(World.cell?_of_block e).trans h.from_, (World.cell?_of_block e).trans h.up, (World.cell?_of_block e).trans h.low, (World.cell?_of_block e).trans h.limit, (World.cell?_of_block e).trans h.list, (World.cell?_of_block e).trans h.found⟩
/-- The three grids. -/
structure Grids (p p' G : Nat) (rows rows' : Rows2) (W : World) : Prop where
  from_ : GridAt W p (gridF rows)
  up : GridAt W p' (gridF rows')
  low : GridAt W G (gridF (backRows rows'))
theorem Grids.below {p p' G : Nat} {rows rows' : Rows2} {W W' : World} {B : Nat} (h : Grids p p' G rows rows' W) (hb : Below B W W') (h1 : p < B) (h2 : p' < B) (h3 : G < B) : Grids p p' G rows rows' W' := ⟨h.from_.below hb h1, h.up.below hb h2, h.low.below hb h3⟩
theorem Grids.step {p p' G : Nat} {rows rows' : Rows2} {W W' : World} (h : Grids p p' G rows rows' W) (hb : Below W.heap.size W W') : Grids p p' G rows rows' W' := h.below hb h.from_.lt h.up.lt h.low.lt

/-- While choices are narrowed. -/
structure NW (w : World) (sb p p' G lb n : Nat) (lim : Int) (vf : Value) (rows rows' : Rows2) (g : Nat) (O : Nat → Nat) (W : World) : Prop where
  srch : Srch sb p p' G lb n lim vf W
  grids : Grids p p' G rows rows' W
  next : RwAt W g n O
  hg : w.heap.size ≤ g
  below : Below w.heap.size w W
theorem NW.step {w : World} {sb p p' G lb n : Nat} {lim : Int} {vf : Value} {rows rows' : Rows2} {g : Nat} {O : Nat → Nat} {W W' : World} (h : NW w sb p p' G lb n lim vf rows rows' g O W) (hb : Below W.heap.size W W') : NW w sb p p' G lb n lim vf rows rows' g O W' :=
  ⟨h.srch.block (hb.block _ (cell_lt h.srch.from_)), h.grids.step hb, h.next.below hb h.next.lt, h.hg, h.below.trans (hb.mono h.below.size)⟩
theorem NW.congr {w : World} {sb p p' G lb n : Nat} {lim : Int} {vf : Value} {rows rows' : Rows2} {g : Nat} {O O' : Nat → Nat} {W : World} (h : NW w sb p p' G lb n lim vf rows rows' g O W) (e : ∀ j, j < n → O j = O' j) : NW w sb p p' G lb n lim vf rows rows' g O' W :=
  ⟨h.srch, h.grids, h.next.congr e, h.hg, h.below⟩
theorem NW.store {w : World} {sb p p' G lb n : Nat} {lim : Int} {vf : Value} {rows rows' : Rows2} {g : Nat} {O : Nat → Nat} {W : World} (h : NW w sb p p' G lb n lim vf rows rows' g O W) (hs : sb < w.heap.size) (h1 : p < w.heap.size) (h2 : p' < w.heap.size) (h3 : G < w.heap.size) {m X : Nat} (hX : X < 2 ^ 256) :
    NW w sb p p' G lb n lim vf rows rows' g (fun q => if q = m then X else O q) ((((W.setCell ⟨g, m * 4, none⟩ (.int .u64 ((word X 0 : Nat) : Int))).setCell ⟨g, m * 4 + 1, none⟩ (.int .u64 ((word X 1 : Nat) : Int))).setCell ⟨g, m * 4 + 2, none⟩ (.int .u64 ((word X 2 : Nat) : Int))).setCell ⟨g, m * 4 + 3, none⟩ (.int .u64 ((word X 3 : Nat) : Int))) := by
  have hg := h.hg
  have hb : Below w.heap.size W ((((W.setCell ⟨g, m * 4, none⟩ (.int .u64 ((word X 0 : Nat) : Int))).setCell ⟨g, m * 4 + 1, none⟩ (.int .u64 ((word X 1 : Nat) : Int))).setCell ⟨g, m * 4 + 2, none⟩ (.int .u64 ((word X 2 : Nat) : Int))).setCell ⟨g, m * 4 + 3, none⟩ (.int .u64 ((word X 3 : Nat) : Int))) :=
    ((((Below.refl _ W).setCell (p := ⟨g, m * 4, none⟩) hg _).setCell (p := ⟨g, m * 4 + 1, none⟩) hg _).setCell (p := ⟨g, m * 4 + 2, none⟩) hg _).setCell (p := ⟨g, m * 4 + 3, none⟩) hg _
  exact ⟨h.srch.block (hb.block _ hs), h.grids.below hb h1 h2 h3, h.next.store hX, hg, h.below.trans hb⟩

/-- What narrowed answers. -/
def NarP (rows rows' : Rows2) (i k n : Nat) (O : Nat → Nat) (w : World) (e : Ending) (w' : World) : Prop :=
  ((narOk rows rows' i k O n = true ∧ ∃ g C, e = .returned (.tuple #[.slice (some ⟨g, 0, none⟩) n C, .bool true]) ∧ w.heap.size ≤ g ∧ RwAt w' g n (narO rows rows' i k O)) ∨ (narOk rows rows' i k O n = false ∧ e = .returned (.tuple #[.slice none 0 0, .bool false]))) ∧ Below w.heap.size w w'

set_option maxRecDepth 100000 in
set_option maxHeartbeats 16000000 in
theorem narrowed_any (sb p p' G lb : Nat) (lim : Int) (vf : Value) (rows rows' : Rows2) (b C i k : Nat) (O : Nat → Nat) (w : World) (hs : Srch sb p p' G lb rows.length lim vf w) (hg : Grids p p' G rows rows' w) (ho : RwAt w b rows.length O) (hok : Ok rows) (hok' : Ok rows') (hi : i < rows.length) (hk : k < rows'.length) :
    Calls Tryd.prog 162 #[.pointer (some ⟨sb, 0, none⟩), .slice (some ⟨b, 0, none⟩) rows.length C, .int .i64 (i : Int), .int .i64 (k : Int)] w (NarP rows rows' i k rows.length O w) := by
  have hl := hok.len
  have hl' := hok'.len
  have hcl := cloneRows_any b rows.length C O w ho hl.1 hl.2
  have HS := Lib.hid hs
  have HG := Lib.hid hg
  have HO := Lib.hid (fun j (hj : j < rows.length) => ho.bits hj)
  have HBIT := Lib.hid (fun a c (ha : a < rows.length) => upB_grid hok (b := c) ha)
  have hsz := cell_lt hs.from_
  have hpz := hg.from_.lt
  have hpz' := hg.up.lt
  have hGz := hg.low.lt
  have HUL := Lib.hid (And.intro (hok'.lt k) (hok'.back.lt k))
  have hpl : ∀ x : Nat, x < 200 → (x : Int) < 200 := fun x h => by omega
  have hk200 : k < 200 := by omega
  have hkz := hpl k hk200
  have hk0 : (0 : Int) ≤ (k : Int) := by omega
  clear hs hg ho hok hok' hpl
  go_enter Tryd.func162, Tryd.ntmps162
  go_wp2_with (go_at_call 169; refine hcl.mono ?_; clear hcl; rintro e w1 ⟨g, C', rfl, hgg, hrw, hb1⟩; have H1 : Hid (NW w sb p p' G lb rows.length lim vf rows rows' g O w1) := Lib.hid ⟨HS.out.block (hb1.block _ hsz), HG.out.step hb1, hrw, hgg, hb1⟩; clear hgg hrw hb1)
  go_loopw [11] (fun mv wr => ∃ m : Nat, i + 1 ≤ m ∧ m ≤ rows.length ∧ mv = .int .i64 m ∧ (∀ q, i < q → q < m → narR rows rows' i k q (O q) ≠ 0) ∧ NW w sb p p' G lb rows.length lim vf rows rows' g (narT rows rows' i k O m) wr) (fun mv _ => rows.length - (intOf mv).toNat)
  case atStart =>
    refine ⟨i + 1, Nat.le_refl _, by omega, by go_num, fun q h1 h2 => by omega, H1.out.congr fun j _ => (narT_start rows rows' i k O j).symm⟩
  case round =>
    obtain ⟨m, hm1, hm2, rfl, hp, hh⟩ := hrel
    have HP := Lib.hid hp
    have HK := Lib.hid hh
    clear hp hh H1
    by_cases hml : m < rows.length
    · have hOm : (if m < m then narO rows rows' i k O m else O m) = O m := if_neg (Nat.lt_irrefl m)
      have e0 := HK.out.srch.from_
      have e1 := HK.out.srch.up
      have e2 := HK.out.srch.low
      have hmz : (m : Int) < (rows.length : Int) := by omega
      have hm200 : m < 256 := by omega
      have HC1 := Lib.hid (fun W (h : NW w sb p p' G lb rows.length lim vf rows rows' g (narT rows rows' i k O m) W) => gbelow_any p (gridF rows) (i : Int) (m : Int) i m W h.grids.from_ rfl (by omega) rfl hm200)
      have HC2 := Lib.hid (fun W (h : NW w sb p p' G lb rows.length lim vf rows rows' g (narT rows rows' i k O m) W) => gbelow_any p (gridF rows) (m : Int) (i : Int) m i W h.grids.from_ rfl (by omega) rfl (by omega))
      rw [HBIT.out i m hi] at HC1
      rw [HBIT.out m i hml] at HC2
      have HOm := Lib.hid (HO.out m hml)
      cases h1 : upB rows i (m : Int) with
      | true =>
        rw [h1] at HC1
        have HN := Lib.hid (show narR rows rows' i k m (O m) = O m &&& gridF rows' k by unfold narR; rw [if_pos h1])
        clear h1 HC2
        go_wp2_with (go_at_call 148; refine (HC1.out _ HK.out).mono ?_; clear HC1; rintro e w2 ⟨rfl, hb2⟩; have E0 := Lib.hid (HK.out.step hb2); clear hb2)
        obtain ⟨U, hU⟩ : ∃ U, gridF rows' k = U := ⟨_, rfl⟩
        have HUQ := Lib.hid hU
        rw [hU] at HN
        obtain ⟨X, hXd⟩ : ∃ X, O m &&& U = X := ⟨_, rfl⟩
        have HXD := Lib.hid hXd
        clear e0 e1 e2
        have HXL := Lib.hid (show X < 2 ^ 256 by rw [← hXd]; exact Nat.lt_of_le_of_lt Nat.and_le_left HOm.out)
        clear hXd hU
        have HAND := Lib.hid (show ∀ W, Calls Tryd.prog 131 #[rowV (O m), rowV U] W (SaysR X W) from fun W => by rw [← HXD.out]; exact and_any (O m) U W)
        have HN2 := Lib.hid (HN.out.trans HXD.out)
        have HCH := Lib.hid (fun W {F : Nat → Nat} (h : NW w sb p p' G lb rows.length lim vf rows rows' g F W) => (by rw [← HUQ.out]; exact h.grids.up.row k hk200 : W.cell? ⟨p', k * 4, none⟩ = some (.int .u64 ((word U 0 : Nat) : Int)) ∧ W.cell? ⟨p', k * 4 + 1, none⟩ = some (.int .u64 ((word U 1 : Nat) : Int)) ∧ W.cell? ⟨p', k * 4 + 2, none⟩ = some (.int .u64 ((word U 2 : Nat) : Int)) ∧ W.cell? ⟨p', k * 4 + 3, none⟩ = some (.int .u64 ((word U 3 : Nat) : Int))))
        have E1 := Lib.hid (E0.out.step (below_drew w2 _))
        have s := E1.out.next.cells hml
        rw [narT_self] at s
        obtain ⟨s0, s1, s2, s3⟩ := s
        clear HN
        refine wp_region_held_drew (S := (fun W' : World => W'.cell? ⟨sb, 1, none⟩ = some (.pointer (some ⟨p', 0, none⟩)) ∧ W'.cell? ⟨p', k * 4, none⟩ = some (.int .u64 ((word U 0 : Nat) : Int)) ∧ W'.cell? ⟨p', k * 4 + 1, none⟩ = some (.int .u64 ((word U 1 : Nat) : Int)) ∧ W'.cell? ⟨p', k * 4 + 2, none⟩ = some (.int .u64 ((word U 2 : Nat) : Int)) ∧ W'.cell? ⟨p', k * 4 + 3, none⟩ = some (.int .u64 ((word U 3 : Nat) : Int)))) (by kernel_rfl) ⟨E1.out.srch.up, HCH.out _ E1.out⟩ (fun hHeld => ?_)
        refine' wpAnyH_take (i := 0) (oi := ?oou0) (v := ?vvu0) ?hiu0 (by kernel_rfl) (by kernel_rfl) (by kernel_rfl) ?hqu0 (Or.inl ⟨?hwu0, ?hyu0⟩) hHeld ?restu0
        case hiu0 => simp only [List.getElem?_toArray, List.getElem?_cons_zero]; rfl
        case hqu0 => exact fun _ _ _ h => h
        case hwu0 => rfl
        case hyu0 => intro w hSw; (try dsimp only at hSw); go_simp; try (with_reducible rfl)
        try simp only [Act.put, List.setIfInBounds_toArray, List.set_cons_zero, List.set_cons_succ]
        refine' wpAnyH_take (i := 1) (oi := ?oou1) (v := ?vvu1) ?hiu1 (by kernel_rfl) (by kernel_rfl) (by kernel_rfl) ?hqu1 (Or.inl ⟨?hwu1, ?hyu1⟩) hHeld ?restu1
        case hiu1 => simp only [List.getElem?_toArray, List.getElem?_cons_succ, List.getElem?_cons_zero]; rfl
        case hqu1 => exact fun _ _ _ h => h
        case hwu1 => rfl
        case hyu1 => intro w hSw; (try dsimp only at hSw); go_simp; try (with_reducible rfl)
        try simp only [Act.put, List.setIfInBounds_toArray, List.set_cons_zero, List.set_cons_succ]
        refine' wpAnyH_take (i := 2) (oi := ?oou2) (v := ?vvu2) ?hiu2 (by kernel_rfl) (by kernel_rfl) (by kernel_rfl) ?hqu2 (Or.inl ⟨?hwu2, ?hyu2⟩) hHeld ?restu2
        case hiu2 => simp only [List.getElem?_toArray, List.getElem?_cons_succ, List.getElem?_cons_zero]; rfl
        case hqu2 => exact fun _ _ _ h => h
        case hwu2 => rfl
        case hyu2 => intro w hSw; (try dsimp only at hSw); go_simp; try (with_reducible rfl)
        try simp only [Act.put, List.setIfInBounds_toArray, List.set_cons_zero, List.set_cons_succ]
        refine' wpAnyH_take (i := 3) (oi := ?oou3) (v := ?vvu3) ?hiu3 (by kernel_rfl) (by kernel_rfl) (by kernel_rfl) ?hqu3 (Or.inl ⟨?hwu3, ?hyu3⟩) hHeld ?restu3
        case hiu3 => simp only [List.getElem?_toArray, List.getElem?_cons_succ, List.getElem?_cons_zero]; rfl
        case hqu3 => exact fun _ _ _ h => h
        case hwu3 => rfl
        case hyu3 => intro w hSw; (try dsimp only at hSw); go_simp; try (with_reducible rfl)
        try simp only [Act.put, List.setIfInBounds_toArray, List.set_cons_zero, List.set_cons_succ]
        refine' wpAnyH_take (i := 4) (oi := ?oou4) (v := ?vvu4) ?hiu4 (by kernel_rfl) (by kernel_rfl) (by kernel_rfl) ?hqu4 (Or.inl ⟨?hwu4, ?hyu4⟩) hHeld ?restu4
        case hiu4 => simp only [List.getElem?_toArray, List.getElem?_cons_succ, List.getElem?_cons_zero]; rfl
        case hqu4 => exact fun _ _ _ h => h
        case hwu4 => rfl
        case hyu4 => intro w hSw; (try dsimp only at hSw); go_simp; try (with_reducible rfl)
        try simp only [Act.put, List.setIfInBounds_toArray, List.set_cons_zero, List.set_cons_succ]
        refine' wpAnyH_take (i := 6) (oi := ?oou6) (v := ?vvu6) ?hiu6 (by kernel_rfl) (by kernel_rfl) (by kernel_rfl) ?hqu6 (Or.inl ⟨?hwu6, ?hyu6⟩) hHeld ?restu6
        case hiu6 => simp only [List.getElem?_toArray, List.getElem?_cons_succ, List.getElem?_cons_zero]; rfl
        case hqu6 => exact fun _ _ _ h => h
        case hwu6 => rfl
        case hyu6 => intro w hSw; (try dsimp only at hSw); go_simp; try (with_reducible rfl)
        try simp only [Act.put, List.setIfInBounds_toArray, List.set_cons_zero, List.set_cons_succ]
        refine' wpAnyH_take (i := 7) (oi := ?oou7) (v := ?vvu7) ?hiu7 (by kernel_rfl) (by kernel_rfl) (by kernel_rfl) ?hqu7 (Or.inl ⟨?hwu7, ?hyu7⟩) hHeld ?restu7
        case hiu7 => simp only [List.getElem?_toArray, List.getElem?_cons_succ, List.getElem?_cons_zero]; rfl
        case hqu7 => exact fun _ _ _ h => h
        case hwu7 => rfl
        case hyu7 => intro w hSw; (try dsimp only at hSw); go_simp; try (with_reducible rfl)
        try simp only [Act.put, List.setIfInBounds_toArray, List.set_cons_zero, List.set_cons_succ]
        refine' wpAnyH_take (i := 8) (oi := ?oou8) (v := ?vvu8) ?hiu8 (by kernel_rfl) (by kernel_rfl) (by kernel_rfl) ?hqu8 (Or.inl ⟨?hwu8, ?hyu8⟩) hHeld ?restu8
        case hiu8 => simp only [List.getElem?_toArray, List.getElem?_cons_succ, List.getElem?_cons_zero]; rfl
        case hqu8 => exact fun _ _ _ h => h
        case hwu8 => rfl
        case hyu8 => intro w hSw; (try dsimp only at hSw); go_simp; try (with_reducible rfl)
        try simp only [Act.put, List.setIfInBounds_toArray, List.set_cons_zero, List.set_cons_succ]
        refine' wpAnyH_take (i := 9) (oi := ?oou9) (v := ?vvu9) ?hiu9 (by kernel_rfl) (by kernel_rfl) (by kernel_rfl) ?hqu9 (Or.inl ⟨?hwu9, ?hyu9⟩) hHeld ?restu9
        case hiu9 => simp only [List.getElem?_toArray, List.getElem?_cons_succ, List.getElem?_cons_zero]; rfl
        case hqu9 => exact fun _ _ _ h => h
        case hwu9 => rfl
        case hyu9 => intro w hSw; (try dsimp only at hSw); go_simp; try (with_reducible rfl)
        try simp only [Act.put, List.setIfInBounds_toArray, List.set_cons_zero, List.set_cons_succ]
        refine' wpAnyH_take (i := 10) (oi := ?oou10) (v := ?vvu10) ?hiu10 (by kernel_rfl) (by kernel_rfl) (by kernel_rfl) ?hqu10 (Or.inl ⟨?hwu10, ?hyu10⟩) hHeld ?restu10
        case hiu10 => simp only [List.getElem?_toArray, List.getElem?_cons_succ, List.getElem?_cons_zero]; rfl
        case hqu10 => exact fun _ _ _ h => h
        case hwu10 => rfl
        case hyu10 => intro w hSw; (try dsimp only at hSw); go_simp; try (with_reducible rfl)
        try simp only [Act.put, List.setIfInBounds_toArray, List.set_cons_zero, List.set_cons_succ]
        refine' wpAnyH_take (i := 11) (oi := ?oou11) (v := ?vvu11) ?hiu11 (by kernel_rfl) (by kernel_rfl) (by kernel_rfl) ?hqu11 (Or.inl ⟨?hwu11, ?hyu11⟩) hHeld ?restu11
        case hiu11 => simp only [List.getElem?_toArray, List.getElem?_cons_succ, List.getElem?_cons_zero]; rfl
        case hqu11 => exact fun _ _ _ h => h
        case hwu11 => rfl
        case hyu11 => intro w hSw; (try dsimp only at hSw); go_simp; try (with_reducible rfl)
        try simp only [Act.put, List.setIfInBounds_toArray, List.set_cons_zero, List.set_cons_succ]
        refine' wpAnyH_take (i := 12) (oi := ?oou12) (v := ?vvu12) ?hiu12 (by kernel_rfl) (by kernel_rfl) (by kernel_rfl) ?hqu12 (Or.inl ⟨?hwu12, ?hyu12⟩) hHeld ?restu12
        case hiu12 => simp only [List.getElem?_toArray, List.getElem?_cons_succ, List.getElem?_cons_zero]; rfl
        case hqu12 => exact fun _ _ _ h => h
        case hwu12 => rfl
        case hyu12 => intro w hSw; (try dsimp only at hSw); go_simp; try (with_reducible rfl)
        try simp only [Act.put, List.setIfInBounds_toArray, List.set_cons_zero, List.set_cons_succ]
        refine' wpAnyH_take (i := 13) (oi := ?oou13) (v := ?vvu13) ?hiu13 (by kernel_rfl) (by kernel_rfl) (by kernel_rfl) ?hqu13 (Or.inl ⟨?hwu13, ?hyu13⟩) hHeld ?restu13
        case hiu13 => simp only [List.getElem?_toArray, List.getElem?_cons_succ, List.getElem?_cons_zero]; rfl
        case hqu13 => exact fun _ _ _ h => h
        case hwu13 => rfl
        case hyu13 => intro w hSw; (try dsimp only at hSw); go_simp; try (with_reducible rfl)
        try simp only [Act.put, List.setIfInBounds_toArray, List.set_cons_zero, List.set_cons_succ]
        refine wpAnyH_ready (rs := [5]) (by kernel_rfl) (by simp) ?_
        refine' AllReadyH.cons (o := ?oou5) ?hiu5 (fun K hK => ?restu5) AllReadyH.nil
        case hiu5 => simp only [List.getElem?_toArray, List.getElem?_cons_succ, List.getElem?_cons_zero]; rfl
        go_simp
        refine hK.out _ _ (by assumption) (fun hHeld => ?_)
        clear hK K
        try simp only [Act.put, List.setIfInBounds_toArray, List.set_cons_zero, List.set_cons_succ]
        refine wpAnyH_ready (rs := [14]) (by kernel_rfl) (by simp) ?_
        refine' AllReadyH.cons (o := ?oou14) ?hiu14 (fun K hK => ?restu14) AllReadyH.nil
        case hiu14 => simp only [List.getElem?_toArray, List.getElem?_cons_succ, List.getElem?_cons_zero]; rfl
        go_simp
        go_at_call 131
        refine (HAND.out _).mono ?_
        rintro e w4 ⟨rfl, hb4⟩
        have E4 := Lib.hid (E1.out.step hb4)
        have hfz := E4.out.next.frozen
        obtain ⟨t0, t1, t2, t3⟩ := E4.out.next.cells hml
        rw [narT_self] at t0 t1 t2 t3
        have E5 := Lib.hid (E4.out.store hsz hpz hpz' hGz HXL.out (m := m))
        have K5 := Lib.hid (And.intro E5.out.srch.up (HCH.out _ E5.out))
        clear hb4
        go_wp2_with fail
        refine hK.out _ _ (⟨E4.out.srch.up, HCH.out _ E4.out⟩) (fun hHeld => ?_)
        clear hK K
        try simp only [Act.put, List.setIfInBounds_toArray, List.set_cons_zero, List.set_cons_succ]
        refine' wpAnyH_take (i := 15) (oi := ?oou15) (v := ?vvu15) ?hiu15 (by kernel_rfl) (by kernel_rfl) (by kernel_rfl) ?hqu15 (Or.inl ⟨?hwu15, ?hyu15⟩) hHeld ?restu15
        case hiu15 => simp only [List.getElem?_toArray, List.getElem?_cons_succ, List.getElem?_cons_zero]; rfl
        case hqu15 => exact fun _ _ _ h => h
        case hwu15 => rfl
        case hyu15 => intro w hSw; (try dsimp only at hSw); go_simp; try (with_reducible rfl)
        try simp only [Act.put, List.setIfInBounds_toArray, List.set_cons_zero, List.set_cons_succ]
        refine wpAnyH_ready (rs := [16]) (by kernel_rfl) (by simp) ?_
        refine' AllReadyH.cons (o := ?oou16) ?hiu16 (fun K hK => ?restu16) AllReadyH.nil
        case hiu16 => simp only [List.getElem?_toArray, List.getElem?_cons_succ, List.getElem?_cons_zero]; rfl
        go_simp
        refine hK.out _ _ (K5.out) (fun hHeld => ?_)
        clear hK K
        try simp only [Act.put, List.setIfInBounds_toArray, List.set_cons_zero, List.set_cons_succ]
        refine wpAnyH_done (by kernel_rfl) ?_ _
        have E6 := Lib.hid (E5.out.congr (fun q _ => narT_next hm1 HN2.out q))
        clear s0 s1 s2 s3 t0 t1 t2 t3 hfz E5 K5 E4 E1
        generalize ((((w4.setCell _ _).setCell _ _).setCell _ _).setCell _ _) = wq at E6 ⊢
        simp only [Exit.then]
        have hv := E6.out.next.cells hml
        rw [show narT rows rows' i k O (m + 1) m = X by rw [narT_lt (Nat.lt_succ_self m)]; unfold narO; rw [if_pos (show i < m from hm1), HN2.out]] at hv
        obtain ⟨v0, v1, v2, v3⟩ := hv
        have hce := empty_any X wq HXL.out
        by_cases hx0 : X = 0
        · rw [decide_eq_true hx0] at hce
          have HE := Lib.hid (narOk_no (n := rows.length) hml hm1 (HN2.out.trans hx0))
          clear hx0
          go_wp2_with (go_at_call 142; refine hce.mono ?_; clear hce; rintro e w6 ⟨rfl, hb6⟩; have E7 := Lib.hid (E6.out.step hb6); clear hb6)
          go_ret2
          exact ⟨.inr ⟨HE.out, rfl⟩, E7.out.below⟩
        · rw [decide_eq_false hx0] at hce
          have HX0 := Lib.hid (show narR rows rows' i k m (O m) ≠ 0 by rw [HN2.out]; exact hx0)
          clear hx0
          go_wp2_with (go_at_call 142; refine hce.mono ?_; clear hce; rintro e w6 ⟨rfl, hb6⟩; have E7 := Lib.hid (E6.out.step hb6); clear hb6)
          go_roundw
          case rel =>
            refine ⟨m + 1, by omega, by omega, by go_num, fun q h1 h2 => ?_, E7.out⟩
            by_cases e : q = m
            · subst e; exact HX0.out
            · exact HP.out q h1 (by omega)
          case measure => simp [intOf]; omega
      | false =>
        rw [h1] at HC1
        cases h2 : upB rows m (i : Int) with
        | true =>
          rw [h2] at HC2
          have HN := Lib.hid (show narR rows rows' i k m (O m) = O m &&& gridF (backRows rows') k by unfold narR; rw [if_neg (by rw [h1]; simp), if_pos h2])
          clear h1 h2
          go_wp2_with (first | (go_at_call_of 148 (#[Value.pointer (some ⟨p, 0, none⟩), Value.int .i64 (i : Int), Value.int .i64 (m : Int)]); refine (HC1.out _ HK.out).mono ?_; clear HC1; rintro e w2 ⟨rfl, hb2⟩; have EA := Lib.hid (HK.out.step hb2); have ea := EA.out.srch.from_; clear hb2) | (go_at_call_of 148 (#[Value.pointer (some ⟨p, 0, none⟩), Value.int .i64 (m : Int), Value.int .i64 (i : Int)]); refine (HC2.out _ EA.out).mono ?_; clear HC2; rintro e w3 ⟨rfl, hb3⟩; have E0 := Lib.hid (EA.out.step hb3); clear hb3))
          clear ea
          obtain ⟨U, hU⟩ : ∃ U, gridF (backRows rows') k = U := ⟨_, rfl⟩
          have HUQ := Lib.hid hU
          rw [hU] at HN
          obtain ⟨X, hXd⟩ : ∃ X, O m &&& U = X := ⟨_, rfl⟩
          have HXD := Lib.hid hXd
          clear e0 e1 e2
          have HXL := Lib.hid (show X < 2 ^ 256 by rw [← hXd]; exact Nat.lt_of_le_of_lt Nat.and_le_left HOm.out)
          clear hXd hU
          have HAND := Lib.hid (show ∀ W, Calls Tryd.prog 131 #[rowV (O m), rowV U] W (SaysR X W) from fun W => by rw [← HXD.out]; exact and_any (O m) U W)
          have HN2 := Lib.hid (HN.out.trans HXD.out)
          have HCH := Lib.hid (fun W {F : Nat → Nat} (h : NW w sb p p' G lb rows.length lim vf rows rows' g F W) => (by rw [← HUQ.out]; exact h.grids.low.row k hk200 : W.cell? ⟨G, k * 4, none⟩ = some (.int .u64 ((word U 0 : Nat) : Int)) ∧ W.cell? ⟨G, k * 4 + 1, none⟩ = some (.int .u64 ((word U 1 : Nat) : Int)) ∧ W.cell? ⟨G, k * 4 + 2, none⟩ = some (.int .u64 ((word U 2 : Nat) : Int)) ∧ W.cell? ⟨G, k * 4 + 3, none⟩ = some (.int .u64 ((word U 3 : Nat) : Int))))
          have E1 := Lib.hid (E0.out.step (below_drew w3 _))
          have s := E1.out.next.cells hml
          rw [narT_self] at s
          obtain ⟨s0, s1, s2, s3⟩ := s
          clear HN
          refine wp_region_held_drew (S := (fun W' : World => W'.cell? ⟨sb, 2, none⟩ = some (.pointer (some ⟨G, 0, none⟩)) ∧ W'.cell? ⟨G, k * 4, none⟩ = some (.int .u64 ((word U 0 : Nat) : Int)) ∧ W'.cell? ⟨G, k * 4 + 1, none⟩ = some (.int .u64 ((word U 1 : Nat) : Int)) ∧ W'.cell? ⟨G, k * 4 + 2, none⟩ = some (.int .u64 ((word U 2 : Nat) : Int)) ∧ W'.cell? ⟨G, k * 4 + 3, none⟩ = some (.int .u64 ((word U 3 : Nat) : Int)))) (by kernel_rfl) ⟨E1.out.srch.low, HCH.out _ E1.out⟩ (fun hHeld => ?_)
          refine' wpAnyH_take (i := 0) (oi := ?ool0) (v := ?vvl0) ?hil0 (by kernel_rfl) (by kernel_rfl) (by kernel_rfl) ?hql0 (Or.inl ⟨?hwl0, ?hyl0⟩) hHeld ?restl0
          case hil0 => simp only [List.getElem?_toArray, List.getElem?_cons_zero]; rfl
          case hql0 => exact fun _ _ _ h => h
          case hwl0 => rfl
          case hyl0 => intro w hSw; (try dsimp only at hSw); go_simp; try (with_reducible rfl)
          try simp only [Act.put, List.setIfInBounds_toArray, List.set_cons_zero, List.set_cons_succ]
          refine' wpAnyH_take (i := 1) (oi := ?ool1) (v := ?vvl1) ?hil1 (by kernel_rfl) (by kernel_rfl) (by kernel_rfl) ?hql1 (Or.inl ⟨?hwl1, ?hyl1⟩) hHeld ?restl1
          case hil1 => simp only [List.getElem?_toArray, List.getElem?_cons_succ, List.getElem?_cons_zero]; rfl
          case hql1 => exact fun _ _ _ h => h
          case hwl1 => rfl
          case hyl1 => intro w hSw; (try dsimp only at hSw); go_simp; try (with_reducible rfl)
          try simp only [Act.put, List.setIfInBounds_toArray, List.set_cons_zero, List.set_cons_succ]
          refine' wpAnyH_take (i := 2) (oi := ?ool2) (v := ?vvl2) ?hil2 (by kernel_rfl) (by kernel_rfl) (by kernel_rfl) ?hql2 (Or.inl ⟨?hwl2, ?hyl2⟩) hHeld ?restl2
          case hil2 => simp only [List.getElem?_toArray, List.getElem?_cons_succ, List.getElem?_cons_zero]; rfl
          case hql2 => exact fun _ _ _ h => h
          case hwl2 => rfl
          case hyl2 => intro w hSw; (try dsimp only at hSw); go_simp; try (with_reducible rfl)
          try simp only [Act.put, List.setIfInBounds_toArray, List.set_cons_zero, List.set_cons_succ]
          refine' wpAnyH_take (i := 3) (oi := ?ool3) (v := ?vvl3) ?hil3 (by kernel_rfl) (by kernel_rfl) (by kernel_rfl) ?hql3 (Or.inl ⟨?hwl3, ?hyl3⟩) hHeld ?restl3
          case hil3 => simp only [List.getElem?_toArray, List.getElem?_cons_succ, List.getElem?_cons_zero]; rfl
          case hql3 => exact fun _ _ _ h => h
          case hwl3 => rfl
          case hyl3 => intro w hSw; (try dsimp only at hSw); go_simp; try (with_reducible rfl)
          try simp only [Act.put, List.setIfInBounds_toArray, List.set_cons_zero, List.set_cons_succ]
          refine' wpAnyH_take (i := 4) (oi := ?ool4) (v := ?vvl4) ?hil4 (by kernel_rfl) (by kernel_rfl) (by kernel_rfl) ?hql4 (Or.inl ⟨?hwl4, ?hyl4⟩) hHeld ?restl4
          case hil4 => simp only [List.getElem?_toArray, List.getElem?_cons_succ, List.getElem?_cons_zero]; rfl
          case hql4 => exact fun _ _ _ h => h
          case hwl4 => rfl
          case hyl4 => intro w hSw; (try dsimp only at hSw); go_simp; try (with_reducible rfl)
          try simp only [Act.put, List.setIfInBounds_toArray, List.set_cons_zero, List.set_cons_succ]
          refine' wpAnyH_take (i := 6) (oi := ?ool6) (v := ?vvl6) ?hil6 (by kernel_rfl) (by kernel_rfl) (by kernel_rfl) ?hql6 (Or.inl ⟨?hwl6, ?hyl6⟩) hHeld ?restl6
          case hil6 => simp only [List.getElem?_toArray, List.getElem?_cons_succ, List.getElem?_cons_zero]; rfl
          case hql6 => exact fun _ _ _ h => h
          case hwl6 => rfl
          case hyl6 => intro w hSw; (try dsimp only at hSw); go_simp; try (with_reducible rfl)
          try simp only [Act.put, List.setIfInBounds_toArray, List.set_cons_zero, List.set_cons_succ]
          refine' wpAnyH_take (i := 7) (oi := ?ool7) (v := ?vvl7) ?hil7 (by kernel_rfl) (by kernel_rfl) (by kernel_rfl) ?hql7 (Or.inl ⟨?hwl7, ?hyl7⟩) hHeld ?restl7
          case hil7 => simp only [List.getElem?_toArray, List.getElem?_cons_succ, List.getElem?_cons_zero]; rfl
          case hql7 => exact fun _ _ _ h => h
          case hwl7 => rfl
          case hyl7 => intro w hSw; (try dsimp only at hSw); go_simp; try (with_reducible rfl)
          try simp only [Act.put, List.setIfInBounds_toArray, List.set_cons_zero, List.set_cons_succ]
          refine' wpAnyH_take (i := 8) (oi := ?ool8) (v := ?vvl8) ?hil8 (by kernel_rfl) (by kernel_rfl) (by kernel_rfl) ?hql8 (Or.inl ⟨?hwl8, ?hyl8⟩) hHeld ?restl8
          case hil8 => simp only [List.getElem?_toArray, List.getElem?_cons_succ, List.getElem?_cons_zero]; rfl
          case hql8 => exact fun _ _ _ h => h
          case hwl8 => rfl
          case hyl8 => intro w hSw; (try dsimp only at hSw); go_simp; try (with_reducible rfl)
          try simp only [Act.put, List.setIfInBounds_toArray, List.set_cons_zero, List.set_cons_succ]
          refine' wpAnyH_take (i := 9) (oi := ?ool9) (v := ?vvl9) ?hil9 (by kernel_rfl) (by kernel_rfl) (by kernel_rfl) ?hql9 (Or.inl ⟨?hwl9, ?hyl9⟩) hHeld ?restl9
          case hil9 => simp only [List.getElem?_toArray, List.getElem?_cons_succ, List.getElem?_cons_zero]; rfl
          case hql9 => exact fun _ _ _ h => h
          case hwl9 => rfl
          case hyl9 => intro w hSw; (try dsimp only at hSw); go_simp; try (with_reducible rfl)
          try simp only [Act.put, List.setIfInBounds_toArray, List.set_cons_zero, List.set_cons_succ]
          refine' wpAnyH_take (i := 10) (oi := ?ool10) (v := ?vvl10) ?hil10 (by kernel_rfl) (by kernel_rfl) (by kernel_rfl) ?hql10 (Or.inl ⟨?hwl10, ?hyl10⟩) hHeld ?restl10
          case hil10 => simp only [List.getElem?_toArray, List.getElem?_cons_succ, List.getElem?_cons_zero]; rfl
          case hql10 => exact fun _ _ _ h => h
          case hwl10 => rfl
          case hyl10 => intro w hSw; (try dsimp only at hSw); go_simp; try (with_reducible rfl)
          try simp only [Act.put, List.setIfInBounds_toArray, List.set_cons_zero, List.set_cons_succ]
          refine' wpAnyH_take (i := 11) (oi := ?ool11) (v := ?vvl11) ?hil11 (by kernel_rfl) (by kernel_rfl) (by kernel_rfl) ?hql11 (Or.inl ⟨?hwl11, ?hyl11⟩) hHeld ?restl11
          case hil11 => simp only [List.getElem?_toArray, List.getElem?_cons_succ, List.getElem?_cons_zero]; rfl
          case hql11 => exact fun _ _ _ h => h
          case hwl11 => rfl
          case hyl11 => intro w hSw; (try dsimp only at hSw); go_simp; try (with_reducible rfl)
          try simp only [Act.put, List.setIfInBounds_toArray, List.set_cons_zero, List.set_cons_succ]
          refine' wpAnyH_take (i := 12) (oi := ?ool12) (v := ?vvl12) ?hil12 (by kernel_rfl) (by kernel_rfl) (by kernel_rfl) ?hql12 (Or.inl ⟨?hwl12, ?hyl12⟩) hHeld ?restl12
          case hil12 => simp only [List.getElem?_toArray, List.getElem?_cons_succ, List.getElem?_cons_zero]; rfl
          case hql12 => exact fun _ _ _ h => h
          case hwl12 => rfl
          case hyl12 => intro w hSw; (try dsimp only at hSw); go_simp; try (with_reducible rfl)
          try simp only [Act.put, List.setIfInBounds_toArray, List.set_cons_zero, List.set_cons_succ]
          refine' wpAnyH_take (i := 13) (oi := ?ool13) (v := ?vvl13) ?hil13 (by kernel_rfl) (by kernel_rfl) (by kernel_rfl) ?hql13 (Or.inl ⟨?hwl13, ?hyl13⟩) hHeld ?restl13
          case hil13 => simp only [List.getElem?_toArray, List.getElem?_cons_succ, List.getElem?_cons_zero]; rfl
          case hql13 => exact fun _ _ _ h => h
          case hwl13 => rfl
          case hyl13 => intro w hSw; (try dsimp only at hSw); go_simp; try (with_reducible rfl)
          try simp only [Act.put, List.setIfInBounds_toArray, List.set_cons_zero, List.set_cons_succ]
          refine wpAnyH_ready (rs := [5]) (by kernel_rfl) (by simp) ?_
          refine' AllReadyH.cons (o := ?ool5) ?hil5 (fun K hK => ?restl5) AllReadyH.nil
          case hil5 => simp only [List.getElem?_toArray, List.getElem?_cons_succ, List.getElem?_cons_zero]; rfl
          go_simp
          refine hK.out _ _ (by assumption) (fun hHeld => ?_)
          clear hK K
          try simp only [Act.put, List.setIfInBounds_toArray, List.set_cons_zero, List.set_cons_succ]
          refine wpAnyH_ready (rs := [14]) (by kernel_rfl) (by simp) ?_
          refine' AllReadyH.cons (o := ?ool14) ?hil14 (fun K hK => ?restl14) AllReadyH.nil
          case hil14 => simp only [List.getElem?_toArray, List.getElem?_cons_succ, List.getElem?_cons_zero]; rfl
          go_simp
          go_at_call 131
          refine (HAND.out _).mono ?_
          rintro e w4 ⟨rfl, hb4⟩
          have E4 := Lib.hid (E1.out.step hb4)
          have hfz := E4.out.next.frozen
          obtain ⟨t0, t1, t2, t3⟩ := E4.out.next.cells hml
          rw [narT_self] at t0 t1 t2 t3
          have E5 := Lib.hid (E4.out.store hsz hpz hpz' hGz HXL.out (m := m))
          have K5 := Lib.hid (And.intro E5.out.srch.low (HCH.out _ E5.out))
          clear hb4
          go_wp2_with fail
          refine hK.out _ _ (⟨E4.out.srch.low, HCH.out _ E4.out⟩) (fun hHeld => ?_)
          clear hK K
          try simp only [Act.put, List.setIfInBounds_toArray, List.set_cons_zero, List.set_cons_succ]
          refine' wpAnyH_take (i := 15) (oi := ?ool15) (v := ?vvl15) ?hil15 (by kernel_rfl) (by kernel_rfl) (by kernel_rfl) ?hql15 (Or.inl ⟨?hwl15, ?hyl15⟩) hHeld ?restl15
          case hil15 => simp only [List.getElem?_toArray, List.getElem?_cons_succ, List.getElem?_cons_zero]; rfl
          case hql15 => exact fun _ _ _ h => h
          case hwl15 => rfl
          case hyl15 => intro w hSw; (try dsimp only at hSw); go_simp; try (with_reducible rfl)
          try simp only [Act.put, List.setIfInBounds_toArray, List.set_cons_zero, List.set_cons_succ]
          refine wpAnyH_ready (rs := [16]) (by kernel_rfl) (by simp) ?_
          refine' AllReadyH.cons (o := ?ool16) ?hil16 (fun K hK => ?restl16) AllReadyH.nil
          case hil16 => simp only [List.getElem?_toArray, List.getElem?_cons_succ, List.getElem?_cons_zero]; rfl
          go_simp
          refine hK.out _ _ (K5.out) (fun hHeld => ?_)
          clear hK K
          try simp only [Act.put, List.setIfInBounds_toArray, List.set_cons_zero, List.set_cons_succ]
          refine wpAnyH_done (by kernel_rfl) ?_ _
          have E6 := Lib.hid (E5.out.congr (fun q _ => narT_next hm1 HN2.out q))
          clear s0 s1 s2 s3 t0 t1 t2 t3 hfz E5 K5 E4 E1
          generalize ((((w4.setCell _ _).setCell _ _).setCell _ _).setCell _ _) = wq at E6 ⊢
          simp only [Exit.then]
          have hv := E6.out.next.cells hml
          rw [show narT rows rows' i k O (m + 1) m = X by rw [narT_lt (Nat.lt_succ_self m)]; unfold narO; rw [if_pos (show i < m from hm1), HN2.out]] at hv
          obtain ⟨v0, v1, v2, v3⟩ := hv
          have hce := empty_any X wq HXL.out
          by_cases hx0 : X = 0
          · rw [decide_eq_true hx0] at hce
            have HE := Lib.hid (narOk_no (n := rows.length) hml hm1 (HN2.out.trans hx0))
            clear hx0
            go_wp2_with (go_at_call 142; refine hce.mono ?_; clear hce; rintro e w6 ⟨rfl, hb6⟩; have E7 := Lib.hid (E6.out.step hb6); clear hb6)
            go_ret2
            exact ⟨.inr ⟨HE.out, rfl⟩, E7.out.below⟩
          · rw [decide_eq_false hx0] at hce
            have HX0 := Lib.hid (show narR rows rows' i k m (O m) ≠ 0 by rw [HN2.out]; exact hx0)
            clear hx0
            go_wp2_with (go_at_call 142; refine hce.mono ?_; clear hce; rintro e w6 ⟨rfl, hb6⟩; have E7 := Lib.hid (E6.out.step hb6); clear hb6)
            go_roundw
            case rel =>
              refine ⟨m + 1, by omega, by omega, by go_num, fun q h1 h2 => ?_, E7.out⟩
              by_cases e : q = m
              · subst e; exact HX0.out
              · exact HP.out q h1 (by omega)
            case measure => simp [intOf]; omega
        | false =>
          rw [h2] at HC2
          have HN := Lib.hid (show narR rows rows' i k m (O m) = O m by unfold narR; rw [if_neg (by rw [h1]; simp), if_neg (by rw [h2]; simp)])
          clear h1 h2
          obtain ⟨X, hXd⟩ : ∃ X, O m = X := ⟨_, rfl⟩
          have HXL := Lib.hid (show X < 2 ^ 256 by rw [← hXd]; exact HOm.out)
          have HN2 := Lib.hid (show narR rows rows' i k m (O m) = X by rw [HN.out, hXd])
          clear hXd e1 e2
          have HVX := Lib.hid (show narT rows rows' i k O (m + 1) m = X by rw [narT_lt (Nat.lt_succ_self m)]; unfold narO; rw [if_pos (show i < m from hm1), HN2.out])
          have hce := fun W => empty_any X W HXL.out
          by_cases hx0 : X = 0
          · rw [decide_eq_true hx0] at hce
            have HCE := Lib.hid hce
            have HE := Lib.hid (narOk_no (n := rows.length) hml hm1 (HN2.out.trans hx0))
            clear hx0 hce
            go_wp2_with (first | (go_at_call_of 148 (#[Value.pointer (some ⟨p, 0, none⟩), Value.int .i64 (i : Int), Value.int .i64 (m : Int)]); refine (HC1.out _ HK.out).mono ?_; clear HC1; rintro e w2 ⟨rfl, hb2⟩; have EA := Lib.hid (HK.out.step hb2); have ea := EA.out.srch.from_; clear hb2) | (go_at_call_of 148 (#[Value.pointer (some ⟨p, 0, none⟩), Value.int .i64 (m : Int), Value.int .i64 (i : Int)]); refine (HC2.out _ EA.out).mono ?_; clear HC2; rintro e wq ⟨rfl, hb3⟩; have E6 := Lib.hid ((EA.out.step hb3).congr (fun q _ => narT_same hm1 HN.out q)); have hv := E6.out.next.cells hml; rw [HVX.out] at hv; obtain ⟨v0, v1, v2, v3⟩ := hv; clear hb3) | (go_at_call 142; refine (HCE.out _).mono ?_; rintro e w6 ⟨rfl, hb6⟩; have E7 := Lib.hid (E6.out.step hb6); clear hb6))
            go_ret2
            exact ⟨.inr ⟨HE.out, rfl⟩, E7.out.below⟩
          · rw [decide_eq_false hx0] at hce
            have HCE := Lib.hid hce
            have HX0 := Lib.hid (show narR rows rows' i k m (O m) ≠ 0 by rw [HN2.out]; exact hx0)
            clear hx0 hce
            go_wp2_with (first | (go_at_call_of 148 (#[Value.pointer (some ⟨p, 0, none⟩), Value.int .i64 (i : Int), Value.int .i64 (m : Int)]); refine (HC1.out _ HK.out).mono ?_; clear HC1; rintro e w2 ⟨rfl, hb2⟩; have EA := Lib.hid (HK.out.step hb2); have ea := EA.out.srch.from_; clear hb2) | (go_at_call_of 148 (#[Value.pointer (some ⟨p, 0, none⟩), Value.int .i64 (m : Int), Value.int .i64 (i : Int)]); refine (HC2.out _ EA.out).mono ?_; clear HC2; rintro e wq ⟨rfl, hb3⟩; have E6 := Lib.hid ((EA.out.step hb3).congr (fun q _ => narT_same hm1 HN.out q)); have hv := E6.out.next.cells hml; rw [HVX.out] at hv; obtain ⟨v0, v1, v2, v3⟩ := hv; clear hb3) | (go_at_call 142; refine (HCE.out _).mono ?_; rintro e w6 ⟨rfl, hb6⟩; have E7 := Lib.hid (E6.out.step hb6); clear hb6))
            go_roundw
            case rel =>
              refine ⟨m + 1, by omega, by omega, by go_num, fun q h1 h2 => ?_, E7.out⟩
              by_cases e : q = m
              · subst e; exact HX0.out
              · exact HP.out q h1 (by omega)
            case measure => simp [intOf]; omega
    · obtain rfl : m = rows.length := by omega
      have HE := Lib.hid (narOk_yes (n := rows.length) HP.out)
      go_wp2
      go_ret2
      refine ⟨.inl ⟨HE.out, g, C', rfl, HK.out.hg, HK.out.next.congr fun j hj => narT_lt hj⟩, HK.out.below⟩
end Go.Proofs.YtkomghohdhengaaDoor

/- What the choices of the program's search for monotone functions mean: just those numbers are left to an element that fit with all that is chosen. Plain facts: no function is walked here. -/
namespace Go.Proofs.YtkomghohdhengaaDoor
open Go.RowKit Go.Deep

/-- The choices behind a list are those that fit with it. -/
def Cho (rows rows' : Rows2) (l : List Nat) (O : Nat → Nat) : Prop :=
  ∀ m, l.length ≤ m → m < rows.length → ∀ c, (O m).testBit c = true ↔ c < rows'.length ∧ ∀ q, q < l.length → (upB rows q (m : Int) = true → upB rows' (l.getD q 0) (c : Int) = true) ∧ (upB rows m (q : Int) = true → upB rows' c ((l.getD q 0 : Nat) : Int) = true)
theorem Cho.fine {rows rows' : Rows2} {l : List Nat} {O : Nat → Nat} (h : Cho rows rows' l O) (hl : l.length < rows.length) {c : Nat} :
    (O l.length).testBit c = true ↔ c < rows'.length ∧ fineN (Bf rows) (Bf rows') l c = true := by
  rw [h _ (Nat.le_refl _) hl c, fineN_iff]
theorem Cho.next {rows rows' : Rows2} {l : List Nat} {O : Nat → Nat} (hok : Ok rows) (hok' : Ok rows') (h : Cho rows rows' l O) (hl : l.length < rows.length) {k : Nat} (hk : k < rows'.length) :
    Cho rows rows' (l ++ [k]) (narO rows rows' l.length k O) := by
  intro m hm hmn c
  rw [List.length_append, List.length_singleton] at hm
  have hlm : l.length < m := by omega
  have ho := h m (by omega) hmn c
  have hup : (gridF rows' k).testBit c = upB rows' k (c : Int) := upB_grid hok' hk
  have hlo : c < rows'.length → (gridF (backRows rows') k).testBit c = upB rows' c (k : Int) := fun hc => by rw [back_bit hok' k c]; exact upB_grid hok' hc
  have hsplit : (∀ q, q < (l ++ [k]).length → (upB rows q (m : Int) = true → upB rows' ((l ++ [k]).getD q 0) (c : Int) = true) ∧ (upB rows m (q : Int) = true → upB rows' c (((l ++ [k]).getD q 0 : Nat) : Int) = true)) ↔
      (∀ q, q < l.length → (upB rows q (m : Int) = true → upB rows' (l.getD q 0) (c : Int) = true) ∧ (upB rows m (q : Int) = true → upB rows' c ((l.getD q 0 : Nat) : Int) = true)) ∧
      (upB rows l.length (m : Int) = true → upB rows' k (c : Int) = true) ∧ (upB rows m (l.length : Int) = true → upB rows' c (k : Int) = true) := by
    constructor
    · intro H
      refine ⟨fun q hq => ?_, ?_⟩
      · have := H q (by rw [List.length_append]; omega)
        rw [getD_app hq] at this
        exact this
      · have := H l.length (by rw [List.length_append, List.length_singleton]; omega)
        rw [getD_end l k []] at this
        exact this
    · rintro ⟨H1, H2⟩ q hq
      rw [List.length_append, List.length_singleton] at hq
      by_cases e : q = l.length
      · subst e
        rw [getD_end l k []]
        exact H2
      · rw [getD_app (show q < l.length by omega)]
        exact H1 q (by omega)
  rw [hsplit]
  unfold narO
  rw [if_pos hlm]
  unfold narR
  by_cases h1 : upB rows l.length (m : Int) = true
  · rw [if_pos h1, Nat.testBit_and, Bool.and_eq_true, ho, hup]
    have hno : ¬ upB rows m (l.length : Int) = true := fun h2 => by
      have := up_anti hok hl hmn h1 h2
      omega
    constructor
    · rintro ⟨⟨a1, a2⟩, a3⟩
      exact ⟨a1, a2, fun _ => a3, fun h2 => absurd h2 hno⟩
    · rintro ⟨a1, a2, a3, _⟩
      exact ⟨⟨a1, a2⟩, a3 h1⟩
  · rw [if_neg h1]
    by_cases h2 : upB rows m (l.length : Int) = true
    · rw [if_pos h2, Nat.testBit_and, Bool.and_eq_true, ho]
      constructor
      · rintro ⟨⟨a1, a2⟩, a3⟩
        rw [hlo a1] at a3
        exact ⟨a1, a2, fun h => absurd h h1, fun _ => a3⟩
      · rintro ⟨a1, a2, _, a3⟩
        exact ⟨⟨a1, a2⟩, by rw [hlo a1]; exact a3 h2⟩
    · rw [if_neg h2, ho]
      constructor
      · rintro ⟨a1, a2⟩
        exact ⟨a1, a2, fun h => absurd h h1, fun h => absurd h h2⟩
      · rintro ⟨a1, a2, _, _⟩
        exact ⟨a1, a2⟩
/-- Where some later element has no choice, no monotone function goes on. -/
theorem Cho.none {rows rows' : Rows2} {l : List Nat} {O : Nat → Nat} (hok : Ok rows) (hok' : Ok rows') (h : Cho rows rows' l O) {f k : Nat} (hl : l.length + f + 1 = rows.length) (hk : k < rows'.length) (hn : narOk rows rows' l.length k O rows.length = false) :
    extL rows'.length (monN (Bf rows) (Bf rows')) f (l ++ [k]) = [] := by
  have hc := h.next hok hok' (by omega) hk
  unfold narOk at hn
  rw [List.all_eq_false] at hn
  obtain ⟨m, hm, hz⟩ := hn
  rw [List.mem_range] at hm
  simp only [Bool.not_eq_true, Bool.or_eq_false_iff, Bool.not_eq_false', decide_eq_true_eq] at hz
  obtain ⟨him, hz0⟩ := hz
  refine extL_none fun t ht hy => ?_
  cases e : monN (Bf rows) (Bf rows') (l ++ [k] ++ t) with
  | false => rfl
  | true =>
    have hM := monN_iff.1 e
    have hlen : (l ++ [k] ++ t).length = rows.length := by simp; omega
    have hmm : m - (l ++ [k]).length < t.length := by simp; omega
    have hcm : (l ++ [k] ++ t).getD m 0 < rows'.length := by
      rw [List.getD_eq_getElem?_getD, List.getElem?_append_right (by simp; omega), List.getElem?_eq_getElem hmm]
      exact hy _ (List.getElem_mem hmm)
    have hb := (hc m (by simp; omega) hm ((l ++ [k] ++ t).getD m 0)).2 ⟨hcm, fun q hq => by
      have hq2 : q < (l ++ [k] ++ t).length := by rw [List.length_append]; omega
      have e1 := hM q m hq2 (by rw [hlen]; exact hm)
      have e2 := hM m q (by rw [hlen]; exact hm) hq2
      rw [getD_app hq] at e1 e2
      exact ⟨e1, e2⟩⟩
    rw [hz0, Nat.zero_testBit] at hb
    cases hb
/-- At the beginning every element is a choice. -/
theorem Cho.start {rows rows' : Rows2} {O : Nat → Nat} (h : ∀ m, m < rows.length → ∀ c, (O m).testBit c = decide (c < rows'.length)) : Cho rows rows' [] O := fun m _ hm c => by
  rw [h m hm c, decide_eq_true_iff]
  exact ⟨fun h => ⟨h, fun q hq => absurd hq (Nat.not_lt_zero _)⟩, fun h => h.1⟩
end Go.Proofs.YtkomghohdhengaaDoor

/- A copy of a list of numbers (slices.Clone at []int). -/
namespace Go.Proofs.YtkomghohdhengaaDoor
open Go.RowKit Go.Deep Go.Shelf

set_option maxRecDepth 100000 in
set_option maxHeartbeats 4000000 in
theorem cloneInts_any (b C : Nat) (xs : List Int) (w : World) (hx : ∀ q (h : q < xs.length), w.cell? ⟨b, q, none⟩ = some (.int .i64 xs[q])) (hn : 0 < xs.length) (hn2 : xs.length ≤ 200) (hwf : ∀ x ∈ xs, (Lit.int .i64 x).wf = true) :
    Calls Tryd.prog 161 #[.slice (some ⟨b, 0, none⟩) xs.length C] w fun e w' => ∃ v, e = .returned v ∧ OwnI 3 w' v xs w.heap.size w'.heap.size ∧ Below w.heap.size w w' := by
  have hbA := (Below.refl w.heap.size w).alloc (Nat.le_refl _) (.cells #[] 3)
  have HNEWS := Lib.hid (show ∀ j u, (cellsI xs)[j]? = some u → (w.alloc (.cells #[] 3)).cell? ((⟨b, 0, none⟩ : Addr).add j) = some u from fun j u hj => by
    unfold cellsI at hj
    rw [List.getElem?_map] at hj
    by_cases h : j < xs.length
    · rw [List.getElem?_eq_getElem h] at hj
      cases hj
      rw [Addr.add_lit, Nat.zero_add]
      exact (hbA.cell (p := ⟨b, j, none⟩) (cell_lt (hx j h))).trans (hx j h)
    · rw [List.getElem?_eq_none (by omega)] at hj
      cases hj)
  have HMADE := Lib.hid (World.ownsRow_made (e := 3) (size := 1) w #[] 0 (base := w.heap.size) (Nat.le_refl _) (Nat.zero_le _) (by simp))
  have HBA := Lib.hid hbA
  obtain ⟨i0, hi0, hz0, hz1, hz2⟩ := info_parts infoInt
  have hq := fun w => Lib.run_eql_slice_nil (P := Tryd.prog) w 26 3 (some ⟨b, 0, none⟩) xs.length C 0 0 Tryd.underlying26
  have HWF := Lib.hid hwf
  clear hx hbA hwf
  go_enter Tryd.func161, Tryd.ntmps161
  go_wp2_with (at_builtin; refine wpList_append_own _ rfl _ _ 26 rfl w.heap.size 3 i0 (.int .i64 0) 1 8 Tryd.underlying26 hi0 hz0 hz1 hz2 rfl (by decide) _ _ _ rfl HMADE.out ⟨b, 0, none⟩ xs.length C (cellsI xs) rfl (by simp) HNEWS.out (fun u hu => by obtain ⟨x, _, rfl⟩ := List.mem_map.1 hu; rfl) (by unfold maxLen; omega) (by omega) (by simp) ?_; intro v1 w3 hown1 hgrow1 _; rw [List.nil_append, Nat.zero_add] at hown1; have HB3 : Hid (Below w.heap.size w w3) := Lib.hid (HBA.out.grown hgrow1 HBA.out.size (fun b e => (HMADE.out.lt b e).1)); have HO3 := Lib.hid (OwnI.of_owns hown1 HWF.out (fun b hb => (hown1.lt b hb).2)); clear hown1 hgrow1)
  go_ret
  exact ⟨v1, rfl, HO3.out, HB3.out⟩
end Go.Proofs.YtkomghohdhengaaDoor

/- The search's end: a list that is whole is kept (funSearch.place). -/
namespace Go.Proofs.YtkomghohdhengaaDoor
open Go.RowKit Go.Deep Go.Shelf

/-- What a search may change: its own variable, its list, and the row of what it has found. -/
structure Spared (sb lb : Nat) (vf : Value) (w w' : World) : Prop where
  os : w'.os = w.os
  tape : w'.tape = w.tape
  output : w'.output = w.output
  size : w.heap.size ≤ w'.heap.size
  block : ∀ b, b < w.heap.size → b ≠ sb → b ≠ lb → vf.ownBlock ≠ some b → w'.heap[b]? = w.heap[b]?
/-- The world of a search: its variable, the grids, the numbers chosen, the lists found. -/
structure PW (sb p p' G lb lo lim : Nat) (rows rows' : Rows2) (l : List Nat) (R : List (List Nat)) (vf : Value) (W : World) : Prop where
  srch : Srch sb p p' G lb rows.length (lim : Int) vf W
  open_ : W.frozen? ⟨sb, 5, none⟩ = false
  grids : Grids p p' G rows rows' W
  list : ∃ C f, W.rowIs lb 3 C f ∧ rows.length ≤ C ∧ ∀ q, q < l.length → f q = .int .i64 ((l.getD q 0 : Nat) : Int)
  found : OwnR 3 26 W vf R.length (rowsF (I2 R)) lo W.heap.size
theorem PW.step {sb p p' G lb lo lim : Nat} {rows rows' : Rows2} {l : List Nat} {R : List (List Nat)} {vf : Value} {W W' : World} (h : PW sb p p' G lb lo lim rows rows' l R vf W) (hb : Below W.heap.size W W') : PW sb p p' G lb lo lim rows rows' l R vf W' := by
  have hs := cell_lt h.srch.from_
  obtain ⟨C, f, h1, h2, h3⟩ := h.list
  have hl : lb < W.heap.size := by
    obtain ⟨c, hc, _⟩ := h1
    exact (Array.getElem?_eq_some_iff.1 hc).1
  refine ⟨h.srch.block (hb.block _ hs), ?_, h.grids.step hb, ⟨C, f, ?_, h2, h3⟩, ?_⟩
  · exact (hb.frozen (p := ⟨sb, 5, none⟩) hs).trans h.open_
  · obtain ⟨c, hc, hr⟩ := h1
    exact ⟨c, (hb.block _ hl).trans hc, hr⟩
  · exact (h.found.kept fun b _ hbl => hb.block b hbl).wider (Nat.le_refl _) hb.size

theorem GridAt.block {W W' : World} {b : Nat} {g : Nat → Nat} (h : GridAt W b g) (e : W'.heap[b]? = W.heap[b]?) : GridAt W' b g := ⟨e.trans h.1, h.2⟩
theorem PW.put {sb p p' G lb lo lim : Nat} {rows rows' : Rows2} {l : List Nat} {R R' : List (List Nat)} {vf v' : Value} {W W' : World} (h : PW sb p p' G lb lo lim rows rows' l R vf W) (hb : ∀ b, b < lo → W'.heap[b]? = W.heap[b]?)
    (hs : sb < lo) (hl : lb < lo ∧ lb ≠ sb) (h1 : p < lo ∧ p ≠ sb) (h2 : p' < lo ∧ p' ≠ sb) (h3 : G < lo ∧ G ≠ sb) (hf : OwnR 3 26 W' v' R'.length (rowsF (I2 R')) lo W'.heap.size) :
    PW sb p p' G lb lo lim rows rows' l R' v' (W'.setCell ⟨sb, 5, none⟩ v') := by
  have hs5 := h.srch.block (hb sb hs)
  have hk : ∀ b, b ≠ sb → b < lo → (W'.setCell ⟨sb, 5, none⟩ v').heap[b]? = W.heap[b]? := fun b hne hlt => (Below.heap_setCell W' ⟨sb, 5, none⟩ v' b hne).trans (hb b hlt)
  have ho : ∀ o, o ≠ 5 → (W'.setCell ⟨sb, 5, none⟩ v').cell? ⟨sb, o, none⟩ = W'.cell? ⟨sb, o, none⟩ := fun o ho => World.cell?_setCell_other _ _ _ _ (fun e => ho (by injection e with _ e; exact e.symm))
  obtain ⟨C, f, ⟨c, hc, hr⟩, l2, l3⟩ := h.list
  refine ⟨⟨(ho 0 (by decide)).trans hs5.from_, (ho 1 (by decide)).trans hs5.up, (ho 2 (by decide)).trans hs5.low, (ho 3 (by decide)).trans hs5.limit, (ho 4 (by decide)).trans hs5.list, World.cell?_setCell_same _ _ _ hs5.found⟩, ?_, ⟨h.grids.from_.block (hk p h1.2 h1.1), h.grids.up.block (hk p' h2.2 h2.1), h.grids.low.block (hk G h3.2 h3.1)⟩, ⟨C, f, ⟨c, (hk lb hl.2 hl.1).trans hc, hr⟩, l2, l3⟩, ?_⟩
  · rw [World.frozen?_setCell]
    exact (World.frozen?_of_block (hb sb hs)).trans h.open_
  · rw [size_setCell]
    exact hf.kept fun b h4 _ => Below.heap_setCell _ _ _ b (show b ≠ sb by omega)
theorem Spared.of {sb lb : Nat} {vf v : Value} {w W W' : World} {o : Nat} (hb : Below w.heap.size w W) (hg : W.grownBy W' vf.ownBlock) : Spared sb lb vf w (W'.setCell ⟨sb, o, none⟩ v) :=
  have hs := Below.setCell (Below.refl 0 W') (p := ⟨sb, o, none⟩) (Nat.zero_le _) v
  ⟨hs.os.trans (hg.os.trans hb.os), hs.tape.trans (hg.tape.trans hb.tape), hs.output.trans (hg.output.trans hb.output), Nat.le_trans hb.size (Nat.le_trans hg.size hs.size), fun b h1 h2 _ h4 =>
    (Below.heap_setCell W' ⟨sb, o, none⟩ v b h2).trans ((hg.block b (Nat.lt_of_lt_of_le h1 hb.size) (fun e => h4 e.symm)).trans (hb.block b h1))⟩
theorem PW.clone {sb p p' G lb lo lim : Nat} {rows rows' : Rows2} {l : List Nat} {R : List (List Nat)} {vf : Value} {W : World} (h : PW sb p p' G lb lo lim rows rows' l R vf W) (hl : l.length = rows.length) (hn : 0 < rows.length ∧ rows.length ≤ 200 ∧ ∀ x ∈ l, x < 200) :
    Calls Tryd.prog 161 #[.slice (some ⟨lb, 0, none⟩) rows.length rows.length] W (fun e w' => ∃ u, e = .returned u ∧ OwnI 3 w' u (intsOf l) W.heap.size w'.heap.size ∧ Below W.heap.size W w') := by
  obtain ⟨C, f, h1, h2, h3⟩ := h.list
  have := cloneInts_any lb rows.length (intsOf l) W (fun q hq => by
    have hq' : q < l.length := by rw [intsOf_len] at hq; exact hq
    rw [h1.cell (by omega), h3 q hq', intsOf_at hq]) (by rw [intsOf_len]; omega) (by rw [intsOf_len]; omega) (intsOf_wf fun k hk => by have := hn.2.2 k hk; omega)
  rw [intsOf_len, hl] at this
  exact this

set_option maxRecDepth 100000 in
set_option maxHeartbeats 4000000 in
theorem place_end (sb p p' G lb lo lim ob oC : Nat) (rows rows' : Rows2) (l : List Nat) (R : List (List Nat)) (vf : Value) (w : World) (hw : PW sb p p' G lb lo lim rows rows' l R vf w) (hl : l.length = rows.length) (hn : 0 < rows.length ∧ rows.length ≤ 200 ∧ ∀ x ∈ l, x < 200) (hR : R.length ≤ 5001) (hlo : lo ≤ w.heap.size)
    (hs : sb < lo) (hlb : lb < lo ∧ lb ≠ sb) (hp1 : p < lo ∧ p ≠ sb) (hp2 : p' < lo ∧ p' ≠ sb) (hp3 : G < lo ∧ G ≠ sb) :
    Calls Tryd.prog 143 #[.pointer (some ⟨sb, 0, none⟩), .int .i64 (l.length : Int), .slice (some ⟨ob, 0, none⟩) rows.length oC] w fun e w' => e = .returned (.tuple #[]) ∧ ∃ vf', PW sb p p' G lb lo lim rows rows' l (R ++ [l]) vf' w' ∧ Spared sb lb vf w w' ∧ (vf'.ownBlock = vf.ownBlock ∨ ∀ b, vf'.ownBlock = some b → w.heap.size ≤ b) := by
  obtain ⟨ao, CO, rfl⟩ := hw.found.form
  have HVB := Lib.hid (fun b (e : (Value.slice ao R.length CO).ownBlock = some b) => hw.found.rowType b e)
  obtain ⟨j0, hj0, hy0, hy1, hy2⟩ := info_parts infoInts
  have hb0 := (((Below.refl w.heap.size w).alloc (Nat.le_refl _) (.cells #[.pointer (some ⟨sb, 0, none⟩)] 166)).alloc (by simp) (.cells #[.int .i64 (rows.length : Int)] 3)).alloc (by simp; omega) (.cells #[.slice (some ⟨ob, 0, none⟩) rows.length oC] 156)
  have hc0 := cell_alloc_any (cell_alloc_any (one_new w (.pointer (some ⟨sb, 0, none⟩)) 166) (.cells #[.int .i64 (rows.length : Int)] 3)) (.cells #[.slice (some ⟨ob, 0, none⟩) rows.length oC] 156)
  have hc1 := cell_alloc_any (one_new (w.alloc (.cells #[.pointer (some ⟨sb, 0, none⟩)] 166)) (.int .i64 (rows.length : Int)) 3) (.cells #[.slice (some ⟨ob, 0, none⟩) rows.length oC] 156)
  rw [World.size_alloc] at hc1
  have H := Lib.hid (hw.step hb0)
  obtain ⟨W2, hW2⟩ : ∃ W2, W2 = ((w.alloc (.cells #[.pointer (some ⟨sb, 0, none⟩)] 166)).alloc (.cells #[.int .i64 (rows.length : Int)] 3)).alloc (.cells #[.slice (some ⟨ob, 0, none⟩) rows.length oC] 156) := ⟨_, rfl⟩
  rw [← hW2] at H hc0 hc1 hb0
  have HLZ := Lib.hid hl
  have HN := Lib.hid hn
  have HB0 := Lib.hid hb0
  have heq : ((rows.length : Int) == (rows.length : Int)) = true := beq_self_eq_true _
  rw [hl]
  clear hl hn hw hb0
  go_enter Tryd.func143, Tryd.ntmps143
  go_upto_region 1 with fail
  rw [← hW2]
  clear hW2
  have hd := fun (W : World) => below_drew W W.heap.size
  have H1 := Lib.hid (H.out.step (hd W2))
  have hk0 := ((hd W2).cell (p := ⟨w.heap.size, 0, none⟩) (cell_lt hc0)).trans hc0
  have hk1 := ((hd W2).cell (p := ⟨w.heap.size + 1, 0, none⟩) (cell_lt hc1)).trans hc1
  first | (go_region_held3 (fun W' : World => W'.cell? ⟨w.heap.size, 0, none⟩ = some (.pointer (some ⟨sb, 0, none⟩)) ∧ W'.cell? ⟨w.heap.size + 1, 0, none⟩ = some (.int .i64 (rows.length : Int)) ∧ W'.cell? ⟨sb, 4, none⟩ = some (.slice (some ⟨lb, 0, none⟩) rows.length rows.length)) (exact ⟨hk0, hk1, H1.out.srch.list⟩) (fail)) | fail
  obtain ⟨W3, hW3⟩ : ∃ W3, W3 = W2.drew := ⟨_, rfl⟩
  have HB3 := Lib.hid (show Below w.heap.size w W3 from by rw [hW3]; exact HB0.out.trans ((hd W2).mono HB0.out.size))
  rw [← hW3] at H1 hk0 hk1 ⊢
  clear hW3
  go_wp2
  have E3 := Lib.hid (H1.out.step (hd W3))
  have hk2 := ((hd W3).cell (p := ⟨w.heap.size, 0, none⟩) (cell_lt hk0)).trans hk0
  have SKEEP : Hid (∀ W, Below W3.drew.heap.size W3.drew W → W.cell? ⟨w.heap.size, 0, none⟩ = some (.pointer (some ⟨sb, 0, none⟩)) ∧ W.cell? ⟨sb, 4, none⟩ = some (.slice (some ⟨lb, 0, none⟩) rows.length rows.length)) := Lib.hid (fun W hb => ⟨(hb.cell (p := ⟨w.heap.size, 0, none⟩) (cell_lt hk2)).trans hk2, (E3.out.step hb).srch.list⟩)
  have HCL := Lib.hid (show Calls Tryd.prog 161 #[.slice (some ⟨lb, 0, none⟩) rows.length rows.length] W3.drew (fun e w' => ∃ u, e = .returned u ∧ OwnI 3 w' u (intsOf l) W3.drew.heap.size w'.heap.size ∧ Below W3.drew.heap.size W3.drew w') from E3.out.clone HLZ.out HN.out)
  clear hk0 hk1
  obtain ⟨fv, hf0, hf1, hf2⟩ := E3.out.found.owns
  have HF0 := Lib.hid hf0
  have HF1 := Lib.hid hf1
  have HF2 := Lib.hid hf2
  clear hf0 hf1 hf2
  have hz3 : w.heap.size ≤ W3.drew.heap.size := HB3.out.size
  refine wp_region_held_drew (S := fun W' : World => W'.cell? ⟨w.heap.size, 0, none⟩ = some (.pointer (some ⟨sb, 0, none⟩)) ∧ W'.cell? ⟨sb, 4, none⟩ = some (.slice (some ⟨lb, 0, none⟩) rows.length rows.length)) (by kernel_rfl) ⟨hk2, E3.out.srch.list⟩ (fun hHeld => ?_)
  refine' wpAnyH_take (i := 0) (oi := ?oo1_0) (v := ?vv1_0) ?hi1_0 (by kernel_rfl) (by kernel_rfl) (by kernel_rfl) ?hq1_0 (Or.inl ⟨?hw1_0, ?hy1_0⟩) hHeld ?rest1_0
  case hi1_0 => simp only [List.getElem?_toArray, List.getElem?_cons_zero]; rfl
  case hq1_0 => exact fun _ _ _ h => h
  case hw1_0 => rfl
  case hy1_0 => intro w hSw; (try dsimp only at hSw); go_simp; try (with_reducible rfl)
  try simp only [Act.put, List.setIfInBounds_toArray, List.set_cons_zero, List.set_cons_succ]
  refine' wpAnyH_take (i := 1) (oi := ?oo2_1) (v := ?vv2_1) ?hi2_1 (by kernel_rfl) (by kernel_rfl) (by kernel_rfl) ?hq2_1 (Or.inl ⟨?hw2_1, ?hy2_1⟩) hHeld ?rest2_1
  case hi2_1 => simp only [List.getElem?_toArray, List.getElem?_cons_succ, List.getElem?_cons_zero]; rfl
  case hq2_1 => exact fun _ _ _ h => h
  case hw2_1 => rfl
  case hy2_1 => intro w hSw; (try dsimp only at hSw); go_simp; try (with_reducible rfl)
  try simp only [Act.put, List.setIfInBounds_toArray, List.set_cons_zero, List.set_cons_succ]
  refine' wpAnyH_take (i := 2) (oi := ?oo3_2) (v := ?vv3_2) ?hi3_2 (by kernel_rfl) (by kernel_rfl) (by kernel_rfl) ?hq3_2 (Or.inl ⟨?hw3_2, ?hy3_2⟩) hHeld ?rest3_2
  case hi3_2 => simp only [List.getElem?_toArray, List.getElem?_cons_succ, List.getElem?_cons_zero]; rfl
  case hq3_2 => exact fun _ _ _ h => h
  case hw3_2 => rfl
  case hy3_2 => intro w hSw; (try dsimp only at hSw); go_simp; try (with_reducible rfl)
  try simp only [Act.put, List.setIfInBounds_toArray, List.set_cons_zero, List.set_cons_succ]
  refine' wpAnyH_take (i := 3) (oi := ?oo4_3) (v := ?vv4_3) ?hi4_3 (by kernel_rfl) (by kernel_rfl) (by kernel_rfl) ?hq4_3 (Or.inl ⟨?hw4_3, ?hy4_3⟩) hHeld ?rest4_3
  case hi4_3 => simp only [List.getElem?_toArray, List.getElem?_cons_succ, List.getElem?_cons_zero]; rfl
  case hq4_3 => exact fun _ _ _ h => h
  case hw4_3 => rfl
  case hy4_3 => intro w hSw; (try dsimp only at hSw); go_simp; try (with_reducible rfl)
  try simp only [Act.put, List.setIfInBounds_toArray, List.set_cons_zero, List.set_cons_succ]
  refine' wpAnyH_take (i := 5) (oi := ?oo5_5) (v := ?vv5_5) ?hi5_5 (by kernel_rfl) (by kernel_rfl) (by kernel_rfl) ?hq5_5 (Or.inl ⟨?hw5_5, ?hy5_5⟩) hHeld ?rest5_5
  case hi5_5 => simp only [List.getElem?_toArray, List.getElem?_cons_succ, List.getElem?_cons_zero]; rfl
  case hq5_5 => exact fun _ _ _ h => h
  case hw5_5 => rfl
  case hy5_5 => intro w hSw; (try dsimp only at hSw); go_simp; try (with_reducible rfl)
  try simp only [Act.put, List.setIfInBounds_toArray, List.set_cons_zero, List.set_cons_succ]
  refine' wpAnyH_take (i := 6) (oi := ?oo6_6) (v := ?vv6_6) ?hi6_6 (by kernel_rfl) (by kernel_rfl) (by kernel_rfl) ?hq6_6 (Or.inl ⟨?hw6_6, ?hy6_6⟩) hHeld ?rest6_6
  case hi6_6 => simp only [List.getElem?_toArray, List.getElem?_cons_succ, List.getElem?_cons_zero]; rfl
  case hq6_6 => exact fun _ _ _ h => h
  case hw6_6 => rfl
  case hy6_6 => intro w hSw; (try dsimp only at hSw); go_simp; try (with_reducible rfl)
  try simp only [Act.put, List.setIfInBounds_toArray, List.set_cons_zero, List.set_cons_succ]
  refine' wpAnyH_take (i := 7) (oi := ?oo7_7) (v := ?vv7_7) ?hi7_7 (by kernel_rfl) (by kernel_rfl) (by kernel_rfl) ?hq7_7 (Or.inl ⟨?hw7_7, ?hy7_7⟩) hHeld ?rest7_7
  case hi7_7 => simp only [List.getElem?_toArray, List.getElem?_cons_succ, List.getElem?_cons_zero]; rfl
  case hq7_7 => exact fun _ _ _ h => h
  case hw7_7 => rfl
  case hy7_7 => intro w hSw; (try dsimp only at hSw); go_simp; try (with_reducible rfl)
  try simp only [Act.put, List.setIfInBounds_toArray, List.set_cons_zero, List.set_cons_succ]
  refine' wpAnyH_take (i := 8) (oi := ?oo8_8) (v := ?vv8_8) ?hi8_8 (by kernel_rfl) (by kernel_rfl) (by kernel_rfl) ?hq8_8 (Or.inl ⟨?hw8_8, ?hy8_8⟩) hHeld ?rest8_8
  case hi8_8 => simp only [List.getElem?_toArray, List.getElem?_cons_succ, List.getElem?_cons_zero]; rfl
  case hq8_8 => exact fun _ _ _ h => h
  case hw8_8 => rfl
  case hy8_8 => intro w hSw; (try dsimp only at hSw); go_simp; try (with_reducible rfl)
  try simp only [Act.put, List.setIfInBounds_toArray, List.set_cons_zero, List.set_cons_succ]
  refine wpAnyH_ready (rs := [4, 9]) (by kernel_rfl) (by simp) ?_
  refine' (AllReadyH.cons (o := ?ok9_4) ?hk9_4 (fun K hK => ?st9_4) (AllReadyH.cons (o := ?ok9_9) ?hk9_9 (fun K hK => ?st9_9) AllReadyH.nil))
  case hk9_4 => simp only [List.getElem?_toArray, List.getElem?_cons_succ, List.getElem?_cons_zero]; rfl
  case hk9_9 => simp only [List.getElem?_toArray, List.getElem?_cons_succ, List.getElem?_cons_zero]; rfl
  case st9_4 =>
    have hfF := E3.out.srch.found
    go_simp
    clear hfF
    refine hK.out _ _ (hHeld) (fun hHeld => ?_)
    clear hK K
    try simp only [Act.put, List.setIfInBounds_toArray, List.set_cons_zero, List.set_cons_succ]
    refine wpAnyH_ready (rs := [9]) (by kernel_rfl) (by simp) ?_
    refine' (AllReadyH.cons (o := ?ok10_9) ?hk10_9 (fun K hK => ?st10_9) AllReadyH.nil)
    case hk10_9 => simp only [List.getElem?_toArray, List.getElem?_cons_succ, List.getElem?_cons_zero]; rfl
    case st10_9 =>
      go_simp
      go_at_call 161
      refine HCL.out.mono ?_
      rintro e w4 ⟨u, rfl, hu, hb4⟩
      obtain ⟨a1, C1, rfl⟩ := hu.form
      have E4 := Lib.hid (E3.out.step hb4)
      have HU := Lib.hid hu
      have HB4 := Lib.hid hb4
      have hS4 := SKEEP.out _ hb4
      clear hu hb4
      go_wp2_with fail
      refine hK.out _ _ (hS4) (fun hHeld => ?_)
      clear hK K
      try simp only [Act.put, List.setIfInBounds_toArray, List.set_cons_zero, List.set_cons_succ]
      refine wpAnyH_ready (rs := [10]) (by kernel_rfl) (by simp) ?_
      refine' (AllReadyH.cons (o := ?ok11_10) ?hk11_10 (fun K hK => ?st11_10) AllReadyH.nil)
      case hk11_10 => simp only [List.getElem?_toArray, List.getElem?_cons_succ, List.getElem?_cons_zero]; rfl
      case st11_10 =>
        go_simp
        have hb5 := (Below.refl w4.heap.size w4).alloc (Nat.le_refl _) (.cells #[.slice a1 (intsOf l).length C1] 26)
        have E5 := Lib.hid (E4.out.step hb5)
        have HB5 := Lib.hid (HB4.out.trans (hb5.mono HB4.out.size))
        have hS5 := SKEEP.out _ HB5.out
        clear hb5
        refine hK.out _ _ (hS5) (fun hHeld => ?_)
        clear hK K
        try simp only [Act.put, List.setIfInBounds_toArray, List.set_cons_zero, List.set_cons_succ]
        refine wpAnyH_ready (rs := [11]) (by kernel_rfl) (by simp) ?_
        refine' (AllReadyH.cons (o := ?ok12_11) ?hk12_11 (fun K hK => ?st12_11) AllReadyH.nil)
        case hk12_11 => simp only [List.getElem?_toArray, List.getElem?_cons_succ, List.getElem?_cons_zero]; rfl
        case st12_11 =>
          refine step_append_lies _ (by rfl) _ _ 23 (by rfl) lo 26 j0 (.slice none 0 0) 1 24 Tryd.underlying23 hj0 hy0 hy1 hy2 rfl (by decide) (.slice ao R.length CO) R.length ((List.range R.length).map fv) (by rfl) ((owns_below HF0.out HB4.out).alloc _) ⟨w4.heap.size, 0, none⟩ 1 1 [.slice a1 (intsOf l).length C1] (by rfl) rfl (World.news_of_block (heap_alloc_new w4 _)) (by simp [Value.oneCell']) (by omega) (by unfold maxLen; omega) (by omega) (by have := HB4.out.size; simp; omega) (w4.heap.size + 1) (by simp) ?_
          intro g2 cap2 w6 hown2 hgrow2 hat2 hlt2
          have hst : ∀ b, b < lo → w6.heap[b]? = (w4.alloc (.cells #[.slice a1 (intsOf l).length C1] 26)).heap[b]? := fun b hb => hgrow2.block b (by have := HB4.out.size; rw [World.size_alloc]; omega) (fun e => by have := (HVB.out b e.symm).1; omega)
          have hbx : w6.heap[w.heap.size]? = (w4.alloc (.cells #[.slice a1 (intsOf l).length C1] 26)).heap[w.heap.size]? := hgrow2.block _ (cell_lt hS5.1) (fun e => by have := (HVB.out _ e.symm).2.1; omega)
          have hS6 := And.intro ((World.cell?_of_block (a := ⟨w.heap.size, 0, none⟩) hbx).trans hS5.1) ((World.cell?_of_block (a := ⟨sb, 4, none⟩) (hst sb hs)).trans hS5.2)
          have hf5 := (World.cell?_of_block (a := ⟨sb, 5, none⟩) (hst sb hs)).trans E5.out.srch.found
          have hfz := (World.frozen?_of_block (a := ⟨sb, 5, none⟩) (hst sb hs)).trans E5.out.open_
          have hpu := OwnR.pushed (W := w4) (mid := W3.drew.heap.size) (lo := lo) int_ne (owns_below HF0.out HB4.out) (fun j hj => (HF1.out j hj).kept fun b hb => HB4.out.block b ((HF1.out j hj).block b hb).2.1) HF2.out (by omega) HB4.out.size HU.out ((Below.refl _ w4).alloc (Nat.le_refl _) _) hown2 ⟨hgrow2.os, hgrow2.tape, hgrow2.output, hgrow2.size, hgrow2.block⟩
          have HF6 := Lib.hid (show OwnR 3 26 w6 (.slice (some ⟨g2, 0, none⟩) (R.length + 1) cap2) (R ++ [l]).length (rowsF (I2 (R ++ [l]))) lo w6.heap.size from by rw [List.length_append]; exact hpu.congr fun j hj => I2_snoc R l j hj)
          have HST := Lib.hid hst
          have HG2 := Lib.hid hgrow2
          have HAT := Lib.hid hat2
          clear hst hbx hpu hown2 hgrow2 hat2 hlt2
          refine hK.out _ _ (hS6) (fun hHeld => ?_)
          clear hK K
          try simp only [Act.put, List.setIfInBounds_toArray, List.set_cons_zero, List.set_cons_succ]
          refine' wpAnyH_take (i := 12) (oi := ?oo13_12) (v := ?vv13_12) ?hi13_12 (by kernel_rfl) (by kernel_rfl) (by kernel_rfl) ?hq13_12 (Or.inl ⟨?hw13_12, ?hy13_12⟩) hHeld ?rest13_12
          case hi13_12 => simp only [List.getElem?_toArray, List.getElem?_cons_succ, List.getElem?_cons_zero]; rfl
          case hq13_12 => exact fun _ _ _ h => h
          case hw13_12 => rfl
          case hy13_12 => intro w hSw; (try dsimp only at hSw); go_simp; try (with_reducible rfl)
          try simp only [Act.put, List.setIfInBounds_toArray, List.set_cons_zero, List.set_cons_succ]
          refine' wpAnyH_take (i := 13) (oi := ?oo14_13) (v := ?vv14_13) ?hi14_13 (by kernel_rfl) (by kernel_rfl) (by kernel_rfl) ?hq14_13 (Or.inl ⟨?hw14_13, ?hy14_13⟩) hHeld ?rest14_13
          case hi14_13 => simp only [List.getElem?_toArray, List.getElem?_cons_succ, List.getElem?_cons_zero]; rfl
          case hq14_13 => exact fun _ _ _ h => h
          case hw14_13 => rfl
          case hy14_13 => intro w hSw; (try dsimp only at hSw); go_simp; try (with_reducible rfl)
          try simp only [Act.put, List.setIfInBounds_toArray, List.set_cons_zero, List.set_cons_succ]
          refine wpAnyH_ready (rs := [14]) (by kernel_rfl) (by simp) ?_
          refine' (AllReadyH.cons (o := ?ok15_14) ?hk15_14 (fun K hK => ?st15_14) AllReadyH.nil)
          case hk15_14 => simp only [List.getElem?_toArray, List.getElem?_cons_succ, List.getElem?_cons_zero]; rfl
          case st15_14 =>
            go_simp
            have HPW := Lib.hid (E5.out.put HST.out hs hlb hp1 hp2 hp3 HF6.out)
            have hS7 := And.intro ((World.cell?_setCell_other w6 ⟨sb, 5, none⟩ ⟨w.heap.size, 0, none⟩ (.slice (some ⟨g2, 0, none⟩) (R.length + 1) cap2) (fun e => by injection e with e; omega)).trans hS6.1) HPW.out.srch.list
            refine hK.out _ _ (hS7) (fun hHeld => ?_)
            clear hK K
            try simp only [Act.put, List.setIfInBounds_toArray, List.set_cons_zero, List.set_cons_succ]
            refine wpAnyH_done (by kernel_rfl) ?_ _
            go_wp2
            refine bodyPost_ret (v := .tuple #[]) (by simp [results, Tryd.results143, go_sem]) rfl ?_
            refine ⟨rfl, _, HPW.out, ?_, ?_⟩
            · exact Spared.of (HB3.out.trans (((hd W3).mono HB3.out.size).trans (HB5.out.mono hz3))) HG2.out
            · rcases HAT.out with h | h
              · exact .inl h.symm
              · refine .inr fun b e => ?_
                have h1 := HB4.out.size
                have h3 : g2 = b := by simpa [Value.ownBlock] using e
                omega
  case st9_9 =>
    go_simp
    go_at_call 161
    refine HCL.out.mono ?_
    rintro e w4 ⟨u, rfl, hu, hb4⟩
    obtain ⟨a1, C1, rfl⟩ := hu.form
    have E4 := Lib.hid (E3.out.step hb4)
    have HU := Lib.hid hu
    have HB4 := Lib.hid hb4
    have hS4 := SKEEP.out _ hb4
    clear hu hb4
    go_wp2_with fail
    refine hK.out _ _ (hS4) (fun hHeld => ?_)
    clear hK K
    try simp only [Act.put, List.setIfInBounds_toArray, List.set_cons_zero, List.set_cons_succ]
    refine wpAnyH_ready (rs := [4, 10]) (by kernel_rfl) (by simp) ?_
    refine' (AllReadyH.cons (o := ?ok16_4) ?hk16_4 (fun K hK => ?st16_4) (AllReadyH.cons (o := ?ok16_10) ?hk16_10 (fun K hK => ?st16_10) AllReadyH.nil))
    case hk16_4 => simp only [List.getElem?_toArray, List.getElem?_cons_succ, List.getElem?_cons_zero]; rfl
    case hk16_10 => simp only [List.getElem?_toArray, List.getElem?_cons_succ, List.getElem?_cons_zero]; rfl
    case st16_4 =>
      have hfF := E4.out.srch.found
      go_simp
      clear hfF
      refine hK.out _ _ (hHeld) (fun hHeld => ?_)
      clear hK K
      try simp only [Act.put, List.setIfInBounds_toArray, List.set_cons_zero, List.set_cons_succ]
      refine wpAnyH_ready (rs := [10]) (by kernel_rfl) (by simp) ?_
      refine' (AllReadyH.cons (o := ?ok17_10) ?hk17_10 (fun K hK => ?st17_10) AllReadyH.nil)
      case hk17_10 => simp only [List.getElem?_toArray, List.getElem?_cons_succ, List.getElem?_cons_zero]; rfl
      case st17_10 =>
        go_simp
        have hb5 := (Below.refl w4.heap.size w4).alloc (Nat.le_refl _) (.cells #[.slice a1 (intsOf l).length C1] 26)
        have E5 := Lib.hid (E4.out.step hb5)
        have HB5 := Lib.hid (HB4.out.trans (hb5.mono HB4.out.size))
        have hS5 := SKEEP.out _ HB5.out
        clear hb5
        refine hK.out _ _ (hS5) (fun hHeld => ?_)
        clear hK K
        try simp only [Act.put, List.setIfInBounds_toArray, List.set_cons_zero, List.set_cons_succ]
        refine wpAnyH_ready (rs := [11]) (by kernel_rfl) (by simp) ?_
        refine' (AllReadyH.cons (o := ?ok18_11) ?hk18_11 (fun K hK => ?st18_11) AllReadyH.nil)
        case hk18_11 => simp only [List.getElem?_toArray, List.getElem?_cons_succ, List.getElem?_cons_zero]; rfl
        case st18_11 =>
          refine step_append_lies _ (by rfl) _ _ 23 (by rfl) lo 26 j0 (.slice none 0 0) 1 24 Tryd.underlying23 hj0 hy0 hy1 hy2 rfl (by decide) (.slice ao R.length CO) R.length ((List.range R.length).map fv) (by rfl) ((owns_below HF0.out HB4.out).alloc _) ⟨w4.heap.size, 0, none⟩ 1 1 [.slice a1 (intsOf l).length C1] (by rfl) rfl (World.news_of_block (heap_alloc_new w4 _)) (by simp [Value.oneCell']) (by omega) (by unfold maxLen; omega) (by omega) (by have := HB4.out.size; simp; omega) (w4.heap.size + 1) (by simp) ?_
          intro g2 cap2 w6 hown2 hgrow2 hat2 hlt2
          have hst : ∀ b, b < lo → w6.heap[b]? = (w4.alloc (.cells #[.slice a1 (intsOf l).length C1] 26)).heap[b]? := fun b hb => hgrow2.block b (by have := HB4.out.size; rw [World.size_alloc]; omega) (fun e => by have := (HVB.out b e.symm).1; omega)
          have hbx : w6.heap[w.heap.size]? = (w4.alloc (.cells #[.slice a1 (intsOf l).length C1] 26)).heap[w.heap.size]? := hgrow2.block _ (cell_lt hS5.1) (fun e => by have := (HVB.out _ e.symm).2.1; omega)
          have hS6 := And.intro ((World.cell?_of_block (a := ⟨w.heap.size, 0, none⟩) hbx).trans hS5.1) ((World.cell?_of_block (a := ⟨sb, 4, none⟩) (hst sb hs)).trans hS5.2)
          have hf5 := (World.cell?_of_block (a := ⟨sb, 5, none⟩) (hst sb hs)).trans E5.out.srch.found
          have hfz := (World.frozen?_of_block (a := ⟨sb, 5, none⟩) (hst sb hs)).trans E5.out.open_
          have hpu := OwnR.pushed (W := w4) (mid := W3.drew.heap.size) (lo := lo) int_ne (owns_below HF0.out HB4.out) (fun j hj => (HF1.out j hj).kept fun b hb => HB4.out.block b ((HF1.out j hj).block b hb).2.1) HF2.out (by omega) HB4.out.size HU.out ((Below.refl _ w4).alloc (Nat.le_refl _) _) hown2 ⟨hgrow2.os, hgrow2.tape, hgrow2.output, hgrow2.size, hgrow2.block⟩
          have HF6 := Lib.hid (show OwnR 3 26 w6 (.slice (some ⟨g2, 0, none⟩) (R.length + 1) cap2) (R ++ [l]).length (rowsF (I2 (R ++ [l]))) lo w6.heap.size from by rw [List.length_append]; exact hpu.congr fun j hj => I2_snoc R l j hj)
          have HST := Lib.hid hst
          have HG2 := Lib.hid hgrow2
          have HAT := Lib.hid hat2
          clear hst hbx hpu hown2 hgrow2 hat2 hlt2
          refine hK.out _ _ (hS6) (fun hHeld => ?_)
          clear hK K
          try simp only [Act.put, List.setIfInBounds_toArray, List.set_cons_zero, List.set_cons_succ]
          refine' wpAnyH_take (i := 12) (oi := ?oo19_12) (v := ?vv19_12) ?hi19_12 (by kernel_rfl) (by kernel_rfl) (by kernel_rfl) ?hq19_12 (Or.inl ⟨?hw19_12, ?hy19_12⟩) hHeld ?rest19_12
          case hi19_12 => simp only [List.getElem?_toArray, List.getElem?_cons_succ, List.getElem?_cons_zero]; rfl
          case hq19_12 => exact fun _ _ _ h => h
          case hw19_12 => rfl
          case hy19_12 => intro w hSw; (try dsimp only at hSw); go_simp; try (with_reducible rfl)
          try simp only [Act.put, List.setIfInBounds_toArray, List.set_cons_zero, List.set_cons_succ]
          refine' wpAnyH_take (i := 13) (oi := ?oo20_13) (v := ?vv20_13) ?hi20_13 (by kernel_rfl) (by kernel_rfl) (by kernel_rfl) ?hq20_13 (Or.inl ⟨?hw20_13, ?hy20_13⟩) hHeld ?rest20_13
          case hi20_13 => simp only [List.getElem?_toArray, List.getElem?_cons_succ, List.getElem?_cons_zero]; rfl
          case hq20_13 => exact fun _ _ _ h => h
          case hw20_13 => rfl
          case hy20_13 => intro w hSw; (try dsimp only at hSw); go_simp; try (with_reducible rfl)
          try simp only [Act.put, List.setIfInBounds_toArray, List.set_cons_zero, List.set_cons_succ]
          refine wpAnyH_ready (rs := [14]) (by kernel_rfl) (by simp) ?_
          refine' (AllReadyH.cons (o := ?ok21_14) ?hk21_14 (fun K hK => ?st21_14) AllReadyH.nil)
          case hk21_14 => simp only [List.getElem?_toArray, List.getElem?_cons_succ, List.getElem?_cons_zero]; rfl
          case st21_14 =>
            go_simp
            have HPW := Lib.hid (E5.out.put HST.out hs hlb hp1 hp2 hp3 HF6.out)
            have hS7 := And.intro ((World.cell?_setCell_other w6 ⟨sb, 5, none⟩ ⟨w.heap.size, 0, none⟩ (.slice (some ⟨g2, 0, none⟩) (R.length + 1) cap2) (fun e => by injection e with e; omega)).trans hS6.1) HPW.out.srch.list
            refine hK.out _ _ (hS7) (fun hHeld => ?_)
            clear hK K
            try simp only [Act.put, List.setIfInBounds_toArray, List.set_cons_zero, List.set_cons_succ]
            refine wpAnyH_done (by kernel_rfl) ?_ _
            go_wp2
            refine bodyPost_ret (v := .tuple #[]) (by simp [results, Tryd.results143, go_sem]) rfl ?_
            refine ⟨rfl, _, HPW.out, ?_, ?_⟩
            · exact Spared.of (HB3.out.trans (((hd W3).mono HB3.out.size).trans (HB5.out.mono hz3))) HG2.out
            · rcases HAT.out with h | h
              · exact .inl h.symm
              · refine .inr fun b e => ?_
                have h1 := HB4.out.size
                have h3 : g2 = b := by simpa [Value.ownBlock] using e
                omega
    case st16_10 =>
      go_simp
      have hb5 := (Below.refl w4.heap.size w4).alloc (Nat.le_refl _) (.cells #[.slice a1 (intsOf l).length C1] 26)
      have E5 := Lib.hid (E4.out.step hb5)
      have HB5 := Lib.hid (HB4.out.trans (hb5.mono HB4.out.size))
      have hS5 := SKEEP.out _ HB5.out
      clear hb5
      refine hK.out _ _ (hS5) (fun hHeld => ?_)
      clear hK K
      try simp only [Act.put, List.setIfInBounds_toArray, List.set_cons_zero, List.set_cons_succ]
      refine wpAnyH_ready (rs := [4]) (by kernel_rfl) (by simp) ?_
      refine' (AllReadyH.cons (o := ?ok22_4) ?hk22_4 (fun K hK => ?st22_4) AllReadyH.nil)
      case hk22_4 => simp only [List.getElem?_toArray, List.getElem?_cons_succ, List.getElem?_cons_zero]; rfl
      case st22_4 =>
        have hfF := E5.out.srch.found
        go_simp
        clear hfF
        refine hK.out _ _ (hHeld) (fun hHeld => ?_)
        clear hK K
        try simp only [Act.put, List.setIfInBounds_toArray, List.set_cons_zero, List.set_cons_succ]
        refine wpAnyH_ready (rs := [11]) (by kernel_rfl) (by simp) ?_
        refine' (AllReadyH.cons (o := ?ok23_11) ?hk23_11 (fun K hK => ?st23_11) AllReadyH.nil)
        case hk23_11 => simp only [List.getElem?_toArray, List.getElem?_cons_succ, List.getElem?_cons_zero]; rfl
        case st23_11 =>
          refine step_append_lies _ (by rfl) _ _ 23 (by rfl) lo 26 j0 (.slice none 0 0) 1 24 Tryd.underlying23 hj0 hy0 hy1 hy2 rfl (by decide) (.slice ao R.length CO) R.length ((List.range R.length).map fv) (by rfl) ((owns_below HF0.out HB4.out).alloc _) ⟨w4.heap.size, 0, none⟩ 1 1 [.slice a1 (intsOf l).length C1] (by rfl) rfl (World.news_of_block (heap_alloc_new w4 _)) (by simp [Value.oneCell']) (by omega) (by unfold maxLen; omega) (by omega) (by have := HB4.out.size; simp; omega) (w4.heap.size + 1) (by simp) ?_
          intro g2 cap2 w6 hown2 hgrow2 hat2 hlt2
          have hst : ∀ b, b < lo → w6.heap[b]? = (w4.alloc (.cells #[.slice a1 (intsOf l).length C1] 26)).heap[b]? := fun b hb => hgrow2.block b (by have := HB4.out.size; rw [World.size_alloc]; omega) (fun e => by have := (HVB.out b e.symm).1; omega)
          have hbx : w6.heap[w.heap.size]? = (w4.alloc (.cells #[.slice a1 (intsOf l).length C1] 26)).heap[w.heap.size]? := hgrow2.block _ (cell_lt hS5.1) (fun e => by have := (HVB.out _ e.symm).2.1; omega)
          have hS6 := And.intro ((World.cell?_of_block (a := ⟨w.heap.size, 0, none⟩) hbx).trans hS5.1) ((World.cell?_of_block (a := ⟨sb, 4, none⟩) (hst sb hs)).trans hS5.2)
          have hf5 := (World.cell?_of_block (a := ⟨sb, 5, none⟩) (hst sb hs)).trans E5.out.srch.found
          have hfz := (World.frozen?_of_block (a := ⟨sb, 5, none⟩) (hst sb hs)).trans E5.out.open_
          have hpu := OwnR.pushed (W := w4) (mid := W3.drew.heap.size) (lo := lo) int_ne (owns_below HF0.out HB4.out) (fun j hj => (HF1.out j hj).kept fun b hb => HB4.out.block b ((HF1.out j hj).block b hb).2.1) HF2.out (by omega) HB4.out.size HU.out ((Below.refl _ w4).alloc (Nat.le_refl _) _) hown2 ⟨hgrow2.os, hgrow2.tape, hgrow2.output, hgrow2.size, hgrow2.block⟩
          have HF6 := Lib.hid (show OwnR 3 26 w6 (.slice (some ⟨g2, 0, none⟩) (R.length + 1) cap2) (R ++ [l]).length (rowsF (I2 (R ++ [l]))) lo w6.heap.size from by rw [List.length_append]; exact hpu.congr fun j hj => I2_snoc R l j hj)
          have HST := Lib.hid hst
          have HG2 := Lib.hid hgrow2
          have HAT := Lib.hid hat2
          clear hst hbx hpu hown2 hgrow2 hat2 hlt2
          refine hK.out _ _ (hS6) (fun hHeld => ?_)
          clear hK K
          try simp only [Act.put, List.setIfInBounds_toArray, List.set_cons_zero, List.set_cons_succ]
          refine' wpAnyH_take (i := 12) (oi := ?oo24_12) (v := ?vv24_12) ?hi24_12 (by kernel_rfl) (by kernel_rfl) (by kernel_rfl) ?hq24_12 (Or.inl ⟨?hw24_12, ?hy24_12⟩) hHeld ?rest24_12
          case hi24_12 => simp only [List.getElem?_toArray, List.getElem?_cons_succ, List.getElem?_cons_zero]; rfl
          case hq24_12 => exact fun _ _ _ h => h
          case hw24_12 => rfl
          case hy24_12 => intro w hSw; (try dsimp only at hSw); go_simp; try (with_reducible rfl)
          try simp only [Act.put, List.setIfInBounds_toArray, List.set_cons_zero, List.set_cons_succ]
          refine' wpAnyH_take (i := 13) (oi := ?oo25_13) (v := ?vv25_13) ?hi25_13 (by kernel_rfl) (by kernel_rfl) (by kernel_rfl) ?hq25_13 (Or.inl ⟨?hw25_13, ?hy25_13⟩) hHeld ?rest25_13
          case hi25_13 => simp only [List.getElem?_toArray, List.getElem?_cons_succ, List.getElem?_cons_zero]; rfl
          case hq25_13 => exact fun _ _ _ h => h
          case hw25_13 => rfl
          case hy25_13 => intro w hSw; (try dsimp only at hSw); go_simp; try (with_reducible rfl)
          try simp only [Act.put, List.setIfInBounds_toArray, List.set_cons_zero, List.set_cons_succ]
          refine wpAnyH_ready (rs := [14]) (by kernel_rfl) (by simp) ?_
          refine' (AllReadyH.cons (o := ?ok26_14) ?hk26_14 (fun K hK => ?st26_14) AllReadyH.nil)
          case hk26_14 => simp only [List.getElem?_toArray, List.getElem?_cons_succ, List.getElem?_cons_zero]; rfl
          case st26_14 =>
            go_simp
            have HPW := Lib.hid (E5.out.put HST.out hs hlb hp1 hp2 hp3 HF6.out)
            have hS7 := And.intro ((World.cell?_setCell_other w6 ⟨sb, 5, none⟩ ⟨w.heap.size, 0, none⟩ (.slice (some ⟨g2, 0, none⟩) (R.length + 1) cap2) (fun e => by injection e with e; omega)).trans hS6.1) HPW.out.srch.list
            refine hK.out _ _ (hS7) (fun hHeld => ?_)
            clear hK K
            try simp only [Act.put, List.setIfInBounds_toArray, List.set_cons_zero, List.set_cons_succ]
            refine wpAnyH_done (by kernel_rfl) ?_ _
            go_wp2
            refine bodyPost_ret (v := .tuple #[]) (by simp [results, Tryd.results143, go_sem]) rfl ?_
            refine ⟨rfl, _, HPW.out, ?_, ?_⟩
            · exact Spared.of (HB3.out.trans (((hd W3).mono HB3.out.size).trans (HB5.out.mono hz3))) HG2.out
            · rcases HAT.out with h | h
              · exact .inl h.symm
              · refine .inr fun b e => ?_
                have h1 := HB4.out.size
                have h3 : g2 = b := by simpa [Value.ownBlock] using e
                omega
end Go.Proofs.YtkomghohdhengaaDoor

/- The search for monotone functions (funSearch.place): what its rounds keep. Plain facts on worlds: no function is walked here. -/
namespace Go.Proofs.YtkomghohdhengaaDoor
open Go.RowKit Go.Deep Go.Shelf

/-- Rows in memory of their own stay where blocks that are no cells turn. -/
theorem keptG_block {W W' : World} {row : Option Nat} {b : Nat} {c : Array Value} {t : TypeId} {fz : Nat × Nat} (h : W.heap[b]? = some (.cells c t fz)) (hg : W.grownBy W' row) (hr : ∀ r, row = some r → ∃ o : Obj, W.heap[r]? = some o ∧ o.isCells = false) : W'.heap[b]? = W.heap[b]? :=
  (blk_kept h hg hr).trans h.symm
theorem OwnR.keptG {t u : TypeId} {W W' : World} {v : Value} {n : Nat} {R : Nat → List Int} {lo : Nat} {row : Option Nat} (h : OwnR t u W v n R lo W.heap.size) (hg : W.grownBy W' row) (hr : ∀ r, row = some r → ∃ o : Obj, W.heap[r]? = some o ∧ o.isCells = false) : OwnR t u W' v n R lo W'.heap.size := by
  refine OwnR.wider (hi := W.heap.size) ?_ (Nat.le_refl _) hg.size
  obtain h | ⟨g, C, f, rfl, h1, h2, h3, h4, h5, h6, h7⟩ := h
  · exact .inl h
  · refine .inr ⟨g, C, f, rfl, h1, h2, h3, h4, ?_, fun j hj => (h6 j hj).kept fun b hb => ?_, h7⟩
    · obtain ⟨c, hc, hd⟩ := h5
      exact ⟨c, (keptG_block hc hg hr).trans hc, hd⟩
    · obtain ⟨_, _, c, hc⟩ := (h6 j hj).block b hb
      exact keptG_block hc hg hr
theorem RwAt.keptG {W W' : World} {row : Option Nat} {b n : Nat} {O : Nat → Nat} (h : RwAt W b n O) (hg : W.grownBy W' row) (hr : ∀ r, row = some r → ∃ o : Obj, W.heap[r]? = some o ∧ o.isCells = false) : RwAt W' b n O := by
  obtain ⟨c, hc, h2⟩ := h
  exact ⟨c, (keptG_block hc hg hr).trans hc, h2⟩
theorem PW.keptG {sb p p' G lb lo lim : Nat} {rows rows' : Rows2} {l : List Nat} {R : List (List Nat)} {vf : Value} {W W' : World} {row : Option Nat} (h : PW sb p p' G lb lo lim rows rows' l R vf W) (hg : W.grownBy W' row) (hr : ∀ r, row = some r → ∃ o : Obj, W.heap[r]? = some o ∧ o.isCells = false) : PW sb p p' G lb lo lim rows rows' l R vf W' := by
  have hs : W'.heap[sb]? = W.heap[sb]? := by
    obtain ⟨o, ho, hc⟩ := cells_of_cell h.srch.from_
    exact grownBy_keeps_cells hg hr ho hc
  obtain ⟨C, f, ⟨c, hc, hd⟩, h2, h3⟩ := h.list
  exact ⟨h.srch.block hs, (World.frozen?_of_block (a := ⟨sb, 5, none⟩) hs).trans h.open_, ⟨h.grids.from_.kept hg hr, h.grids.up.kept hg hr, h.grids.low.kept hg hr⟩, ⟨C, f, ⟨c, (keptG_block hc hg hr).trans hc, hd⟩, h2, h3⟩, h.found.keptG hg hr⟩

/-- Where the row of what was found lies: where it lay, or behind all that was there. -/
def Fresh (vf0 vf : Value) (w : World) : Prop := vf.ownBlock = vf0.ownBlock ∨ ∀ b, vf.ownBlock = some b → w.heap.size ≤ b
theorem Spared.refl (sb lb : Nat) (vf : Value) (w : World) : Spared sb lb vf w w := ⟨rfl, rfl, rfl, Nat.le_refl _, fun _ _ _ _ _ => rfl⟩
theorem Spared.call {sb lb : Nat} {vf0 vf : Value} {w W W' : World} (h : Spared sb lb vf0 w W) (hf : Fresh vf0 vf w) (k : Spared sb lb vf W W') : Spared sb lb vf0 w W' :=
  ⟨k.os.trans h.os, k.tape.trans h.tape, k.output.trans h.output, Nat.le_trans h.size k.size, fun b h1 h2 h3 h4 => (k.block b (Nat.lt_of_lt_of_le h1 h.size) h2 h3 (fun e => by
    rcases hf with f | f
    · exact h4 (f ▸ e)
    · have := f b e; omega)).trans (h.block b h1 h2 h3 h4)⟩
theorem Fresh.call {vf0 vf vf' : Value} {w W : World} (hf : Fresh vf0 vf w) (hz : w.heap.size ≤ W.heap.size) (k : Fresh vf vf' W) : Fresh vf0 vf' w := by
  rcases k with k | k
  · rcases hf with f | f
    · exact .inl (k.trans f)
    · exact .inr fun b e => f b (k ▸ e)
  · exact .inr fun b e => Nat.le_trans hz (k b e)
theorem Spared.below {sb lb : Nat} {vf0 : Value} {w W W' : World} {B : Nat} (h : Spared sb lb vf0 w W) (hb : Below B W W') (hB : w.heap.size ≤ B) : Spared sb lb vf0 w W' :=
  ⟨hb.os.trans h.os, hb.tape.trans h.tape, hb.output.trans h.output, Nat.le_trans h.size hb.size, fun b h1 h2 h3 h4 => (hb.block b (by omega)).trans (h.block b h1 h2 h3 h4)⟩
theorem Spared.of_below {sb lb : Nat} {vf0 : Value} {w W : World} (hb : Below w.heap.size w W) : Spared sb lb vf0 w W :=
  (Spared.refl sb lb vf0 w).below hb (Nat.le_refl _)
theorem Spared.grown {sb lb : Nat} {vf0 : Value} {w W W' : World} {row : Option Nat} (h : Spared sb lb vf0 w W) (hg : W.grownBy W' row) (hr : ∀ r, row = some r → w.heap.size ≤ r) : Spared sb lb vf0 w W' :=
  ⟨hg.os.trans h.os, hg.tape.trans h.tape, hg.output.trans h.output, Nat.le_trans h.size hg.size, fun b h1 h2 h3 h4 => (hg.block b (Nat.lt_of_lt_of_le h1 h.size) (fun e => by have := hr b e.symm; omega)).trans (h.block b h1 h2 h3 h4)⟩
/-- What lay below the search's own things is as it was. -/
theorem Spared.under {sb lb n₀ : Nat} {vf : Value} {W W' : World} (h : Spared sb lb vf W W') (h1 : n₀ ≤ sb) (h2 : n₀ ≤ lb) (h3 : ∀ b, vf.ownBlock = some b → n₀ ≤ b) (hz : n₀ ≤ W.heap.size) : Below n₀ W W' :=
  ⟨h.os, h.tape, h.output, h.size, fun b hb => h.block b (by omega) (by omega) (by omega) (fun e => by have := h3 b e; omega)⟩

/-- The worlds of a search's rounds: what is found so far, and the choices from which the rounds go on. -/
structure PR (sb p p' G lb lo lim ob : Nat) (rows rows' : Rows2) (l : List Nat) (O : Nat → Nat) (oC : Nat) (vf0 : Value) (w : World) (R : List (List Nat)) (W : World) : Prop where
  main : ∃ vf, PW sb p p' G lb lo lim rows rows' l R vf W ∧ Fresh vf0 vf w
  spared : Spared sb lb vf0 w W
  choices : RwAt W ob rows.length O
  b0 : Boxed W w.heap.size 166 (.pointer (some ⟨sb, 0, none⟩))
  b1 : Boxed W (w.heap.size + 1) 3 (.int .i64 (l.length : Int))
  b2 : Boxed W (w.heap.size + 2) 156 (.slice (some ⟨ob, 0, none⟩) rows.length oC)
theorem PR.keptG {sb p p' G lb lo lim ob : Nat} {rows rows' : Rows2} {l : List Nat} {O : Nat → Nat} {oC : Nat} {vf0 : Value} {w : World} {R : List (List Nat)} {W W' : World} {row : Option Nat} (h : PR sb p p' G lb lo lim ob rows rows' l O oC vf0 w R W) (hg : W.grownBy W' row)
    (hr : ∀ r, row = some r → w.heap.size ≤ r ∧ ∃ o : Obj, W.heap[r]? = some o ∧ o.isCells = false) : PR sb p p' G lb lo lim ob rows rows' l O oC vf0 w R W' := by
  have hr2 : ∀ r, row = some r → ∃ o : Obj, W.heap[r]? = some o ∧ o.isCells = false := fun r e => (hr r e).2
  obtain ⟨vf, h1, h2⟩ := h.main
  exact ⟨⟨vf, h1.keptG hg hr2, h2⟩, h.spared.grown hg (fun r e => (hr r e).1), h.choices.keptG hg hr2, blk_kept h.b0 hg hr2, blk_kept h.b1 hg hr2, blk_kept h.b2 hg hr2⟩
theorem PR.own {β : Type} {sb p p' G lb lo lim ob : Nat} {rows rows' : Rows2} {l : List Nat} {O : Nat → Nat} {oC : Nat} {vf0 : Value} {w : World} {R : β → List (List Nat)} {B : Nat} (hB : w.heap.size ≤ B) : OwnFrom B (fun (s : β) W => PR sb p p' G lb lo lim ob rows rows' l O oC vf0 w (R s) W) :=
  fun _ _ _ _ hs hg hr => hs.keptG hg fun r e => ⟨Nat.le_trans hB (hr r e).1, (hr r e).2⟩
theorem PR.step {sb p p' G lb lo lim ob : Nat} {rows rows' : Rows2} {l : List Nat} {O : Nat → Nat} {oC : Nat} {vf0 : Value} {w : World} {R : List (List Nat)} {W W' : World} (h : PR sb p p' G lb lo lim ob rows rows' l O oC vf0 w R W) (hb : Below W.heap.size W W') : PR sb p p' G lb lo lim ob rows rows' l O oC vf0 w R W' := by
  obtain ⟨vf, h1, h2⟩ := h.main
  exact ⟨⟨vf, h1.step hb, h2⟩, h.spared.below hb h.spared.size, h.choices.below hb h.choices.lt, (hb.block _ h.b0.lt).trans h.b0, (hb.block _ h.b1.lt).trans h.b1, (hb.block _ h.b2.lt).trans h.b2⟩
theorem PW.shorter {sb p p' G lb lo lim : Nat} {rows rows' : Rows2} {l : List Nat} {k : Nat} {R : List (List Nat)} {vf : Value} {W : World} (h : PW sb p p' G lb lo lim rows rows' (l ++ [k]) R vf W) : PW sb p p' G lb lo lim rows rows' l R vf W := by
  obtain ⟨C, f, h1, h2, h3⟩ := h.list
  exact ⟨h.srch, h.open_, h.grids, ⟨C, f, h1, h2, fun q hq => by
    have := h3 q (by rw [List.length_append]; omega)
    rw [getD_app hq] at this
    exact this⟩, h.found⟩
/-- A number is put behind those chosen. -/
theorem PW.chosen {sb p p' G lb lo lim : Nat} {rows rows' : Rows2} {l : List Nat} {R : List (List Nat)} {vf : Value} {W : World} (h : PW sb p p' G lb lo lim rows rows' l R vf W) (k : Nat) (hs : lb ≠ sb) (h1 : p ≠ lb) (h2 : p' ≠ lb) (h3 : G ≠ lb) (hl : lb < lo) :
    PW sb p p' G lb lo lim rows rows' (l ++ [k]) R vf (W.setCell ⟨lb, l.length, none⟩ (.int .i64 (k : Int))) := by
  have hk : ∀ b, b ≠ lb → (W.setCell ⟨lb, l.length, none⟩ (.int .i64 (k : Int))).heap[b]? = W.heap[b]? := fun b hne => Below.heap_setCell W ⟨lb, l.length, none⟩ _ b hne
  obtain ⟨C, f, hr, l2, l3⟩ := h.list
  have hr2 := hr.set l.length (.int .i64 (k : Int))
  refine ⟨h.srch.block (hk sb (fun e => hs e.symm)), ?_, ⟨h.grids.from_.block (hk p h1), h.grids.up.block (hk p' h2), h.grids.low.block (hk G h3)⟩, ⟨C, _, hr2, l2, fun q hq => ?_⟩, ?_⟩
  · rw [World.frozen?_setCell]
    exact h.open_
  · rw [List.length_append, List.length_singleton] at hq
    by_cases e : q = l.length
    · subst e
      rw [if_pos rfl, getD_end l k []]
    · rw [if_neg e, getD_app (show q < l.length by omega)]
      exact l3 q (by omega)
  · rw [size_setCell]
    exact h.found.kept fun b h4 _ => hk b (show b ≠ lb by omega)
theorem fun_ne : (166 : TypeId) ≠ 26 := by decide
theorem row_ne : (91 : TypeId) ≠ 26 := by decide
theorem rws_ne : (156 : TypeId) ≠ 26 := by decide
theorem PW.apart {sb p p' G lb lo lim : Nat} {rows rows' : Rows2} {l : List Nat} {R : List (List Nat)} {vf : Value} {W : World} (h : PW sb p p' G lb lo lim rows rows' l R vf W) {b : Nat} {c : Array Value} {t : TypeId} {fz : Nat × Nat} (hb : W.heap[b]? = some (.cells c t fz)) (ht : t ≠ 26) : vf.ownBlock ≠ some b := fun e => by
  obtain ⟨_, _, c2, h2⟩ := h.found.rowType b e
  rw [hb] at h2
  injection h2 with h2
  injection h2 with _ h2
  exact ht h2
/-- Behind a call for one number more. -/
theorem PR.called {sb p p' G lb lo lim ob : Nat} {rows rows' : Rows2} {l : List Nat} {O : Nat → Nat} {oC : Nat} {vf0 vf vf' : Value} {w : World} {R R' : List (List Nat)} {W W' : World} {k : Nat} (h : PR sb p p' G lb lo lim ob rows rows' l O oC vf0 w R W)
    (hv : PW sb p p' G lb lo lim rows rows' l R vf W) (hf : Fresh vf0 vf w) (hp : PW sb p p' G lb lo lim rows rows' (l ++ [k]) R' vf' W') (hsp : Spared sb lb vf (W.setCell ⟨lb, l.length, none⟩ (.int .i64 (k : Int))) W') (hf' : Fresh vf vf' (W.setCell ⟨lb, l.length, none⟩ (.int .i64 (k : Int))))
    (hs : sb < w.heap.size) (hl : lb < w.heap.size) (ho : ob ≠ sb ∧ ob ≠ lb) : PR sb p p' G lb lo lim ob rows rows' l O oC vf0 w R' W' := by
  have hz : (W.setCell ⟨lb, l.length, none⟩ (.int .i64 (k : Int))).heap.size = W.heap.size := size_setCell _ _ _
  have hset : ∀ b, b ≠ lb → (W.setCell ⟨lb, l.length, none⟩ (.int .i64 (k : Int))).heap[b]? = W.heap[b]? := fun b hne => Below.heap_setCell W ⟨lb, l.length, none⟩ _ b hne
  have hk : ∀ b (c : Array Value) (t : TypeId) (fz : Nat × Nat), b ≠ sb → b ≠ lb → W.heap[b]? = some (.cells c t fz) → t ≠ 26 → W'.heap[b]? = W.heap[b]? := fun b c t fz h1 h2 hb ht =>
    (hsp.block b (by rw [hz]; exact (Array.getElem?_eq_some_iff.1 hb).1) h1 h2 (hv.apart hb ht)).trans (hset b h2)
  have hsz := h.spared.size
  refine ⟨⟨vf', hp.shorter, hf.call (by rw [hz]; exact hsz) hf'⟩, ?_, ?_, ?_, ?_, ?_⟩
  · have h1 : Spared sb lb vf0 w (W.setCell ⟨lb, l.length, none⟩ (.int .i64 (k : Int))) :=
      ⟨h.spared.os, h.spared.tape, h.spared.output, by rw [hz]; exact hsz, fun b b1 b2 b3 b4 => (hset b b3).trans (h.spared.block b b1 b2 b3 b4)⟩
    exact h1.call hf hsp
  · obtain ⟨c, hc, hd⟩ := h.choices
    exact ⟨c, (hk ob _ _ _ ho.1 ho.2 hc row_ne).trans hc, hd⟩
  · exact (hk _ _ _ _ (by omega) (by omega) h.b0 fun_ne).trans h.b0
  · exact (hk _ _ _ _ (by omega) (by omega) h.b1 int_ne).trans h.b1
  · exact (hk _ _ _ _ (by omega) (by omega) h.b2 rws_ne).trans h.b2
/-- What a round keeps of what is no variable. -/
theorem PW.keeps {sb p p' G lb lo lim : Nat} {rows rows' : Rows2} {l : List Nat} {R : List (List Nat)} {vf : Value} {W W' : World} {k B : Nat} (hv : PW sb p p' G lb lo lim rows rows' l R vf W) (hs : sb < B) (hl : lb < B) (hsp : Spared sb lb vf (W.setCell ⟨lb, l.length, none⟩ (.int .i64 (k : Int))) W') : KeepsFrom B W W' := by
  have hz : (W.setCell ⟨lb, l.length, none⟩ (.int .i64 (k : Int))).heap.size = W.heap.size := size_setCell _ _ _
  refine ⟨by rw [← hz]; exact hsp.size, fun b o hb ho hc => ?_⟩
  have hne : vf.ownBlock ≠ some b := fun e => by
    obtain ⟨_, _, c2, h2⟩ := hv.found.rowType b e
    rw [ho] at h2
    injection h2 with h2
    subst h2
    cases hc
  exact ((hsp.block b (by rw [hz]; exact (Array.getElem?_eq_some_iff.1 ho).1) (by omega) (by omega) hne).trans (Below.heap_setCell W ⟨lb, l.length, none⟩ _ b (show b ≠ lb by omega))).trans ho
end Go.Proofs.YtkomghohdhengaaDoor

/- The program's search for all monotone functions that go on from a list (funSearch.place). -/
namespace Go.Proofs.YtkomghohdhengaaDoor
open Go.RowKit Go.Deep Go.Shelf
attribute [local go_sem] Oper.semAt_some

/-- A region that only reads, inside a round: one walk in the text's order. -/
theorem quiet_round {F : Fence} {l n : Nat} {P : Program} {id : Nat} {Q : Exit → Act → World → Prop} {a : Act} {w : World} {ops : List Oper} (hro : F.round = none) (hm : P.follows .mixedOrders = true) (hB : Region.lexB .any ops.toArray = true) (hnd : ops.toArray.all (fun o => match o.op with | .defer _ => false | _ => true) = true)
    (h : wpQuietIn F n P ops.toArray (fun w' => ∃ n, w' = w.drewN n) (fun a' => ∀ w', (∃ n, w' = w.drewN n) → Q .normal a' w') ops a) : (Code.region id ops.toArray true).wpIn (F.inRound l) n P Q a w := by
  simp only [Region.lexB, Bool.and_eq_true] at hB
  refine wpIn_region_any hm (wpAnyIn_round (noDefer hnd) _ _ _ _ (wpAnyIn_of_quiet (C := fun w' => ∃ n, w' = w.drewN n) (Q := fun a' => ∀ w', (∃ n, w' = w.drewN n) → Q .normal a' w') hro (fun _ w' hw' h => h w' hw') _ _ _ _ ⟨1, rfl⟩ ?_))
  have := wpAnyQIn_lex (F := F) (n := n) (C := fun w' => ∃ n, w' = w.drewN n) (md := .any) hB.1 ops 0 (Array.replicate ops.toArray.size false) a (by simp) (by simpa using hB.2) h
  simpa using this
/-- What the choices of a row lead to. -/
theorem flat_filter {α β : Type} (p : α → Bool) (g : α → List β) : ∀ l : List α, (l.filter p).flatMap g = l.flatMap fun k => if p k then g k else []
  | [] => rfl
  | a :: l => by
    rw [List.flatMap_cons, ← flat_filter p g l]
    by_cases h : p a = true
    · rw [List.filter_cons_of_pos h, List.flatMap_cons, if_pos h]
    · rw [List.filter_cons_of_neg h, if_neg h, List.nil_append]
theorem flat_elems {β : Type} {r m : Nat} (g : Nat → List β) (hm : m ≤ 256) (hb : ∀ c, r.testBit c = true → c < m) (hn : ∀ c, c < m → r.testBit c = false → g c = []) : (elems r).flatMap g = (List.range m).flatMap g := by
  unfold elems
  rw [flat_filter]
  obtain ⟨d, hd⟩ := Nat.le.dest hm
  rw [← hd, List.range_add, List.flatMap_append]
  rw [show ((List.range d).map (m + ·)).flatMap (fun k => if r.testBit k = true then g k else []) = [] from List.flatMap_eq_nil_iff.2 fun k hk => by
    obtain ⟨q, _, rfl⟩ := List.mem_map.1 hk
    rw [if_neg (fun h => by have := hb _ h; omega)], List.append_nil]
  refine congrArg List.flatten (List.map_congr_left fun k hk => ?_)
  rw [List.mem_range] at hk
  by_cases h : r.testBit k = true
  · rw [if_pos h]
  · rw [if_neg h, hn k hk (Bool.not_eq_true _ ▸ h)]

/-- What place leaves. -/
def PlaceP (sb p p' G lb lo lim : Nat) (rows rows' : Rows2) (l : List Nat) (RES : List (List Nat)) (vf : Value) (w : World) (e : Ending) (w' : World) : Prop :=
  e = .returned (.tuple #[]) ∧ ∃ vf', PW sb p p' G lb lo lim rows rows' l RES vf' w' ∧ Spared sb lb vf w w' ∧ Fresh vf vf' w

/-- What has been found when some choices have been tried. -/
noncomputable def fnd (rows rows' : Rows2) (lim f : Nat) (l : List Nat) (R : List (List Nat)) (ks : List Nat) : List (List Nat) := (R ++ ks.flatMap fun k => extL rows'.length (monN (Bf rows) (Bf rows')) f (l ++ [k])).take (lim + 1)

set_option maxRecDepth 100000 in
set_option maxHeartbeats 4000000 in
theorem place_round (sb p p' G lb lo lim n₀ : Nat) (rows rows' : Rows2) (hok : Ok rows) (hok' : Ok rows') (hs : n₀ ≤ sb ∧ sb < lo) (hlb : n₀ ≤ lb ∧ lb < lo ∧ lb ≠ sb) (hp1 : p < lo ∧ p ≠ sb ∧ p ≠ lb) (hp2 : p' < lo ∧ p' ≠ sb ∧ p' ≠ lb) (hp3 : G < lo ∧ G ≠ sb ∧ G ≠ lb) (htab : 0 < n₀)
    (f : Nat) (IH : ∀ (l : List Nat) (R : List (List Nat)) (vf : Value) (ob oC : Nat) (O : Nat → Nat) (w : World), PW sb p p' G lb lo lim rows rows' l R vf w → l.length + f = rows.length → (∀ x ∈ l, x < rows'.length) → MonN (Bf rows) (Bf rows') l → Cho rows rows' l O → RwAt w ob rows.length O → ob ≠ sb → ob ≠ lb → R.length ≤ lim → lo ≤ w.heap.size → Tab w →
      Calls Tryd.prog 143 #[.pointer (some ⟨sb, 0, none⟩), .int .i64 (l.length : Int), .slice (some ⟨ob, 0, none⟩) rows.length oC] w (PlaceP sb p p' G lb lo lim rows rows' l ((R ++ extL rows'.length (monN (Bf rows) (Bf rows')) f l).take (lim + 1)) vf w))
    (l : List Nat) (R : List (List Nat)) (vf : Value) (ob oC : Nat) (O : Nat → Nat) (w : World) (hw : PW sb p p' G lb lo lim rows rows' l R vf w) (hlf : l.length + (f + 1) = rows.length) (hx : ∀ x ∈ l, x < rows'.length) (hM : MonN (Bf rows) (Bf rows') l) (hC : Cho rows rows' l O) (hO : RwAt w ob rows.length O) (ho : ob ≠ sb ∧ ob ≠ lb) (hR : R.length ≤ lim) (hlo : lo ≤ w.heap.size) (hT : Tab w) :
    Calls Tryd.prog 143 #[.pointer (some ⟨sb, 0, none⟩), .int .i64 (l.length : Int), .slice (some ⟨ob, 0, none⟩) rows.length oC] w (PlaceP sb p p' G lb lo lim rows rows' l ((R ++ extL rows'.length (monN (Bf rows) (Bf rows')) (f + 1) l).take (lim + 1)) vf w) := by
  have hmx : Tryd.prog.follows .mixedOrders = true := by kernel_rfl
  have hb0 := (((Below.refl w.heap.size w).alloc (Nat.le_refl _) (.cells #[.pointer (some ⟨sb, 0, none⟩)] 166)).alloc (by simp) (.cells #[.int .i64 (l.length : Int)] 3)).alloc (by simp; omega) (.cells #[.slice (some ⟨ob, 0, none⟩) rows.length oC] 156)
  have hx0 := ((Boxed.new w 166 (.pointer (some ⟨sb, 0, none⟩))).alloc (.cells #[.int .i64 (l.length : Int)] 3)).alloc (.cells #[.slice (some ⟨ob, 0, none⟩) rows.length oC] 156)
  have hx1 := (Boxed.new (w.alloc (.cells #[.pointer (some ⟨sb, 0, none⟩)] 166)) 3 (.int .i64 (l.length : Int))).alloc (.cells #[.slice (some ⟨ob, 0, none⟩) rows.length oC] 156)
  have hx2 := Boxed.new ((w.alloc (.cells #[.pointer (some ⟨sb, 0, none⟩)] 166)).alloc (.cells #[.int .i64 (l.length : Int)] 3)) 156 (.slice (some ⟨ob, 0, none⟩) rows.length oC)
  simp only [World.size_alloc, Nat.add_assoc, Nat.reduceAdd] at hx1 hx2
  obtain ⟨W2, hW2⟩ : ∃ W2, W2 = ((w.alloc (.cells #[.pointer (some ⟨sb, 0, none⟩)] 166)).alloc (.cells #[.int .i64 (l.length : Int)] 3)).alloc (.cells #[.slice (some ⟨ob, 0, none⟩) rows.length oC] 156) := ⟨_, rfl⟩
  rw [← hW2] at hb0 hx0 hx1 hx2
  have hPR : PR sb p p' G lb lo lim ob rows rows' l O oC vf w R W2 := ⟨⟨vf, hw.step hb0, .inl rfl⟩, Spared.of_below hb0, hO.below hb0 hO.lt, hx0, hx1, hx2⟩
  have hT2 := hT.below hb0
  have HPR := Lib.hid hPR
  have HT := Lib.hid hT2
  have hcells := hPR.choices.cells (show l.length < rows.length by omega)
  have hlist := (hw.step hb0).srch.list
  have hne : ((l.length : Int) == (rows.length : Int)) = false := by
    rw [beq_eq_false_iff_ne]; omega
  have hn200 := hok.len
  have hil : (l.length : Int) < (rows.length : Int) := by omega
  have hi0 : (0 : Int) ≤ (l.length : Int) := by omega
  have HLF := Lib.hid hlf
  have HT0 := Lib.hid hT
  have HVB := Lib.hid (show ∀ b, vf.ownBlock = some b → n₀ ≤ b from fun b e => by have := (hw.found.rowType b e).1; omega)
  clear hlf hPR hT hT2 hb0
  refine (callsIn_wide (n := 8)).1 ?_
  refine callsIn_of_wp_marks Tryd.func143 rfl trivial ?_ rfl
  simp only [Tryd.ntmps143, List.size_toArray, List.length_cons, List.length_nil, Nat.reduceAdd, Nat.reduceSub, Array.replicate_succ, Array.replicate_zero, List.push_toArray, List.append_toArray, List.nil_append, List.cons_append]
  gi_wp2
  simp only [Nat.add_assoc, Nat.reduceAdd]
  rw [← hW2]
  have hb0c := hx0.cell
  have hb1c := hx1.cell
  have hb2c := hx2.cell
  clear hW2
  gi_big_quiet_th_o (fail)
  have hbq := below_drewN' W2 nq W2.heap.size
  have P3 := Lib.hid (HPR.out.step hbq)
  have T3 := Lib.hid (HT.out.below hbq)
  obtain ⟨W3, hW3⟩ : ∃ W3, W3 = W2.drewN nq := ⟨_, rfl⟩
  rw [← hW3] at P3 T3 ⊢
  clear hbq hb0c hb1c hb2c hcells hlist HPR HT hx0 hx1 hx2 hW3
  have hb1c := P3.out.b1.cell
  have hb2c := P3.out.b2.cell
  obtain ⟨c0, c1, c2, c3⟩ := P3.out.choices.cells (show l.length < rows.length by omega)
  gi_wp2
  refine ⟨trivial, (callsIn_wide.2 (elements_any (O l.length) _)).mono ?_⟩
  rintro e w1 ⟨rfl, rfl⟩
  gi_wp2
  have hr4 := RowIn.alloc W3 (P3.out.choices.bits (show l.length < rows.length by omega))
  have hb4 := (Below.refl W3.heap.size W3).alloc (Nat.le_refl _) (.cells #[.int .u64 ((word (O l.length) 0 : Nat) : Int), .int .u64 ((word (O l.length) 1 : Nat) : Int), .int .u64 ((word (O l.length) 2 : Nat) : Int), .int .u64 ((word (O l.length) 3 : Nat) : Int)] 91)
  have P4 := Lib.hid (P3.out.step hb4)
  have T4 := Lib.hid (T3.out.below hb4)
  have hz3 := P3.out.spared.size
  have hrb := P3.out.choices.bits (show l.length < rows.length by omega)
  have hz4 : W3.heap.size + 1 = (W3.alloc (.cells #[.int .u64 ((word (O l.length) 0 : Nat) : Int), .int .u64 ((word (O l.length) 1 : Nat) : Int), .int .u64 ((word (O l.length) 2 : Nat) : Int), .int .u64 ((word (O l.length) 3 : Nat) : Int)] 91)).heap.size := (World.size_alloc _ _).symm
  revert hr4 P4 T4 hz4
  generalize W3.alloc (.cells #[.int .u64 ((word (O l.length) 0 : Nat) : Int), .int .u64 ((word (O l.length) 1 : Nat) : Int), .int .u64 ((word (O l.length) 2 : Nat) : Int), .int .u64 ((word (O l.length) 3 : Nat) : Int)] 91) = W4
  intro hr4 P4 T4 hz4
  clear hb4 hb1c hb2c c0 c1 c2 c3
  have hnil : fnd rows rows' lim f l R [] = R := by
    unfold fnd
    rw [List.flatMap_nil, List.append_nil, List.take_of_length_le (by omega)]
  have hnl := hs.2
  have hbsz : w.heap.size ≤ W4.heap.size := by omega
  have HEND : Hid (∀ W, PR sb p p' G lb lo lim ob rows rows' l O oC vf w (fnd rows rows' lim f l R (elems (O l.length))) W → ∃ vf', PW sb p p' G lb lo lim rows rows' l ((R ++ extL rows'.length (monN (Bf rows) (Bf rows')) (f + 1) l).take (lim + 1)) vf' W ∧ Spared sb lb vf w W ∧ Fresh vf vf' w) := Lib.hid (fun W h => by
    obtain ⟨vf', h1, h2⟩ := h.main
    have hll : l.length < rows.length := by have := HLF.out; omega
    refine ⟨vf', ?_, h.spared, h2⟩
    unfold fnd at h1
    rw [flat_elems (m := rows'.length) _ (by have := hok'.len; omega) (fun c hc => ((hC.fine hll).1 hc).1) (fun c hc hn => ext_notfine (by
      cases e : fineN (Bf rows) (Bf rows') l c with
      | false => rfl
      | true => rw [(hC.fine hll).2 ⟨hc, e⟩] at hn; cases hn))] at h1
    exact h1)
  refine wpIn_rangeFunc_ownG rfl (by omega) (gf := 159) (lb := #[.pointer (some ⟨W3.heap.size, 0, none⟩)]) rfl trivial (enters_of Tryd.func159 (by kernel_rfl) rfl)
    (elements1_stops _ n₀ W3.heap.size (O l.length) W4 (by omega) hrb hr4 (by omega) htab T4.out) belowK_t (belowK_b (by omega)) (Below.refl _ _) (fun _ => rfl)
    (fun pre W => PR sb p p' G lb lo lim ob rows rows' l O oC vf w (fnd rows rows' lim f l R (natsOf pre)) W)
    (fun c pre W => c = .ret ∧ ∃ ini last, pre = ini ++ [last] ∧ lim < (fnd rows rows' lim f l R (natsOf ini)).length ∧ PR sb p p' G lb lo lim ob rows rows' l O oC vf w (fnd rows rows' lim f l R (natsOf ini)) W)
    (PR.own hbsz) (fun c _ _ _ _ hs hg hr => by obtain ⟨e0, ini, last, e1, e2, e3⟩ := hs; exact ⟨e0, ini, last, e1, e2, e3.keptG hg fun r e => ⟨Nat.le_trans hbsz (hr r e).1, (hr r e).2⟩⟩)
    (by rw [show natsOf ([] : List (Bt (O l.length))) = [] from rfl, hnil]; exact P4.out)
    ?a1 ?assign ?body ?done ?stop
  case assign =>
    intro ll x W K hK
    unfold encBt
    gi_wp2
    exact hK
  case body =>
    rintro ll pre x W hP hlen
    obtain ⟨k, hkm⟩ := x
    dsimp only
    obtain ⟨vc, hv, hf⟩ := hP.main
    have hkl : k < rows'.length ∧ fineN (Bf rows) (Bf rows') l k = true := (hC.fine (by omega)).1 ((mem_elems hrb).1 hkm)
    obtain ⟨Rp, hRp⟩ : ∃ Rp, Rp = fnd rows rows' lim f l R (natsOf pre) := ⟨_, rfl⟩
    have hRl : Rp.length ≤ lim + 1 := by rw [hRp]; unfold fnd; rw [List.length_take]; omega
    rw [← hRp] at hP hv
    obtain ⟨ao, CO, rfl⟩ := hv.found.form
    have hc0 := hP.b0.cell
    have hc3 := hv.srch.limit
    have hc5 := hv.srch.found
    have HP := Lib.hid hP
    have HV := Lib.hid hv
    have HF := Lib.hid hf
    have HRP := Lib.hid hRp
    clear hP hv hf hRp hlen
    by_cases hfull : lim < Rp.length
    · have hgt : (lim : Int) < (Rp.length : Int) := by omega
      gi_wp2
      refine quiet_round rfl (by assumption) (by kernel_rfl) (by kernel_rfl) ?_
      repeat (gi_big_quiet_step (fail))
      refine wpQuietIn_nil ?_
      intro _ hw'
      obtain ⟨nq, hw''⟩ := hw'
      subst hw''
      have hbq := below_drewN' W nq W.heap.size
      have PQ := Lib.hid (HP.out.step hbq)
      have VQ := Lib.hid (HV.out.step hbq)
      have hbk := Lib.hid (keeps_below hbq)
      have hbn := Lib.hid (below_drewN' W nq n₀)
      obtain ⟨Wq, hWq⟩ : ∃ Wq, Wq = W.drewN nq := ⟨_, rfl⟩
      rw [← hWq] at PQ VQ hbk hbn ⊢
      clear hbq hWq hc0 hc3 hc5 HP HV
      gi_wp2
      exact ⟨hbk.out.from _, rfl, pre, _, rfl, by rw [← HRP.out]; exact hfull, by rw [← HRP.out]; exact PQ.out⟩
    · have hgt : ¬ (lim : Int) < (Rp.length : Int) := by omega
      gi_wp2
      refine quiet_round rfl (by assumption) (by kernel_rfl) (by kernel_rfl) ?_
      repeat (gi_big_quiet_step (fail))
      refine wpQuietIn_nil ?_
      intro _ hw'
      obtain ⟨nq, hw''⟩ := hw'
      subst hw''
      have hbq := below_drewN' W nq W.heap.size
      have PQ := Lib.hid (HP.out.step hbq)
      have VQ := Lib.hid (HV.out.step hbq)
      have hbk := Lib.hid (keeps_below hbq)
      have hbn := Lib.hid (below_drewN' W nq n₀)
      obtain ⟨Wq, hWq⟩ : ∃ Wq, Wq = W.drewN nq := ⟨_, rfl⟩
      rw [← hWq] at PQ VQ hbk hbn ⊢
      clear hbq hWq hc0 hc3 hc5 HP HV
      have hc0 := PQ.out.b0.cell
      have hc1 := PQ.out.b1.cell
      have hc2 := PQ.out.b2.cell
      have HNA := Lib.hid (narrowed_any sb p p' G lb lim (.slice ao Rp.length CO) rows rows' ob oC l.length k O Wq VQ.out.srch VQ.out.grids PQ.out.choices hok hok' (by omega) hkl.1)
      gi_wp2
      refine ⟨trivial, (CallsIn.inRound ll (callsIn_wide.2 HNA.out)).mono ?_⟩
      clear HNA
      rintro e W5 ⟨hres, hb5⟩
      have P5 := Lib.hid (PQ.out.step hb5)
      have V5 := Lib.hid (VQ.out.step hb5)
      have K5 := Lib.hid (hbk.out.trans (keeps_below hb5))
      have hq5 := PQ.out.spared.size
      have N5 := Lib.hid (hbn.out.trans (hb5.mono (show n₀ ≤ Wq.heap.size by omega)))
      clear hb5 hbk hbn hc0 hc1 hc2 PQ VQ
      rcases hres with ⟨hyes, g, C5, rfl, hg5, hr5⟩ | ⟨hno, rfl⟩
      · obtain ⟨C, fl, hrow, hCn, _⟩ := V5.out.list
        have hd5 := below_drewN' W5 1 W5.heap.size
        have P6 := Lib.hid (P5.out.step hd5)
        have V6 := Lib.hid (V5.out.step hd5)
        have R6 := Lib.hid (hr5.below hd5 hr5.lt)
        have K6 := Lib.hid (K5.out.trans (keeps_below hd5))
        have N6 := Lib.hid (N5.out.trans (below_drewN' W5 1 n₀))
        have hz5 := P5.out.spared.size
        have hlc := hrow.cell (show l.length < C by omega)
        have hlf := hrow.frozen l.length
        have hc0 := P5.out.b0.cell
        have hc1 := P5.out.b1.cell
        have hc4 := V5.out.srch.list
        have hglb : g ≠ lb := by omega
        have HIH := Lib.hid (show Calls Tryd.prog 143 #[.pointer (some ⟨sb, 0, none⟩), .int .i64 ((l.length : Int) + 1), .slice (some ⟨g, 0, none⟩) rows.length C5] (W5.drew.setCell ⟨lb, l.length, none⟩ (.int .i64 (k : Int))) (PlaceP sb p p' G lb lo lim rows rows' (l ++ [k]) ((Rp ++ extL rows'.length (monN (Bf rows) (Bf rows')) f (l ++ [k])).take (lim + 1)) (.slice ao Rp.length CO) (W5.drew.setCell ⟨lb, l.length, none⟩ (.int .i64 (k : Int)))) from by
          have hIH := IH (l ++ [k]) Rp (.slice ao Rp.length CO) g C5 (narO rows rows' l.length k O) (W5.drew.setCell ⟨lb, l.length, none⟩ (.int .i64 (k : Int))) (V6.out.chosen k hlb.2.2 hp1.2.2 hp2.2.2 hp3.2.2 hlb.2.1) (by rw [List.length_append, List.length_singleton]; have := HLF.out; omega)
            (fun x h => (List.mem_append.1 h).elim (hx x) (fun e => by rw [List.mem_singleton] at e; rw [e]; exact hkl.1)) (hM.snoc hkl.2 (up_refl hok' hkl.1)) (hC.next hok hok' (by omega) hkl.1) (R6.out.block (Below.heap_setCell _ _ _ g hglb)) (by omega) hglb (by omega) (by rw [size_setCell]; exact Nat.le_trans hlo (P6.out.spared.size)) (tab_keep HT0.out ((P6.out.spared.under hs.1 hlb.1 HVB.out (by omega)).setCell (p := ⟨lb, l.length, none⟩) hlb.1 _) htab)
          rw [show (((l ++ [k]).length : Nat) : Int) = (l.length : Int) + 1 by rw [List.length_append, List.length_singleton]; rfl] at hIH
          exact hIH)
        have HFIN : Hid (∀ W7 vf', PW sb p p' G lb lo lim rows rows' (l ++ [k]) ((Rp ++ extL rows'.length (monN (Bf rows) (Bf rows')) f (l ++ [k])).take (lim + 1)) vf' W7 → Spared sb lb (.slice ao Rp.length CO) (W5.drew.setCell ⟨lb, l.length, none⟩ (.int .i64 (k : Int))) W7 → Fresh (.slice ao Rp.length CO) vf' (W5.drew.setCell ⟨lb, l.length, none⟩ (.int .i64 (k : Int))) →
            KeepsFrom W4.heap.size W W7 ∧ Below n₀ W W7 ∧ PR sb p p' G lb lo lim ob rows rows' l O oC vf w (fnd rows rows' lim f l R (natsOf (pre ++ [⟨k, hkm⟩]))) W7) := Lib.hid (fun W7 vf' h7 s7 f7 => by
          refine ⟨(K6.out.from _).trans (V6.out.keeps (by omega) (by omega) s7), ?_, ?_⟩
          · refine N6.out.trans (Below.trans (Below.setCell (Below.refl _ _) (p := ⟨lb, l.length, none⟩) hlb.1 _) (s7.under hs.1 hlb.1 (fun b e => ?_) ?_))
            · have := (V6.out.found.rowType b e).1; omega
            · rw [size_setCell]; exact Nat.le_trans (by omega) P6.out.spared.size
          · have := P6.out.called V6.out HF.out h7 s7 f7 (by omega) (by omega) ho
            rw [natsOf_snoc]
            rw [HRP.out] at this
            unfold fnd at this ⊢
            rw [take_more, List.append_assoc] at this
            rw [List.flatMap_append, List.flatMap_singleton]
            exact this)
        clear hrow hd5 hr5 P6 V6 R6 K6 N6 K5 N5
        gi_wp2
        refine wpIn_region_any hmx (wpAnyIn_round (F := Fence.wide) (noDefer (by kernel_rfl)) _ _ _ _ ?_)
        try (change wpAnyIn _ _ _ _ _ _ _ _ _ (World.drew _))
        refine wpAnyIn_take (i := 5) (v := .int .i64 (k : Int)) rfl rfl (by kernel_rfl) (by kernel_rfl) (by kernel_rfl) (fun _ _ _ h => h) ⟨Or.inl ⟨by rfl, (by intro w; go_simp)⟩, fun _ => rfl⟩ ?_
        refine wpAnyIn_ready (rs := [0, 4]) (by kernel_rfl) (by simp) ?_
        refine AllReadyIn.cons rfl (fun K hK => ?_) ?_
        · go_simp
          try (refine hK _ _ ?_; clear hK K)
          refine wpAnyIn_take (i := 1) (v := .pointer (some ⟨sb, 0, none⟩)) rfl rfl (by kernel_rfl) (by kernel_rfl) (by kernel_rfl) (fun _ _ _ h => h) ⟨Or.inl ⟨by rfl, (by intro w; go_simp)⟩, fun _ => rfl⟩ ?_
          refine wpAnyIn_take (i := 2) (v := .pointer (some ⟨sb, 4, none⟩)) rfl rfl (by kernel_rfl) (by kernel_rfl) (by kernel_rfl) (fun _ _ _ h => h) ⟨Or.inl ⟨by rfl, (by intro w; go_simp)⟩, fun _ => rfl⟩ ?_
          refine wpAnyIn_ready (rs := [3, 4]) (by kernel_rfl) (by simp) ?_
          refine AllReadyIn.cons rfl (fun K hK => ?_) ?_
          · go_simp
            try (refine hK _ _ ?_; clear hK K)
            refine wpAnyIn_ready (rs := [4]) (by kernel_rfl) (by simp) ?_
            refine AllReadyIn.cons rfl (fun K hK => ?_) ?_
            · go_simp
              try (refine hK _ _ ?_; clear hK K)
              refine wpAnyIn_ready (rs := [6]) (by kernel_rfl) (by simp) ?_
              refine AllReadyIn.cons rfl (fun K hK => ?_) ?_
              · go_simp
                try (refine hK _ _ ?_; clear hK K)
                refine wpAnyIn_ready (rs := [7]) (by kernel_rfl) (by simp) ?_
                refine AllReadyIn.cons rfl (fun K hK => ?_) ?_
                · go_simp
                  try (refine hK _ _ ?_; clear hK K)
                  refine wpAnyIn_done (by kernel_rfl) ?_ _
                  gi_wp2
                  refine ⟨trivial, (CallsIn.inRound ll (callsIn_wide.2 HIH.out)).mono ?_⟩
                  rintro e W7 ⟨rfl, vf', hp7, hs7, hf7⟩
                  gi_wp2
                  exact HFIN.out W7 vf' hp7 hs7 hf7
                exact AllReadyIn.nil
              exact AllReadyIn.nil
            exact AllReadyIn.nil
          refine AllReadyIn.cons rfl (fun K hK => ?_) ?_
          · go_simp
            try (refine hK _ _ ?_; clear hK K)
            refine wpAnyIn_ready (rs := [3]) (by kernel_rfl) (by simp) ?_
            refine AllReadyIn.cons rfl (fun K hK => ?_) ?_
            · go_simp
              try (refine hK _ _ ?_; clear hK K)
              refine wpAnyIn_ready (rs := [6]) (by kernel_rfl) (by simp) ?_
              refine AllReadyIn.cons rfl (fun K hK => ?_) ?_
              · go_simp
                try (refine hK _ _ ?_; clear hK K)
                refine wpAnyIn_ready (rs := [7]) (by kernel_rfl) (by simp) ?_
                refine AllReadyIn.cons rfl (fun K hK => ?_) ?_
                · go_simp
                  try (refine hK _ _ ?_; clear hK K)
                  refine wpAnyIn_done (by kernel_rfl) ?_ _
                  gi_wp2
                  refine ⟨trivial, (CallsIn.inRound ll (callsIn_wide.2 HIH.out)).mono ?_⟩
                  rintro e W7 ⟨rfl, vf', hp7, hs7, hf7⟩
                  gi_wp2
                  exact HFIN.out W7 vf' hp7 hs7 hf7
                exact AllReadyIn.nil
              exact AllReadyIn.nil
            exact AllReadyIn.nil
          exact AllReadyIn.nil
        refine AllReadyIn.cons rfl (fun K hK => ?_) ?_
        · go_simp
          try (refine hK _ _ ?_; clear hK K)
          refine wpAnyIn_ready (rs := [0]) (by kernel_rfl) (by simp) ?_
          refine AllReadyIn.cons rfl (fun K hK => ?_) ?_
          · go_simp
            try (refine hK _ _ ?_; clear hK K)
            refine wpAnyIn_take (i := 1) (v := .pointer (some ⟨sb, 0, none⟩)) rfl rfl (by kernel_rfl) (by kernel_rfl) (by kernel_rfl) (fun _ _ _ h => h) ⟨Or.inl ⟨by rfl, (by intro w; go_simp)⟩, fun _ => rfl⟩ ?_
            refine wpAnyIn_take (i := 2) (v := .pointer (some ⟨sb, 4, none⟩)) rfl rfl (by kernel_rfl) (by kernel_rfl) (by kernel_rfl) (fun _ _ _ h => h) ⟨Or.inl ⟨by rfl, (by intro w; go_simp)⟩, fun _ => rfl⟩ ?_
            refine wpAnyIn_ready (rs := [3]) (by kernel_rfl) (by simp) ?_
            refine AllReadyIn.cons rfl (fun K hK => ?_) ?_
            · go_simp
              try (refine hK _ _ ?_; clear hK K)
              refine wpAnyIn_ready (rs := [6]) (by kernel_rfl) (by simp) ?_
              refine AllReadyIn.cons rfl (fun K hK => ?_) ?_
              · go_simp
                try (refine hK _ _ ?_; clear hK K)
                refine wpAnyIn_ready (rs := [7]) (by kernel_rfl) (by simp) ?_
                refine AllReadyIn.cons rfl (fun K hK => ?_) ?_
                · go_simp
                  try (refine hK _ _ ?_; clear hK K)
                  refine wpAnyIn_done (by kernel_rfl) ?_ _
                  gi_wp2
                  refine ⟨trivial, (CallsIn.inRound ll (callsIn_wide.2 HIH.out)).mono ?_⟩
                  rintro e W7 ⟨rfl, vf', hp7, hs7, hf7⟩
                  gi_wp2
                  exact HFIN.out W7 vf' hp7 hs7 hf7
                exact AllReadyIn.nil
              exact AllReadyIn.nil
            exact AllReadyIn.nil
          exact AllReadyIn.nil
        exact AllReadyIn.nil
      · have hnone := hC.none hok hok' (f := f) (by have := HLF.out; omega) hkl.1 hno
        gi_wp2
        refine ⟨K5.out.from _, N5.out, ?_⟩
        show PR sb p p' G lb lo lim ob rows rows' l O oC vf w (fnd rows rows' lim f l R (natsOf (pre ++ [⟨k, hkm⟩]))) W5
        rw [natsOf_snoc]
        have := P5.out
        rw [HRP.out] at this
        unfold fnd at this ⊢
        rw [List.flatMap_append, List.flatMap_singleton, hnone, List.append_nil]
        exact this
  case done =>
    rintro D ys W hD rfl hP hK
    rw [natsOf_all] at hP
    have HP := Lib.hid (hP.keptG (grownBy_putObj' W D (.deferred none)) (fun r e => by cases e; exact ⟨by omega, _, hK, rfl⟩))
    clear hP
    gi_wp2
    refine ⟨by simp, .inl ⟨_, _, rfl, run_takeDeferred hK, ?_⟩⟩
    exact ⟨.tuple #[], results_none rfl _ _ _, rfl, HEND.out _ HP.out⟩
  case stop =>
    rintro D c pre W hD hpre ⟨rfl, ini, last, e1, e2, hP⟩ hK
    obtain ⟨rest, hrest⟩ := hpre
    have hall : fnd rows rows' lim f l R (natsOf ini) = fnd rows rows' lim f l R (elems (O l.length)) := by
      rw [← natsOf_all, ← hrest, e1]
      unfold fnd at e2 ⊢
      rw [show natsOf (ini ++ [last] ++ rest) = natsOf ini ++ natsOf (last :: rest) by simp [natsOf], List.flatMap_append, ← List.append_assoc, take_full _ e2]
    rw [hall] at hP
    have HP := Lib.hid (hP.keptG (grownBy_putObj' W D (.deferred none)) (fun r e => by cases e; exact ⟨by omega, _, hK, rfl⟩))
    clear hP
    gi_wp2
    refine ⟨by simp, .inl ⟨_, _, rfl, run_takeDeferred hK, ?_⟩⟩
    exact ⟨.tuple #[], results_none rfl _ _ _, rfl, HEND.out _ HP.out⟩
theorem place_any (sb p p' G lb lo lim n₀ : Nat) (rows rows' : Rows2) (hok : Ok rows) (hok' : Ok rows') (hlim : lim ≤ 5000) (hs : n₀ ≤ sb ∧ sb < lo) (hlb : n₀ ≤ lb ∧ lb < lo ∧ lb ≠ sb) (hp1 : p < lo ∧ p ≠ sb ∧ p ≠ lb) (hp2 : p' < lo ∧ p' ≠ sb ∧ p' ≠ lb) (hp3 : G < lo ∧ G ≠ sb ∧ G ≠ lb) (htab : 0 < n₀) :
    ∀ (f : Nat) (l : List Nat) (R : List (List Nat)) (vf : Value) (ob oC : Nat) (O : Nat → Nat) (w : World), PW sb p p' G lb lo lim rows rows' l R vf w → l.length + f = rows.length → (∀ x ∈ l, x < rows'.length) → MonN (Bf rows) (Bf rows') l → Cho rows rows' l O → RwAt w ob rows.length O → ob ≠ sb → ob ≠ lb → R.length ≤ lim → lo ≤ w.heap.size → Tab w →
      Calls Tryd.prog 143 #[.pointer (some ⟨sb, 0, none⟩), .int .i64 (l.length : Int), .slice (some ⟨ob, 0, none⟩) rows.length oC] w (PlaceP sb p p' G lb lo lim rows rows' l ((R ++ extL rows'.length (monN (Bf rows) (Bf rows')) f l).take (lim + 1)) vf w)
  | 0, l, R, vf, ob, oC, O, w, hw, hl, hx, hM, _, _, _, _, hR, hlo, _ => by
    have hn := hok.len
    have hn' := hok'.len
    have := place_end sb p p' G lb lo lim ob oC rows rows' l R vf w hw (by omega) ⟨by omega, by omega, fun x h => by have := hx x h; omega⟩ (by omega) hlo hs.2 ⟨hlb.2.1, hlb.2.2⟩ ⟨hp1.1, hp1.2.1⟩ ⟨hp2.1, hp2.2.1⟩ ⟨hp3.1, hp3.2.1⟩
    refine this.mono ?_
    rintro e w' ⟨rfl, vf', h1, h2, h3⟩
    refine ⟨rfl, vf', ?_, h2, h3⟩
    rw [ext_end hM, List.take_of_length_le (by rw [List.length_append, List.length_singleton]; omega)]
    exact h1
  | f + 1, l, R, vf, ob, oC, O, w, hw, hl, hx, hM, hC, hO, ho1, ho2, hR, hlo, hT =>
    place_round sb p p' G lb lo lim n₀ rows rows' hok hok' hs hlb hp1 hp2 hp3 htab f (place_any sb p p' G lb lo lim n₀ rows rows' hok hok' hlim hs hlb hp1 hp2 hp3 htab f) l R vf ob oC O w hw hl hx hM hC hO ⟨ho1, ho2⟩ hR hlo hT
end Go.Proofs.YtkomghohdhengaaDoor

/- All monotone functions, as the program makes them (monotoneLists). -/
namespace Go.Proofs.YtkomghohdhengaaDoor
open Go.RowKit Go.Deep Go.Shelf

/-- All monotone functions. -/
noncomputable abbrev funsR (rows rows' : Rows2) : List (List Nat) := funsN (Bf rows) (Bf rows') rows.length rows'.length

theorem funs_least {rows rows' : Rows2} (hok : Ok rows) (hd' : domB rows' = true) : rows.length * (rows'.length - 1) + 1 ≤ (funsR rows rows').length := by
  obtain ⟨hok', ⟨z, hz, hza⟩, _⟩ := domB_iff.1 hd'
  exact funs_many (fun a ha => up_refl hok ha) (fun a b ha hb h1 h2 => up_anti hok ha hb h1 h2) (fun a b c ha hb hc h1 h2 => up_trans hok ha hb h1 h2) hz
    (fun v hv => by show upB rows' z (v : Int) = true; rw [← upB_grid hok' hz, hza, testBit_allF]; exact decide_eq_true hv) (fun v hv => up_refl hok' hv)
/-- What monotoneLists answers. -/
def ListsP (rows rows' : Rows2) (lim : Nat) (w : World) (e : Ending) (w' : World) : Prop :=
  ((lim < (funsR rows rows').length ∧ e = .returned (.tuple #[.slice none 0 0, .bool false])) ∨ ((funsR rows rows').length ≤ lim ∧ ∃ v, e = .returned (.tuple #[v, .bool true]) ∧ OwnR 3 26 w' v (funsR rows rows').length (rowsF (I2 (funsR rows rows'))) w.heap.size w'.heap.size)) ∧ Below w.heap.size w w'

/-- The search's own variable. -/
def srchCells (p p' G lb n lim : Nat) : Array Value := #[.pointer (some ⟨p, 0, none⟩), .pointer (some ⟨p', 0, none⟩), .pointer (some ⟨G, 0, none⟩), .int .i64 (lim : Int), .slice (some ⟨lb, 0, none⟩) n n, .slice none 0 0]

set_option maxRecDepth 100000 in
set_option maxHeartbeats 4000000 in
theorem lists_any (p p' lim : Nat) (rows rows' : Rows2) (hok : Ok rows) (hd' : domB rows' = true) (hlim : lim ≤ 5000) (w : World) (hg : GridAt w p (gridF rows)) (hg' : GridAt w p' (gridF rows')) (hT : Tab w) :
    Calls Tryd.prog 94 #[.pointer (some ⟨p, 0, none⟩), .pointer (some ⟨p', 0, none⟩), .int .i64 (lim : Int)] w (ListsP rows rows' lim w) := by
  have hok' := (domB_iff.1 hd').1
  have hl := hok.len
  have hl' := hok'.len
  have hsz := size_any p rows.length (gridF rows) w hg hl.2 hok.gridN.some hok.gridN.none
  have HG := Lib.hid hg
  have HG' := Lib.hid hg'
  have HT := Lib.hid hT
  have hsz' := fun (W : World) (hb : Below w.heap.size w W) => size_any p' rows'.length (gridF rows') W (HG'.out.below hb HG'.out.lt) hl'.2 hok'.gridN.some hok'.gridN.none
  have HS2 := Lib.hid hsz'
  have HMANY := Lib.hid (funs_least hok hd')
  obtain ⟨K, hK⟩ : ∃ K, K = rows.length * (rows'.length - 1) := ⟨_, rfl⟩
  have hK2 : (rows.length : Int) * ((rows'.length : Int) - 1) = (K : Int) := by
    rw [hK, Int.natCast_mul]
    congr 1
    omega
  have hK3 : K ≤ 200 * 200 := by rw [hK]; exact Nat.mul_le_mul hl.2 (by omega)
  clear hsz' hg hg' hT
  by_cases hbig : lim < K + 1
  · have hb1 : (lim : Int) < (K : Int) + 1 := by omega
    go_enter Tryd.func94, Tryd.ntmps94
    go_wp2_with fail
    refine hsz.mono ?_
    clear hsz
    rintro e w1 ⟨rfl, hb1⟩
    have B1 := Lib.hid hb1
    clear hb1
    go_wp2_with fail
    refine (HS2.out _ B1.out).mono ?_
    rintro e w2 ⟨rfl, hb2⟩
    have B2 := Lib.hid (B1.out.trans (hb2.mono B1.out.size))
    clear hb2
    go_wp2
    go_ret2
    exact ⟨.inl ⟨by have := HMANY.out; omega, rfl⟩, B2.out⟩
  · have hb1 : ¬ (lim : Int) < (K : Int) + 1 := by omega
    have HEL := Lib.hid (fun i (_ : i < rows'.length) k (hk : k ∈ elems (gridF rows' i)) => hok'.lt200 ((mem_elems (hok'.lt i)).1 hk))
    have HN := Lib.hid hok'.gridN
    have HBN := Lib.hid (backN_rows hok')
    have HLT := Lib.hid hok'.back.lt
    have hz := (zero_of_info zeroGrid).1
    go_enter Tryd.func94, Tryd.ntmps94
    go_wp2_with fail
    refine hsz.mono ?_
    clear hsz
    rintro e w1 ⟨rfl, hb1⟩
    have B1 := Lib.hid hb1
    clear hb1
    go_wp2_with fail
    refine (HS2.out _ B1.out).mono ?_
    rintro e w2 ⟨rfl, hb2⟩
    have B2 := Lib.hid (B1.out.trans (hb2.mono B1.out.size))
    clear hb2
    go_wp2_with fail
    refine (back_any p' rows'.length (gridF rows') _ (HG'.out.below B2.out HG'.out.lt) (HT.out.below B2.out) HN.out HEL.out).mono ?_
    rintro e w5 ⟨rfl, hb5⟩
    rw [HBN.out]
    have B5 := Lib.hid (B2.out.trans (hb5.mono B2.out.size))
    clear hb5
    obtain ⟨w6, hw6⟩ : ∃ w6, w6 = newGrid (gridF (backRows rows')) w5 := ⟨_, rfl⟩
    have hb6 : Below w5.heap.size w5 w6 := by rw [hw6]; exact newGrid_below _ w5
    have B6 := Lib.hid (B5.out.trans (hb6.mono B5.out.size))
    have R6 := Lib.hid (show GridAt w6 w5.heap.size (gridF (backRows rows')) by rw [hw6]; exact newGrid_at HLT.out w5)
    clear hb6
    go_upto_region 5 with (refine wpList_store_row rfl 93 (.tmp 9) (.tmp 22) rfl w5.heap.size (gridCells (gridF (backRows rows'))) rfl rfl 93 (gridCells fun _ => 0) (store_new w5).1 (by rw [gridCells_size]; exact sizeGrid) (by rw [gridCells_size, gridCells_size]) (gridCells_one _) ?_)
    rw [show ((w5.alloc (.cells (gridCells fun _ => 0) 93)).setRow w5.heap.size (gridCells (gridF (backRows rows')))) = w6 from hw6.symm]
    clear hw6
    have hz5 := B5.out.size
    generalize w5.heap.size = G at R6 hz5 ⊢
    have hmk := run_make_row' (P := Tryd.prog) 26 3 (.int .i64 0) 8 Tryd.underlying26 infoInt rfl .i64 .i64 rows.length (by omega) (by omega)
    go_wp2_with fail
    obtain ⟨W7, hW7⟩ : ∃ W7, W7 = ((w6.alloc (.cells (madeCells #[.int .i64 0] rows.length) 3)).alloc (.cells (srchCells p p' G w6.heap.size rows.length lim) 154)) := ⟨_, rfl⟩
    have B7 := Lib.hid (show Below w6.heap.size w6 W7 by rw [hW7]; exact ((Below.refl _ w6).alloc (Nat.le_refl _) _).alloc (by simp) _)
    have hz7 : W7.heap.size = w6.heap.size + 2 := by rw [hW7]; simp
    have hGlt := R6.out.lt
    have HPW := Lib.hid (show ∀ lo, PW (w6.heap.size + 1) p p' G w6.heap.size lo lim rows rows' [] [] (.slice none 0 0) W7 from fun lo => by
      have hs : W7.heap[w6.heap.size + 1]? = some (.cells (srchCells p p' G w6.heap.size rows.length lim) 154 (0, 0)) := by
        rw [hW7]
        have h := heap_alloc_new (w6.alloc (.cells (madeCells #[.int .i64 0] rows.length) 3)) (.cells (srchCells p p' G w6.heap.size rows.length lim) 154)
        rw [World.size_alloc] at h
        exact h
      have hc : ∀ o v, (srchCells p p' G w6.heap.size rows.length lim)[o]? = some v → W7.cell? ⟨w6.heap.size + 1, o, none⟩ = some v := fun o v h => by rw [cell_of_row W7 _ _ _ _ _ hs]; exact h
      have hr : W7.rowIs w6.heap.size 3 rows.length (fun _ => .int .i64 0) := by
        rw [hW7]
        exact (World.rowIs_made w6 (.int .i64 0) rows.length 3).of_block (Below.heap_alloc _ _ _ (by simp))
      refine ⟨⟨hc 0 _ rfl, hc 1 _ rfl, hc 2 _ rfl, hc 3 _ rfl, hc 4 _ rfl, hc 5 _ rfl⟩, frozen_of_row W7 _ _ _ _ hs, ⟨(HG.out.below B6.out HG.out.lt).below B7.out (Nat.lt_of_lt_of_le HG.out.lt B6.out.size), (HG'.out.below B6.out HG'.out.lt).below B7.out (Nat.lt_of_lt_of_le HG'.out.lt B6.out.size), R6.out.below B7.out hGlt⟩, ⟨_, _, hr, Nat.le_refl _, fun q hq => absurd hq (Nat.not_lt_zero _)⟩, OwnR.nil _ _ _ _ _ _⟩)
    unfold srchCells at hW7
    rw [← hW7]
    clear hW7
    have hpz := HG.out.lt
    have hpz' := HG'.out.lt
    have hw6 := B6.out.size
    have B07 := Lib.hid (B6.out.trans (B7.out.mono B6.out.size))
    refine (all_any p' rows'.length (gridF rows') W7 (HPW.out 0).grids.up HN.out).mono ?_
    rintro e w8 ⟨rfl, hb8⟩
    have hr9 := RowIn.alloc w8 (allF_lt (n := rows'.length) (by omega))
    have hb9 := (Below.refl w8.heap.size w8).alloc (Nat.le_refl _) (.cells #[.int .u64 ((word (allF rows'.length) 0 : Nat) : Int), .int .u64 ((word (allF rows'.length) 1 : Nat) : Int), .int .u64 ((word (allF rows'.length) 2 : Nat) : Int), .int .u64 ((word (allF rows'.length) 3 : Nat) : Int)] 91)
    have hz8 := hb8.size
    obtain ⟨w9, hw9⟩ : ∃ w9, w9 = w8.alloc (.cells #[.int .u64 ((word (allF rows'.length) 0 : Nat) : Int), .int .u64 ((word (allF rows'.length) 1 : Nat) : Int), .int .u64 ((word (allF rows'.length) 2 : Nat) : Int), .int .u64 ((word (allF rows'.length) 3 : Nat) : Int)] 91) := ⟨_, rfl⟩
    rw [← hw9] at hr9 hb9
    have hz9 : w9.heap.size = w8.heap.size + 1 := by rw [hw9]; simp
    have B9 := Lib.hid (hb8.trans (hb9.mono hz8))
    have HA := Lib.hid (show RwAt w9 w8.heap.size 1 (fun _ => allF rows'.length) from ⟨_, hr9.1, fun j i hj hi => by
      obtain rfl : j = 0 := by omega
      have h4 : i = 0 ∨ i = 1 ∨ i = 2 ∨ i = 3 := by omega
      rcases h4 with h | h | h | h <;> rw [h] <;> rfl, fun _ _ => hr9.2⟩)
    clear hr9 hb9 hb8
    go_wp2_with fail
    rw [← hw9]
    refine (repeat_any w8.heap.size 1 rows.length (allF rows'.length) w9 HA.out hl.1 hl.2).mono ?_
    rintro e w10 ⟨ob, rfl, hob, ho10, hb10⟩
    have B10 := Lib.hid (B9.out.trans (hb10.mono B9.out.size))
    have hz10 := hb10.size
    have htab : 0 < w.heap.size := cell_lt (HT.out 0 (by omega))
    have hpl := place_any (w6.heap.size + 1) p p' G w6.heap.size w10.heap.size lim w.heap.size rows rows' hok hok' hlim (by omega) (by omega) (by omega) (by omega) (by omega) htab rows.length [] [] (.slice none 0 0) ob rows.length (fun _ => allF rows'.length) w10 ((HPW.out w10.heap.size).step B10.out) (by simp) (fun x h => (by cases h)) (MonN.nil _ _) (Cho.start fun m hm c => testBit_allF _ _) ho10 (by omega) (by omega) (Nat.zero_le _) (Nat.le_refl _) ((HT.out.below B07.out).below (B10.out.mono (by have := B07.out.size; omega)))
    rw [show ((([] : List Nat).length : Nat) : Int) = 0 from rfl] at hpl
    clear ho10 hb10
    go_wp2_with fail
    refine hpl.mono ?_
    rintro e w11 ⟨rfl, vf, hp11, hs11, hf11⟩
    rw [show ([] ++ extL rows'.length (monN (Bf rows) (Bf rows')) rows.length [] : List (List Nat)) = funsR rows rows' from List.nil_append _] at hp11
    obtain ⟨ao, CO, rfl⟩ := hp11.found.form
    have hB11 := Lib.hid (show Below w.heap.size w w11 from (B07.out.trans (B10.out.mono B07.out.size)).trans (hs11.under (by omega) (by omega) (fun b e => by simp [Value.ownBlock] at e) (by have := B07.out.size; have := B10.out.size; omega)))
    have hc5 := hp11.srch.found
    have hlen : ((funsR rows rows').take (lim + 1)).length = min (lim + 1) (funsR rows rows').length := List.length_take
    have HP := Lib.hid hp11
    clear hpl hp11 hs11 hf11
    by_cases hfin : lim < (funsR rows rows').length
    · have hl2 : ((funsR rows rows').take (lim + 1)).length = lim + 1 := by omega
      rw [hl2] at hc5
      have hgt : (lim : Int) < ((lim + 1 : Nat) : Int) := by omega
      clear hlen
      go_wp2
      go_ret2
      exact ⟨.inl ⟨hfin, rfl⟩, hB11.out⟩
    · have hl2 : (funsR rows rows').take (lim + 1) = funsR rows rows' := List.take_of_length_le (by omega)
      rw [hl2] at hc5
      have hgt : ¬ (lim : Int) < ((funsR rows rows').length : Int) := by omega
      clear hlen
      go_wp2
      go_ret2
      have hfo := HP.out.found
      rw [hl2] at hfo
      exact ⟨.inr ⟨by omega, _, rfl, hfo.wider (by have := B07.out.size; have := B10.out.size; omega) (Nat.le_refl _)⟩, hB11.out⟩
end Go.Proofs.YtkomghohdhengaaDoor
