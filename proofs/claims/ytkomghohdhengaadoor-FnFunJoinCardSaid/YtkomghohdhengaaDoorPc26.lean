import Derived.Test.YtkomghohdhengaaDoorPc25
import Derived.Test.YtkomghohdhengaaDoorPc23
import Derived.Test.YtkomghohdhengaaDoorPc19
import Derived.Test.YtkomghohdhengaaDoorPc13
import Derived.Deep.RegionLaw
import Derived.Deep.AppendLies
import Derived.Laws.EntriesVeiled
import Derived.Test.YtkomghohdhengaaDoorPc24
import Derived.Test.YtkomghohdhengaaDoorPc16
import Derived.Laws.MakeOwn
import Derived.Test.YtkomghohdhengaaDoorPc20
import Derived.Test.YtkomghohdhengaaDoorPc22
import Derived.Test.YtkomghohdhengaaDoorPc11
namespace Go.Proofs.YtkomghohdhengaaDoor
open Go.RowKit Go.Deep Go.Shelf

/-- A function domain, in memory of its own but for the grid to which it goes. -/
def FunDom (rows rows' : Rows2) (lo : Nat) (u1 u2 : Value) (W : World) : Prop :=
  ∃ p', u2 = .iface 70 (.pointer (some ⟨p', 0, none⟩)) ∧ OwnR 3 26 W u1 (funsR rows rows').length (rowsF (I2 (funsR rows rows'))) lo W.heap.size ∧ GridAt W p' (gridF rows')
/-- What funsBetween and funsOf answer. -/
def FbP (t : Bool) (rows rows' : Rows2) (w : World) (e : Ending) (w' : World) : Prop :=
  (∃ u1 u2, e = .returned (.tuple #[.agg #[u1, u2], .bool t]) ∧ (t = true → FunDom rows rows' w.heap.size u1 u2 w') ∧ (t = false → u1 = .slice none 0 0 ∧ u2 = .nilIface)) ∧ Below w.heap.size w w'
theorem FunDom.put {rows rows' : Rows2} {lo : Nat} {u1 u2 : Value} {W W' : World} (h : FunDom rows rows' lo u1 u2 W) {r : Nat} (hb : ∀ b, b ≠ r → W'.heap[b]? = W.heap[b]?) (hz : W.heap.size ≤ W'.heap.size) (hr : r < lo) (hg : ∀ p' : Nat, u2 = .iface 70 (.pointer (some ⟨p', 0, none⟩)) → p' ≠ r) : FunDom rows rows' lo u1 u2 W' := by
  obtain ⟨p', e, ho, hG⟩ := h
  exact ⟨p', e, (ho.kept fun b h1 _ => hb b (by omega)).wider (Nat.le_refl _) hz, ⟨(hb p' (hg p' e)).trans hG.1, hG.2⟩⟩
theorem FunDom.lower {rows rows' : Rows2} {lo lo' : Nat} {u1 u2 : Value} {W : World} (h : FunDom rows rows' lo u1 u2 W) (hl : lo' ≤ lo) : FunDom rows rows' lo' u1 u2 W := by
  obtain ⟨p', e, ho, hG⟩ := h
  exact ⟨p', e, ho.wider hl (Nat.le_refl _), hG⟩
/-- A variable of two cells. -/
theorem two_new (W : World) (a b : Value) (t : TypeId) : (W.alloc (.cells #[a, b] t)).cell? ⟨W.heap.size, 0, none⟩ = some a ∧ (W.alloc (.cells #[a, b] t)).cell? ⟨W.heap.size, 1, none⟩ = some b ∧ ∀ o, (W.alloc (.cells #[a, b] t)).frozen? ⟨W.heap.size, o, none⟩ = false := by
  refine ⟨?_, ?_, fun o => frozen_of_row _ _ _ _ _ (heap_alloc_new _ _)⟩ <;> rw [cell_of_row _ W.heap.size _ _ _ _ (heap_alloc_new _ _)] <;> rfl

set_option maxRecDepth 100000 in
set_option maxHeartbeats 4000000 in
theorem funsBetween_any (p p' : Nat) (rows rows' : Rows2) (hok : Ok rows) (hd' : domB rows' = true) (w : World) (hg : GridAt w p (gridF rows)) (hg' : GridAt w p' (gridF rows')) (hT : Tab w) :
    Calls Tryd.prog 133 #[.pointer (some ⟨p, 0, none⟩), .pointer (some ⟨p', 0, none⟩)] w (FbP (decide ((funsR rows rows').length ≤ 200)) rows rows' w) := by
  have hb0 := (Below.refl w.heap.size w).alloc (Nat.le_refl _) (.cells #[.slice none 0 0, .nilIface] 83)
  have hc := lists_any p p' 200 rows rows' hok hd' (by omega) _ (hg.below hb0 hg.lt) (hg'.below hb0 hg'.lt) (hT.below hb0)
  have hpz := hg'.lt
  obtain ⟨n0, n1, n2⟩ := two_new w (.slice none 0 0) .nilIface 83
  have HB0 := Lib.hid hb0
  have HG := Lib.hid hg'
  clear hb0 hg hg' hT
  go_enter Tryd.func133, Tryd.ntmps133
  go_wp2_with fail
  refine hc.mono ?_
  clear hc
  rintro e w1 ⟨hres, hb1⟩
  have B1 := Lib.hid (HB0.out.trans (hb1.mono HB0.out.size))
  have k0 := (hb1.cell (p := ⟨w.heap.size, 0, none⟩) (cell_lt n0)).trans n0
  have k1 := (hb1.cell (p := ⟨w.heap.size, 1, none⟩) (cell_lt n1)).trans n1
  have hzz : w.heap.size < (w.alloc (.cells #[.slice none 0 0, .nilIface] 83)).heap.size := by simp
  have kf := fun o => (hb1.frozen (p := ⟨w.heap.size, o, none⟩) hzz).trans (n2 o)
  have hz1 := hb1.size
  rw [World.size_alloc] at hz1
  clear n0 n1 n2 hb1
  have kf0 := kf 0
  have kf1 := kf 1
  rcases hres with ⟨hlt, rfl⟩ | ⟨hle, v, rfl, hv⟩
  · have HD := Lib.hid (show decide ((funsR rows rows').length ≤ 200) = false from decide_eq_false (by omega))
    go_wp2
    have hq0 := World.cell?_setCell_other (w1.setCell ⟨w.heap.size, 0, none⟩ (.slice none 0 0)) ⟨w.heap.size, 1, none⟩ ⟨w.heap.size, 0, none⟩ .nilIface (fun e => by injection e with _ e; cases e)
    rw [World.cell?_setCell_same' w1 ⟨w.heap.size, 0, none⟩ _ (by rw [k0]; rfl)] at hq0
    have hq1 := World.cell?_setCell_same' (w1.setCell ⟨w.heap.size, 0, none⟩ (.slice none 0 0)) ⟨w.heap.size, 1, none⟩ .nilIface (by rw [World.cell?_setCell_other _ _ _ _ (fun e => by injection e with _ e; cases e), k1]; rfl)
    refine bodyPost_ret (v := .tuple #[.agg #[.slice none 0 0, .nilIface], .bool false]) (by simp [results, Tryd.results133, go_sem, hq0, hq1]) rfl ?_
    rw [HD.out]
    exact ⟨⟨_, _, rfl, fun h => (by cases h), fun _ => ⟨rfl, rfl⟩⟩, (B1.out.setCell (p := ⟨w.heap.size, 0, none⟩) (Nat.le_refl _) _).setCell (p := ⟨w.heap.size, 1, none⟩) (Nat.le_refl _) _⟩
  · have HD := Lib.hid (show decide ((funsR rows rows').length ≤ 200) = true from decide_eq_true hle)
    obtain ⟨av, Cv, rfl⟩ := hv.form
    have HV := Lib.hid hv
    clear hv
    go_wp2
    have hq0 := World.cell?_setCell_other (w1.setCell ⟨w.heap.size, 0, none⟩ (.slice av (funsR rows rows').length Cv)) ⟨w.heap.size, 1, none⟩ ⟨w.heap.size, 0, none⟩ (.iface 70 (.pointer (some ⟨p', 0, none⟩))) (fun e => by injection e with _ e; cases e)
    rw [World.cell?_setCell_same' w1 ⟨w.heap.size, 0, none⟩ _ (by rw [k0]; rfl)] at hq0
    have hq1 := World.cell?_setCell_same' (w1.setCell ⟨w.heap.size, 0, none⟩ (.slice av (funsR rows rows').length Cv)) ⟨w.heap.size, 1, none⟩ (.iface 70 (.pointer (some ⟨p', 0, none⟩))) (by rw [World.cell?_setCell_other _ _ _ _ (fun e => by injection e with _ e; cases e), k1]; rfl)
    refine bodyPost_ret (v := .tuple #[.agg #[.slice av (funsR rows rows').length Cv, .iface 70 (.pointer (some ⟨p', 0, none⟩))], .bool true]) (by simp [results, Tryd.results133, go_sem, hq0, hq1]) rfl ?_
    rw [HD.out]
    have hV := HV.out
    rw [World.size_alloc] at hV
    refine ⟨⟨_, _, rfl, fun _ => FunDom.lower (lo := w.heap.size + 1) (FunDom.put (W := w1) ⟨p', rfl, hV, HG.out.below B1.out hpz⟩ (r := w.heap.size) (fun b hb => ?_) (by rw [size_setCell, size_setCell]; exact Nat.le_refl _) (by omega) (fun q hq => by injection hq with _ hq; injection hq with hq; injection hq with hq; injection hq with hq; omega)) (Nat.le_succ _), fun h => (by cases h)⟩, (B1.out.setCell (p := ⟨w.heap.size, 0, none⟩) (Nat.le_refl _) _).setCell (p := ⟨w.heap.size, 1, none⟩) (Nat.le_refl _) _⟩
    rw [Below.heap_setCell _ _ _ b hb, Below.heap_setCell _ _ _ b hb]

theorem two_stored {W : World} {r : Nat} {a b a0 b0 : Value} (h0 : W.cell? ⟨r, 0, none⟩ = some a0) (h1 : W.cell? ⟨r, 1, none⟩ = some b0) : ((W.setCell ⟨r, 0, none⟩ a).setCell ⟨r, 1, none⟩ b).cell? ⟨r, 0, none⟩ = some a ∧ ((W.setCell ⟨r, 0, none⟩ a).setCell ⟨r, 1, none⟩ b).cell? ⟨r, 1, none⟩ = some b := by
  constructor
  · rw [World.cell?_setCell_other _ _ _ _ (fun e => by injection e with _ e; cases e)]
    exact World.cell?_setCell_same' W _ _ (by rw [h0]; rfl)
  · exact World.cell?_setCell_same' _ _ _ (by rw [World.cell?_setCell_other _ _ _ _ (fun e => by injection e with _ e; cases e), h1]; rfl)
theorem two_below {w W : World} {r : Nat} (hb : Below w.heap.size w W) (hr : w.heap.size ≤ r) (a b : Value) : Below w.heap.size w ((W.setCell ⟨r, 0, none⟩ a).setCell ⟨r, 1, none⟩ b) := (hb.setCell (p := ⟨r, 0, none⟩) hr _).setCell (p := ⟨r, 1, none⟩) hr _
/-- Two orders in their variables, and a function domain as it begins. -/
structure TwoD (w : World) (v v' : Value) (rows rows' : Rows2) (W : World) : Prop where
  r0 : RowsAt W v rows
  r1 : RowsAt W v' rows'
  c0 : W.cell? ⟨w.heap.size, 0, none⟩ = some v
  c1 : W.cell? ⟨w.heap.size + 1, 0, none⟩ = some v'
  res : W.heap[w.heap.size + 2]? = some (.cells #[.slice none 0 0, .nilIface] 83 (0, 0))
  below : Below w.heap.size w W
theorem TwoD.reslt {w : World} {v v' : Value} {rows rows' : Rows2} {W : World} (h : TwoD w v v' rows rows' W) : w.heap.size + 2 < W.heap.size := (Array.getElem?_eq_some_iff.1 h.res).1
theorem TwoD.res0 {w : World} {v v' : Value} {rows rows' : Rows2} {W : World} (h : TwoD w v v' rows rows' W) : W.cell? ⟨w.heap.size + 2, 0, none⟩ = some (.slice none 0 0) := by rw [cell_of_row W _ _ _ _ _ h.res]; rfl
theorem TwoD.res1 {w : World} {v v' : Value} {rows rows' : Rows2} {W : World} (h : TwoD w v v' rows rows' W) : W.cell? ⟨w.heap.size + 2, 1, none⟩ = some .nilIface := by rw [cell_of_row W _ _ _ _ _ h.res]; rfl
theorem TwoD.resf {w : World} {v v' : Value} {rows rows' : Rows2} {W : World} (h : TwoD w v v' rows rows' W) (o : Nat) : W.frozen? ⟨w.heap.size + 2, o, none⟩ = false := frozen_of_row W _ _ _ _ h.res
theorem TwoD.step {w : World} {v v' : Value} {rows rows' : Rows2} {W W' : World} (h : TwoD w v v' rows rows' W) (hb : Below W.heap.size W W') : TwoD w v v' rows rows' W' :=
  ⟨h.r0.below hb, h.r1.below hb, (hb.cell (p := ⟨w.heap.size, 0, none⟩) (cell_lt h.c0)).trans h.c0, (hb.cell (p := ⟨w.heap.size + 1, 0, none⟩) (cell_lt h.c1)).trans h.c1, (hb.block _ h.reslt).trans h.res, h.below.trans (hb.mono h.below.size)⟩
theorem TwoD.start (w : World) {v v' : Value} {rows rows' : Rows2} (hv : RowsAt w v rows) (hv' : RowsAt w v' rows') :
    TwoD w v v' rows rows' (((w.alloc (.cells #[v] 25)).alloc (.cells #[v'] 25)).alloc (.cells #[.slice none 0 0, .nilIface] 83)) := by
  have s1 : (w.alloc (.cells #[v] 25)).heap.size = w.heap.size + 1 := World.size_alloc _ _
  have s2 : ((w.alloc (.cells #[v] 25)).alloc (.cells #[v'] 25)).heap.size = w.heap.size + 2 := by rw [World.size_alloc, s1]
  have b1 := ((Below.refl w.heap.size w).alloc (Nat.le_refl _) (.cells #[v] 25)).alloc (by rw [s1]; omega) (.cells #[v'] 25)
  have b2 := b1.alloc (by rw [s2]; omega) (.cells #[.slice none 0 0, .nilIface] 83)
  have x0 := ((Boxed.new w 25 v).alloc (.cells #[v'] 25)).alloc (.cells #[.slice none 0 0, .nilIface] 83)
  have x1 := (Boxed.new (w.alloc (.cells #[v] 25)) 25 v').alloc (.cells #[.slice none 0 0, .nilIface] 83)
  have x2 := heap_alloc_new ((w.alloc (.cells #[v] 25)).alloc (.cells #[v'] 25)) (.cells #[.slice none 0 0, .nilIface] 83)
  rw [s1] at x1
  rw [s2] at x2
  exact ⟨hv.below b2, hv'.below b2, x0.cell, x1.cell, x2, b2⟩
/-- Are both domains, with no more functions than elements can be? -/
noncomputable def funB (rows rows' : Rows2) : Bool := domB rows && domB rows' && decide ((funsR rows rows').length ≤ 200)

set_option maxRecDepth 100000 in
set_option maxHeartbeats 8000000 in
theorem funsOf_any (v v' : Value) (rows rows' : Rows2) (w : World) (hv : RowsAt w v rows) (hv' : RowsAt w v' rows') (hT : Tab w) (hn : bulk rows ≤ 1048576) (hn' : bulk rows' ≤ 1048576) :
    Calls Tryd.prog 78 #[.agg #[v], .agg #[v']] w (FbP (funB rows rows') rows rows' w) := by
  have h0 := TwoD.start w hv hv'
  have T0 := Lib.hid (hT.below h0.below)
  have hd1 := domainOf_any _ rows _ h0.r0 T0.out hn
  have hc0 := h0.c0
  obtain ⟨A, C, rfl, _⟩ := hv
  obtain ⟨A', C', rfl, _⟩ := hv'
  have H0 := Lib.hid h0
  have HTA := Lib.hid (fun W (h : Below w.heap.size w W) => hT.below h)
  clear h0 hT
  go_enter Tryd.func78, Tryd.ntmps78
  go_wp2_with fail
  refine hd1.mono ?_
  rintro e w1 ⟨⟨q, rfl, hq⟩, hb1⟩
  have H1 := Lib.hid (H0.out.step hb1)
  have hc1 := H1.out.c1
  have hd2 := domainOf_any _ rows' _ H1.out.r1 (T0.out.below hb1) hn'
  clear hd1 hc0 hb1
  go_wp2_with fail
  refine hd2.mono ?_
  rintro e w2 ⟨⟨q', rfl, hq'⟩, hb2⟩
  have H2 := Lib.hid (H1.out.step hb2)
  have B12 := Lib.hid hb2
  clear hd2 hc1 hb2
  have r0 := H2.out.res0
  have r1 := H2.out.res1
  have rf0 := H2.out.resf 0
  have rf1 := H2.out.resf 1
  cases h1 : domB rows with
  | false =>
    have HE := Lib.hid (show funB rows rows' = false by unfold funB; rw [h1]; rfl)
    go_wp2
    simp only [Nat.add_assoc, Nat.reduceAdd]
    obtain ⟨hq0, hq1⟩ := two_stored (a := .slice none 0 0) (b := .nilIface) r0 r1
    refine bodyPost_ret (v := .tuple #[.agg #[.slice none 0 0, .nilIface], .bool false]) (by simp [results, Tryd.results78, go_sem, hq0, hq1]) rfl ?_
    rw [HE.out]
    exact ⟨⟨_, _, rfl, fun h => (by cases h), fun _ => ⟨rfl, rfl⟩⟩, two_below H2.out.below (by omega) _ _⟩
  | true =>
    cases h2 : domB rows' with
    | false =>
      have HE := Lib.hid (show funB rows rows' = false by unfold funB; rw [h1, h2]; rfl)
      go_wp2
      simp only [Nat.add_assoc, Nat.reduceAdd]
      obtain ⟨hq0, hq1⟩ := two_stored (a := .slice none 0 0) (b := .nilIface) r0 r1
      refine bodyPost_ret (v := .tuple #[.agg #[.slice none 0 0, .nilIface], .bool false]) (by simp [results, Tryd.results78, go_sem, hq0, hq1]) rfl ?_
      rw [HE.out]
      exact ⟨⟨_, _, rfl, fun h => (by cases h), fun _ => ⟨rfl, rfl⟩⟩, two_below H2.out.below (by omega) _ _⟩
    | true =>
      have HE := Lib.hid (show funB rows rows' = decide ((funsR rows rows').length ≤ 200) by unfold funB; rw [h1, h2]; rfl)
      obtain ⟨p, rfl, hg⟩ := hq h1
      obtain ⟨p', rfl, hg'⟩ := hq' h2
      have hok := ok_of_valid (show validB rows = true by have h := h1; unfold domB at h; rw [Bool.and_eq_true] at h; exact h.1)
      have hfb := funsBetween_any p p' rows rows' hok h2 w2 (hg.below B12.out hg.lt) hg' (HTA.out _ H2.out.below)
      clear hg hg' hq hq'
      go_wp2_with fail
      refine hfb.mono ?_
      rintro e w3 ⟨⟨u1, u2, rfl, hyes, hno⟩, hb3⟩
      have H3 := Lib.hid (H2.out.step hb3)
      have hform : ∃ a n C, u1 = .slice a n C := by
        cases ht : decide ((funsR rows rows').length ≤ 200) with
        | false => exact ⟨none, 0, 0, (hno ht).1⟩
        | true =>
          obtain ⟨_, _, ho, _⟩ := hyes ht
          obtain ⟨a, C, e⟩ := ho.form
          exact ⟨a, _, C, e⟩
      have hform2 : u2 = .nilIface ∨ ∃ v, u2 = .iface 70 v := by
        cases ht : decide ((funsR rows rows').length ≤ 200) with
        | false => exact .inl (hno ht).2
        | true =>
          obtain ⟨q, e, _⟩ := hyes ht
          exact .inr ⟨_, e⟩
      have HY := Lib.hid hyes
      have HN := Lib.hid hno
      have hz2 := H2.out.reslt
      clear hfb hyes hno hb3 r0 r1 rf0 rf1
      obtain ⟨a, n, C0, rfl⟩ := hform
      have r0 := H3.out.res0
      have r1 := H3.out.res1
      have rf0 := H3.out.resf 0
      have rf1 := H3.out.resf 1
      have hE2 := HE.out
      generalize decide ((funsR rows rows').length ≤ 200) = t at HY HN hE2 ⊢
      have HE2 := Lib.hid hE2
      clear hE2
      have HFIN := Lib.hid (show ∀ W, W = ((w3.setCell ⟨w.heap.size + 2, 0, none⟩ (.slice a n C0)).setCell ⟨w.heap.size + 2, 1, none⟩ u2) → FbP t rows rows' w (.returned (.tuple #[.agg #[.slice a n C0, u2], .bool t])) W from fun W hW => by
        subst hW
        refine ⟨⟨_, _, rfl, fun ht => (FunDom.put (HY.out ht) (r := w.heap.size + 2) (fun b hb => ?_) (by rw [size_setCell, size_setCell]; exact Nat.le_refl _) (by omega) (fun q hq e => ?_)).lower (by omega), fun ht => HN.out ht⟩, two_below H3.out.below (by omega) _ _⟩
        · rw [Below.heap_setCell _ _ _ b hb, Below.heap_setCell _ _ _ b hb]
        · obtain ⟨q2, e2, _, hG⟩ := HY.out ht
          rw [e2] at hq
          injection hq with _ hq; injection hq with hq; injection hq with hq; injection hq with hq
          have h5 := hG.1
          rw [hq, e, H3.out.res] at h5
          injection h5 with h5
          injection h5 with h5 _
          have h6 := congrArg Array.size h5
          rw [gridCells_size] at h6
          simp at h6)
      rcases hform2 with rfl | ⟨v2, rfl⟩
      all_goals go_wp2
      all_goals simp only [Nat.add_assoc, Nat.reduceAdd]
      · obtain ⟨hq0, hq1⟩ := two_stored (a := .slice a n C0) (b := .nilIface) r0 r1
        refine bodyPost_ret (v := .tuple #[.agg #[.slice a n C0, .nilIface], .bool t]) (by simp [results, Tryd.results78, go_sem, hq0, hq1]) rfl ?_
        rw [HE2.out]
        exact HFIN.out _ rfl
      · obtain ⟨hq0, hq1⟩ := two_stored (a := .slice a n C0) (b := .iface 70 v2) r0 r1
        refine bodyPost_ret (v := .tuple #[.agg #[.slice a n C0, .iface 70 v2], .bool t]) (by simp [results, Tryd.results78, go_sem, hq0, hq1]) rfl ?_
        rw [HE2.out]
        exact HFIN.out _ rfl
end Go.Proofs.YtkomghohdhengaaDoor

namespace Go.Proofs.YtkomghohdhengaaDoor
open Go.RowKit Go.Deep Go.Shelf

theorem run_fun_size (m : Nat) (v v' : Value) (w : World) : (Go.method (m + 1) 83 (.agg #[v, v']) "loop.example/scottdomains/impl.size").run Tryd.prog w = .ok (191, .agg #[v, v']) w := by kernel_rfl
theorem run_fun_below (m : Nat) (v v' : Value) (w : World) : (Go.method (m + 1) 83 (.agg #[v, v']) "loop.example/scottdomains/impl.below").run Tryd.prog w = .ok (81, .agg #[v, v']) w := by kernel_rfl

theorem funSize_any (p : Nat) (vl : Value) (R : Rows2) (w : World) (hv : RowsAt w vl R) :
    Calls Tryd.prog 191 #[.agg #[vl, gridV p]] w (SaysI ((R.length : Nat) : Int) w) := by
  have b0 := (Below.refl w.heap.size w).alloc (Nat.le_refl _) (.cells #[vl, gridV p] 83)
  obtain ⟨hc, hc'⟩ := fresh2 w vl (gridV p) 83
  obtain ⟨A, C, rfl, _⟩ := hv
  have HB := Lib.hid b0
  clear b0
  go_enter Tryd.func191, Tryd.ntmps191
  go_wp2
  go_ret
  exact ⟨rfl, HB.out⟩

/-- Is the a-th of some lists below the b-th, for the first k of its elements? -/
def funT (g : Nat → Nat) (R : Rows2) (a b k : Nat) : Bool := (List.range k).all fun i => (g ((R.getD a []).getD i 0).toNat).testBit ((R.getD b []).getD i 0).toNat
theorem funT_succ (g : Nat → Nat) (R : Rows2) (a b k : Nat) : funT g R a b (k + 1) = (funT g R a b k && (g ((R.getD a []).getD k 0).toNat).testBit ((R.getD b []).getD k 0).toNat) := by
  unfold funT
  rw [List.range_succ, List.all_append]
  simp
theorem funT_no {g : Nat → Nat} {R : Rows2} {a b k n : Nat} (hk : k < n) (h : (g ((R.getD a []).getD k 0).toNat).testBit ((R.getD b []).getD k 0).toNat = false) : funT g R a b n = false := by
  unfold funT
  rw [List.all_eq_false]
  exact ⟨k, List.mem_range.2 hk, by rw [h]; decide⟩
def funG (g : Nat → Nat) (R : Rows2) (n a b : Nat) : Bool := funT g R a b n
/-- Lists of n elements. -/
def Lists (R : Rows2) (n : Nat) : Prop := ∀ r ∈ R, r.length = n ∧ ∀ x ∈ r, 0 ≤ x ∧ x < 200

set_option maxRecDepth 100000 in
set_option maxHeartbeats 4000000 in
theorem funBelow_any (p : Nat) (g : Nat → Nat) (vl : Value) (R : Rows2) (n a b : Nat) (w : World) (hg : GridAt w p g) (hv : RowsAt w vl R) (hR : Lists R n) (hn : n ≤ 200) (ha : a < R.length) (hb : b < R.length) :
    Calls Tryd.prog 81 #[.agg #[vl, gridV p], .int .i64 (a : Int), .int .i64 (b : Int)] w (SaysN (funG g R n a b) w) := by
  have b0 := (Below.refl w.heap.size w).alloc (Nat.le_refl _) (.cells #[vl, gridV p] 83)
  have hs : w.heap.size ≤ (w.alloc (.cells #[vl, gridV p] 83)).heap.size := b0.size
  have hsl : w.heap.size < (w.alloc (.cells #[vl, gridV p] 83)).heap.size := by simp
  obtain ⟨hc, hc'⟩ := fresh2 w vl (gridV p) 83
  have hv1 := hv.below b0
  have hg1 := hg.below b0 hg.lt
  obtain ⟨A, C, rfl, hC, hm, hx⟩ := hv
  obtain ⟨b1, o1, _, rfl, _⟩ := hx a ha
  unfold maxLen at hm
  obtain ⟨Aa, Ca, hCa, hma, hca, hra⟩ := hv1.row ha
  obtain ⟨Ab, Cb, hCb, hmb, hcb, hrb⟩ := hv1.row hb
  obtain ⟨hla, hva⟩ := hR _ (List.getElem_mem ha)
  obtain ⟨hlb, hvb⟩ := hR _ (List.getElem_mem hb)
  have hga : R.getD a [] = R[a] := getD_lt [] ha
  have hgb : R.getD b [] = R[b] := getD_lt [] hb
  obtain ⟨xs, hxs⟩ : ∃ xs, xs = R[a] := ⟨_, rfl⟩
  obtain ⟨ys, hys⟩ : ∃ ys, ys = R[b] := ⟨_, rfl⟩
  rw [← hxs] at hCa hca hra hla hva hga
  rw [← hys] at hCb hcb hrb hlb hvb hgb
  clear hxs hys hx
  rw [hla] at hca
  rw [hlb] at hcb
  unfold maxLen at hma hmb
  have haz : (a : Int) < (R.length : Int) := by omega
  have hbz : (b : Int) < (R.length : Int) := by omega
  have HRA := Lib.hid hra
  have HRB := Lib.hid hrb
  have HG := Lib.hid hg1
  have HB := Lib.hid b0
  have HVA := Lib.hid hva
  have HVB := Lib.hid hvb
  have HLA := Lib.hid hla
  have HLB := Lib.hid hlb
  have HGA := Lib.hid hga
  have HGB := Lib.hid hgb
  obtain ⟨W1, hW1⟩ : ∃ W1, W1 = w.alloc (.cells #[.slice (some ⟨b1, o1, none⟩) R.length C, gridV p] 83) := ⟨_, rfl⟩
  rw [← hW1] at HRA HRB HG HB hc hc' hca hcb hs hsl
  have HK := Lib.hid (show ∀ W, Below W1.heap.size W1 W → W.cell? ⟨w.heap.size, 0, none⟩ = some (.slice (some ⟨b1, o1, none⟩) R.length C) ∧ W.cell? ⟨w.heap.size, 1, none⟩ = some (gridV p) ∧ W.cell? ⟨b1, o1 + b, none⟩ = some (.slice Ab n Cb) from fun W hb =>
    ⟨(hb.cell (p := ⟨w.heap.size, 0, none⟩) (cell_lt hc)).trans hc, (hb.cell (p := ⟨w.heap.size, 1, none⟩) (cell_lt hc')).trans hc', (hb.cell (p := ⟨b1, o1 + b, none⟩) (cell_lt hcb)).trans hcb⟩)
  clear hra hrb hg1 b0 hva hvb hla hlb hga hgb hg hv1 hR
  have hmB := run_below
  have hmN := fun b w => run_nilAhead 296 b w
  go_enter Tryd.func81, Tryd.ntmps81
  go_upto_region 1 with fail
  rw [← hW1]
  clear hW1
  go_wp2
  go_loopw [7, 8, 15] (fun _ _ iv wr => ∃ i : Nat, i ≤ n ∧ iv = .int .i64 i ∧ funT g R a b i = true ∧ Below W1.heap.size W1 wr) (fun _ _ iv _ => n - (intOf iv).toNat)
  case atStart => exact ⟨0, Nat.zero_le _, rfl, rfl, Below.refl _ _⟩
  case round =>
    obtain ⟨i, hi, rfl, ht, hbw⟩ := hrel
    have HT := Lib.hid ht
    have HBW := Lib.hid hbw
    clear ht hbw
    by_cases hlt : i < n
    · obtain ⟨ba, oa, rfl, hxa⟩ := HRA.out i (by have := HLA.out; omega)
      obtain ⟨bb, ob, rfl, hxb⟩ := HRB.out i (by have := HLB.out; omega)
      have hka := HVA.out _ (List.getElem_mem (show i < xs.length by have := HLA.out; omega))
      have hkb := HVB.out _ (List.getElem_mem (show i < ys.length by have := HLB.out; omega))
      have hea : (R.getD a []).getD i 0 = xs[i]'(by have := HLA.out; omega) := by rw [HGA.out]; exact getD_lt 0 (by have := HLA.out; omega)
      have heb : (R.getD b []).getD i 0 = ys[i]'(by have := HLB.out; omega) := by rw [HGB.out]; exact getD_lt 0 (by have := HLB.out; omega)
      generalize xs[i]'(by have := HLA.out; omega) = xa at hxa hka hea
      generalize ys[i]'(by have := HLB.out; omega) = yb at hxb hkb heb
      obtain ⟨ka, rfl⟩ : ∃ ka : Nat, xa = (ka : Int) := ⟨xa.toNat, by omega⟩
      obtain ⟨kb, rfl⟩ : ∃ kb : Nat, yb = (kb : Int) := ⟨yb.toNat, by omega⟩
      have hbit : (g ((R.getD a []).getD i 0).toNat).testBit ((R.getD b []).getD i 0).toNat = (g ka).testBit kb := by rw [hea, heb, Int.toNat_natCast, Int.toNat_natCast]
      obtain ⟨q0, q1, q2⟩ := HK.out wr HBW.out
      have q3 := (HBW.out.cell (p := ⟨ba, oa + i, none⟩) (cell_lt hxa)).trans hxa
      have q4 := (HBW.out.cell (p := ⟨bb, ob + i, none⟩) (cell_lt hxb)).trans hxb
      have hgw := HG.out.below HBW.out HG.out.lt
      have hy := fun d os => Calls.regrown_of (d := d) (os := os) (gbelow_any p g (ka : Int) (kb : Int) ka kb _ (hgw.below (below_regrown _ d os) hgw.lt) rfl (by omega) rfl (by omega))
      have hiz : (i : Int) < (n : Int) := by omega
      have hk0 := fun d os => cell_regrown q0 d os
      have hk1 := fun d os => cell_regrown q1 d os
      have hk2 := fun d os => cell_regrown q2 d os
      have hk3 := fun d os => cell_regrown q3 d os
      have hk4 := fun d os => cell_regrown q4 d os
      have HBIT := Lib.hid hbit
      clear hgw hea heb hbit hka hkb hxa hxb
      generalize (g ka).testBit kb = t at hy HBIT
      go_upto_region 4 with fail
      refine wp_region_quiet_below (by kernel_rfl) (by kernel_rfl) ?_
      repeat (go_big_quiet_step (first | (go_at_call 148; exact hy _ _)))
      refine wpQuiet_nil ?_
      intro _ hw'
      obtain ⟨⟨dq, osq⟩, hw''⟩ := hw'
      subst hw''
      have HB2 := Lib.hid (HBW.out.trans ((below_regrown wr dq osq).mono HBW.out.size))
      clear hy hk0 hk1 hk2 hk3 hk4 q0 q1 q2 q3 q4
      generalize Go.Sort.grow (redrawn wr dq) osq = wz at HB2 ⊢
      cases t with
      | true =>
        have HT2 := Lib.hid (show funT g R a b (i + 1) = true by rw [funT_succ, HT.out, HBIT.out]; rfl)
        try rw [Bool.not_true]
        go_wp2
        go_roundw
        case rel => exact ⟨i + 1, by omega, by go_num, HT2.out, HB2.out⟩
        case measure => simp [intOf]; omega
      | false =>
        have HE := Lib.hid (show funG g R n a b = false from funT_no hlt HBIT.out)
        try rw [Bool.not_false]
        go_wp2
        go_ret
        exact ⟨by rw [HE.out]; rfl, HB.out.trans (HB2.out.mono HB.out.size)⟩
    · obtain rfl : i = n := by omega
      go_wp2
      go_ret
      exact ⟨by rw [show funG g R i a b = true from HT.out]; rfl, HB.out.trans (HBW.out.mono HB.out.size)⟩
end Go.Proofs.YtkomghohdhengaaDoor

namespace Go.Proofs.YtkomghohdhengaaDoor
open Go.RowKit Go.Deep Go.Shelf

set_option maxRecDepth 100000 in
set_option maxHeartbeats 4000000 in
theorem funRows_yes (p : Nat) (g : Nat → Nat) (vl : Value) (R : Rows2) (n : Nat) (N : Nat) (w : World) (hg : GridAt w p g) (hv : RowsAt w vl R) (hR : Lists R n) (hn : n ≤ 200) (hN : N = R.length) (hN2 : N ≤ 200) :
    Calls Tryd.prog 134 #[.iface 83 (.agg #[vl, .iface 70 (.pointer (some ⟨p, 0, none⟩))])] w (RowsYes (madeG (funG g R n) N) w) := by
  have hK : Stays w (fun W => Below w.heap.size w W) := fun _ _ hb hk => hk.trans hb
  have hcall0 := fun W (hk : (fun W => Below w.heap.size w W) W) => funSize_any p vl R W (hv.below hk)
  have hk0 : (fun W => Below w.heap.size w W) w := (Below.refl _ _)
  have hcall := hcall0 _ hk0
  rw [← hN] at hcall
  have HBC := Lib.hid (fun (a b : Nat) (ha : a < N) (hb : b < N) W (hk : (fun W => Below w.heap.size w W) W) => funBelow_any p g vl R n a b W (hg.below hk hg.lt) (hv.below hk) hR hn (by rw [← hN]; exact ha) (by rw [← hN]; exact hb))
  have hmS := run_fun_size
  have hmB := run_fun_below
  have hN3 : ¬ ((200 : Int) < (N : Int)) := by omega
  have hz := (zero_of_info zeroGrid).1
  have HK0 := Lib.hid hk0
  have HKK := Lib.hid hK
  clear hg hv hR hn hN hcall0 hk0 hK
  go_enter Tryd.func134, Tryd.ntmps134
  go_wp2_with (go_at_call 191; refine hcall.mono ?_; clear hcall; rintro e w1 ⟨rfl, hb1⟩; have HK1 := Lib.hid (HKK.out _ _ hb1 HK0.out); have HB1 := Lib.hid hb1; clear hb1)
  have bA := (Below.refl w1.heap.size w1).alloc (Nat.le_refl _) (.cells (gridCells fun _ => 0) 93)
  have HST := Lib.hid (show RwG w (fun W => Below w.heap.size w W) w1.heap.size (bG (funG g R n) N 0 0) (w1.alloc (.cells (gridCells fun _ => 0) 93)) from
    ⟨HKK.out _ _ (bA.mono HB1.out.size) HK1.out, by rw [bG_start]; exact store_new w1, HB1.out.size, HB1.out.trans (bA.mono HB1.out.size)⟩)
  clear bA hz
  go_loopw [6, 13] (fun _ av wr => ∃ a : Nat, a ≤ N ∧ av = .int .i64 a ∧ RwG w (fun W => Below w.heap.size w W) w1.heap.size (bG (funG g R n) N a 0) wr) (fun _ av _ => N - (intOf av).toNat)
  case atStart => exact ⟨0, Nat.zero_le _, rfl, HST.out⟩
  case round =>
    obtain ⟨a, ha, rfl, ht⟩ := hrel
    have HT := Lib.hid ht
    clear HST ht
    by_cases hal : a < N
    · go_wp2
      go_loopw [7, 17] (fun _ bv wr => ∃ b : Nat, b ≤ N ∧ bv = .int .i64 b ∧ RwG w (fun W => Below w.heap.size w W) w1.heap.size (bG (funG g R n) N a b) wr) (fun _ bv _ => N - (intOf bv).toNat)
      case atStart => exact ⟨0, Nat.zero_le _, rfl, HT.out⟩
      case round =>
        obtain ⟨b, hb, rfl, ht⟩ := hrel
        have HK := Lib.hid ht
        clear ht HT
        by_cases hbl : b < N
        · have hcall := HBC.out a b hal hbl wr HK.out.kept
          cases hbit : (funG g R n) a b with
          | false =>
            rw [hbit] at hcall
            have HE := Lib.hid (bG_no (N := N) hbit)
            clear hbit
            go_wp2_with (go_at_call 81; refine hcall.mono ?_; clear hcall; rintro e w2 ⟨rfl, hb2⟩; have H2 := Lib.hid (HK.out.step HKK.out hb2); clear hb2)
            go_roundw
            case rel => exact ⟨b + 1, by omega, by go_num, by rw [HE.out]; exact H2.out⟩
            case measure => simp [intOf]; omega
          | true =>
            rw [hbit] at hcall
            have HE := Lib.hid (bG_yes (N := N) hbit)
            have ha200 : a < 200 := by omega
            have hb200 : b < 200 := by omega
            have ha0 : (0 : Int) ≤ (a : Int) := by omega
            have ha1 : (a : Int) < 200 := by omega
            clear hbit
            go_wp2_with (first | (go_at_call 81; refine hcall.mono ?_; clear hcall; rintro e w2 ⟨rfl, hb2⟩; have H2 := Lib.hid (HK.out.step HKK.out hb2); have hadd := addTo_any w1.heap.size a b (b : Int) _ w2 H2.out.grid ha200 hb200 rfl; clear hb2) | (go_at_call 119; refine hadd.mono ?_; clear hadd; rintro e w3 ⟨rfl, m, rfl⟩))
            go_roundw
            case rel => exact ⟨b + 1, by omega, by go_num, by rw [HE.out]; exact H2.out.put HKK.out ha200 hb200 m⟩
            case measure => simp [intOf]; omega
        · obtain rfl : b = N := by omega
          go_wp2
          go_roundw
          case rel => exact ⟨a + 1, by omega, by go_num, by rw [← bG_next]; exact HK.out⟩
          case measure => simp [intOf]; omega
    · obtain rfl : a = N := by omega
      go_wp2
      go_ret2
      exact ⟨⟨w1.heap.size, rfl, HT.out.own, HT.out.grid⟩, HT.out.below⟩
theorem funBuilt_yes (p : Nat) (g : Nat → Nat) (vl : Value) (R : Rows2) (n : Nat) (N : Nat) (w : World) (hg : GridAt w p g) (hv : RowsAt w vl R) (hR : Lists R n) (hn : n ≤ 200) (hN : N = R.length) (hN2 : N ≤ 200) (hT : Tab w) (hrf : ∀ q, q < N → (funG g R n) q q = true) :
    Calls Tryd.prog 79 #[.iface 83 (.agg #[vl, .iface 70 (.pointer (some ⟨p, 0, none⟩))])] w (RowsG N (fun q => bRow (funG g R n) q N) true w) :=
  built_yes _ (funG g R n) N w hT hN2 hrf fun W hB => funRows_yes p g vl R n N W (hg.below hB hg.lt) (hv.below hB) hR hn hN hN2
end Go.Proofs.YtkomghohdhengaaDoor

namespace Go.Proofs.YtkomghohdhengaaDoor
open Go.RowKit Go.Deep Go.Shelf

theorem I2_getD {L : List (List Nat)} {q : Nat} (h : q < L.length) : (I2 L).getD q [] = intsOf (L.getD q []) := by
  unfold I2
  rw [List.getD_eq_getElem?_getD, List.getElem?_map, List.getElem?_eq_getElem h, getD_lt [] h]
  rfl
theorem I2_at {W : World} {a : Option Addr} {C lo hi : Nat} {L : List (List Nat)} (h : OwnR 3 26 W (.slice a L.length C) L.length (rowsF (I2 L)) lo hi) : RowsAt W (.slice a L.length C) (I2 L) := by
  have e := I2_len L
  have h2 := h
  rw [← e] at h2
  have h3 := h2.at
  rw [e] at h3
  exact h3
theorem funs_len {rows rows' : Rows2} {l : List Nat} (h : l ∈ funsR rows rows') : l.length = rows.length ∧ (∀ x ∈ l, x < rows'.length) ∧ MonN (Bf rows) (Bf rows') l := by
  obtain ⟨t, h1, h2, rfl, h4⟩ := (mem_extL _ _).1 h
  exact ⟨h1, h2, monN_iff.1 h4⟩
theorem funs_lists {rows rows' : Rows2} (hl' : rows'.length ≤ 200) : Lists (I2 (funsR rows rows')) rows.length := fun r hr => by
  unfold I2 at hr
  obtain ⟨l, hl, rfl⟩ := List.mem_map.1 hr
  obtain ⟨h1, h2, _⟩ := funs_len hl
  refine ⟨by rw [intsOf_len]; exact h1, fun x hx => ?_⟩
  unfold intsOf at hx
  obtain ⟨y, hy, rfl⟩ := List.mem_map.1 hx
  have := h2 y hy
  omega
theorem funs_own {rows rows' : Rows2} (hok' : Ok rows') (q : Nat) (hq : q < (funsR rows rows').length) : funG (gridF rows') (I2 (funsR rows rows')) rows.length q q = true := by
  unfold funG funT
  rw [List.all_eq_true]
  intro i hi
  rw [List.mem_range] at hi
  have hq2 : q < (I2 (funsR rows rows')).length := by rw [I2_len]; exact hq
  obtain ⟨h1, h2, _⟩ := funs_len (List.getElem_mem hq)
  have e : (I2 (funsR rows rows')).getD q [] = intsOf (funsR rows rows')[q] := by rw [I2_getD hq, getD_lt [] hq]
  rw [e]
  have hi2 : i < (intsOf (funsR rows rows')[q]).length := by rw [intsOf_len, h1]; exact hi
  rw [getD_lt 0 hi2, intsOf_at hi2, Int.toNat_natCast]
  refine hok'.own _ (h2 _ ?_)
  rw [getD_lt 0 (by rw [h1]; exact hi)]
  exact List.getElem_mem _

/-- What DomainFun answers. -/
noncomputable def funRow (rows rows' : Rows2) (q : Nat) : List Int := bRow (funG (gridF rows') (I2 (funsR rows rows')) rows.length) q (funsR rows rows').length
noncomputable def funL (rows rows' : Rows2) : Rows2 := if funB rows rows' = true then (List.range (funsR rows rows').length).map (funRow rows rows') else []
theorem funL_yes {rows rows' : Rows2} (h : funB rows rows' = true) : (funL rows rows').length = (funsR rows rows').length ∧ ∀ q, q < (funsR rows rows').length → rowsF (funL rows rows') q = funRow rows rows' q := by
  unfold funL
  rw [if_pos h]
  refine ⟨by simp, fun q hq => ?_⟩
  rw [rowsF_lt (by simpa using hq)]
  simp
theorem funL_no {rows rows' : Rows2} (h : funB rows rows' = false) : funL rows rows' = [] := by unfold funL; rw [if_neg (by rw [h]; simp)]
theorem funB_iff {rows rows' : Rows2} : funB rows rows' = true ↔ domB rows = true ∧ domB rows' = true ∧ (funsR rows rows').length ≤ 200 := by
  unfold funB
  rw [Bool.and_eq_true, Bool.and_eq_true, decide_eq_true_iff, and_assoc]

set_option maxRecDepth 100000 in
set_option maxHeartbeats 8000000 in
theorem implFun_any (v v' : Value) (rows rows' : Rows2) (w : World) (hv : RowsAt w v rows) (hv' : RowsAt w v' rows') (hT : Tab w) (hn : bulk rows ≤ 1048576) (hn' : bulk rows' ≤ 1048576) :
    Calls Tryd.prog 20 #[.agg #[v], .agg #[v']] w (OrderP (funL rows rows') (funB rows rows') w) := by
  have h0 := TwoR.start w hv hv'
  have hfo := funsOf_any _ _ rows rows' _ h0.r0 h0.r1 (hT.below h0.below) hn hn'
  have hc0 := h0.c0
  have hc1 := h0.c1
  obtain ⟨A, C, rfl, _⟩ := hv
  obtain ⟨A', C', rfl, _⟩ := hv'
  have H0 := Lib.hid h0
  have HTA := Lib.hid (fun W (h : Below w.heap.size w W) => hT.below h)
  clear h0 hT
  go_enter Tryd.func20, Tryd.ntmps20
  go_wp2_with fail
  refine hfo.mono ?_
  rintro e w1 ⟨⟨u1, u2, rfl, hyes, hno⟩, hb1⟩
  have H1 := Lib.hid (H0.out.step hb1)
  clear hfo hc0 hc1 hb1
  cases hfb : funB rows rows' with
  | false =>
    obtain ⟨rfl, rfl⟩ := hno hfb
    have HE := Lib.hid hfb
    have hb2 := (Below.refl w1.heap.size w1).alloc (Nat.le_refl _) (.cells #[.slice none 0 0, .nilIface] 83)
    have H2 := Lib.hid (H1.out.step hb2)
    have hres := H2.out.res.cell
    have hfr := H2.out.res.frozen
    clear hyes hno hb2
    go_wp2
    simp only [Nat.add_assoc, Nat.reduceAdd]
    have hc9 := World.cell?_setCell_same' _ ⟨w.heap.size + 2, 0, none⟩ (.slice none 0 0) (by rw [hres]; rfl)
    refine bodyPost_ret (v := .tuple #[.agg #[.slice none 0 0], .bool false]) (by simp [results, Tryd.results20, go_sem, hc9]) rfl ?_
    exact orderP_no (funL_no HE.out) HE.out H2.out.below (by omega) _
  | true =>
    obtain ⟨p', rfl, ho, hg'⟩ := hyes hfb
    obtain ⟨h1, h2, hle⟩ := funB_iff.1 hfb
    have hok' := (domB_iff.1 h2).1
    obtain ⟨a1, C1, rfl⟩ := ho.form
    have hb2 := (Below.refl w1.heap.size w1).alloc (Nat.le_refl _) (.cells #[.slice a1 (funsR rows rows').length C1, .iface 70 (.pointer (some ⟨p', 0, none⟩))] 83)
    obtain ⟨n0, n1, n2⟩ := two_new w1 (.slice a1 (funsR rows rows').length C1) (.iface 70 (.pointer (some ⟨p', 0, none⟩))) 83
    have H2 := Lib.hid (H1.out.step hb2)
    have hat := I2_at ho
    have hbu := funBuilt_yes p' (gridF rows') (.slice a1 (funsR rows rows').length C1) (I2 (funsR rows rows')) rows.length (funsR rows rows').length _ (hg'.below hb2 hg'.lt) (hat.below hb2) (funs_lists hok'.len.2) ((domB_iff.1 h1).1.len.2) (I2_len _).symm hle (HTA.out _ H2.out.below) (funs_own hok')
    obtain ⟨e1, e2⟩ := funL_yes hfb
    have HE := Lib.hid hfb
    have HL := Lib.hid e1
    have HR := Lib.hid e2
    clear hyes hno ho hg' hat hb2 e1 e2
    go_wp2_with fail
    refine hbu.mono ?_
    rintro e w3 ⟨u, rfl, hu, hb3⟩
    obtain ⟨a3, C3, rfl⟩ := hu.form
    have HU := Lib.hid hu
    have H3 := Lib.hid (H2.out.step hb3)
    have hres := H3.out.res.cell
    have hfr := H3.out.res.frozen
    have hw2 := H2.out.res.lt
    clear hu hb3 hbu n0 n1 n2
    go_wp2
    simp only [Nat.add_assoc, Nat.reduceAdd]
    have hc9 := World.cell?_setCell_same' w3 ⟨w.heap.size + 2, 0, none⟩ (.slice a3 (funsR rows rows').length C3) (by rw [hres]; rfl)
    refine bodyPost_ret (v := .tuple #[.agg #[.slice a3 (funsR rows rows').length C3], .bool true]) (by simp [results, Tryd.results20, go_sem, hc9]) rfl ?_
    refine ⟨_, by rw [HE.out], ?_, H3.out.below.setCell (p := ⟨w.heap.size + 2, 0, none⟩) (by show w.heap.size ≤ w.heap.size + 2; omega) _⟩
    rw [HL.out, size_setCell]
    exact ((HU.out.kept fun b hb _ => Below.heap_setCell _ _ _ b (show b ≠ w.heap.size + 2 by omega)).wider (by omega) (Nat.le_refl _)).congr fun q hq => (HR.out q hq).symm
end Go.Proofs.YtkomghohdhengaaDoor

namespace Go.Proofs.YtkomghohdhengaaDoor
open Go.RowKit Go.Deep Go.Shelf

theorem funs_call (v v' : Value) (rows rows' : Rows2) (W : World) (hv : RowsAt W v rows) (hv' : RowsAt W v' rows') (hd : domB rows = true) (hd' : domB rows' = true) (most : Nat) (hm : most ≤ 5000) :
    Calls Tryd.prog 139 #[.agg #[v], .agg #[v'], .slice (some ⟨W.heap.size, 0, none⟩) 0 0, .int .i64 (most : Int), .slice (some ⟨W.heap.size + 1, 0, none⟩) 0 0] ((W.alloc (.cells #[] 3)).alloc (.cells #[] 26)) fun e w' =>
      ∃ vo, e = .returned vo ∧ OwnR 3 26 w' vo ((funsR rows rows').take (most + 1)).length (rowsF (I2 ((funsR rows rows').take (most + 1)))) W.heap.size w'.heap.size ∧ Below W.heap.size W w' := by
  have hb2 := ((Below.refl W.heap.size W).alloc (Nat.le_refl _) (.cells #[] 3)).alloc (by simp) (.cells #[] 26)
  have hz2 : ((W.alloc (.cells #[] 3)).alloc (.cells #[] 26)).heap.size = W.heap.size + 2 := by simp
  have hL : ListAt ((W.alloc (.cells #[] 3)).alloc (.cells #[] 26)) (.slice (some ⟨W.heap.size, 0, none⟩) 0 0) [] W.heap.size := by
    refine ⟨⟨_, _, rfl⟩, fun _ h => (by cases h), .inr ⟨W.heap.size, 0, fun _ => undef, rfl, Nat.le_refl _, Nat.zero_le _, Nat.le_refl _, by omega, ?_, fun _ h => absurd h (Nat.not_lt_zero _)⟩⟩
    exact (World.rowIs_alloc W #[] 3 (fun _ => undef) (fun _ h => absurd h (Nat.not_lt_zero _))).of_block (Below.heap_alloc _ _ _ (by simp))
  have hO : OwnR 3 26 ((W.alloc (.cells #[] 3)).alloc (.cells #[] 26)) (.slice (some ⟨W.heap.size + 1, 0, none⟩) 0 0) ([] : List (List Nat)).length (rowsF (I2 [])) W.heap.size ((W.alloc (.cells #[] 3)).alloc (.cells #[] 26)).heap.size := by
    refine .inr ⟨W.heap.size + 1, 0, fun _ => undef, rfl, Nat.le_refl _, Nat.zero_le _, by omega, by omega, ?_, fun _ h => absurd h (Nat.not_lt_zero _), fun _ _ _ h => absurd h (Nat.not_lt_zero _)⟩
    have h := World.rowIs_alloc (W.alloc (.cells #[] 3)) #[] 26 (fun _ => undef) (fun _ h => absurd h (Nat.not_lt_zero _))
    rw [World.size_alloc] at h
    exact h
  have h := l2Funs_any v v' rows rows' W hv hv' hd hd' most hm rows.length [] _ _ [] _ W.heap.size (Nat.zero_add _) (fun x h => (by cases h)) (MonN.nil _ _) (Nat.zero_le _) hb2 (Nat.le_refl _) hL hO (by omega)
  refine h.mono ?_
  rintro e w' ⟨vo, rfl, ho, hg, _⟩
  exact ⟨vo, rfl, ho, hb2.grown hg (by omega) (fun b e => by
    have h4 : W.heap.size + 1 = b := by simpa [Value.ownBlock] using e
    omega)⟩

/-- What FunCount answers. -/
noncomputable def countI (rows rows' : Rows2) : Int := if (domB rows && domB rows') = true then (if (funsR rows rows').length ≤ 5000 then ((funsR rows rows').length : Int) else -1) else -1

/-- What l2All answers. -/
def AllP (rows rows' : Rows2) (w : World) (e : Ending) (w' : World) : Prop :=
  (∃ a n C, e = .returned (.tuple #[.slice a n C, .bool (funB rows rows')]) ∧ (funB rows rows' = true → n = (funsR rows rows').length ∧ OwnR 3 26 w' (.slice a n C) (funsR rows rows').length (rowsF (I2 (funsR rows rows'))) w.heap.size w'.heap.size)) ∧ Below w.heap.size w w'

set_option maxRecDepth 100000 in
set_option maxHeartbeats 8000000 in
theorem all2_any (v v' : Value) (rows rows' : Rows2) (w : World) (hv : RowsAt w v rows) (hv' : RowsAt w v' rows') (hn : bulk rows ≤ 1048576) (hn' : bulk rows' ≤ 1048576) :
    Calls Tryd.prog 87 #[.agg #[v], .agg #[v']] w (AllP rows rows' w) := by
  have h0 := Two.start w 25 25 hv hv'
  have hd1 := specDom_any _ rows _ h0.r0 hn
  have hc0 := h0.c0
  obtain ⟨A, C, rfl, _⟩ := hv
  obtain ⟨A', C', rfl, _⟩ := hv'
  have H0 := Lib.hid h0
  clear h0
  go_enter Tryd.func87, Tryd.ntmps87
  go_wp2_with fail
  refine hd1.mono ?_
  rintro e w1 ⟨rfl, hb1⟩
  have H1 := Lib.hid (H0.out.step hb1)
  have hc1 := H1.out.c1
  have hd2 := specDom_any _ rows' _ H1.out.r1 hn'
  clear hd1 hc0 hb1
  cases h1 : domB rows with
  | false =>
    have HE := Lib.hid (show funB rows rows' = false by unfold funB; rw [h1]; rfl)
    go_wp2
    go_ret2
    refine ⟨⟨_, _, _, by rw [HE.out]; rfl, fun h => by rw [HE.out] at h; cases h⟩, H1.out.below.alloc H1.out.below.size _⟩
  | true =>
    go_wp2_with fail
    refine hd2.mono ?_
    rintro e w2 ⟨rfl, hb2⟩
    have H2 := Lib.hid (H1.out.step hb2)
    clear hd2 hb2
    cases h2 : domB rows' with
    | false =>
      have HE := Lib.hid (show funB rows rows' = false by unfold funB; rw [h1, h2]; rfl)
      go_wp2
      go_ret2
      refine ⟨⟨_, _, _, by rw [HE.out]; rfl, fun h => by rw [HE.out] at h; cases h⟩, H2.out.below.alloc H2.out.below.size _⟩
    | true =>
      have hcA := H2.out.c0
      have hcB := H2.out.c1
      have hfc := funs_call _ _ rows rows' w2 H2.out.r0 H2.out.r1 h1 h2 200 (by omega)
      clear hc1
      go_wp2_with fail
      refine hfc.mono ?_
      rintro e w3 ⟨vo, rfl, ho, hb3⟩
      have B3 := Lib.hid (H2.out.below.trans (hb3.mono H2.out.below.size))
      obtain ⟨ao, Co, rfl⟩ := ho.form
      have hlen : ((funsR rows rows').take (200 + 1)).length = min (200 + 1) (funsR rows rows').length := List.length_take
      have HO := Lib.hid (ho.wider H2.out.below.size (Nat.le_refl _))
      clear hfc hb3 ho
      by_cases hfin : (funsR rows rows').length ≤ 200
      · have HE := Lib.hid (show funB rows rows' = true by unfold funB; rw [h1, h2, decide_eq_true hfin]; rfl)
        have htk : (funsR rows rows').take (200 + 1) = funsR rows rows' := List.take_of_length_le (by omega)
        rw [htk] at HO ⊢
        have hgt : ((funsR rows rows').length : Int) ≤ 200 := by omega
        clear hlen htk
        go_wp2
        go_ret2
        exact ⟨⟨_, _, _, by rw [HE.out]; rfl, fun _ => ⟨rfl, HO.out⟩⟩, B3.out⟩
      · have HE := Lib.hid (show funB rows rows' = false by unfold funB; rw [h1, h2, decide_eq_false hfin]; rfl)
        have hle : ((funsR rows rows').take (200 + 1)).length = 201 := by omega
        rw [hle]
        clear hlen hle HO
        go_wp2
        go_ret2
        exact ⟨⟨_, _, _, by rw [HE.out]; rfl, fun h => by rw [HE.out] at h; cases h⟩, B3.out⟩
end Go.Proofs.YtkomghohdhengaaDoor

namespace Go.Proofs.YtkomghohdhengaaDoor
open Go.RowKit Go.Deep Go.Shelf

/-- A list of lists and a truth value. -/
def OwnRB (xs : Rows2) (t : Bool) (w : World) (e : Ending) (w' : World) : Prop :=
  ∃ v, e = .returned (.tuple #[v, .bool t]) ∧ OwnR 3 26 w' v xs.length (rowsF xs) w.heap.size w'.heap.size ∧ Below w.heap.size w w'
/-- What DomainFuns answers. -/
noncomputable def funsL (rows rows' : Rows2) : Rows2 := if funB rows rows' = true then I2 (funsR rows rows') else []
theorem funsL_yes {rows rows' : Rows2} (h : funB rows rows' = true) : funsL rows rows' = I2 (funsR rows rows') := if_pos h
theorem funsL_no {rows rows' : Rows2} (h : funB rows rows' = false) : funsL rows rows' = [] := if_neg (by rw [h]; simp)

set_option maxRecDepth 100000 in
set_option maxHeartbeats 8000000 in
theorem implFuns_any (v v' : Value) (rows rows' : Rows2) (w : World) (hv : RowsAt w v rows) (hv' : RowsAt w v' rows') (hT : Tab w) (hn : bulk rows ≤ 1048576) (hn' : bulk rows' ≤ 1048576) :
    Calls Tryd.prog 30 #[.agg #[v], .agg #[v']] w (OwnRB (funsL rows rows') (funB rows rows') w) := by
  have h0 := Two.start w 25 25 hv hv'
  have hfo := funsOf_any _ _ rows rows' _ h0.r0 h0.r1 (hT.below h0.below) hn hn'
  have hc0 := h0.c0
  have hc1 := h0.c1
  obtain ⟨A, C, rfl, _⟩ := hv
  obtain ⟨A', C', rfl, _⟩ := hv'
  have H0 := Lib.hid h0
  clear h0 hT
  go_enter Tryd.func30, Tryd.ntmps30
  go_wp2_with fail
  refine hfo.mono ?_
  rintro e w1 ⟨⟨u1, u2, rfl, hyes, hno⟩, hb1⟩
  have H1 := Lib.hid (H0.out.step hb1)
  clear hfo hc0 hc1
  have hz1 := H1.out.below.size
  have hz2 := H0.out.below.size
  cases hfb : funB rows rows' with
  | false =>
    obtain ⟨rfl, rfl⟩ := hno hfb
    have HE := Lib.hid hfb
    clear hyes hno hb1
    go_wp2
    go_ret2
    refine ⟨_, by rw [HE.out]; rfl, ?_, H1.out.below.alloc hz1 _⟩
    rw [funsL_no HE.out]
    exact OwnR.nil _ _ _ _ _ _
  | true =>
    obtain ⟨p', rfl, ho, hg'⟩ := hyes hfb
    obtain ⟨a1, C1, rfl⟩ := ho.form
    have hb2 := (Below.refl w1.heap.size w1).alloc (Nat.le_refl _) (.cells #[.slice a1 (funsR rows rows').length C1, gridV p'] 83)
    obtain ⟨n0, n1, n2⟩ := two_new w1 (.slice a1 (funsR rows rows').length C1) (gridV p') 83
    have HO := Lib.hid ((ho.below hb2 (Nat.le_refl _)).wider hz2 hb2.size)
    have HE := Lib.hid hfb
    clear hyes hno ho hg' hb1 hb2
    go_wp2
    go_ret2
    refine ⟨_, by rw [HE.out]; rfl, ?_, H1.out.below.alloc hz1 _⟩
    rw [funsL_yes HE.out, I2_len]
    exact HO.out

end Go.Proofs.YtkomghohdhengaaDoor

namespace Go.Proofs.YtkomghohdhengaaDoor
open Go.RowKit Go.Deep

/-- The first list is less (-1), the same (0), or greater (1). -/
def cmpL : List Int → List Int → Int
  | [], [] => 0
  | [], _ :: _ => -1
  | _ :: _, [] => 1
  | x :: xs, y :: ys => if x < y then -1 else if y < x then 1 else cmpL xs ys
theorem cmpL_cons (x y : Int) (xs ys : List Int) : cmpL (x :: xs) (y :: ys) = if x < y then -1 else if y < x then 1 else cmpL xs ys := rfl
theorem cmpL_self : ∀ xs : List Int, cmpL xs xs = 0
  | [] => rfl
  | x :: xs => by unfold cmpL; rw [if_neg (by omega), if_neg (by omega)]; exact cmpL_self xs
theorem cmpL_zero : ∀ {xs ys : List Int}, cmpL xs ys = 0 → xs = ys
  | [], [], _ => rfl
  | [], _ :: _, h => by unfold cmpL at h; omega
  | _ :: _, [], h => by unfold cmpL at h; omega
  | x :: xs, y :: ys, h => by
    unfold cmpL at h
    by_cases h1 : x < y
    · rw [if_pos h1] at h; omega
    · rw [if_neg h1] at h
      by_cases h2 : y < x
      · rw [if_pos h2] at h; omega
      · rw [if_neg h2] at h
        rw [cmpL_zero h, show x = y by omega]
theorem cmpL_trans : ∀ {xs ys zs : List Int}, cmpL xs ys < 0 → cmpL ys zs < 0 → cmpL xs zs < 0
  | [], [], _, h, _ => by unfold cmpL at h; omega
  | [], _ :: _, [], _, k => by unfold cmpL at k; omega
  | [], _ :: _, _ :: _, _, _ => by unfold cmpL; omega
  | _ :: _, [], _, h, _ => by unfold cmpL at h; omega
  | _ :: _, _ :: _, [], _, k => by unfold cmpL at k; omega
  | x :: xs, y :: ys, z :: zs, h, k => by
    unfold cmpL at h k ⊢
    by_cases h1 : x < y
    · by_cases k1 : y < z
      · rw [if_pos (by omega)]; omega
      · rw [if_neg k1] at k
        by_cases k2 : z < y
        · rw [if_pos k2] at k; omega
        · rw [if_pos (by omega)]; omega
    · rw [if_neg h1] at h
      by_cases h2 : y < x
      · rw [if_pos h2] at h; omega
      · rw [if_neg h2] at h
        by_cases k1 : y < z
        · rw [if_pos (by omega)]; omega
        · rw [if_neg k1] at k
          by_cases k2 : z < y
          · rw [if_pos k2] at k; omega
          · rw [if_neg k2] at k
            rw [if_neg (by omega), if_neg (by omega)]
            exact cmpL_trans h k
theorem cmpL_app : ∀ (p xs ys : List Int), cmpL (p ++ xs) (p ++ ys) = cmpL xs ys
  | [], _, _ => rfl
  | x :: p, xs, ys => by
    rw [List.cons_append, List.cons_append, cmpL_cons, if_neg (by omega), if_neg (by omega)]
    exact cmpL_app p xs ys

/-- Lists of lists that ascend. -/
def AscL (L : Rows2) : Prop := L.Pairwise fun a b => cmpL a b < 0
theorem AscL.at {L : Rows2} (h : AscL L) {i j : Nat} (hij : i < j) (hj : j < L.length) : cmpL (L[i]'(by omega)) L[j] < 0 := List.pairwise_iff_getElem.1 h i j (by omega) hj hij
theorem intsOf_app (a b : List Nat) : intsOf (a ++ b) = intsOf a ++ intsOf b := by unfold intsOf; exact List.map_append
theorem intsOf_cons (a : Nat) (b : List Nat) : intsOf (a :: b) = (a : Int) :: intsOf b := rfl
theorem extL_asc {m : Nat} {P : List Nat → Bool} : ∀ (f : Nat) (l : List Nat), (extL m P f l).Pairwise fun a b => cmpL (intsOf a) (intsOf b) < 0
  | 0, l => by
    unfold extL
    split
    · exact List.pairwise_singleton _ _
    · exact List.Pairwise.nil
  | f + 1, l => by
    unfold extL
    rw [List.pairwise_flatMap]
    refine ⟨fun k _ => extL_asc f (l ++ [k]), ?_⟩
    refine List.Pairwise.imp (fun {a b} hab x hx y hy => ?_) List.pairwise_lt_range
    obtain ⟨t, _, _, rfl, _⟩ := (mem_extL f _).1 hx
    obtain ⟨t', _, _, rfl, _⟩ := (mem_extL f _).1 hy
    rw [List.append_assoc, List.append_assoc, intsOf_app l ([a] ++ t), intsOf_app l ([b] ++ t'), cmpL_app]
    rw [List.singleton_append, List.singleton_append, intsOf_cons, intsOf_cons, cmpL_cons, if_pos (by omega)]
    omega
theorem funs_asc (rows rows' : Rows2) : AscL (I2 (funsR rows rows')) := by
  unfold AscL I2
  rw [List.pairwise_map]
  exact extL_asc _ _

/-- The place of a list, or -1. -/
def idxL (L : Rows2) (f : List Int) : Int := match L.findIdx? (fun r => decide (r = f)) with | some i => (i : Int) | none => -1
theorem idxL_some {L : Rows2} {f : List Int} {i : Nat} (hi : i < L.length) (h : L[i] = f) (hb : ∀ j (hj : j < i), L[j]'(by omega) ≠ f) : idxL L f = i := by
  have e : L.findIdx? (fun r => decide (r = f)) = some i := List.findIdx?_eq_some_iff_getElem.2 ⟨hi, by simpa using h, fun j hj => by simpa using hb j hj⟩
  unfold idxL
  rw [e]
theorem idxL_none {L : Rows2} {f : List Int} (h : ∀ j (hj : j < L.length), L[j] ≠ f) : idxL L f = -1 := by
  have e : L.findIdx? (fun r => decide (r = f)) = none := List.findIdx?_eq_none_iff.2 fun r hr => by
    obtain ⟨j, hj, rfl⟩ := List.getElem_of_mem hr
    simpa using h j hj
  unfold idxL
  rw [e]
/-- What the halving knows. -/
structure HalfL (L : Rows2) (f : List Int) (lo hi : Nat) : Prop where
  le : lo ≤ hi
  len : hi ≤ L.length
  less : ∀ j (hj : j < L.length), j < lo → cmpL L[j] f < 0
  more : ∀ j (hj : j < L.length), hi ≤ j → ¬ cmpL L[j] f < 0
theorem HalfL.start (L : Rows2) (f : List Int) : HalfL L f 0 L.length := ⟨Nat.zero_le _, Nat.le_refl _, fun _ _ h => absurd h (Nat.not_lt_zero _), fun j hj h => absurd hj (by omega)⟩
theorem HalfL.right {L : Rows2} {f : List Int} {lo hi m : Nat} (h : HalfL L f lo hi) (ha : AscL L) (h2 : m < hi) (hm : m < L.length) (hc : cmpL L[m] f < 0) : HalfL L f (m + 1) hi :=
  ⟨h2, h.len, fun j hj hjm => by
    rcases Nat.eq_or_lt_of_le (Nat.le_of_lt_succ hjm) with e | e
    · subst e; exact hc
    · exact cmpL_trans (ha.at e hm) hc, h.more⟩
theorem HalfL.left {L : Rows2} {f : List Int} {lo hi m : Nat} (h : HalfL L f lo hi) (ha : AscL L) (h1 : lo ≤ m) (h2 : m < hi) (hm : m < L.length) (hc : ¬ cmpL L[m] f < 0) : HalfL L f lo m :=
  ⟨h1, Nat.le_trans (Nat.le_of_lt h2) h.len, h.less, fun j hj hjm => by
    rcases Nat.eq_or_lt_of_le hjm with e | e
    · subst e; exact hc
    · exact fun k => hc (cmpL_trans (ha.at e hj) k)⟩
theorem HalfL.found {L : Rows2} {f : List Int} {lo : Nat} (h : HalfL L f lo lo) (hl : lo < L.length) (he : cmpL L[lo] f = 0) : idxL L f = lo :=
  idxL_some hl (cmpL_zero he) fun j hj e => by
    have := h.less j (by omega) hj
    rw [e, cmpL_self] at this
    omega
theorem HalfL.missing {L : Rows2} {f : List Int} {lo : Nat} (h : HalfL L f lo lo) (ha : AscL L) (hn : ∀ (hl : lo < L.length), cmpL L[lo] f ≠ 0) : idxL L f = -1 :=
  idxL_none fun j hj e => by
    have hlo : lo ≤ j := by
      rcases Nat.lt_or_ge j lo with h3 | h3
      · have := h.less j hj h3
        rw [e, cmpL_self] at this
        omega
      · exact h3
    have hl : lo < L.length := by omega
    rcases Nat.eq_or_lt_of_le hlo with e2 | h5
    · subst e2
      exact hn hj (by rw [e]; exact cmpL_self f)
    · have h6 := ha.at h5 hj
      rw [e] at h6
      exact h.more lo hl (Nat.le_refl _) h6
end Go.Proofs.YtkomghohdhengaaDoor
