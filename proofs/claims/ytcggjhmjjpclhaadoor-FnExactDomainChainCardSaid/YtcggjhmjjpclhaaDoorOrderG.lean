/- The program's order of a grid (grid.order), in memory of its own. -/
import Derived.Test.YtcggjhmjjpclhaaDoorList
import Derived.Test.YtcggjhmjjpclhaaDoorBottom
import Derived.Test.YtcggjhmjjpclhaaDoorGrid
namespace Go.Proofs.YtcggjhmjjpclhaaDoor
open Go.RowKit Go.Deep Go.Shelf

theorem ints_ne : (3 : TypeId) ≠ 37 := by decide

/-- Rows in memory of their own, as an order. -/
def RowsPost (n : Nat) (R : Nat → List Int) (w : World) (e : Ending) (w' : World) : Prop :=
  ∃ v, e = .returned (.agg #[v]) ∧ OwnR 3 37 w' v n R w.heap.size w'.heap.size ∧ Below w.heap.size w w'

/-- A list is stored into row i of rows that are being filled. -/
theorem OwnR.fill {W W2 : World} {g n i lo : Nat} {R : Nat → List Int} {v' : Value} {xs : List Int} (h : OwnR 3 37 W (.slice (some ⟨g, 0, none⟩) n n) n R lo W.heap.size)
    (hb : Below W.heap.size W W2) (hn : OwnI 3 W2 v' xs W.heap.size W2.heap.size) :
    OwnR 3 37 (W2.setCell ⟨g, i, none⟩ v') (.slice (some ⟨g, 0, none⟩) n n) n (fun q => if q = i then xs else R q) lo (W2.setCell ⟨g, i, none⟩ v').heap.size := by
  obtain hnil | ⟨g1, C1, f, e, h1, h2, h3, h4, h5, h6, h7⟩ := h
  · cases hnil.1
  cases e
  rw [size_setCell]
  exact OwnR.stored ints_ne h1 h2 h3 h5 h6 h7 hb hn
theorem OwnR.cellOf {W : World} {g n i lo hi : Nat} {R : Nat → List Int} (h : OwnR 3 37 W (.slice (some ⟨g, 0, none⟩) n n) n R lo hi) (hlt : i < n) : (∃ u, W.cell? ⟨g, i, none⟩ = some u) ∧ W.frozen? ⟨g, i, none⟩ = false ∧ g < W.heap.size := by
  obtain hnil | ⟨g1, C1, f, e, h1, h2, h3, h4, h5, h6, h7⟩ := h
  · cases hnil.1
  cases e
  exact ⟨⟨_, h5.cell hlt⟩, h5.frozen i, h5.lt⟩
/-- What row j holds when i rows have been filled. -/
def upto (R : Nat → List Int) (i j : Nat) : List Int := if j < i then R j else []
theorem upto_step (R : Nat → List Int) (i : Nat) : (fun q => if q = i then R i else upto R i q) = upto R (i + 1) := by
  funext q
  unfold upto
  by_cases e : q = i
  · subst e; rw [if_pos rfl, if_pos (by omega)]
  · rw [if_neg e]
    by_cases h : q < i
    · rw [if_pos h, if_pos (by omega)]
    · rw [if_neg h, if_neg (by omega)]
theorem OwnR.made (W : World) (n lo : Nat) (hn : n ≤ maxLen) (hlo : lo ≤ W.heap.size) (R : Nat → List Int) :
    OwnR 3 37 (W.alloc (.cells (madeCells #[.slice none 0 0] n) 37)) (.slice (some ⟨W.heap.size, 0, none⟩) n n) n (upto R 0) lo (W.alloc (.cells (madeCells #[.slice none 0 0] n) 37)).heap.size :=
  .inr ⟨W.heap.size, n, _, rfl, Nat.le_refl _, hn, hlo, by simp, World.rowIs_made W (.slice none 0 0) n 37, fun j _ => by unfold upto; rw [if_neg (Nat.not_lt_zero _)]; exact OwnI.nil _ _ _ _, fun _ _ _ _ => .inl rfl⟩

set_option maxRecDepth 100000 in
set_option maxHeartbeats 4000000 in
theorem order_any (b n : Nat) (g : Nat → Nat) (w : World) (hg : GridAt w b g) (hT : Tab w) (hn : GridN g n) :
    Calls Tryd.prog 20 #[.pointer (some ⟨b, 0, none⟩)] w (RowsPost n (fun i => intsOf (elems (g i))) w) := by
  have hn2 := hn.le
  have hmk := run_make_row' (P := Tryd.prog) 22 37 (.slice none 0 0) 24 Tryd.underlying22 infoInts rfl .i64 .i64 n (by omega) (by omega)
  have hL0 : Look b g w w := ⟨hg, hT, Below.refl _ _, hg.lt⟩
  have hL1 := hL0.step ((Below.refl _ w).alloc (Nat.le_refl _) (.cells #[.slice none 0 0] 24))
  have hbx := Boxed.new w 24 (.slice none 0 0)
  have hcall := size_any b n g _ hL1.grid hn.le hn.some hn.none
  have HL1 := Lib.hid hL1
  have HBX := Lib.hid hbx
  clear hL0 hL1 hg hT hn hbx
  go_enter Tryd.func20, Tryd.ntmps20
  go_wp2_with (go_at_call 25; refine hcall.mono ?_; clear hcall; rintro e w1 ⟨rfl, hb1⟩; have HL2 := Lib.hid (HL1.out.step hb1); have HBX1 : Hid (Boxed w1 w.heap.size 24 (.slice none 0 0)) := Lib.hid ((hb1.block _ HBX.out.lt).trans HBX.out); clear hb1)
  clear hmk
  have HLa := Lib.hid (HL2.out.step ((Below.refl _ w1).alloc (Nat.le_refl _) (.cells (madeCells #[.slice none 0 0] n) 37)))
  have HBa := Lib.hid (HBX1.out.alloc (.cells (madeCells #[.slice none 0 0] n) 37))
  have HOa := Lib.hid (OwnR.made w1 n (w.heap.size + 1) (by unfold maxLen; omega) HBX1.out.lt (fun i => intsOf (elems (g i))))
  have hwl : w.heap.size < w1.heap.size := HBX1.out.lt
  go_loopw [10] (fun iv wr => ∃ i : Nat, i ≤ n ∧ iv = .int .i64 i ∧ OwnR 3 37 wr (.slice (some ⟨w1.heap.size, 0, none⟩) n n) n (upto (fun i => intsOf (elems (g i))) i) (w.heap.size + 1) wr.heap.size ∧ Boxed wr w.heap.size 24 (.slice none 0 0) ∧ Look b g w wr) (fun iv _ => n - (intOf iv).toNat)
  case atStart => exact ⟨0, Nat.zero_le _, rfl, HOa.out, HBa.out, HLa.out⟩
  case round =>
    obtain ⟨i, hi, rfl, ho, hbx, hL⟩ := hrel
    have HO := Lib.hid ho
    have HB := Lib.hid hbx
    have HL := Lib.hid hL
    clear HLa HBa HOa
    by_cases hlt : i < n
    · have hi0 : (0 : Int) ≤ (i : Int) := by omega
      have hi1 : (i : Int) < 200 := by omega
      obtain ⟨c0, c1, c2, c3⟩ := hL.grid.row i (by omega)
      have HCALL := Lib.hid (list_any (g i) wr (hL.grid.2 i) hL.tab)
      clear ho hbx hL
      go_wp2_with fail
      refine HCALL.out.mono ?_
      clear HCALL
      rintro e w2 ⟨v', rfl, hv', hb2⟩
      obtain ⟨⟨u, hu⟩, hfz, hgl⟩ := HO.out.cellOf hlt
      have hu2 : w2.cell? ⟨w1.heap.size, i, none⟩ = some u := (hb2.cell (p := ⟨w1.heap.size, i, none⟩) hgl).trans hu
      have hf2 : w2.frozen? ⟨w1.heap.size, i, none⟩ = false := (hb2.frozen (p := ⟨w1.heap.size, i, none⟩) hgl).trans hfz
      have HV := Lib.hid hv'
      have HB2 := Lib.hid hb2
      obtain ⟨a', C', rfl⟩ := hv'.form
      clear hv' hb2 hu hfz c0 c1 c2 c3
      go_wp2
      go_roundw
      case rel =>
        have hls := HL.out.step HB2.out
        refine ⟨i + 1, by omega, by go_num, ?_, ?_, hls.set (p := w1.heap.size) HL2.out.below.size _ _⟩
        · rw [← upto_step]
          exact HO.out.fill HB2.out HV.out
        · exact (Below.heap_setCell _ _ _ w.heap.size (show w.heap.size ≠ w1.heap.size by omega)).trans ((HB2.out.block _ HB.out.lt).trans HB.out)
      case measure => simp [intOf]; omega
    · obtain rfl : i = n := by omega
      have hres := hbx.cell
      have hfr := hbx.frozen
      have hc9 := World.cell?_setCell_same' wr ⟨w.heap.size, 0, none⟩ (.slice (some ⟨w1.heap.size, 0, none⟩) i i) (by rw [hres]; rfl)
      clear ho hbx hL
      go_wp2
      refine bodyPost_ret (v := .agg #[.slice (some ⟨w1.heap.size, 0, none⟩) i i]) (by simp [results, Tryd.results20, go_sem, hc9]) rfl ?_
      refine ⟨_, rfl, ?_, HL.out.below.setCell (p := ⟨w.heap.size, 0, none⟩) (Nat.le_refl _) _⟩
      rw [size_setCell]
      exact ((HO.out.kept fun b' hb' _ => Below.heap_setCell _ _ _ b' (show b' ≠ w.heap.size by omega)).wider (by omega) (Nat.le_refl _)).congr fun j hj => by unfold upto; rw [if_pos hj]
end Go.Proofs.YtcggjhmjjpclhaaDoor
