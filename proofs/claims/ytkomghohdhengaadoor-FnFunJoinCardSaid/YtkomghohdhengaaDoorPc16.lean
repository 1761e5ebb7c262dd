/- The program's least element and join of an order (grid.least, grid.join). -/
import Derived.Test.YtkomghohdhengaaDoorPc12
namespace Go.Proofs.YtkomghohdhengaaDoor
open Go.RowKit Go.Deep Go.Shelf

theorem least_any (b n : Nat) (g : Nat → Nat) (w : World) (hg : GridAt w b g) (hT : Tab w) (hn : GridN g n) :
    Calls Tryd.prog 92 #[.pointer (some ⟨b, 0, none⟩)] w (SaysI (bottomF g (allF n)) w) := by
  have hall := all_any b n g w hg hn
  have hn2 := hn.le
  have HG := Lib.hid hg
  have HT := Lib.hid hT
  clear hg hT hn
  go_enter Tryd.func92, Tryd.ntmps92
  go_wp2_with (first | (go_at_call 141; refine hall.mono ?_; clear hall; rintro e w1 ⟨rfl, hb1⟩; have HB1 := Lib.hid hb1; clear hb1) | (go_at_call 130; refine (bottom_any b (allF n) g w1 (HG.out.below HB1.out HG.out.lt) (HT.out.below HB1.out) (allF_lt (by omega)) (fun k hk => by rw [elems_allF (by omega), List.mem_range] at hk; omega)).mono ?_; rintro e w2 ⟨rfl, hb2⟩; have HB2 := Lib.hid (HB1.out.trans (hb2.mono HB1.out.size)); clear hb2))
  go_ret
  exact ⟨rfl, HB2.out⟩

set_option maxHeartbeats 2000000 in
theorem join_any (b i j : Nat) (x y : Int) (g : Nat → Nat) (w : World) (hg : GridAt w b g) (hT : Tab w) (hx : x = i) (hy : y = j) (hi : i < 200) (hj : j < 200) (hbit : ∀ k, (g i).testBit k = true → k < 200) :
    Calls Tryd.prog 75 #[.pointer (some ⟨b, 0, none⟩), .int .i64 x, .int .i64 y] w (SaysI (bottomF g (g i &&& g j)) w) := by
  subst hx hy
  obtain ⟨c0, c1, c2, c3⟩ := hg.row i hi
  obtain ⟨d0, d1, d2, d3⟩ := hg.row j hj
  have hi0 : (0 : Int) ≤ (i : Int) := by omega
  have hi1 : (i : Int) < 200 := by omega
  have hj0 : (0 : Int) ≤ (j : Int) := by omega
  have hj1 : (j : Int) < 200 := by omega
  have hlt : g i &&& g j < 2 ^ 256 := by rw [Nat.and_comm]; exact Nat.and_lt_two_pow _ (hg.2 i)
  have hel : ∀ k ∈ elems (g i &&& g j), k < 200 := fun k hk => by
    rw [mem_elems hlt, Nat.testBit_and, Bool.and_eq_true] at hk
    exact hbit k hk.1
  have HG := Lib.hid hg
  have HT := Lib.hid hT
  have HLT := Lib.hid hlt
  have HEL := Lib.hid hel
  clear hg hT hbit hlt hel
  go_enter Tryd.func75, Tryd.ntmps75
  go_wp2
  go_region_with (first | (go_at_call 131; refine (and_any _ _ _).mono ?_; rintro e w1 ⟨rfl, hb1⟩; have HB1 := Lib.hid ((Below.refl w.heap.size w).drew.trans hb1); clear hb1) | (go_at_call 130; refine (bottom_any b (g i &&& g j) g w1 (HG.out.below HB1.out HG.out.lt) (HT.out.below HB1.out) HLT.out HEL.out).mono ?_; rintro e w2 ⟨rfl, hb2⟩; have HB2 := Lib.hid (HB1.out.trans (hb2.mono HB1.out.size)); clear hb2))
  all_goals
    go_wp2
    go_ret
    exact ⟨rfl, HB2.out⟩
end Go.Proofs.YtkomghohdhengaaDoor


