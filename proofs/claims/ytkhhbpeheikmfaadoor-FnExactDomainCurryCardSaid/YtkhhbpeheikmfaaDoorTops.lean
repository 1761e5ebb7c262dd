/- The program's least element and join of an order (grid.least, grid.join). -/
import Derived.Test.YtkhhbpeheikmfaaDoorBottom
namespace Go.Proofs.YtkhhbpeheikmfaaDoor
open Go.RowKit Go.Deep Go.Shelf

theorem least_any (b n : Nat) (g : Nat → Nat) (w : World) (hg : GridAt w b g) (hT : Tab w) (hn : GridN g n) :
    Calls Tryd.prog 83 #[.pointer (some ⟨b, 0, none⟩)] w (SaysI (bottomF g (allF n)) w) := by
  have hall := all_any b n g w hg hn
  have hn2 := hn.le
  have HG := Lib.hid hg
  have HT := Lib.hid hT
  clear hg hT hn
  go_enter Tryd.func83, Tryd.ntmps83
  go_wp2_with (first | (go_at_call 75; refine hall.mono ?_; clear hall; rintro e w1 ⟨rfl, hb1⟩; have HB1 := Lib.hid hb1; clear hb1) | (go_at_call 85; refine (bottom_any b (allF n) g w1 (HG.out.below HB1.out HG.out.lt) (HT.out.below HB1.out) (allF_lt (by omega)) (fun k hk => by rw [elems_allF (by omega), List.mem_range] at hk; omega)).mono ?_; rintro e w2 ⟨rfl, hb2⟩; have HB2 := Lib.hid (HB1.out.trans (hb2.mono HB1.out.size)); clear hb2))
  go_ret
  exact ⟨rfl, HB2.out⟩

end Go.Proofs.YtkhhbpeheikmfaaDoor
