/- The laws' own copies of an argument (toIntS, toIntSS, toOrder): new memory that reads as the argument. -/
import Derived.Test.YtjmeclddogdfhaaDoorProg
import Derived.Test.YtjmeclddogdfhaaDoorMem
import Derived.LoopTactic
import Derived.RegionTactic
import Derived.Outline
namespace Go.Proofs.YtjmeclddogdfhaaDoor
open Go.RowKit Go.Deep

theorem infoInt : (Tryd.prog.info? 3).map (fun i => (i.zero, i.size, i.bytes)) = some (some (.int .i64 0), 1, 8) := by kernel_rfl
theorem infoInts : (Tryd.prog.info? 22).map (fun i => (i.zero, i.size, i.bytes)) = some (some (.slice none 0 0), 1, 24) := by kernel_rfl

/-- A copy of xs lies in new memory. -/
def ToInts (xs : List Int) (w : World) (e : Ending) (w' : World) : Prop :=
  e = .returned (whole w.heap.size xs.length) ∧ OwnInts 3 w' w.heap.size xs ∧ w'.heap.size = w.heap.size + 1 ∧ Below w.heap.size w w'

/-- What the new block holds when k elements have been copied. -/
def someInts (xs : List Int) (k i : Nat) : Value := if i < k then intCell xs i else .int .i64 0

set_option maxHeartbeats 1000000 in
theorem toIntS_any (v : Value) (xs : List Int) (w : World) (hv : IntsAt w v xs) (hn : xs.length ≤ 1048576) :
    Calls Tryd.prog 5 #[v] w (ToInts xs w) := by
  have hv0 := hv
  obtain ⟨a, C, rfl, hC, hm, hwf, hx⟩ := hv
  unfold maxLen at hm
  have hmk := run_make_row' (P := Tryd.prog) 22 3 (.int .i64 0) 8 Tryd.underlying22 infoInt rfl .i64 .i64 xs.length (by omega) (by omega)
  go_enter Tryd.func5, Tryd.ntmps5
  go_wp2
  clear hmk
  go_loopw [4] (fun i wr => ∃ k : Nat, k ≤ xs.length ∧ i = .int .i64 k ∧ wr.rowIs w.heap.size 3 xs.length (someInts xs k) ∧ wr.heap.size = w.heap.size + 1 ∧ Below w.heap.size w wr) (fun i _ => xs.length - (intOf i).toNat)
  case atStart =>
    exact ⟨0, Nat.zero_le _, rfl, (World.rowIs_made w (.int .i64 0) xs.length 3).congr (fun i _ => by simp [someInts]), by simp, (Below.refl _ w).alloc (Nat.le_refl _) _⟩
  case round =>
    obtain ⟨k, hk, rfl, hr, hz, hb⟩ := hrel
    by_cases hlt : k < xs.length
    · obtain ⟨b, o, rfl, hc⟩ := hx k hlt
      have hc' : wr.cell? ⟨b, o + k, none⟩ = some (.int .i64 xs[k]) := by rw [hb.cell (p := ⟨b, o + k, none⟩) (cell_lt hc)]; exact hc
      obtain ⟨v3, h3⟩ : ∃ v3, wr.cell? ⟨w.heap.size, k, none⟩ = some v3 := ⟨_, hr.cell hlt⟩
      have hf := hr.frozen k
      clear hc hx
      go_wp2
      go_roundw
      case rel =>
        refine ⟨k + 1, by omega, by go_num, (hr.set k _).congr (fun i _ => ?_), by simpa [World.setCell] using hz, hb.setCell (Nat.le_refl _) _⟩
        unfold someInts
        by_cases e : i = k
        · subst e; rw [if_pos rfl, if_pos (by omega), intCell_lt hlt]
        · rw [if_neg e]; by_cases h : i < k
          · rw [if_pos h, if_pos (by omega)]
          · rw [if_neg h, if_neg (by omega)]
      case measure => simp [intOf]; omega
    · obtain rfl : k = xs.length := by omega
      go_wp2
      go_ret
      exact ⟨rfl, ⟨hr.congr (fun i hi => if_pos hi), hwf⟩, hz, hb⟩

/-- What the outer block holds when k rows have been copied. -/
def someRows (B : Nat) (rows : Rows2) (k i : Nat) : Value := if i < k then rowCell (fun j => B + 1 + j) rows i else .slice none 0 0

/-- A copy of the rows lies in new memory. -/
def ToRows (rows : Rows2) (w : World) (w' : World) : Prop :=
  OwnRows 3 22 w' w.heap.size w'.heap.size (fun j => w.heap.size + 1 + j) rows ∧ Below w.heap.size w w'
def ToIntss (rows : Rows2) (w : World) (e : Ending) (w' : World) : Prop :=
  e = .returned (whole w.heap.size rows.length) ∧ ToRows rows w w'

/-- A copy of an order lies in new memory. -/
def ToOrder (rows : Rows2) (w : World) (e : Ending) (w' : World) : Prop :=
  ∃ g G, e = .returned (.agg #[whole g rows.length]) ∧ w.heap.size ≤ g ∧ OwnRows 3 22 w' g w'.heap.size G rows ∧ Below w.heap.size w w'

end Go.Proofs.YtjmeclddogdfhaaDoor
