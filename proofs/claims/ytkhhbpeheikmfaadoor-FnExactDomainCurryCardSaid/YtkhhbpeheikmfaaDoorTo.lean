/- The laws' own copies of an argument (toIntS, toIntSS, toOrder): new memory that reads as the argument. -/
import Derived.Test.YtkhhbpeheikmfaaDoorProg
import Derived.Test.YtkhhbpeheikmfaaDoorMem
import Derived.LoopTactic
import Derived.RegionTactic
import Derived.Outline
namespace Go.Proofs.YtkhhbpeheikmfaaDoor
open Go.RowKit Go.Deep

theorem infoInt : (Tryd.prog.info? 3).map (fun i => (i.zero, i.size, i.bytes)) = some (some (.int .i64 0), 1, 8) := by kernel_rfl
theorem infoInts : (Tryd.prog.info? 37).map (fun i => (i.zero, i.size, i.bytes)) = some (some (.slice none 0 0), 1, 24) := by kernel_rfl

/-- A copy of xs lies in new memory. -/
def ToInts (xs : List Int) (w : World) (e : Ending) (w' : World) : Prop :=
  e = .returned (whole w.heap.size xs.length) ∧ OwnInts 3 w' w.heap.size xs ∧ w'.heap.size = w.heap.size + 1 ∧ Below w.heap.size w w'

/-- What the new block holds when k elements have been copied. -/
def someInts (xs : List Int) (k i : Nat) : Value := if i < k then intCell xs i else .int .i64 0

set_option maxHeartbeats 1000000 in
theorem toIntS_any (v : Value) (xs : List Int) (w : World) (hv : IntsAt w v xs) (hn : xs.length ≤ 1048576) :
    Calls Tryd.prog 22 #[v] w (ToInts xs w) := by
  have hv0 := hv
  obtain ⟨a, C, rfl, hC, hm, hwf, hx⟩ := hv
  unfold maxLen at hm
  have hmk := run_make_row' (P := Tryd.prog) 37 3 (.int .i64 0) 8 Tryd.underlying37 infoInt rfl .i64 .i64 xs.length (by omega) (by omega)
  go_enter Tryd.func22, Tryd.ntmps22
  go_wp2
  clear hmk
  go_loopw [4] (fun i wr => ∃ k : Nat, k ≤ xs.length ∧ i = .int .i64 k ∧ wr.rowIs w.heap.size 3 xs.length (someInts xs k) ∧ wr.heap.size = w.heap.size + 1 ∧ Below w.heap.size w wr) (fun i _ => xs.length - (intOf i).toNat)
  case atStart =>
    exact ⟨0, Nat.zero_le _, rfl, (World.rowIs_made w (.int .i64 0) xs.length 3).congr (fun i _ => by simp [someInts]), by simp, (Below.refl _ w).alloc (Nat.le_refl _) _⟩
  case round =>
    obtain ⟨k, hk, rfl, hr, hz, hb⟩ := hrel
    by_cases hlt : k < xs.length
    · obtain ⟨b, o, rfl, hc⟩ := hx k hlt
      have hc' : wr.cell? ⟨b, o + k, none⟩ = some (.int .i64 xs[k]) := by rw [hb.cell (p := ⟨b, o + k, none⟩) (cell_lt hc)]; exact hc
      obtain ⟨v3, h3⟩ : ∃ v3, wr.cell? ⟨w.heap.size, k, none⟩ = some v3 := ⟨_, hr.cell hlt⟩
      have hf := hr.frozen k
      clear hc hx
      go_wp2
      go_roundw
      case rel =>
        refine ⟨k + 1, by omega, by go_num, (hr.set k _).congr (fun i _ => ?_), by simpa [World.setCell] using hz, hb.setCell (Nat.le_refl _) _⟩
        unfold someInts
        by_cases e : i = k
        · subst e; rw [if_pos rfl, if_pos (by omega), intCell_lt hlt]
        · rw [if_neg e]; by_cases h : i < k
          · rw [if_pos h, if_pos (by omega)]
          · rw [if_neg h, if_neg (by omega)]
      case measure => simp [intOf]; omega
    · obtain rfl : k = xs.length := by omega
      go_wp2
      go_ret
      exact ⟨rfl, ⟨hr.congr (fun i hi => if_pos hi), hwf⟩, hz, hb⟩

/-- What the outer block holds when k rows have been copied. -/
def someRows (B : Nat) (rows : Rows2) (k i : Nat) : Value := if i < k then rowCell (fun j => B + 1 + j) rows i else .slice none 0 0

/-- A copy of the rows lies in new memory. -/
def ToRows (rows : Rows2) (w : World) (w' : World) : Prop :=
  OwnRows 3 37 w' w.heap.size w'.heap.size (fun j => w.heap.size + 1 + j) rows ∧ Below w.heap.size w w'
def ToIntss (rows : Rows2) (w : World) (e : Ending) (w' : World) : Prop :=
  e = .returned (whole w.heap.size rows.length) ∧ ToRows rows w w'

set_option maxHeartbeats 1000000 in
theorem toIntSS_any (v : Value) (rows : Rows2) (w : World) (hv : RowsAt w v rows) (hn : bulk rows ≤ 1048576) :
    Calls Tryd.prog 37 #[v] w (ToIntss rows w) := by
  obtain ⟨a, C, rfl, hC, hm, hx⟩ := hv
  unfold maxLen at hm
  have hlen : rows.length ≤ 1048576 := by unfold bulk at hn; omega
  have hmk := run_make_row' (P := Tryd.prog) 22 37 (.slice none 0 0) 24 Tryd.underlying22 infoInts rfl .i64 .i64 rows.length (by omega) (by omega)
  go_enter Tryd.func37, Tryd.ntmps37
  go_wp2
  clear hmk
  go_loopw [4] (fun i wr => ∃ k : Nat, k ≤ rows.length ∧ i = .int .i64 k ∧ wr.rowIs w.heap.size 37 rows.length (someRows w.heap.size rows k) ∧ wr.heap.size = w.heap.size + 1 + k ∧ (∀ j, j < k → OwnInts 3 wr (w.heap.size + 1 + j) (rows.getD j [])) ∧ Below w.heap.size w wr) (fun i _ => rows.length - (intOf i).toNat)
  case atStart =>
    exact ⟨0, Nat.zero_le _, rfl, (World.rowIs_made w (.slice none 0 0) rows.length 37).congr (fun i _ => by simp [someRows]), by simp, fun j hj => absurd hj (Nat.not_lt_zero _), (Below.refl _ w).alloc (Nat.le_refl _) _⟩
  case round =>
    obtain ⟨k, hk, rfl, hr, hz, ho, hb⟩ := hrel
    by_cases hlt : k < rows.length
    · obtain ⟨b, o, u, rfl, hc, hu⟩ := hx k hlt
      have hc' : wr.cell? ⟨b, o + k, none⟩ = some u := by rw [hb.cell (p := ⟨b, o + k, none⟩) (cell_lt hc)]; exact hc
      have hu' := hu.below hb
      have hbk := bulk_row hlt
      have hcall := toIntS_any u rows[k] wr hu' (by omega)
      obtain ⟨a', C', rfl, _⟩ := hu
      have HO := Lib.hid ho
      have HX := Lib.hid hx
      have HZ := Lib.hid hz
      clear hc hx ho hz
      go_wp2_with (go_at_call 22; refine hcall.mono ?_; clear hcall; rintro e w1 ⟨rfl, hI, hz1, hb1⟩; have hlt1 : w.heap.size < wr.heap.size := by { have := HZ.out; omega }; have hr1 := rowIs_below hr hb1 hlt1; obtain ⟨v3, h3⟩ : ∃ v3, w1.cell? ⟨w.heap.size, k, none⟩ = some v3 := ⟨_, hr1.cell hlt⟩; have hf := hr1.frozen k)
      go_roundw
      case rel =>
        have hz := HZ.out
        refine ⟨k + 1, by omega, by go_num, (hr1.set k _).congr (fun i _ => ?_), by simp [World.setCell]; omega, fun j hj => ?_, (hb.trans (hb1.mono (by omega))).setCell (Nat.le_refl _) _⟩
        · unfold someRows
          by_cases e : i = k
          · subst e
            rw [if_pos rfl, if_pos (by omega)]
            show Value.slice _ _ _ = Value.slice _ _ _
            rw [getD_lt [] hlt, hz]
          · rw [if_neg e]; by_cases h : i < k
            · rw [if_pos h, if_pos (by omega)]
            · rw [if_neg h, if_neg (by omega)]
        · by_cases e : j = k
          · subst e
            rw [← hz, getD_lt [] hlt]
            exact hI.setOther (a := ⟨w.heap.size, _, none⟩) (by show wr.heap.size ≠ w.heap.size; omega) _
          · exact ((HO.out j (by omega)).below hb1 (by omega)).setOther (a := ⟨w.heap.size, _, none⟩) (by show w.heap.size + 1 + j ≠ w.heap.size; omega) _
      case measure => simp [intOf]; omega
    · obtain rfl : k = rows.length := by omega
      go_wp2
      go_ret
      refine ⟨rfl, ⟨hr.congr (fun i hi => if_pos hi), by omega, fun j hj => ⟨by dsimp only; omega, by dsimp only; omega, ho j hj⟩, fun i j hi _ => by dsimp only; omega⟩, hb⟩

/-- A copy of an order lies in new memory. -/
def ToOrder (rows : Rows2) (w : World) (e : Ending) (w' : World) : Prop :=
  ∃ g G, e = .returned (.agg #[whole g rows.length]) ∧ w.heap.size ≤ g ∧ OwnRows 3 37 w' g w'.heap.size G rows ∧ Below w.heap.size w w'

set_option maxHeartbeats 1000000 in
theorem toOrder_any (v : Value) (rows : Rows2) (w : World) (hv : RowsAt w v rows) (hn : bulk rows ≤ 1048576) :
    Calls Tryd.prog 11 #[.agg #[v]] w (ToOrder rows w) := by
  have b3 : Below w.heap.size w (((w.alloc (.cells #[v] 24)).alloc (.cells #[.slice none 0 0] 26)).alloc (.cells #[.slice none 0 0] 26)) :=
    (((Below.refl _ w).alloc (Nat.le_refl _) _).alloc (by simp) _).alloc (by simp; omega) _
  have hcall := toIntSS_any v rows _ (hv.below b3) hn
  obtain ⟨a, C, rfl, _⟩ := hv
  go_enter Tryd.func11, Tryd.ntmps11
  go_wp2_with (go_at_call 37; refine hcall.mono ?_; clear hcall; rintro e w1 ⟨rfl, ho, hb1⟩; have ⟨hc, hf⟩ := bcell hb1; have hz : w.heap.size + 3 < w1.heap.size := (by have h := ho.2.1; simp at h; omega))
  have ⟨hc, hf⟩ := bcell hb1
  refine bodyPost_ret (v := .agg #[whole (w.heap.size + 3) rows.length]) (by simp [results, Tryd.results11, go_sem, hc]) rfl ?_
  simp only [World.size_alloc, Nat.add_assoc, Nat.reduceAdd] at ho
  obtain ⟨G, ho⟩ : ∃ G, OwnRows 3 37 w1 (w.heap.size + 3) w1.heap.size G rows := ⟨_, ho⟩
  have h2 := (ho.setLow (a := ⟨w.heap.size + 2, 0, none⟩) (by show w.heap.size + 2 < _; omega) (whole (w.heap.size + 3) rows.length)).setLow (a := ⟨w.heap.size + 1, 0, none⟩) (by show w.heap.size + 1 < _; omega) (whole (w.heap.size + 3) rows.length)
  refine ⟨w.heap.size + 3, G, rfl, by omega, ?_, ((b3.trans (hb1.mono (by simp only [World.size_alloc]; omega))).setCell (by show _ ≤ w.heap.size + 2; omega) _).setCell (by show _ ≤ w.heap.size + 1; omega) _⟩
  simp only [size_setCell]
  exact h2
end Go.Proofs.YtkhhbpeheikmfaaDoor
