/- The walks of rowsOf and built at sum. -/
import Derived.Test.YtjlemkmpmjdjaaaDoorPa23
import Derived.Test.YtjlemkmpmjdjaaaDoorPa20
import Derived.Test.YtjlemkmpmjdjaaaDoorPa8
namespace Go.Proofs.YtjlemkmpmjdjaaaDoor
open Go.RowKit Go.Deep Go.Shelf

end Go.Proofs.YtjlemkmpmjdjaaaDoor

/- The program's DomainSum. -/
namespace Go.Proofs.YtjlemkmpmjdjaaaDoor
open Go.RowKit Go.Deep Go.Shelf

/-- What domainOf answers: a pointer, and whether there is one. -/
def DomP (rows : Rows2) (w : World) (e : Ending) (w' : World) : Prop :=
  (∃ q, e = .returned (.tuple #[.pointer q, .bool (domB rows)]) ∧ (domB rows = true → ∃ p, q = some ⟨p, 0, none⟩ ∧ GridAt w' p (gridF rows))) ∧ Below w.heap.size w w'
/-- Two orders in their variables, and the result's. -/
structure TwoR (w : World) (v v' : Value) (rows rows' : Rows2) (W : World) : Prop where
  r0 : RowsAt W v rows
  r1 : RowsAt W v' rows'
  c0 : W.cell? ⟨w.heap.size, 0, none⟩ = some v
  c1 : W.cell? ⟨w.heap.size + 1, 0, none⟩ = some v'
  res : Boxed W (w.heap.size + 2) 25 (.slice none 0 0)
  below : Below w.heap.size w W
theorem TwoR.step {w : World} {v v' : Value} {rows rows' : Rows2} {W W' : World} (h : TwoR w v v' rows rows' W) (hb : Below W.heap.size W W') : TwoR w v v' rows rows' W' :=
  ⟨h.r0.below hb, h.r1.below hb, (hb.cell (p := ⟨w.heap.size, 0, none⟩) (cell_lt h.c0)).trans h.c0, (hb.cell (p := ⟨w.heap.size + 1, 0, none⟩) (cell_lt h.c1)).trans h.c1, (hb.block _ h.res.lt).trans h.res, h.below.trans (hb.mono h.below.size)⟩
theorem TwoR.start (w : World) {v v' : Value} {rows rows' : Rows2} (hv : RowsAt w v rows) (hv' : RowsAt w v' rows') :
    TwoR w v v' rows rows' (((w.alloc (.cells #[v] 25)).alloc (.cells #[v'] 25)).alloc (.cells #[.slice none 0 0] 25)) := by
  have s1 : (w.alloc (.cells #[v] 25)).heap.size = w.heap.size + 1 := World.size_alloc _ _
  have s2 : ((w.alloc (.cells #[v] 25)).alloc (.cells #[v'] 25)).heap.size = w.heap.size + 2 := by rw [World.size_alloc, s1]
  have b1 := ((Below.refl w.heap.size w).alloc (Nat.le_refl _) (.cells #[v] 25)).alloc (by rw [s1]; omega) (.cells #[v'] 25)
  have b2 := b1.alloc (by rw [s2]; omega) (.cells #[.slice none 0 0] 25)
  have x0 := ((Boxed.new w 25 v).alloc (.cells #[v'] 25)).alloc (.cells #[.slice none 0 0] 25)
  have x1 := (Boxed.new (w.alloc (.cells #[v] 25)) 25 v').alloc (.cells #[.slice none 0 0] 25)
  have x2 := Boxed.new ((w.alloc (.cells #[v] 25)).alloc (.cells #[v'] 25)) 25 (.slice none 0 0)
  rw [s1] at x1
  rw [s2] at x2
  exact ⟨hv.below b2, hv'.below b2, x0.cell, x1.cell, x2, b2⟩

theorem sum_refl {rows rows' : Rows2} (hok : Ok rows) (hok' : Ok rows') : ∀ q, q < 1 + rows.length + rows'.length → sumB (gridF rows) (gridF rows') rows.length q q = true := fun q hq => by
  unfold sumB
  by_cases h0 : q = 0
  · rw [if_pos h0]
  · rw [if_neg h0, if_neg h0]
    by_cases h1 : q ≤ rows.length
    · rw [if_pos h1, if_pos h1]
      exact hok.own (q - 1) (by omega)
    · rw [if_neg h1, if_neg h1]
      exact hok'.own (q - 1 - rows.length) (by omega)
/-- What DomainSum answers. -/
noncomputable def sumOk (rows rows' : Rows2) : Bool := domB rows && domB rows' && decide (1 + rows.length + rows'.length ≤ 200)
noncomputable def sumRow (rows rows' : Rows2) (q : Nat) : List Int := bRow (sumB (gridF rows) (gridF rows') rows.length) q (1 + rows.length + rows'.length)
noncomputable def sumL (rows rows' : Rows2) : Rows2 := if sumOk rows rows' = true then (List.range (1 + rows.length + rows'.length)).map (sumRow rows rows') else []
theorem sumL_yes {rows rows' : Rows2} (h : sumOk rows rows' = true) : (sumL rows rows').length = 1 + rows.length + rows'.length ∧ ∀ q, q < 1 + rows.length + rows'.length → rowsF (sumL rows rows') q = sumRow rows rows' q := by
  unfold sumL
  rw [if_pos h]
  refine ⟨by simp, fun q hq => ?_⟩
  rw [rowsF_lt (by simpa using hq)]
  simp
theorem sumL_no {rows rows' : Rows2} (h : sumOk rows rows' = false) : sumL rows rows' = [] := by unfold sumL; rw [if_neg (by rw [h]; simp)]
/-- No order. -/
theorem orderP_no {xs : Rows2} {t : Bool} {w W : World} {b : Nat} (hx : xs = []) (ht : t = false) (hb : Below w.heap.size w W) (hl : w.heap.size ≤ b) (u : Value) : OrderP xs t w (.returned (.tuple #[.agg #[.slice none 0 0], .bool false])) (W.setCell ⟨b, 0, none⟩ u) := by
  subst hx ht
  exact ⟨_, rfl, OwnR.nil _ _ _ _ _ _, hb.setCell (p := ⟨b, 0, none⟩) hl _⟩

end Go.Proofs.YtjlemkmpmjdjaaaDoor

/- The program's DomainProduct. -/
namespace Go.Proofs.YtjlemkmpmjdjaaaDoor
open Go.RowKit Go.Deep Go.Shelf

theorem prod_refl {rows rows' : Rows2} (hok : Ok rows) (hok' : Ok rows') : ∀ q, q < rows.length * rows'.length → prodB (gridF rows) (gridF rows') rows'.length q q = true := fun q hq => by
  have h0 : 0 < rows'.length := Nat.pos_of_ne_zero fun e => by rw [e, Nat.mul_zero] at hq; omega
  unfold prodB
  rw [hok.own _ ((Nat.div_lt_iff_lt_mul h0).2 hq), hok'.own _ (Nat.mod_lt _ h0)]
  rfl

/-- What DomainProduct answers. -/
noncomputable def prodOk (rows rows' : Rows2) : Bool := domB rows && domB rows' && decide (rows.length * rows'.length ≤ 200)
noncomputable def prodRow (rows rows' : Rows2) (q : Nat) : List Int := bRow (prodB (gridF rows) (gridF rows') rows'.length) q (rows.length * rows'.length)
noncomputable def prodL (rows rows' : Rows2) : Rows2 := if prodOk rows rows' = true then (List.range (rows.length * rows'.length)).map (prodRow rows rows') else []
theorem prodL_yes {rows rows' : Rows2} (h : prodOk rows rows' = true) : (prodL rows rows').length = rows.length * rows'.length ∧ ∀ q, q < rows.length * rows'.length → rowsF (prodL rows rows') q = prodRow rows rows' q := by
  unfold prodL
  rw [if_pos h]
  refine ⟨by simp, fun q hq => ?_⟩
  rw [rowsF_lt (by simpa using hq)]
  simp
theorem prodL_no {rows rows' : Rows2} (h : prodOk rows rows' = false) : prodL rows rows' = [] := by unfold prodL; rw [if_neg (by rw [h]; simp)]
end Go.Proofs.YtjlemkmpmjdjaaaDoor

/- The rows of a product, in the model's words and in the program's. -/
namespace Go.Proofs.YtjlemkmpmjdjaaaDoor
open Go.RowKit Go.Deep

theorem flat_filterR {α β : Type} (G : α → Bool) (f : α → List β) : ∀ xs : List α, (xs.filter G).flatMap f = xs.flatMap fun j => if G j = true then f j else []
  | [] => rfl
  | x :: xs => by
    rw [List.filter_cons]
    cases h : G x with
    | true => rw [if_pos rfl, List.flatMap_cons, List.flatMap_cons, flat_filterR G f xs, if_pos h]
    | false => rw [if_neg (by simp), List.flatMap_cons, flat_filterR G f xs, if_neg (by rw [h]; simp), List.nil_append]
theorem range_flat {n' : Nat} (hn : 0 < n') (G H : Nat → Bool) : ∀ m, (List.range (m * n')).filter (fun k => G (k / n') && H (k % n')) = (List.range m).flatMap fun j => if G j = true then ((List.range n').filter H).map (fun r => j * n' + r) else []
  | 0 => by simp
  | m + 1 => by
    rw [Nat.succ_mul, List.range_add, List.filter_append, range_flat hn G H m, List.range_succ, List.flatMap_append]
    congr 1
    rw [List.flatMap_cons, List.flatMap_nil, List.append_nil, List.filter_map]
    have h : ∀ r ∈ List.range n', ((fun k => G (k / n') && H (k % n')) ∘ fun x => m * n' + x) r = (G m && H r) := fun r hr => by
      rw [List.mem_range] at hr
      show (G ((m * n' + r) / n') && H ((m * n' + r) % n')) = _
      rw [Nat.add_comm, Nat.add_mul_div_right _ _ hn, Nat.add_mul_mod_self_right, Nat.div_eq_of_lt hr, Nat.mod_eq_of_lt hr, Nat.zero_add]
    rw [List.filter_congr h]
    cases hG : G m with
    | true => simp
    | false => simp

/-- Row q of the product when i elements of the first one's row have been looked at. -/
def catP (rows rows' : Rows2) (q i : Nat) : List Int := ((rowsF rows (q / rows'.length)).take i).flatMap fun x => movedN (rowsF rows' (q % rows'.length)) (x * (rows'.length : Int)) (rowsF rows' (q % rows'.length)).length
def prodR (rows rows' : Rows2) (q : Nat) : List Int := catP rows rows' q (rowsF rows (q / rows'.length)).length
theorem elems_row {rows : Rows2} (h : Ok rows) {i : Nat} (hi : i < rows.length) : rowsF rows i = ((List.range rows.length).filter fun k => (gridF rows i).testBit k).map fun k : Nat => (k : Int) := by
  rw [rowsF_lt hi, h.elems hi]
  congr 1
  unfold elems
  exact filter_short (fun k hk => (h.bit_lt hk).2) (by have := h.len.2; omega)
theorem prodR_row {rows rows' : Rows2} (h : Ok rows) (h' : Ok rows') {q : Nat} (hq : q < rows.length * rows'.length) : prodR rows rows' q = prodRow rows rows' q := by
  have hn := h'.len.1
  have hqa : q / rows'.length < rows.length := Nat.div_lt_of_lt_mul (by rw [Nat.mul_comm]; exact hq)
  have hra : q % rows'.length < rows'.length := Nat.mod_lt _ (by omega)
  unfold prodR catP prodRow bRow prodB movedN
  rw [List.take_length, List.take_length, elems_row h hqa, elems_row h' hra, List.flatMap_map, flat_filterR, range_flat (by omega) (fun k => (gridF rows (q / rows'.length)).testBit k) (fun k => (gridF rows' (q % rows'.length)).testBit k), List.map_flatMap]
  congr 1
  funext j
  by_cases hb : (gridF rows (q / rows'.length)).testBit j = true
  · rw [if_pos hb, if_pos hb, List.map_map, List.map_map]
    apply List.map_congr_left
    intro r _
    show (r : Int) + (j : Int) * (rows'.length : Int) = ((j * rows'.length + r : Nat) : Int)
    rw [Int.natCast_add, Int.natCast_mul, Int.add_comm]
  · rw [if_neg hb, if_neg hb]
    rfl
theorem catP_succ {rows rows' : Rows2} {q i : Nat} (hi : i < (rowsF rows (q / rows'.length)).length) : catP rows rows' q (i + 1) = catP rows rows' q i ++ movedN (rowsF rows' (q % rows'.length)) ((rowsF rows (q / rows'.length))[i] * (rows'.length : Int)) (rowsF rows' (q % rows'.length)).length := by
  unfold catP
  rw [List.take_succ_eq_append_getElem hi, List.flatMap_append]
  simp
theorem catP_len {rows rows' : Rows2} {q : Nat} : ∀ i, i ≤ (rowsF rows (q / rows'.length)).length → (catP rows rows' q i).length = i * (rowsF rows' (q % rows'.length)).length
  | 0, _ => by unfold catP; simp
  | i + 1, h => by
    rw [catP_succ h, List.length_append, catP_len i (by omega), movedN_length (Nat.le_refl _), Nat.succ_mul]
theorem catP_range {rows rows' : Rows2} (h : Ok rows) (h' : Ok rows') {q i : Nat} (hq : q < rows.length * rows'.length) : ∀ x ∈ catP rows rows' q i, 0 ≤ x ∧ x ≤ 1048576 := by
  intro x hx
  have hn := h'.len
  have hqa : q / rows'.length < rows.length := Nat.div_lt_of_lt_mul (by rw [Nat.mul_comm]; exact hq)
  have hra : q % rows'.length < rows'.length := Nat.mod_lt _ (by omega)
  unfold catP at hx
  obtain ⟨y, hy, hxy⟩ := List.mem_flatMap.1 hx
  have hy2 := List.mem_of_mem_take hy
  rw [rowsF_lt hqa] at hy2
  have ry := (h.asc _ hqa).2 y hy2
  unfold movedN at hxy
  rw [List.take_length] at hxy
  obtain ⟨z, hz, rfl⟩ := List.mem_map.1 hxy
  rw [rowsF_lt hra] at hz
  have rz := (h'.asc _ hra).2 z hz
  have hl := h.len.2
  have h1 := Int.mul_nonneg ry.1 (show (0 : Int) ≤ (rows'.length : Int) by omega)
  have h2 : y * (rows'.length : Int) ≤ 200 * 200 := Int.mul_le_mul (by omega) (by omega) (by omega) (by omega)
  omega
end Go.Proofs.YtjlemkmpmjdjaaaDoor
