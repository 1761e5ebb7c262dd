/- DomainFuns, on both sides. -/
import Derived.Test.YtkhhbpeheikmfaaDoorMidFc
import Derived.Test.YtkhhbpeheikmfaaDoorMidFb
namespace Go.Proofs.YtkhhbpeheikmfaaDoor
open Go.RowKit Go.Deep Go.Shelf

/-- A list of lists and a truth value. -/
def OwnRB (xs : Rows2) (t : Bool) (w : World) (e : Ending) (w' : World) : Prop :=
  ∃ v, e = .returned (.tuple #[v, .bool t]) ∧ OwnR 3 37 w' v xs.length (rowsF xs) w.heap.size w'.heap.size ∧ Below w.heap.size w w'
/-- What DomainFuns answers. -/
noncomputable def funsL (rows rows' : Rows2) : Rows2 := if funB rows rows' = true then I2 (funsR rows rows') else []
theorem funsL_yes {rows rows' : Rows2} (h : funB rows rows' = true) : funsL rows rows' = I2 (funsR rows rows') := if_pos h
theorem funsL_no {rows rows' : Rows2} (h : funB rows rows' = false) : funsL rows rows' = [] := if_neg (by rw [h]; simp)

set_option maxRecDepth 100000 in
set_option maxHeartbeats 8000000 in
theorem implFuns_any (v v' : Value) (rows rows' : Rows2) (w : World) (hv : RowsAt w v rows) (hv' : RowsAt w v' rows') (hT : Tab w) (hn : bulk rows ≤ 1048576) (hn' : bulk rows' ≤ 1048576) :
    Calls Tryd.prog 17 #[.agg #[v], .agg #[v']] w (OwnRB (funsL rows rows') (funB rows rows') w) := by
  have h0 := Two.start w 26 26 hv hv'
  have hfo := funsOf_any _ _ rows rows' _ h0.r0 h0.r1 (hT.below h0.below) hn hn'
  have hc0 := h0.c0
  have hc1 := h0.c1
  obtain ⟨A, C, rfl, _⟩ := hv
  obtain ⟨A', C', rfl, _⟩ := hv'
  have H0 := Lib.hid h0
  clear h0 hT
  go_enter Tryd.func17, Tryd.ntmps17
  go_wp2_with fail
  refine hfo.mono ?_
  rintro e w1 ⟨⟨u1, u2, rfl, hyes, hno⟩, hb1⟩
  have H1 := Lib.hid (H0.out.step hb1)
  clear hfo hc0 hc1
  have hz1 := H1.out.below.size
  have hz2 := H0.out.below.size
  cases hfb : funB rows rows' with
  | false =>
    obtain ⟨rfl, rfl⟩ := hno hfb
    have HE := Lib.hid hfb
    clear hyes hno hb1
    go_wp2
    go_ret2
    refine ⟨_, by rw [HE.out]; rfl, ?_, H1.out.below.alloc hz1 _⟩
    rw [funsL_no HE.out]
    exact OwnR.nil _ _ _ _ _ _
  | true =>
    obtain ⟨p', rfl, ho, hg'⟩ := hyes hfb
    obtain ⟨a1, C1, rfl⟩ := ho.form
    have hb2 := (Below.refl w1.heap.size w1).alloc (Nat.le_refl _) (.cells #[.slice a1 (funsR rows rows').length C1, gridV p'] 54)
    obtain ⟨n0, n1, n2⟩ := two_new w1 (.slice a1 (funsR rows rows').length C1) (gridV p') 54
    have HO := Lib.hid ((ho.below hb2 (Nat.le_refl _)).wider hz2 hb2.size)
    have HE := Lib.hid hfb
    clear hyes hno ho hg' hb1 hb2
    go_wp2
    go_ret2
    refine ⟨_, by rw [HE.out]; rfl, ?_, H1.out.below.alloc hz1 _⟩
    rw [funsL_yes HE.out, I2_len]
    exact HO.out

set_option maxRecDepth 100000 in
set_option maxHeartbeats 8000000 in
theorem specFuns_any (v v' : Value) (rows rows' : Rows2) (w : World) (hv : RowsAt w v rows) (hv' : RowsAt w v' rows') (hn : bulk rows ≤ 1048576) (hn' : bulk rows' ≤ 1048576) :
    Calls Tryd.prog 16 #[.agg #[v], .agg #[v']] w (OwnRB (funsL rows rows') (funB rows rows') w) := by
  have h0 := Two.start w 26 26 hv hv'
  have hall := all2_any _ _ rows rows' _ h0.r0 h0.r1 hn hn'
  have hc0 := h0.c0
  have hc1 := h0.c1
  obtain ⟨A, C, rfl, _⟩ := hv
  obtain ⟨A', C', rfl, _⟩ := hv'
  have H0 := Lib.hid h0
  clear h0
  go_enter Tryd.func16, Tryd.ntmps16
  go_wp2_with fail
  refine hall.mono ?_
  rintro e w1 ⟨⟨a1, m1, C1, rfl, hyes⟩, hb1⟩
  have H1 := Lib.hid (H0.out.step hb1)
  clear hall hc0 hc1 hb1
  have hz1 := H1.out.below.size
  have hz2 := H0.out.below.size
  cases hfb : funB rows rows' with
  | false =>
    have HE := Lib.hid hfb
    clear hyes
    have hnew : OwnR 3 37 (w1.alloc (.cells #[] 37)) (.slice (some ⟨w1.heap.size, 0, none⟩) 0 0) 0 (rowsF []) w.heap.size (w1.alloc (.cells #[] 37)).heap.size :=
      .inr ⟨w1.heap.size, 0, fun _ => undef, rfl, Nat.le_refl _, Nat.zero_le _, hz1, by simp, World.rowIs_alloc w1 #[] 37 (fun _ => undef) (fun _ h => absurd h (Nat.not_lt_zero _)), fun _ h => absurd h (Nat.not_lt_zero _), fun _ _ _ h => absurd h (Nat.not_lt_zero _)⟩
    have HN := Lib.hid hnew
    clear hnew
    go_wp2
    go_ret2
    refine ⟨_, by rw [HE.out]; rfl, ?_, H1.out.below.alloc hz1 _⟩
    rw [funsL_no HE.out]
    exact HN.out
  | true =>
    obtain ⟨rfl, hown⟩ := hyes hfb
    have HO := Lib.hid (hown.wider hz2 (Nat.le_refl _))
    have HE := Lib.hid hfb
    clear hyes hown
    go_wp2
    go_ret2
    refine ⟨_, by rw [HE.out]; rfl, ?_, H1.out.below⟩
    rw [funsL_yes HE.out, I2_len]
    exact HO.out

theorem funs_bulk (rows rows' : Rows2) : bulk (funsL rows rows') ≤ 1048576 := by
  cases h : funB rows rows' with
  | false => rw [funsL_no h]; simp [bulk]
  | true =>
    obtain ⟨h1, _, h3⟩ := funB_iff.1 h
    have hok := dom_ok h1
    rw [funsL_yes h]
    have hs : ∀ (l : List Nat), (∀ x ∈ l, x ≤ 200) → l.sum ≤ l.length * 200 := fun l => by
      induction l with
      | nil => intro _; simp
      | cons x l ih =>
        intro hx
        have h1 := hx x List.mem_cons_self
        have h2 := ih fun y hy => hx y (List.mem_cons_of_mem _ hy)
        rw [List.sum_cons, List.length_cons, Nat.succ_mul]
        omega
    have hq := hs ((I2 (funsR rows rows')).map List.length) fun x hx => by
      obtain ⟨r, hr, rfl⟩ := List.mem_map.1 hx
      unfold I2 at hr
      obtain ⟨l, hl, rfl⟩ := List.mem_map.1 hr
      rw [intsOf_len, (funs_len hl).1]
      exact hok.len.2
    rw [List.length_map, I2_len] at hq
    unfold bulk
    rw [I2_len]
    omega
end Go.Proofs.YtkhhbpeheikmfaaDoor


