/- Monotone functions, in numbers; two orders held by their variables. -/
import Derived.Test.YtkhhbpeheikmfaaDoorDomS
namespace Go.Proofs.YtkhhbpeheikmfaaDoor
open Go.RowKit Go.Deep

/-- The list f is a monotone function of the one order to the other. -/
def Mono (rows rows' : Rows2) (f : List Int) : Prop :=
  f.length = rows.length ∧ (∀ x ∈ f, 0 ≤ x ∧ x < rows'.length) ∧
    ∀ a b : Nat, a < rows.length → b < rows.length → upB rows a b = true → upB rows' (f.getD a 0).toNat (f.getD b 0) = true
open Classical in
noncomputable def monoI (rows rows' : Rows2) (f : List Int) : Bool := decide (Mono rows rows' f)
noncomputable def monoB (rows rows' : Rows2) (f : List Int) : Bool := domB rows && domB rows' && monoI rows rows' f

theorem monoI_len {rows rows' : Rows2} {f : List Int} (h : f.length ≠ rows.length) : monoI rows rows' f = false := by
  classical exact decide_eq_false fun hm => h hm.1
theorem monoI_out {rows rows' : Rows2} {f : List Int} {i : Nat} (hi : i < f.length) (h : ¬ (0 ≤ f[i] ∧ f[i] < rows'.length)) : monoI rows rows' f = false := by
  classical exact decide_eq_false fun hm => h (hm.2.1 _ (List.getElem_mem hi))
theorem monoI_bad {rows rows' : Rows2} {f : List Int} {a b : Nat} (ha : a < rows.length) (hb : b < rows.length) (hab : upB rows a b = true) (h : upB rows' (f.getD a 0).toNat (f.getD b 0) = false) : monoI rows rows' f = false := by
  classical exact decide_eq_false fun hm => by rw [hm.2.2 a b ha hb hab] at h; cases h
theorem monoI_yes {rows rows' : Rows2} {f : List Int} (h1 : f.length = rows.length) (h2 : ∀ i (hi : i < f.length), 0 ≤ f[i] ∧ f[i] < rows'.length)
    (h3 : ∀ a b : Nat, a < rows.length → b < rows.length → upB rows a b = true → upB rows' (f.getD a 0).toNat (f.getD b 0) = true) : monoI rows rows' f = true := by
  classical exact decide_eq_true ⟨h1, fun x hx => by obtain ⟨i, hi, rfl⟩ := List.getElem_of_mem hx; exact h2 i hi, h3⟩

/-- Two orders lie in the variables at blocks w.heap.size and the next. -/
structure Two (w : World) (v v' : Value) (rows rows' : Rows2) (W : World) : Prop where
  c0 : W.cell? ⟨w.heap.size, 0, none⟩ = some v
  c1 : W.cell? ⟨w.heap.size + 1, 0, none⟩ = some v'
  r0 : RowsAt W v rows
  r1 : RowsAt W v' rows'
  below : Below w.heap.size w W
theorem Two.step {w : World} {v v' : Value} {rows rows' : Rows2} {W W' : World} (h : Two w v v' rows rows' W) (hb : Below W.heap.size W W') : Two w v v' rows rows' W' :=
  ⟨by rw [hb.cell (p := ⟨w.heap.size, 0, none⟩) (cell_lt h.c0)]; exact h.c0, by rw [hb.cell (p := ⟨w.heap.size + 1, 0, none⟩) (cell_lt h.c1)]; exact h.c1, h.r0.below hb, h.r1.below hb, h.below.trans (hb.mono h.below.size)⟩
theorem Two.start (w : World) {v v' : Value} {rows rows' : Rows2} (t t' : TypeId) (hv : RowsAt w v rows) (hv' : RowsAt w v' rows') : Two w v v' rows rows' ((w.alloc (.cells #[v] t)).alloc (.cells #[v'] t')) := by
  have s1 : (w.alloc (.cells #[v] t)).heap.size = w.heap.size + 1 := World.size_alloc _ _
  have c0 : (w.alloc (.cells #[v] t)).cell? ⟨w.heap.size, 0, none⟩ = some v := (World.rowIs_alloc w #[v] t (fun _ => v) (fun i hi => by simp at hi; subst hi; rfl)).cell (by simp)
  have c1 : ((w.alloc (.cells #[v] t)).alloc (.cells #[v'] t')).cell? ⟨w.heap.size + 1, 0, none⟩ = some v' := by
    have h := (World.rowIs_alloc (w.alloc (.cells #[v] t)) #[v'] t' (fun _ => v') (fun i hi => by simp at hi; subst hi; rfl)).cell (i := 0) (by simp)
    rw [s1] at h
    exact h
  have b1 : Below w.heap.size w (w.alloc (.cells #[v] t)) := (Below.refl _ w).alloc (Nat.le_refl _) _
  have b2 : Below (w.alloc (.cells #[v] t)).heap.size (w.alloc (.cells #[v] t)) ((w.alloc (.cells #[v] t)).alloc (.cells #[v'] t')) := (Below.refl _ _).alloc (Nat.le_refl _) _
  exact ⟨cell_alloc_any c0 _, c1, (hv.below b1).below b2, (hv'.below b1).below b2, b1.trans (b2.mono (by omega))⟩
theorem Two.drew {w : World} {v v' : Value} {rows rows' : Rows2} {W : World} (h : Two w v v' rows rows' W) : Two w v v' rows rows' W.drew := h.step ⟨rfl, rfl, rfl, Nat.le_refl _, fun _ _ => rfl⟩
end Go.Proofs.YtkhhbpeheikmfaaDoor
