/- The model's check of a monotone function (l2Monotone), and its FunMonotone. -/
import Derived.Test.YtiaajegdaipdmaaDoorMono
import Derived.StillTailTactics
namespace Go.Proofs.YtiaajegdaipdmaaDoor
open Go.RowKit Go.Deep

theorem IntsAt.get {W : World} {A : Option Addr} {C : Nat} {xs : List Int} (h : IntsAt W (.slice A xs.length C) xs) {i : Nat} (hi : i < xs.length) :
    ∃ b o, A = some ⟨b, o, none⟩ ∧ W.cell? ⟨b, o + i, none⟩ = some (.int .i64 xs[i]) := by
  obtain ⟨a, C', e, _, _, _, hy⟩ := h
  cases e
  exact hy i hi

/-- Two orders in their variables, and a list. -/
def TwoF (w : World) (v v' vf : Value) (rows rows' : Rows2) (f : List Int) (W : World) : Prop := Two w v v' rows rows' W ∧ IntsAt W vf f
theorem TwoF.step {w : World} {v v' vf : Value} {rows rows' : Rows2} {f : List Int} {W W' : World} (h : TwoF w v v' vf rows rows' f W) (hb : Below W.heap.size W W') : TwoF w v v' vf rows rows' f W' := ⟨h.1.step hb, h.2.below hb⟩
theorem TwoF.drew {w : World} {v v' vf : Value} {rows rows' : Rows2} {f : List Int} {W : World} (h : TwoF w v v' vf rows rows' f W) : TwoF w v v' vf rows rows' f W.drew := h.step ⟨rfl, rfl, rfl, Nat.le_refl _, fun _ _ => rfl⟩
theorem TwoF.start (w : World) {v v' vf : Value} {rows rows' : Rows2} {f : List Int} (t t' : TypeId) (hv : RowsAt w v rows) (hv' : RowsAt w v' rows') (hf : IntsAt w vf f) : TwoF w v v' vf rows rows' f ((w.alloc (.cells #[v] t)).alloc (.cells #[v'] t')) :=
  ⟨Two.start w t t' hv hv', hf.below (Two.start w t t' hv hv').below⟩

/-- All numbers of the first i rows keep their order. -/
def MonoTo (rows rows' : Rows2) (f : List Int) (i : Nat) : Prop :=
  ∀ q (hq : q < rows.length), q < i → ∀ m (hm : m < rows[q].length), upB rows' (f.getD q 0).toNat (f.getD rows[q][m].toNat 0) = true
theorem MonoTo.all {rows rows' : Rows2} {f : List Int} (h : MonoTo rows rows' f rows.length) (h1 : f.length = rows.length) (h2 : ∀ i (hi : i < f.length), 0 ≤ f[i] ∧ f[i] < rows'.length) : monoI rows rows' f = true :=
  monoI_yes h1 h2 fun a b ha _ hab => by
    have hm := (upB_iff ha).1 hab
    obtain ⟨m, hml, e⟩ := List.getElem_of_mem hm
    have h3 := h a ha ha m hml
    rw [e] at h3
    simpa using h3

end Go.Proofs.YtiaajegdaipdmaaDoor
