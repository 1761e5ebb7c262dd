/- The model's OrderValid: it answers what the document asks. -/
import Derived.Test.YtcggjhmjjpclhaaDoorLe
import Derived.StillTailTactics
namespace Go.Proofs.YtcggjhmjjpclhaaDoor
open Go.RowKit Go.Deep

/-- The order v lies in the variable at block w.heap.size; nothing that was there in w has turned. -/
def Held (w : World) (v : Value) (rows : Rows2) (W : World) : Prop :=
  W.cell? ⟨w.heap.size, 0, none⟩ = some v ∧ RowsAt W v rows ∧ Below w.heap.size w W ∧ w.heap.size < W.heap.size

theorem Held.start (w : World) {v : Value} {rows : Rows2} (t : TypeId) (hv : RowsAt w v rows) : Held w v rows (w.alloc (.cells #[v] t)) :=
  ⟨(World.rowIs_alloc w #[v] t (fun _ => v) (fun i hi => by simp at hi; subst hi; rfl)).cell (by simp), hv.below ((Below.refl _ w).alloc (Nat.le_refl _) _), (Below.refl _ w).alloc (Nat.le_refl _) _, by simp⟩
theorem Held.below {w : World} {v : Value} {rows : Rows2} {W W' : World} (h : Held w v rows W) (hb : Below W.heap.size W W') : Held w v rows W' := by
  obtain ⟨h1, h2, h3, h4⟩ := h
  exact ⟨by rw [hb.cell (p := ⟨w.heap.size, 0, none⟩) h4]; exact h1, h2.below hb, h3.trans (hb.mono (by omega)), by have := hb.size; omega⟩
theorem Held.drew {w : World} {v : Value} {rows : Rows2} {W : World} (h : Held w v rows W) : Held w v rows W.drew := h.below ⟨rfl, rfl, rfl, Nat.le_refl _, fun _ _ => rfl⟩

end Go.Proofs.YtcggjhmjjpclhaaDoor
