/- The least fixed point of a monotone function, in numbers: what is met on the way from the least element on. -/
import Derived.Test.YtnniffjjbekodaaDoorStrictS
namespace Go.Proofs.YtnniffjjbekodaaDoor
open Go.RowKit Go.Deep

/-- What the function has for x. -/
def nextF (f : List Int) (x : Nat) : Nat := (f.getD x 0).toNat
/-- What is met from x on, at most k elements. -/
def runF (f : List Int) : Nat → Nat → List Nat
  | 0, _ => []
  | k + 1, x => if nextF f x = x then [] else nextF f x :: runF f k (nextF f x)
theorem runF_fixed {f : List Int} {x : Nat} (h : nextF f x = x) : ∀ k, runF f k x = []
  | 0 => rfl
  | k + 1 => by unfold runF; rw [if_pos h]
theorem runF_step {f : List Int} {x k : Nat} (h : nextF f x ≠ x) (hk : 0 < k) : runF f k x = nextF f x :: runF f (k - 1) (nextF f x) := by
  obtain ⟨j, rfl⟩ : ∃ j, k = j + 1 := ⟨k - 1, by omega⟩
  rw [Nat.add_sub_cancel]
  show (if nextF f x = x then [] else _) = _
  rw [if_neg h]

theorem countP_lt {l : List Nat} {p q : Nat → Bool} (h : ∀ x ∈ l, p x = true → q x = true) {a : Nat} (ha : a ∈ l) (hq : q a = true) (hp : p a = false) : l.countP p < l.countP q := by
  induction l with
  | nil => cases ha
  | cons y l ih =>
    have hle : l.countP p ≤ l.countP q := List.countP_mono_left fun x hx => h x (List.mem_cons_of_mem _ hx)
    rw [List.countP_cons, List.countP_cons]
    by_cases e : y = a
    · subst e
      rw [hq, hp]
      simp
      omega
    · have ha' : a ∈ l := by
        rcases List.mem_cons.1 ha with h1 | h1
        · exact absurd h1.symm e
        · exact h1
      have := ih (fun x hx => h x (List.mem_cons_of_mem _ hx)) ha'
      cases hy : p y with
      | false => simp; omega
      | true => rw [h y (by simp) hy]; simp; omega

/-- How many elements are above x. -/
def aboveN (rows : Rows2) (x : Nat) : Nat := (List.range rows.length).countP fun k => (gridF rows x).testBit k

/-- An element on the way: what it goes to is above it; the way behind it is no longer than what is left. -/
structure OnWay (rows : Rows2) (f : List Int) (x0 : Nat) (pre : List Nat) (x : Nat) : Prop where
  lt : x < rows.length
  up : (gridF rows x).testBit (nextF f x) = true
  room : aboveN rows x + pre.length ≤ rows.length
  run : runF f rows.length x0 = pre ++ runF f (rows.length - pre.length) x
  last : x = pre.getLastD x0

theorem mono_up {rows : Rows2} {f : List Int} (hok : Ok rows) (hm : Mono rows rows f) {a b : Nat} (h : (gridF rows a).testBit b = true) : (gridF rows (nextF f a)).testBit (nextF f b) = true := by
  obtain ⟨ha, hb⟩ := hok.bit_lt h
  have h1 := hm.2.2 a b ha hb (by rw [hok.up ha]; exact h)
  have hfa := hm.2.1 (f.getD a 0) (by rw [getD_lt 0 (by rw [hm.1]; exact ha)]; exact List.getElem_mem _)
  have hfb := hm.2.1 (f.getD b 0) (by rw [getD_lt 0 (by rw [hm.1]; exact hb)]; exact List.getElem_mem _)
  unfold nextF
  rw [← hok.up (by omega), Int.toNat_of_nonneg hfb.1]
  exact h1
theorem next_lt {rows : Rows2} {f : List Int} (hm : Mono rows rows f) {x : Nat} (hx : x < rows.length) : nextF f x < rows.length ∧ f.getD x 0 = (nextF f x : Int) := by
  have hfa := hm.2.1 (f.getD x 0) (by rw [getD_lt 0 (by rw [hm.1]; exact hx)]; exact List.getElem_mem _)
  unfold nextF
  omega

theorem OnWay.start {rows : Rows2} {f : List Int} (hok : Ok rows) (hm : Mono rows rows f) {m : Nat} (hml : m < rows.length) (hme : leastI rows = m) : OnWay rows f m [] m := by
  refine ⟨hml, ?_, ?_, by simp, rfl⟩
  · have h1 := next_lt hm hml
    have h4 : rows[m].length = rows.length := by
      unfold leastI at hme
      cases hq : (List.range rows.length).find? (fun i => (rows.getD i []).length == rows.length) with
      | none => rw [hq] at hme; simp at hme
      | some i =>
        rw [hq] at hme
        have hi : i = m := by have : (i : Int) = (m : Int) := hme; omega
        have h3 := List.find?_some hq
        rw [hi, getD_at [] hml] at h3
        simpa using h3
    rw [(full_iff hok hml).1 h4, testBit_allF, decide_eq_true_iff]
    exact h1.1
  · unfold aboveN
    have := List.countP_le_length (p := fun k => (gridF rows m).testBit k) (l := List.range rows.length)
    simp at this ⊢
    exact this
theorem OnWay.room' {rows : Rows2} {f : List Int} {x0 x : Nat} {pre : List Nat} (hok : Ok rows) (h : OnWay rows f x0 pre x) : 0 < rows.length - pre.length := by
  have h1 := h.room
  have h2 : 0 < aboveN rows x := by
    unfold aboveN
    rw [List.countP_pos_iff]
    exact ⟨x, List.mem_range.2 h.lt, hok.own x h.lt⟩
  omega
theorem OnWay.drop {rows : Rows2} {f : List Int} {x0 x : Nat} {pre : List Nat} (hok : Ok rows) (h : OnWay rows f x0 pre x) (hne : nextF f x ≠ x) : aboveN rows (nextF f x) < aboveN rows x := by
  unfold aboveN
  exact countP_lt (fun k _ hk => hok.trans x (nextF f x) h.lt h.up k hk) (List.mem_range.2 h.lt) (hok.own x h.lt) (hok.anti x (nextF f x) h.lt h.up hne)
theorem OnWay.more {rows : Rows2} {f : List Int} {x0 x : Nat} {pre : List Nat} (hok : Ok rows) (h : OnWay rows f x0 pre x) (hne : nextF f x ≠ x) : pre.length < (runF f rows.length x0).length ∧ pre ++ [nextF f x] <+: runF f rows.length x0 := by
  have e := h.run
  rw [runF_step hne (h.room' hok)] at e
  rw [e]
  exact ⟨by simp, ⟨runF f (rows.length - pre.length - 1) (nextF f x), by simp⟩⟩
theorem OnWay.step {rows : Rows2} {f : List Int} {x0 x : Nat} {pre : List Nat} (hok : Ok rows) (hm : Mono rows rows f) (h : OnWay rows f x0 pre x) (hne : nextF f x ≠ x) : OnWay rows f x0 (pre ++ [nextF f x]) (nextF f x) := by
  have hnl := next_lt hm h.lt
  have hroom := h.room' hok
  refine ⟨hnl.1, mono_up hok hm h.up, ?_, ?_, by simp⟩
  · have hlt : aboveN rows (nextF f x) < aboveN rows x := by
      unfold aboveN
      exact countP_lt (fun k _ hk => hok.trans x (nextF f x) h.lt h.up k hk) (List.mem_range.2 h.lt) (hok.own x h.lt) (hok.anti x (nextF f x) h.lt h.up hne)
    have := h.room
    simp
    omega
  · rw [h.run, runF_step hne hroom]
    simp
    rw [Nat.sub_sub]
theorem OnWay.done {rows : Rows2} {f : List Int} {x0 x : Nat} {pre : List Nat} (h : OnWay rows f x0 pre x) (he : nextF f x = x) : runF f rows.length x0 = pre := by
  rw [h.run, runF_fixed he, List.append_nil]
end Go.Proofs.YtnniffjjbekodaaDoor
