/- The program's set of all elements (grid.all), and the element of a set that is below all others of it (grid.bottom, grid.least, grid.join). -/
import Derived.Test.YtkomghohdhengaaDoorPc8
namespace Go.Proofs.YtkomghohdhengaaDoor
open Go.RowKit Go.Deep Go.Shelf
attribute [local go_sem] Oper.semAt_some

/-- An element is put into a row that lies in a variable. -/
theorem RowIn.put {W : World} {p r k : Nat} (h : RowIn W p r) (hk : k < 256) (m : Nat) :
    RowIn ((W.drewN m).setCell ⟨p, k / 64, none⟩ (.int .u64 ((word r (k / 64) ||| 2 ^ (k % 64) : Nat) : Int))) p (put r k) := by
  refine ⟨?_, put_lt h.2 hk⟩
  have h0 : (W.drewN m).heap[p]? = _ := h.1
  rw [heap_setCell_same _ p _ _ _ _ h0, word_put, word_put, word_put, word_put]
  have h4 : k / 64 = 0 ∨ k / 64 = 1 ∨ k / 64 = 2 ∨ k / 64 = 3 := by omega
  rcases h4 with h | h | h | h <;> rw [h] <;> simp

theorem RowIn.apart {W : World} {p r q : Nat} (h : RowIn W p r) (m : Nat) (hq : p ≠ q) (o : Nat) (v : Value) : RowIn ((W.drewN m).setCell ⟨q, o, none⟩ v) p r :=
  ⟨by rw [heap_setCell_other _ ⟨q, o, none⟩ p v hq]; exact h.1, h.2⟩
theorem RowIn.cellAt {W : World} {p r j : Nat} (h : RowIn W p r) (hj : j < 4) : W.cell? ⟨p, j, none⟩ = some (.int .u64 ((word r j : Nat) : Int)) := by
  obtain ⟨h0, h1, h2, h3⟩ := h.cells
  obtain rfl | rfl | rfl | rfl : j = 0 ∨ j = 1 ∨ j = 2 ∨ j = 3 := by omega
  all_goals assumption

theorem sizeRow : (Tryd.prog.info? 91).map (·.size) = some 4 := by kernel_rfl
/-- A row is read out of its variable. -/
theorem loadRow {W : World} {p r : Nat} (h : RowIn W p r) : (loadVar 91 ⟨p, 0, none⟩).run Tryd.prog W = .ok (rowV r) W :=
  run_loadVar_row W p 91 91 _ (0, 0) _ h.1 Tryd.underlying91 rfl sizeRow

theorem row_eq {r s : Nat} (hr : r < 2 ^ 256) (hs : s < 2 ^ 256) :
    ((((word r 0 : Nat) : Int) == ((word s 0 : Nat) : Int)) && ((((word r 1 : Nat) : Int) == ((word s 1 : Nat) : Int)) && ((((word r 2 : Nat) : Int) == ((word s 2 : Nat) : Int)) && (((word r 3 : Nat) : Int) == ((word s 3 : Nat) : Int))))) = decide (r = s) := by
  rw [Bool.eq_iff_iff]
  simp only [Bool.and_eq_true, beq_iff_eq, decide_eq_true_eq]
  constructor
  · rintro ⟨h0, h1, h2, h3⟩
    exact of_words hr hs (fun j hj => by
      obtain rfl | rfl | rfl | rfl : j = 0 ∨ j = 1 ∨ j = 2 ∨ j = 3 := by omega
      all_goals omega)
  · rintro rfl
    simp

/-- What must be known of a grid: it is that of n elements. -/
structure GridN (g : Nat → Nat) (n : Nat) : Prop where
  le : n ≤ 200
  some : ∀ i, i < n → g i ≠ 0
  none : n < 200 → g n = 0

set_option maxRecDepth 100000 in
set_option maxHeartbeats 2000000 in
theorem all_any (b n : Nat) (g : Nat → Nat) (w : World) (hg : GridAt w b g) (hn : GridN g n) :
    Calls Tryd.prog 141 #[.pointer (some ⟨b, 0, none⟩)] w (SaysR (allF n) w) := by
  have b2 : Below w.heap.size w ((w.alloc (.cells #[.int .u64 0, .int .u64 0, .int .u64 0, .int .u64 0] 91)).alloc (.cells #[.int .u64 0, .int .u64 0, .int .u64 0, .int .u64 0] 91)) :=
    ((Below.refl _ w).alloc (Nat.le_refl _) _).alloc (by simp) _
  have hrow : RowIn ((w.alloc (.cells #[.int .u64 0, .int .u64 0, .int .u64 0, .int .u64 0] 91)).alloc (.cells #[.int .u64 0, .int .u64 0, .int .u64 0, .int .u64 0] 91)) (w.heap.size + 1) 0 := by
    refine ⟨?_, Nat.two_pow_pos 256⟩
    have h := heap_alloc_new (w.alloc (.cells #[.int .u64 0, .int .u64 0, .int .u64 0, .int .u64 0] 91)) (.cells #[.int .u64 0, .int .u64 0, .int .u64 0, .int .u64 0] 91)
    rw [World.size_alloc] at h
    simpa [word] using h
  have hres : RowIn ((w.alloc (.cells #[.int .u64 0, .int .u64 0, .int .u64 0, .int .u64 0] 91)).alloc (.cells #[.int .u64 0, .int .u64 0, .int .u64 0, .int .u64 0] 91)) w.heap.size 0 := by
    refine RowIn.below (B := w.heap.size + 1) ⟨?_, Nat.two_pow_pos 256⟩ ((Below.refl _ (w.alloc (.cells #[.int .u64 0, .int .u64 0, .int .u64 0, .int .u64 0] 91))).alloc (by simp) _) (by omega)
    have h := heap_alloc_new w (.cells #[.int .u64 0, .int .u64 0, .int .u64 0, .int .u64 0] 91)
    simpa [word] using h
  have hcall := size_any b n g _ (hg.below b2 hg.lt) hn.le hn.some hn.none
  have HB2 := Lib.hid b2
  have HROW := Lib.hid hrow
  have HRES := Lib.hid hres
  have hle := hn.le
  clear b2 hrow hres hg hn
  go_enter Tryd.func141, Tryd.ntmps141
  go_wp2_with (go_at_call 106; refine hcall.mono ?_; clear hcall; rintro e w1 ⟨rfl, hb1⟩; have H1 := Lib.hid (HB2.out.trans (hb1.mono HB2.out.size)); have R1 := Lib.hid (HROW.out.below hb1 HROW.out.lt); have R0 := Lib.hid (HRES.out.below hb1 HRES.out.lt); clear hb1)
  go_loopw [7] (fun kv wr => ∃ k : Nat, k ≤ n ∧ kv = .int .i64 k ∧ RowIn wr (w.heap.size + 1) (allF k) ∧ RowIn wr w.heap.size 0 ∧ Below w.heap.size w wr) (fun kv _ => n - (intOf kv).toNat)
  case atStart => exact ⟨0, Nat.zero_le _, rfl, R1.out, R0.out, H1.out⟩
  case round =>
    obtain ⟨k, hk, rfl, hr, hr0, hb⟩ := hrel
    have HR := Lib.hid hr
    have HR0 := Lib.hid hr0
    have HB := Lib.hid hb
    by_cases hlt : k < n
    · have hcall := add_any (w.heap.size + 1) 0 k k (word (allF k) (k / 64)) wr rfl (by omega) (word_lt _ _) (by rw [Nat.zero_add]; exact hr.cellAt (by omega)) (hr.frozen _)
      rw [Nat.zero_add] at hcall
      clear hr hr0 hb
      go_wp2_with (go_at_call 119; refine hcall.mono ?_; clear hcall; rintro e w' ⟨rfl, m, rfl⟩)
      go_roundw
      case rel => exact ⟨k + 1, by omega, by go_num, HR.out.put (by omega) m, HR0.out.apart m (by omega) _ _, (HB.out.trans (below_drewN' _ m _)).setCell (p := ⟨w.heap.size + 1, _, none⟩) (Nat.le_succ _) _⟩
      case measure => simp [intOf]; omega
    · obtain rfl : k = n := by omega
      obtain ⟨c0, c1, c2, c3⟩ := hr.cells
      obtain ⟨z0, z1, z2, z3⟩ := hr0.cells
      have hf := hr0.frozen
      have hfin := RowIn.set4 hr0.1 hr.2
      have hld := loadRow hfin
      clear hr hr0 hb hfin
      go_wp2
      refine bodyPost_ret (v := rowV (allF k)) (by simp [results, Tryd.results141, asAddr, hld]) rfl ?_
      exact ⟨rfl, (((HB.out.setCell (Nat.le_refl _) _).setCell (Nat.le_refl _) _).setCell (Nat.le_refl _) _).setCell (Nat.le_refl _) _⟩

/-- A block of cells stays where blocks that are no cells turn. -/
theorem blk_kept {W W' : World} {row : Option Nat} {p : Nat} {c : Array Value} {t : TypeId} {fz : Nat × Nat} (h : W.heap[p]? = some (.cells c t fz)) (hg : W.grownBy W' row) (hr : ∀ r, row = some r → ∃ o : Obj, W.heap[r]? = some o ∧ o.isCells = false) :
    W'.heap[p]? = some (.cells c t fz) := by
  rw [hg.block p (Array.getElem?_eq_some_iff.1 h).1 (fun e => by
    obtain ⟨o, ho, hc⟩ := hr p e.symm
    rw [h] at ho
    cases ho
    cases hc)]
  exact h
theorem RowIn.kept {W W' : World} {row : Option Nat} {p r : Nat} (h : RowIn W p r) (hg : W.grownBy W' row) (hr : ∀ r, row = some r → ∃ o : Obj, W.heap[r]? = some o ∧ o.isCells = false) : RowIn W' p r := ⟨blk_kept h.1 hg hr, h.2⟩

/-- What bottom finds: none so far has the row s. -/
def NoneYet (g : Nat → Nat) (s : Nat) (pre : List (Bt s)) : Prop := ∀ y ∈ pre, g y.1 ≠ s
theorem find_aux {g : Nat → Nat} {s v : Nat} {A B : List Nat} (h : elems s = A ++ v :: B) (hA : ∀ k ∈ A, g k ≠ s) (hv : g v = s) : bottomF g s = (v : Nat) := by
  unfold bottomF
  have hn : A.find? (fun k => g k == s) = none := by
    rw [List.find?_eq_none]
    intro k hk
    simpa using hA k hk
  rw [h, List.find?_append, hn, Option.none_or, List.find?_cons, show (g v == s) = true by simpa using hv]
theorem find_found {g : Nat → Nat} {s : Nat} {pre rest : List (Bt s)} {y : Bt s} (hall : eList s = (pre ++ [y]) ++ rest) (hp : NoneYet g s pre) (hy : g y.1 = s) : bottomF g s = (y.1 : Nat) := by
  have e : natsOf (eList s) = natsOf pre ++ y.1 :: natsOf rest := by rw [hall]; simp [natsOf]
  refine find_aux ((natsOf_all s).symm.trans e) (fun k hk => ?_) hy
  obtain ⟨z, hz, rfl⟩ := List.mem_map.1 hk
  exact hp z hz
theorem find_none {g : Nat → Nat} {s : Nat} (hp : NoneYet g s (eList s)) : bottomF g s = -1 := by
  unfold bottomF
  have hn : (elems s).find? (fun k => g k == s) = none := by
    rw [List.find?_eq_none, ← natsOf_all]
    intro k hk
    obtain ⟨z, hz, rfl⟩ := List.mem_map.1 hk
    simpa using hp z hz
  rw [hn]

set_option maxRecDepth 100000 in
set_option maxHeartbeats 4000000 in
theorem bottom_any (b s : Nat) (g : Nat → Nat) (w : World) (hg : GridAt w b g) (hT : Tab w) (hs : s < 2 ^ 256) (hel : ∀ k ∈ elems s, k < 200) :
    Calls Tryd.prog 130 #[.pointer (some ⟨b, 0, none⟩), rowV s] w (SaysI (bottomF g s) w) := by
  have htab : 0 < w.heap.size := cell_lt (hT 0 (by omega))
  have hglt := hg.lt
  have HEL := Lib.hid hel
  have HG := Lib.hid hg
  have HT := Lib.hid hT
  have HS := Lib.hid hs
  clear hel hg hT hs
  refine (callsIn_wide (n := 8)).1 ?_
  refine callsIn_of_wp_marks Tryd.func130 rfl trivial ?_ rfl
  simp only [Tryd.ntmps130, List.size_toArray, List.length_cons, List.length_nil, Nat.reduceAdd, Nat.reduceSub, Array.replicate_succ, Array.replicate_zero, List.push_toArray, List.append_toArray, List.nil_append, List.cons_append]
  gi_wp2
  refine ⟨trivial, (callsIn_wide.2 (elements_any s _)).mono ?_⟩
  rintro e w1 ⟨rfl, rfl⟩
  gi_wp2
  have r2 : RowIn ((((w.alloc (.cells #[.pointer (some ⟨b, 0, none⟩)] 70)).alloc (.cells #[.int .u64 ((word s 0 : Nat) : Int), .int .u64 ((word s 1 : Nat) : Int), .int .u64 ((word s 2 : Nat) : Int), .int .u64 ((word s 3 : Nat) : Int)] 91)).alloc (.cells #[.int .i64 0] 3)).alloc (.cells #[.int .u64 ((word s 0 : Nat) : Int), .int .u64 ((word s 1 : Nat) : Int), .int .u64 ((word s 2 : Nat) : Int), .int .u64 ((word s 3 : Nat) : Int)] 91)) (w.heap.size + 3) s := by
    have h := RowIn.alloc (((w.alloc (.cells #[.pointer (some ⟨b, 0, none⟩)] 70)).alloc (.cells #[.int .u64 ((word s 0 : Nat) : Int), .int .u64 ((word s 1 : Nat) : Int), .int .u64 ((word s 2 : Nat) : Int), .int .u64 ((word s 3 : Nat) : Int)] 91)).alloc (.cells #[.int .i64 0] 3)) HS.out
    simpa only [World.size_alloc, Nat.add_assoc, Nat.reduceAdd] using h
  obtain ⟨w4, hw4⟩ : ∃ w4, ((((w.alloc (.cells #[.pointer (some ⟨b, 0, none⟩)] 70)).alloc (.cells #[.int .u64 ((word s 0 : Nat) : Int), .int .u64 ((word s 1 : Nat) : Int), .int .u64 ((word s 2 : Nat) : Int), .int .u64 ((word s 3 : Nat) : Int)] 91)).alloc (.cells #[.int .i64 0] 3)).alloc (.cells #[.int .u64 ((word s 0 : Nat) : Int), .int .u64 ((word s 1 : Nat) : Int), .int .u64 ((word s 2 : Nat) : Int), .int .u64 ((word s 3 : Nat) : Int)] 91)) = w4 := ⟨_, rfl⟩
  have hsz : w4.heap.size = w.heap.size + 4 := by rw [← hw4]; simp
  have hB0 : Below w.heap.size w w4 := by rw [← hw4]; exact ((((Below.refl _ w).alloc (Nat.le_refl _) _).alloc (by simp) _).alloc (by simp; omega) _).alloc (by simp; omega) _
  have p0 : Boxed w4 w.heap.size 70 (.pointer (some ⟨b, 0, none⟩)) := by rw [← hw4]; exact (((Boxed.new w _ _).alloc _).alloc _).alloc _
  have p1 : RowIn w4 (w.heap.size + 1) s := by
    have h := RowIn.alloc (w.alloc (.cells #[.pointer (some ⟨b, 0, none⟩)] 70)) HS.out
    rw [World.size_alloc] at h
    rw [← hw4]
    exact (h.below ((Below.refl _ _).alloc (Nat.le_refl _) (.cells #[.int .i64 0] 3)) h.lt).below ((Below.refl _ _).alloc (Nat.le_refl _) _) (by simp)
  have p2 : Boxed w4 (w.heap.size + 2) 3 (.int .i64 0) := by
    have h := Boxed.new ((w.alloc (.cells #[.pointer (some ⟨b, 0, none⟩)] 70)).alloc (.cells #[.int .u64 ((word s 0 : Nat) : Int), .int .u64 ((word s 1 : Nat) : Int), .int .u64 ((word s 2 : Nat) : Int), .int .u64 ((word s 3 : Nat) : Int)] 91)) 3 (.int .i64 0)
    simp only [World.size_alloc, Nat.add_assoc, Nat.reduceAdd] at h
    rw [← hw4]
    exact h.alloc _
  have r2' : RowIn w4 (w.heap.size + 3) s := by rw [← hw4]; exact r2
  have T4 : Tab w4 := HT.out.below hB0
  have HW4 := Lib.hid hw4
  simp only [Nat.add_assoc, Nat.reduceAdd]
  rw [hw4]
  clear hw4 r2
  refine wpIn_rangeFunc_ownG rfl (by omega) (gf := 159) (lb := #[.pointer (some ⟨w.heap.size + 3, 0, none⟩)]) rfl trivial (enters_of Tryd.func159 (by kernel_rfl) rfl)
    (elements1_stops _ w.heap.size (w.heap.size + 3) s w4 (by omega) HS.out r2' (by omega) htab T4) belowK_t (belowK_b (by omega)) (Below.refl _ _) (fun _ => rfl)
    (fun pre W => (NoneYet g s pre ∧ Boxed W w.heap.size 70 (.pointer (some ⟨b, 0, none⟩)) ∧ RowIn W (w.heap.size + 1) s ∧ Boxed W (w.heap.size + 2) 3 (.int .i64 0)) ∧ Below w.heap.size w W)
    (fun c pre W => (c = .ret ∧ ∃ ini last, pre = ini ++ [last] ∧ NoneYet g s ini ∧ g last.1 = s ∧ W.cell? ⟨w.heap.size + 2, 0, none⟩ = some (.int .i64 ((last.1 : Nat) : Int))) ∧ Below w.heap.size w W)
    (OwnFrom.and (Own.from (fun _ A B row hs hg hr => ⟨hs.1, blk_kept hs.2.1 hg hr, hs.2.2.1.kept hg hr, blk_kept hs.2.2.2 hg hr⟩) _) (ownFrom_below (Nat.le_refl _) (by omega)))
    (fun c => OwnFrom.and (Own.from (fun _ A B row hs hg hr => by obtain ⟨hc, ini, last, e1, e2, e3, e4⟩ := hs; exact ⟨hc, ini, last, e1, e2, e3, cell_kept e4 hg hr⟩) _) (ownFrom_below (Nat.le_refl _) (by omega)))
    ⟨⟨fun _ h => (by cases h), p0, p1, p2⟩, hB0⟩
    (fun x => { tmps := #[.pointer (some ⟨b, 0, none⟩), rowV s, .pointer (some ⟨w.heap.size, 0, none⟩), .pointer (some ⟨w.heap.size + 1, 0, none⟩), .pointer (some ⟨w.heap.size + 2, 0, none⟩), .int .i64 ((x.1 : Nat) : Int), rowV s, .func (.func 159) #[] #[.pointer (some ⟨w.heap.size + 3, 0, none⟩)], .int .i64 ((x.1 : Nat) : Int), undef, undef, undef, undef, undef, undef, undef, undef], defers := [] }) ?assign ?body ?done ?stop
  case assign =>
    intro l x W K hK
    unfold encBt
    gi_wp2
    exact hK
  case body =>
    rintro l pre x W ⟨⟨hp, q0, q1, q2⟩, hB⟩ _
    obtain ⟨k, hkm⟩ := x
    dsimp only
    have hk := HEL.out k hkm
    have hG := HG.out.below hB hglt
    have hk0 : (0 : Int) ≤ (k : Int) := by omega
    have hk1 : (k : Int) < 200 := by omega
    obtain ⟨c0, c1, c2, c3⟩ := hG.row k hk
    obtain ⟨s0, s1, s2, s3⟩ := q1.cells
    have b0 := q0.cell
    have hf := q2.frozen
    have hc2 := q2.cell
    have heq := fun (w : World) => run_eq4 9998 ((word (g k) 0 : Nat) : Int) ((word (g k) 1 : Nat) : Int) ((word (g k) 2 : Nat) : Int) ((word (g k) 3 : Nat) : Int) ((word s 0 : Nat) : Int) ((word s 1 : Nat) : Int) ((word s 2 : Nat) : Int) ((word s 3 : Nat) : Int) w
    rw [row_eq (HG.out.2 k) HS.out] at heq
    have hmx : Tryd.prog.follows .mixedOrders = true := by kernel_rfl
    have HP := Lib.hid hp
    have HB := Lib.hid hB
    have Q0 := Lib.hid q0
    have Q1 := Lib.hid q1
    have Q2 := Lib.hid q2
    clear hp hB q0 q1 q2 hG
    by_cases he : g k = s
    · rw [decide_eq_true he] at heq
      have HE := Lib.hid he
      clear he
      gi_wp2
      gi_region_with_o (fail)
      all_goals gi_wp2
      all_goals
        exact ⟨((KeepsOthers.setCell _ _ _).trans (KeepsOthers.drew _)).from _, ⟨rfl, pre, ⟨k, hkm⟩, rfl, HP.out, HE.out, World.cell?_setCell_same' _ _ _ (by rw [hc2]; rfl)⟩, (HB.out.setCell (p := ⟨w.heap.size + 2, 0, none⟩) (by simp) _).drew⟩
    · rw [decide_eq_false he] at heq
      have HE := Lib.hid he
      clear he
      gi_wp2
      gi_region_with_o (fail)
      all_goals gi_wp2
      all_goals
        exact ⟨(KeepsOthers.drew _).from _, (Below.refl _ W).drew, ⟨fun y hy => (List.mem_append.1 hy).elim (HP.out y) (fun e e' => by simp at e; subst e; exact HE.out e'), Q0.out, Q1.out, Q2.out⟩, HB.out.drew⟩
  case done =>
    rintro D ys W hD rfl ⟨⟨hne, q0, q1, q2⟩, hB⟩ hK
    have HN := Lib.hid (find_none hne)
    have hcr := q2.cell
    have hfr := q2.frozen
    clear hne q0 q1
    gi_wp2
    have hK' := (KeepsOthers.setCell W ⟨w.heap.size + 2, 0, none⟩ (.int .i64 (-1))).same D _ hK rfl
    refine ⟨by simp, .inl ⟨_, _, rfl, run_takeDeferred hK', ?_⟩⟩
    have hc5 := cell_kept (World.cell?_setCell_same' W ⟨w.heap.size + 2, 0, none⟩ (.int .i64 (-1)) (by rw [hcr]; rfl)) (grownBy_putObj' _ D (.deferred none)) (fun r e => by cases e; exact ⟨_, hK', rfl⟩)
    refine ⟨.int .i64 (-1), ?_, by rw [HN.out], (hB.setCell (p := ⟨w.heap.size + 2, 0, none⟩) (by simp) _).trans (belowK_b (w := w) (Nat.le_refl _) _ D _ _ (by omega) hK' rfl rfl)⟩
    simp [results, Tryd.f130, go_sem, hc5]
  case stop =>
    rintro D c pre W hD hpre ⟨⟨rfl, ini, last, e1, e2, e3, hcr⟩, hB⟩ hK
    obtain ⟨rest, hrest⟩ := hpre
    have HN := Lib.hid (find_found (pre := ini) (rest := rest) (y := last) (by rw [← hrest, e1]) e2 e3)
    gi_wp2
    refine ⟨by simp, .inl ⟨_, _, rfl, run_takeDeferred hK, ?_⟩⟩
    have hc5 := cell_kept hcr (grownBy_putObj' _ D (.deferred none)) (fun r e => by cases e; exact ⟨_, hK, rfl⟩)
    refine ⟨.int .i64 ((last.1 : Nat) : Int), ?_, by rw [HN.out], hB.trans (belowK_b (w := w) (Nat.le_refl _) W D _ _ (by omega) hK rfl rfl)⟩
    simp [results, Tryd.f130, go_sem, hc5]
end Go.Proofs.YtkomghohdhengaaDoor


