/- The program's iterator over the elements of a row (row.elements): it gives all of them, ascending. -/
import Derived.Test.YtkhhbpeheikmfaaDoorElemP
import Derived.RangeFuncNested
import Derived.RangeFuncBound
import Derived.RangeFuncCalls
import Derived.RangeFuncLeaves
import Derived.RangeFuncBox
import Derived.Shelf.Abstract
import Derived.Shelf.RegionOpen
import Derived.OwnWalkIn
import Derived.TacticsInMore
import Derived.LoopNIn
import Derived.LoopIn
namespace Go.Proofs.YtkhhbpeheikmfaaDoor
open Go.RowKit Go.Deep Go.Shelf
attribute [local go_sem] Oper.semAt_some

/-- An element of a row. -/
abbrev Bt (r : Nat) : Type := { k : Nat // k ∈ elems r }
def eList (r : Nat) : List (Bt r) := (elems r).attach
def encBt {r : Nat} (x : Bt r) : Array Value := #[.int .i64 ((x.1 : Nat) : Int)]
def natsOf {r : Nat} (l : List (Bt r)) : List Nat := l.map (·.1)
theorem natsOf_all (r : Nat) : natsOf (eList r) = elems r := by simp [natsOf, eList]
theorem natsOf_snoc {r : Nat} (l : List (Bt r)) (x : Bt r) : natsOf (l ++ [x]) = natsOf l ++ [x.1] := by simp [natsOf]

theorem elements_any (r : Nat) (w : World) : Calls Tryd.prog 88 #[rowV r] w fun e w' =>
    e = .returned (.func (.func 96) #[] #[.pointer (some ⟨w.heap.size, 0, none⟩)]) ∧
    w' = w.alloc (.cells #[.int .u64 ((word r 0 : Nat) : Int), .int .u64 ((word r 1 : Nat) : Int), .int .u64 ((word r 2 : Nat) : Int), .int .u64 ((word r 3 : Nat) : Int)] 92) := by
  go_enter Tryd.func88, Tryd.ntmps88
  go_wp2
  go_ret
  exact ⟨rfl, rfl⟩

theorem tab_keep {w w' : World} {n₀ : Nat} (h : Tab w) (hb : Below n₀ w w') (ht : 0 < n₀) : Tab w' := fun j hj => by
  rw [hb.cell (p := ⟨0, j, none⟩) ht]
  exact h j hj

theorem ix_row (r j : Nat) (hj : j < 4) (w : World) : (Instr.index 92 (rowV r) (.int .i64 (j : Int))).run Tryd.prog w = .ok (.int .u64 ((word r j : Nat) : Int)) w := by
  obtain rfl | rfl | rfl | rfl : j = 0 ∨ j = 1 ∨ j = 2 ∨ j = 3 := by omega
  · exact ix0 _ _ _ _ w
  · exact ix1 _ _ _ _ w
  · exact ix2 _ _ _ _ w
  · exact ix3 _ _ _ _ w

theorem clear_word (x : Nat) (h0 : x ≠ 0) (hx : x < 18446744073709551616) : bits BinOp.and IntKind.u64 (x : Int) ((x : Int) - 1) = ((x &&& (x - 1) : Nat) : Int) := by
  have e : (x : Int) - 1 = ((x - 1 : Nat) : Int) := by omega
  rw [e, u64_and_nat _ _ hx (by omega)]

set_option maxRecDepth 100000 in
set_option maxHeartbeats 4000000 in
theorem elements1_stops (n n₀ Bs r : Nat) (w : World) (hn : 2 ≤ n) (_hr : r < 2 ^ 256) (hB : RowIn w Bs r) (hn₀ : n₀ ≤ w.heap.size) (htab : 0 < n₀) (hT : Tab w) :
    SeqStopsK Fence.wide n Tryd.prog 96 #[.pointer (some ⟨Bs, 0, none⟩)] (encBt (r := r)) (Below n₀) (fun xs => xs = eList r) (fun pre => pre <+: eList r) (eList r).length w := fun l J Jx W hW _ _ hY h0 => by
  have hBW := hB.below hW hB.lt
  have hTW := hT.below hW
  have hnW : n₀ ≤ W.heap.size := Nat.le_trans hn₀ hW.size
  obtain ⟨b0, b1, b2, b3⟩ := hBW.cells
  have hix := ix_row r
  have HT := Lib.hid hTW
  have HY := Lib.hid hY
  have HJ0 := Lib.hid h0
  have HNW := Lib.hid hnW
  have hwords := elems_words r
  have HW0 := Lib.hid hwords
  clear hB hT hTW hBW hY h0 hW hnW hn₀ hwords
  refine callsIn_of_wp Tryd.func96 rfl trivial ?_ rfl
  simp only [Tryd.ntmps96, List.size_toArray, List.length_cons, List.length_nil, Nat.reduceAdd, Nat.reduceSub, Array.replicate_succ, Array.replicate_zero, List.push_toArray, List.append_toArray, List.nil_append, List.cons_append]
  gi_wp2
  gi_loopw [6] (fun iv wr => ∃ (j : Nat) (pre rest : List (Bt r)), j ≤ 4 ∧ iv = .int .i64 j ∧ eList r = pre ++ rest ∧ natsOf rest = tailW r j ∧ J pre wr ∧ Below n₀ W wr) (fun iv _ => 4 - (intOf iv).toNat)
  case atStart => exact ⟨0, [], eList r, Nat.zero_le _, rfl, rfl, by rw [natsOf_all]; exact HW0.out, HJ0.out, Below.refl _ _⟩
  case round =>
    obtain ⟨j, pre, rest, hj, rfl, hall, hrest, hJ, hb⟩ := hrel
    have HALL := Lib.hid hall
    have HR := Lib.hid hrest
    have HJ := Lib.hid hJ
    have HB := Lib.hid hb
    clear hall hrest hJ hb
    by_cases hlt : j < 4
    · have hixj := hix j hlt
      have hj0 : (0 : Int) ≤ (j : Int) := by omega
      have hj3 : (j : Int) < 4 := by omega
      gi_wp2
      obtain ⟨wo, hwo⟩ : ∃ wo : World, wo = wr := ⟨_, rfl⟩
      rw [← hwo] at HJ HB ⊢
      clear hwo
      gi_loopw [4] (fun xv wr => ∃ (x : Nat) (pre rest : List (Bt r)), x < 18446744073709551616 ∧ xv = .int .u64 x ∧ eList r = pre ++ rest ∧ natsOf rest = (bitsW x).map (64 * j + ·) ++ tailW r (j + 1) ∧ J pre wr ∧ Below n₀ W wr) (fun xv _ => (intOf xv).toNat)
      case atStart => exact ⟨word r j, pre, rest, word_lt r j, rfl, HALL.out, by rw [HR.out, tailW_step hlt], HJ.out, HB.out⟩
      case round =>
        obtain ⟨x, pre, rest, hx, rfl, hall, hrest, hJ, hb⟩ := hrel
        have HALL := Lib.hid hall
        by_cases h0 : x = 0
        · have hx0 : (((x : Nat) : Int) != 0) = false := by rw [h0]; rfl
          have hrest2 : natsOf rest = tailW r (j + 1) := by rw [hrest, h0, bitsW_zero]; rfl
          have HR := Lib.hid hrest2
          have HJ := Lib.hid hJ
          have HB := Lib.hid hb
          clear hall hrest hrest2 hJ hb h0
          gi_wp2
          go_roundw
          case rel => exact ⟨j + 1, pre, rest, by omega, by go_num, HALL.out, HR.out, HJ.out, HB.out⟩
          case measure => simp [intOf]; omega
        · have hx0 : (((x : Nat) : Int) != 0) = true := bne_iff_ne.2 (by omega)
          obtain ⟨c, hc⟩ : ∃ c, c = Lib.ctz 64 x := ⟨_, rfl⟩
          have hclt : c < 64 := by rw [hc]; exact (ctz_low x h0 hx).2.2
          have hcons := bitsW_cons h0 hx
          rw [← hc] at hcons
          obtain ⟨y, rest', hre⟩ : ∃ y rest', rest = y :: rest' := by
            cases rest with
            | nil => rw [hcons] at hrest; simp [natsOf] at hrest
            | cons y rest' => exact ⟨y, rest', rfl⟩
          subst hre
          have hrest2 : y.1 = 64 * j + c ∧ natsOf rest' = (bitsW (x &&& (x - 1))).map (64 * j + ·) ++ tailW r (j + 1) := by
            rw [hcons] at hrest
            simpa [natsOf] using hrest
          have hyv : ((y.1 : Nat) : Int) = (j : Int) * 64 + (c : Int) := by rw [hrest2.1]; omega
          have htz := tz_any x hx h0 wr (tab_keep HT.out hb htab)
          rw [← hc] at htz
          have hlen : pre.length < (eList r).length := by rw [hall]; simp
          obtain ⟨fn, tmps, assign, body, hy, hR⟩ := HY.out pre y wr hJ hlen
          unfold encBt at hy
          rw [hyv] at hy
          have hcw := clear_word x h0 hx
          have hclear := clear_lt h0
          have HR := Lib.hid hrest2.2
          have HB := Lib.hid hb
          have HRD := Lib.hid hR
          have HTZ := Lib.hid htz
          clear hall hrest hrest2 hJ hb h0 hcons hyv hc hlen hR htz
          gi_wp2
          refine ⟨trivial, fun _ => by omega, (callsIn_wide.2 HTZ.out).mono ?_⟩
          rintro e w1 ⟨rfl, rfl⟩
          gi_wp2
          refine ⟨fun _ => by omega, HRD.out.mono ?_⟩
          rintro e W3 (⟨rfl, hJ3, hk3⟩ | ⟨rfl, hJx3⟩)
          · have HJ3 := Lib.hid hJ3
            have HK3 := Lib.hid hk3
            clear hJ3 hk3
            gi_wp2
            go_roundw
            case rel => exact ⟨x &&& (x - 1), pre ++ [y], rest', by omega, rfl, by rw [HALL.out]; simp, HR.out, HJ3.out, HB.out.trans HK3.out⟩
            case measure => simp [intOf]; omega
          · have HJ3 := Lib.hid hJx3
            clear hJx3
            gi_wp2
            refine bodyPost_ret (results_none rfl _ _ _) rfl ?_
            exact ⟨⟨_, rfl⟩, .inr ⟨pre ++ [y], ⟨rest', by rw [HALL.out]; simp⟩, HJ3.out⟩⟩
    · obtain rfl : j = 4 := by omega
      gi_wp2
      go_end0
      have hnil : rest = [] := by
        have h := HR.out
        rw [tailW_done] at h
        cases rest with
        | nil => rfl
        | cons y t => simp [natsOf] at h
      refine ⟨⟨_, rfl⟩, .inl ⟨pre, ?_, HJ.out⟩⟩
      have h := HALL.out
      rw [hnil, List.append_nil] at h
      exact h.symm
end Go.Proofs.YtkhhbpeheikmfaaDoor
