/- The model's longest chains (l1Chain). -/
import Derived.Test.YtjlemkmpmjdjaaaDoorPa10
import Derived.Test.YtjlemkmpmjdjaaaDoorPa8
import Derived.Test.YtjlemkmpmjdjaaaDoorPa1
import Derived.Deep.RegionWith
import Derived.RangeFuncBox
namespace Go.Proofs.YtjlemkmpmjdjaaaDoor
open Go.RowKit Go.Deep

/-- What is known of the chains: 0, or the longest one. -/
def ChainK (rows : Rows2) (kb : Nat) (K : Nat → Nat) (W : World) : Prop :=
  W.rowIs kb 3 rows.length (fun j => .int .i64 ((K j : Nat) : Int)) ∧ ∀ j, j < rows.length → K j = 0 ∨ K j = rankF (gridF rows) j

theorem chain_le {rows : Rows2} {kb : Nat} {K : Nat → Nat} {W : World} (h : ChainK rows kb K W) {j : Nat} (hj : j < rows.length) : K j ≤ 256 := by
  rcases h.2 j hj with e | e
  · omega
  · rw [e]; exact rank_le _ _
theorem ChainK.grown {rows : Rows2} {kb : Nat} {K : Nat → Nat} {W W' : World} (h : ChainK rows kb K W) (hb : W'.heap[kb]? = W.heap[kb]?) : ChainK rows kb K W' := ⟨h.1.of_block hb, h.2⟩
theorem ChainK.set {rows : Rows2} {kb : Nat} {K : Nat → Nat} {W : World} (h : ChainK rows kb K W) {i r : Nat} (hr : r = rankF (gridF rows) i) : ChainK rows kb (fun j => if j = i then r else K j) (W.setCell ⟨kb, i, none⟩ (.int .i64 ((r : Nat) : Int))) := by
  refine ⟨(h.1.set i _).congr fun j _ => ?_, fun j hj => ?_⟩
  · dsimp only
    by_cases e : j = i
    · rw [if_pos e, if_pos e]
    · rw [if_neg e, if_neg e]
  · dsimp only
    by_cases e : j = i
    · subst e; rw [if_pos rfl]; exact .inr hr
    · rw [if_neg e]; exact h.2 j hj

/-- The best of the first k elements above i. -/
def bestN (rows : Rows2) (i k : Nat) : Nat := maxL (rankF (gridF rows)) (((elems (gridF rows i)).take k).filter fun c => !decide (c = i))
theorem bestN_zero (rows : Rows2) (i : Nat) : bestN rows i 0 = 0 := by simp [bestN, maxL]
theorem bestN_step {rows : Rows2} {i k : Nat} (hk : k < (elems (gridF rows i)).length) : bestN rows i (k + 1) = if (elems (gridF rows i))[k] = i then bestN rows i k else max (bestN rows i k) (rankF (gridF rows) (elems (gridF rows i))[k]) := by
  unfold bestN
  rw [List.take_succ_eq_append_getElem hk, List.filter_append, List.filter_cons, List.filter_nil]
  by_cases e : (elems (gridF rows i))[k] = i
  · rw [if_pos e, decide_eq_true e]
    simp
  · rw [if_neg e, decide_eq_false e]
    simp only [Bool.not_false, if_true]
    exact maxL_snoc _ _ _
theorem bestN_done {rows : Rows2} (h : Ok rows) {i : Nat} (hi : i < rows.length) : bestN rows i (elems (gridF rows i)).length + 1 = rankF (gridF rows) i := by
  unfold bestN
  rw [List.take_length, rank_eq h hi]
  rfl
theorem bestN_le (rows : Rows2) (i k : Nat) : bestN rows i k ≤ 256 := by
  apply Nat.le_of_not_lt
  unfold bestN
  rw [lt_maxL]
  rintro ⟨c, _, hc⟩
  have := rank_le (gridF rows) c
  omega

/-- What l1Chain answers, and how it leaves memory. -/
def ChainPost (rows : Rows2) (i kb : Nat) (w : World) (e : Ending) (w' : World) : Prop :=
  e = .returned (.int .i64 ((rankF (gridF rows) i : Nat) : Int)) ∧ (∃ K, ChainK rows kb K w') ∧ w.grownBy w' (some kb)

theorem grownBy_refl (w : World) (row : Option Nat) : w.grownBy w row := ⟨rfl, rfl, rfl, Nat.le_refl _, fun _ _ _ => rfl⟩
theorem grownBy_then {a b c : World} {row : Option Nat} (h : a.grownBy b row) (k : b.grownBy c row) : a.grownBy c row :=
  ⟨k.os.trans h.os, k.tape.trans h.tape, k.output.trans h.output, Nat.le_trans h.size k.size, fun i hi hr => (k.block i (Nat.lt_of_lt_of_le hi h.size) hr).trans (h.block i hi hr)⟩
theorem grownBy_below {a b : World} (h : Below a.heap.size a b) (row : Option Nat) : a.grownBy b row := ⟨h.os, h.tape, h.output, h.size, fun k hk _ => h.block k hk⟩
theorem grownBy_cell (W : World) (g o : Nat) (v : Value) : W.grownBy (W.setCell ⟨g, o, none⟩ v) (some g) :=
  ⟨rfl, rfl, rfl, by simp [World.setCell], fun k _ hk => Below.heap_setCell _ _ _ k (fun e => hk (by rw [e]))⟩

set_option maxRecDepth 100000 in
set_option maxHeartbeats 4000000 in
theorem l1Chain_any (v : Value) (rows : Rows2) (w0 : World) (kb : Nat) (hv0 : RowsAt w0 v rows) (hok : Ok rows) (hkb : w0.heap.size ≤ kb) : ∀ (f i : Nat) (x : Int) (K : Nat → Nat) (w : World), (elems (gridF rows i)).length ≤ f → x = i → i < rows.length → Below w0.heap.size w0 w → ChainK rows kb K w →
    Calls Tryd.prog 92 #[.agg #[v], .int .i64 x, whole kb rows.length] w (ChainPost rows i kb w) := by
  intro f
  induction f with
  | zero =>
    intro i x K w hf _ hi
    have := (mem_elems (hok.lt i)).2 (hok.own i hi)
    rw [List.length_eq_zero_iff.1 (by omega : (elems (gridF rows i)).length = 0)] at this
    cases this
  | succ f ih =>
    intro i x K w hf hx hi hB hK
    subst hx
    have hlen := hok.len
    have hv := hv0.below hB
    have hkw : kb < w.heap.size := hK.1.lt
    have hKi := hK.2 i hi
    have hb1 : Below w.heap.size w (w.alloc (.cells #[v] 25)) := (Below.refl _ w).alloc (Nat.le_refl _) _
    have hkc : (w.alloc (.cells #[v] 25)).cell? ⟨kb, i, none⟩ = some (.int .i64 ((K i : Nat) : Int)) := (hK.grown (hb1.block kb hkw)).1.cell hi
    have hBX := Boxed.new w 25 v
    have hKle := chain_le hK hi
    have hlm : (rows.length : Int) ≤ 200 := by omega
    obtain ⟨A, C, rfl, hC, hm, hxx⟩ := hv0
    unfold maxLen at hm
    obtain ⟨b0, o0, _, rfl, _, _⟩ := hxx i hi
    have HV0 := Lib.hid (show RowsAt w0 (.slice (some ⟨b0, o0, none⟩) rows.length C) rows from ⟨_, _, rfl, hC, by unfold maxLen; exact hm, hxx⟩)
    have HB := Lib.hid hB
    have HK := Lib.hid hK
    have HBX := Lib.hid hBX
    have HB1 := Lib.hid hb1
    have IH := Lib.hid ih
    have HF := Lib.hid hf
    clear hv hB hK hBX hb1 ih hf hxx
    by_cases h0 : K i = 0
    · have he0 : (((K i : Nat) : Int) == 0) = true := by rw [h0]; rfl
      have HLL := Lib.hid (show rows[i].length = (elems (gridF rows i)).length by rw [hok.elems hi, List.length_map])
      clear h0 hKi hKle
      go_enter Tryd.func92, Tryd.ntmps92
      go_wp2
      go_loopw [7, 8] (fun bv kv wr => ∃ (k : Nat) (K' : Nat → Nat), k ≤ rows[i].length ∧ kv = .int .i64 k ∧ bv = .int .i64 ((bestN rows i k : Nat) : Int) ∧ ChainK rows kb K' wr ∧ Boxed wr w.heap.size 25 (.slice (some ⟨b0, o0, none⟩) rows.length C) ∧ w.grownBy wr (some kb)) (fun _ kv _ => rows[i].length - (intOf kv).toNat)
      case atStart => exact ⟨0, K, Nat.zero_le _, rfl, by rw [bestN_zero]; rfl, HK.out.grown (HB1.out.block kb hkw), HBX.out, grownBy_below HB1.out _⟩
      case round =>
        obtain ⟨k, K', hk, rfl, rfl, hK', hbx, hg⟩ := hrel
        have hcell := hbx.cell
        have hBr : Below w0.heap.size w0 wr := HB.out.grown hg HB.out.size (fun q e => by cases e; exact hkb)
        obtain ⟨A1, C1, hC1, hm1, hc, hyy⟩ := (HV0.out.below hBr).row hi
        unfold maxLen at hm1
        have hrl : rows[i].length ≤ 256 := by rw [HLL.out]; exact elems_length_le _
        have HK2 := Lib.hid hK'
        have HBX2 := Lib.hid hbx
        have HG2 := Lib.hid hg
        have HBR := Lib.hid hBr
        have hbest := bestN_le rows i k
        clear hK' hbx hg hBr
        by_cases hlt : k < rows[i].length
        · obtain ⟨b1, o1, rfl, hc1⟩ := hyy k hlt
          have hlt2 : k < (elems (gridF rows i)).length := by rw [← HLL.out]; exact hlt
          obtain ⟨c, hce⟩ : ∃ c : Nat, (elems (gridF rows i))[k] = c := ⟨_, rfl⟩
          have hcv : rows[i][k] = (c : Int) := by
            have h := hok.elems hi
            have h2 : rows[i][k] = ((elems (gridF rows i)).map (fun k : Nat => (k : Int)))[k]'(by rw [List.length_map]; exact hlt2) := by simp only [← h]
            rw [h2, List.getElem_map, hce]
          rw [hcv] at hc1
          have hcm : (gridF rows i).testBit c = true := by rw [← mem_elems (hok.lt i), ← hce]; exact List.getElem_mem _
          have hcl : c < rows.length := (hok.bit_lt hcm).2
          have hstep := bestN_step hlt2
          rw [hce] at hstep
          have HST := Lib.hid hstep
          have HCM := Lib.hid hcm
          clear hyy hce hcv hstep hcm
          by_cases hci : c = i
          · have hn1 : ((c : Int) != (i : Int)) = false := by simp [hci]
            have hn2 : (c != i) = false := by simp [hci]
            have HCI := Lib.hid hci
            clear hci
            go_wp2
            go_roundw
            case rel => exact ⟨k + 1, K', by omega, by go_num, by rw [HST.out, if_pos HCI.out], HK2.out, HBX2.out, HG2.out⟩
            case measure => simp [intOf]; omega
          · have hn1 : ((c : Int) != (i : Int)) = true := bne_iff_ne.2 (by omega)
            have hn2 : (c != i) = true := by simpa using hci
            have hrk := rank_le (gridF rows) c
            have HCI := Lib.hid hci
            have HCALL := Lib.hid (IH.out c c K' wr.drew (by have h1 := strict_less hok ((strict_iff hok).2 ⟨HCM.out, hci⟩); have := HF.out; omega) rfl hcl (HBR.out.trans ((Below.refl _ wr).drew)) (HK2.out.grown rfl))
            clear hci
            go_wp2
            first | (go_region_with (go_at_call 92; refine HCALL.out.mono ?_; clear HCALL; rintro e w3 ⟨rfl, ⟨K3, hK3⟩, hg3⟩; have HK3 := Lib.hid hK3; have HG3 := Lib.hid hg3; clear hK3 hg3)) | fail
            all_goals
              go_wp2
              go_roundw
              case rel =>
                have hg4 : wr.grownBy w3 (some kb) := ⟨HG3.out.os, HG3.out.tape, HG3.out.output, HG3.out.size, HG3.out.block⟩
                refine ⟨k + 1, K3, by omega, by go_num, ?_, HK3.out, HBX2.out.kept hg4 (by have := hkw; intro e; cases e; omega), grownBy_then HG2.out hg4⟩
                rw [HST.out, if_neg HCI.out]
                first | rfl | (congr 1; omega) | (simp; done)
              case measure => simp [intOf]; omega
        · obtain rfl : k = rows[i].length := by omega
          have hbd := bestN_done hok hi
          rw [← HLL.out] at hbd
          have HBD := Lib.hid hbd
          have hks := HK2.out.1.cell hi
          have hkf := HK2.out.1.frozen i
          have hcs := World.cell?_setCell_same' wr ⟨kb, i, none⟩ (.int .i64 ((bestN rows i rows[i].length : Nat) + 1 : Int)) (by rw [hks]; rfl)
          clear hyy hbd
          go_wp2
          go_ret
          have hset := HK2.out.set (i := i) (r := bestN rows i rows[i].length + 1) HBD.out
          refine ⟨by rw [← HBD.out]; rfl, ⟨_, hset⟩, grownBy_then HG2.out (grownBy_cell _ _ _ _)⟩
    · have hr : K i = rankF (gridF rows) i := by
        rcases hKi with h | h
        · exact absurd h h0
        · exact h
      have hne : (((K i : Nat) : Int) == 0) = false := by rw [beq_eq_false_iff_ne]; omega
      have HR := Lib.hid hr
      clear h0 hr hKi
      go_enter Tryd.func92, Tryd.ntmps92
      go_wp2
      go_ret
      exact ⟨by rw [← HR.out]; rfl, ⟨K, HK.out.grown (HB1.out.block kb hkw)⟩, grownBy_below HB1.out _⟩
end Go.Proofs.YtjlemkmpmjdjaaaDoor


