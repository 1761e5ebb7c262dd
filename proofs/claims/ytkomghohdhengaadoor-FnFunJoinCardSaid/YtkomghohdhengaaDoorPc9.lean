/- The reader's pick, and a new reader. -/
import Derived.Test.YtkomghohdhengaaDoorPc8
import Derived.BigQuiet
import Derived.Deep.Cut
import Derived.Laws.ShiftsVarLaws
namespace Go.Proofs.YtkomghohdhengaaDoor
open Go.RowKit Go.Deep

theorem mix_lt (a b k q : Nat) (ha : a < 256) (hb : b < 256) (hk : k < 1099511627776) (hq : q ≤ k) : a * 131 + b * 1117 + k * 29 + q * 53 < 281474976710656 := by omega

theorem bits_xor {a b : Nat} (ha : a < 2 ^ 62) (hb : b < 2 ^ 62) : bits .xor .i64 (a : Int) (b : Int) = ((a ^^^ b : Nat) : Int) := by
  have hx : a ^^^ b < 2 ^ 62 := Nat.xor_lt_two_pow ha hb
  have h1 : (BitVec.ofInt 64 (a : Int)).toNat = a := by
    rw [BitVec.ofInt_natCast, BitVec.toNat_ofNat]; exact Nat.mod_eq_of_lt (by omega)
  have h2 : (BitVec.ofInt 64 (b : Int)).toNat = b := by
    rw [BitVec.ofInt_natCast, BitVec.toNat_ofNat]; exact Nat.mod_eq_of_lt (by omega)
  show IntKind.i64.wrap ((BitVec.ofInt 64 (a : Int) ^^^ BitVec.ofInt 64 (b : Int)).toNat : Int) = _
  rw [BitVec.toNat_xor, h1, h2, IntKind.wrap_i64]
  omega

set_option maxRecDepth 100000 in
set_option maxHeartbeats 4000000 in
theorem pick_any (r : Nat) (v : Value) (p : Nat) (n : Int) (w : World) (hr : RdAt r v p w) (hp : p < 1099511627776) :
    Calls Tryd.prog 118 #[.pointer (some ⟨r, 0, none⟩), .int .i64 n] w (PickP r v p n w) := by
  have hr2 : RdAt r v (p + 1) (w.setCell ⟨r, 1, none⟩ (.int .i64 ((p + 1 : Nat) : Int))) := hr.set (p + 1)
  have hD : Dr r v w (p + 1) (w.setCell ⟨r, 1, none⟩ (.int .i64 ((p + 1 : Nat) : Int))) := (Dr.start hr).turn (turned_set r w 1 _) hr2
  obtain ⟨hc0, hc1, hf1⟩ := hr.cells
  obtain ⟨hd0, hd1, hg1⟩ := hr2.cells
  have e1 : ((p + 1 : Nat) : Int) = (p : Int) + 1 := by omega
  rw [e1] at hd0 hd1 hg1 hD hr2
  obtain ⟨a, m, C, rfl, hmC, hCm, hx⟩ := hr.code
  unfold maxLen at hCm
  have HD := Lib.hid hD
  have HX := Lib.hid hx
  clear hr hr2 hD hx e1
  by_cases h1 : n < 1
  · have hnn : ¬ (1 ≤ n) := by omega
    go_enter Tryd.func118, Tryd.ntmps118
    go_wp2
    go_ret
    exact ⟨⟨0, rfl, fun h => absurd h (by omega), fun _ => rfl⟩, HD.out⟩
  · obtain ⟨N, rfl⟩ : ∃ N : Nat, n = (N : Int) := ⟨n.toNat, by omega⟩
    by_cases h0 : m = 0
    · subst h0
      go_enter Tryd.func118, Tryd.ntmps118
      go_wp2
      go_ret
      exact ⟨⟨0, rfl, fun h => by omega, fun _ => rfl⟩, HD.out⟩
    · have hm0 : ¬ ((m : Int) = 0) := by omega
      by_cases hpm : p < m
      · obtain ⟨b, o, x, rfl, hb, hx, hcx⟩ := HX.out p hpm
        have hcy : (w.setCell ⟨r, 1, none⟩ (.int .i64 ((p : Int) + 1))).cell? ⟨b, o + p, none⟩ = some (.int .u8 (x : Int)) := by
          rw [World.cell?_of_block (heap_setCell_other _ ⟨r, 1, none⟩ b _ (by show b ≠ r; omega))]
          exact hcx
        have hpz : (p : Int) < (m : Int) := by omega
        clear hcx
        go_enter Tryd.func118, Tryd.ntmps118
        go_wp2
        go_ret
        refine ⟨⟨x % N, by simp, fun h => ?_, fun h => ?_⟩, HD.out⟩
        · have := Nat.mod_lt x (show 0 < N by omega)
          omega
        · omega
      · have hpz : ¬ (p : Int) < (m : Int) := by omega
        have hmm := Nat.mod_lt p (show 0 < m by omega)
        have hmq := Nat.mod_lt (p * 7 + 3) (show 0 < m by omega)
        obtain ⟨b, o, x, rfl, hb, hx, hcx⟩ := HX.out (p % m) hmm
        obtain ⟨b', o', y, e, _, hy, hcy⟩ := HX.out ((p * 7 + 3) % m) hmq
        cases e
        have hcx2 : (w.setCell ⟨r, 1, none⟩ (.int .i64 ((p : Int) + 1))).cell? ⟨b, o + p % m, none⟩ = some (.int .u8 (x : Int)) := by
          rw [World.cell?_of_block (heap_setCell_other _ ⟨r, 1, none⟩ b _ (by show b ≠ r; omega))]
          exact hcx
        have hcy2 : (w.setCell ⟨r, 1, none⟩ (.int .i64 ((p : Int) + 1))).cell? ⟨b, o + (p * 7 + 3) % m, none⟩ = some (.int .u8 (y : Int)) := by
          rw [World.cell?_of_block (heap_setCell_other _ ⟨r, 1, none⟩ b _ (by show b ≠ r; omega))]
          exact hcy
        obtain ⟨J, hJ⟩ : ∃ J : Nat, J = p % m := ⟨_, rfl⟩
        obtain ⟨K, hK⟩ : ∃ K : Nat, K = (p * 7 + 3) % m := ⟨_, rfl⟩
        obtain ⟨Q, hQ⟩ : ∃ Q : Nat, Q = p / m := ⟨_, rfl⟩
        have j1 : (p : Int) % (m : Int) = (J : Int) := by rw [hJ]; exact (Int.natCast_emod p m).symm
        have j2 : ((p : Int) * 7 + 3) % (m : Int) = (K : Int) := by rw [hK, Int.natCast_emod]; rfl
        have j3 : (p : Int) / (m : Int) = (Q : Int) := by rw [hQ]; exact (Int.natCast_ediv p m).symm
        have j4 : (p : Int).tdiv (m : Int) = (Q : Int) := by rw [hQ]; exact (Int.ofNat_tdiv p m).symm
        have j5 : (p : Int).tmod (m : Int) = (J : Int) := by rw [hJ]; exact (Int.ofNat_tmod p m).symm
        have hQp : Q ≤ p := by rw [hQ]; exact Nat.div_le_self _ _
        rw [← hJ] at hcx2 hmm
        rw [← hK] at hcy2 hmq
        have hJz : (J : Int) < (m : Int) := by omega
        have hKz : (K : Int) < (m : Int) := by omega
        clear hcx hcy hJ hK hQ
        go_enter Tryd.func118, Tryd.ntmps118
        go_upto_region 7 with fail
        go_quiet (fail)
        have hM : (x : Int) * 131 + (y : Int) * 1117 + (p : Int) * 29 + (Q : Int) * 53 = ((x * 131 + y * 1117 + p * 29 + Q * 53 : Nat) : Int) := by omega
        have hMl := mix_lt x y p Q hx hy hp hQp
        rw [hM]
        clear hM j1 j2 j3 j4 j5
        generalize x * 131 + y * 1117 + p * 29 + Q * 53 = M at hMl ⊢
        have hxo : bits .xor .i64 (M : Int) ((M : Int) / 64) = ((M ^^^ M / 64 : Nat) : Int) := by
          rw [show (M : Int) / 64 = ((M / 64 : Nat) : Int) by omega]
          exact bits_xor (by omega) (by omega)
        go_wp2
        go_ret
        refine ⟨⟨(M ^^^ M / 64) % N, by simp, fun h => ?_, fun h => ?_⟩, HD.out.step (below_drewN' _ _ _)⟩
        · have := Nat.mod_lt (M ^^^ M / 64) (show 0 < N by omega)
          omega
        · omega

/-- A new reader. -/
def OpenP (w : World) (e : Ending) (w' : World) : Prop := ∃ v', e = .returned (.pointer (some ⟨w.heap.size, 0, none⟩)) ∧ RdAt w.heap.size v' 0 w' ∧ Below w.heap.size w w' ∧ w'.heap.size = w.heap.size + 1

set_option maxRecDepth 100000 in
set_option maxHeartbeats 4000000 in
theorem l6Open_any (v : Value) (w : World) (hv : CodeAt w.heap.size w v) :
    Calls Tryd.prog 70 #[v] w (OpenP w) := by
  have hR : ∀ u, CodeAt w.heap.size w u → OpenP w (.returned (.pointer (some ⟨w.heap.size, 0, none⟩))) (w.alloc (.cells #[u, .int .i64 0] 138)) := fun u hu => by
    have hb := (Below.refl w.heap.size w).alloc (Nat.le_refl _) (.cells #[u, .int .i64 0] 138)
    refine ⟨u, rfl, ⟨World.rowIs_alloc w #[u, .int .i64 0] 138 (rdF u 0) (fun i hi => ?_), hu.below hb⟩, hb, World.size_alloc _ _⟩
    have : i < 2 := by simpa using hi
    match i, this with
    | 0, _ => rfl
    | 1, _ => rfl
  have hT := fun m a n C (h : CodeAt w.heap.size w (.slice a n C)) (hm : m ≤ n) => hR _ (h.take hm)
  obtain ⟨a, n, C, rfl, h1, h2, h3⟩ := id hv
  have HV := Lib.hid hv
  have HR := Lib.hid hR
  have HT := Lib.hid hT
  unfold maxLen at h2
  clear hv hR hT h3
  by_cases hn : 2000 < n
  · have hz : (2000 : Int) < (n : Int) := by omega
    go_enter Tryd.func70, Tryd.ntmps70
    go_wp2
    go_ret
    exact HT.out 2000 _ _ _ HV.out (by omega)
  · have hz : ¬ (2000 : Int) < (n : Int) := by omega
    go_enter Tryd.func70, Tryd.ntmps70
    go_wp2
    go_ret
    exact HR.out _ HV.out
end Go.Proofs.YtkomghohdhengaaDoor


