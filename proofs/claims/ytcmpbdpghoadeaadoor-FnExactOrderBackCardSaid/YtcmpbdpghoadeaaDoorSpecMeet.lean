/- The model's OrderMeet. -/
import Derived.Test.YtcmpbdpghoadeaaDoorSpecJoin
import Derived.Test.YtcmpbdpghoadeaaDoorBackS
import Derived.Test.YtcmpbdpghoadeaaDoorHgtP
namespace Go.Proofs.YtcmpbdpghoadeaaDoor
open Go.RowKit Go.Deep

theorem sum_le {m : Nat} : ∀ l : List Nat, (∀ x ∈ l, x ≤ m) → l.sum ≤ l.length * m
  | [], _ => by simp
  | x :: l, h => by
    have h1 := sum_le l fun y hy => h y (by simp [hy])
    have h2 := h x (by simp)
    rw [List.sum_cons, List.length_cons, Nat.succ_mul]
    omega
/-- An order is not large. -/
theorem Ok.bulk {rows : Rows2} (h : Ok rows) : bulk rows ≤ 1048576 := by
  unfold Go.Proofs.YtcmpbdpghoadeaaDoor.bulk
  have h1 := sum_le (m := 256) (rows.map List.length) fun x hx => by
    obtain ⟨r, hr, rfl⟩ := List.mem_map.1 hx
    obtain ⟨i, hi, rfl⟩ := List.getElem_of_mem hr
    rw [h.elems hi, List.length_map]
    exact elems_length_le _
  rw [List.length_map] at h1
  have h2 := h.len.2
  have h3 := Nat.mul_le_mul_right 256 h2
  omega

/-- What OrderMeet answers. -/
noncomputable def meetB (rows : Rows2) (a b : Int) : Int := if hasB rows a b = true then joinI (backRows rows) a.toNat b.toNat else -1

set_option maxHeartbeats 2000000 in
theorem specMeet_any (v : Value) (rows : Rows2) (a b : Int) (w : World) (hv : RowsAt w v rows) (hn : bulk rows ≤ 1048576) :
    Calls Tryd.prog 23 #[.agg #[v], .int .i64 a, .int .i64 b] w (SaysI (meetB rows a b) w) := by
  have hH := Held.start w 27 hv
  have hcall := l1Has_any v rows a b _ hH.2.1 hn
  obtain ⟨A, C, rfl, _⟩ := hv
  have HH := Lib.hid hH
  clear hH
  unfold meetB
  cases hval : hasB rows a b with
  | false =>
    rw [hval] at hcall
    rw [if_neg (by simp)]
    clear hval
    go_enter Tryd.func23, Tryd.ntmps23
    go_wp2_with (go_at_call 54; refine hcall.mono ?_; clear hcall; rintro e w1 ⟨rfl, hb1⟩; have H1 := Lib.hid (HH.out.below hb1); have hc1 := H1.out.1; clear hb1)
    go_ret
    exact ⟨rfl, H1.out.2.2.1⟩
  | true =>
    rw [hval] at hcall
    rw [if_pos rfl]
    obtain ⟨hvd, ha, hb⟩ := has_parts hval
    have hok := ok_of_valid hvd
    have HK := Lib.hid hok
    have HA := Lib.hid ha
    have HB := Lib.hid hb
    have HLN := Lib.hid (backRows_len rows)
    clear hval hvd ha hb hok
    go_enter Tryd.func23, Tryd.ntmps23
    go_wp2_with (go_at_call 54; refine hcall.mono ?_; clear hcall; rintro e w1 ⟨rfl, hb1⟩; have H1 := Lib.hid (HH.out.below hb1); have hc1 := H1.out.1; clear hb1)
    refine (l1Back_any _ rows w1 H1.out.2.1 HK.out).mono ?_
    rintro e w2 ⟨v2, rfl, ho, hb2⟩
    have H2 := Lib.hid (H1.out.below hb2)
    have R2 : Hid (RowsAt w2 v2 (backRows rows)) := Lib.hid (OwnR.at (by rw [HLN.out]; exact ho))
    obtain ⟨a2, n2, C2, e2⟩ : ∃ a n C, v2 = .slice a n C := by
      obtain ⟨rfl, _⟩ | ⟨_, _, _, rfl, _⟩ := ho
      · exact ⟨_, _, _, rfl⟩
      · exact ⟨_, _, _, rfl⟩
    subst e2
    clear ho hb2 hc1
    go_wp2_with (go_at_call 55; refine (l1Join_any _ (backRows rows) a b a.toNat b.toNat _ R2.out HK.out.back.bulk (valid_lists (valid_of_ok HK.out.back)) (by have := HA.out; omega) (by have := HB.out; omega) (by have := HA.out; have := HLN.out; omega) (by have := HB.out; have := HLN.out; omega)).mono ?_; rintro e w3 ⟨rfl, hb3⟩; have H3 := Lib.hid (H2.out.below hb3); clear hb3)
    go_ret
    exact ⟨rfl, H3.out.2.2.1⟩
end Go.Proofs.YtcmpbdpghoadeaaDoor
