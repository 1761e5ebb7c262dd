/- Products go part by part: joins and heights. Plain facts: no function is walked here. -/
import Derived.Test.YtjfbjfclcpcaiaaDoorLiftQk
namespace Go.Proofs.YtjfbjfclcpcaiaaDoor
open Go.RowKit Go.Deep

theorem code_div {n a b : Nat} (hb : b < n) : (a * n + b) / n = a ∧ (a * n + b) % n = b := by
  rw [Nat.mul_comm, Nat.mul_add_div (by omega), Nat.div_eq_of_lt hb, Nat.mul_add_mod, Nat.mod_eq_of_lt hb, Nat.add_zero]
  exact ⟨rfl, rfl⟩
theorem code_lt {n n' a b : Nat} (ha : a < n) (hb : b < n') : a * n' + b < n * n' := by
  have := Nat.mul_le_mul_right n' (show a + 1 ≤ n by omega)
  rw [Nat.add_mul, Nat.one_mul] at this
  omega
theorem code_of (n x : Nat) : x / n * n + x % n = x := by rw [Nat.mul_comm]; exact Nat.div_add_mod x n
section
variable {rows rows' : Rows2} (h : prodOk rows rows' = true)
include h
theorem prod_len : (prodL rows rows').length = rows.length * rows'.length := (prodL_yes h).1
theorem prod_rank_ge : ∀ (d a b : Nat), rankF (gridF rows) a + rankF (gridF rows') b = d → a < rows.length → b < rows'.length → d ≤ rankF (gridF (prodL rows rows')) (a * rows'.length + b) + 1 := by
  obtain ⟨⟨hd, hd'⟩, _⟩ := prod_parts h
  have hok := (domB_iff.1 hd).1
  have hok' := (domB_iff.1 hd').1
  have hP := (domB_iff.1 (prod_dom h)).1
  intro d
  induction d using Nat.strongRecOn with
  | ind d ih =>
    intro a b e ha hb
    have hc := code_div (a := a) hb
    have hl := code_lt ha hb
    have hpos := rank_pos hP (i := a * rows'.length + b) (by rw [prod_len h]; exact hl)
    by_cases h1 : 1 < rankF (gridF rows) a
    · obtain ⟨k, h2, h3, h4⟩ := rank_step hok ha h1
      have hk := (hok.bit_lt h2).2
      have hck := code_div (a := k) hb
      have h5 := ih (rankF (gridF rows) k + rankF (gridF rows') b) (by omega) k b rfl hk hb
      have h6 := rank_lt hP (i := a * rows'.length + b) (k := k * rows'.length + b) ((prod_lq h).2 ⟨by rw [hc.1, hck.1]; exact h2, by rw [hc.2, hck.2]; exact Lq.refl hok' hb⟩) (fun e => h3 (by rw [← hck.1, e, hc.1]))
      omega
    · by_cases h1' : 1 < rankF (gridF rows') b
      · obtain ⟨k, h2, h3, h4⟩ := rank_step hok' hb h1'
        have hk := (hok'.bit_lt h2).2
        have hck := code_div (a := a) hk
        have h5 := ih (rankF (gridF rows) a + rankF (gridF rows') k) (by omega) a k rfl ha hk
        have h6 := rank_lt hP (i := a * rows'.length + b) (k := a * rows'.length + k) ((prod_lq h).2 ⟨by rw [hc.1, hck.1]; exact Lq.refl hok ha, by rw [hc.2, hck.2]; exact h2⟩) (fun e => h3 (by rw [← hck.2, e, hc.2]))
        omega
      · omega
theorem prod_rank_le : ∀ (d x : Nat), rankF (gridF (prodL rows rows')) x = d → x < (prodL rows rows').length → d + 1 ≤ rankF (gridF rows) (x / rows'.length) + rankF (gridF rows') (x % rows'.length) := by
  obtain ⟨⟨hd, hd'⟩, _⟩ := prod_parts h
  have hok := (domB_iff.1 hd).1
  have hok' := (domB_iff.1 hd').1
  have hP := (domB_iff.1 (prod_dom h)).1
  have hx : ∀ x, x < (prodL rows rows').length → x / rows'.length < rows.length ∧ x % rows'.length < rows'.length := fun x hx => by
    have n' := hok'.len
    rw [prod_len h] at hx
    exact ⟨(Nat.div_lt_iff_lt_mul (by omega)).2 hx, Nat.mod_lt _ (by omega)⟩
  have up : ∀ {r : Rows2} (hr : Ok r) {p q : Nat}, Lq r p q = true → rankF (gridF r) q ≤ rankF (gridF r) p ∧ (q ≠ p → rankF (gridF r) q < rankF (gridF r) p) := fun {r} hr {p q} hpq => by
    by_cases e : q = p
    · rw [e]; exact ⟨Nat.le_refl _, fun hne => absurd rfl hne⟩
    · have := rank_lt hr hpq e
      exact ⟨by omega, fun _ => this⟩
  intro d
  induction d using Nat.strongRecOn with
  | ind d ih =>
    intro x e hl
    have hxl := hx x hl
    have p1 := rank_pos hok hxl.1
    have p2 := rank_pos hok' hxl.2
    by_cases h1 : 1 < rankF (gridF (prodL rows rows')) x
    · obtain ⟨k, h2, h3, h4⟩ := rank_step hP hl h1
      obtain ⟨q1, q2⟩ := (prod_lq h).1 h2
      have h5 := ih (rankF (gridF (prodL rows rows')) k) (by omega) k rfl (hP.bit_lt h2).2
      obtain ⟨u1, u2⟩ := up hok q1
      obtain ⟨v1, v2⟩ := up hok' q2
      by_cases e1 : k / rows'.length = x / rows'.length
      · by_cases e2 : k % rows'.length = x % rows'.length
        · exact absurd (by rw [← code_of rows'.length k, ← code_of rows'.length x, e1, e2]) h3
        · have := v2 e2; omega
      · have := u2 e1; omega
    · omega
theorem prod_height : heightB (prodL rows rows') = heightB rows + heightB rows' - 1 := by
  obtain ⟨⟨hd, hd'⟩, _⟩ := prod_parts h
  have hok := (domB_iff.1 hd).1
  have hok' := (domB_iff.1 hd').1
  have hP := (domB_iff.1 (prod_dom h)).1
  have n' := hok'.len
  rw [height_of hok, height_of hok', height_of hP]
  obtain ⟨a, ha, ea⟩ := height_at hok
  obtain ⟨b, hb, eb⟩ := height_at hok'
  have h1 := prod_rank_ge h _ a b rfl ha hb
  have h2 := height_ge hP (i := a * rows'.length + b) (by rw [prod_len h]; exact code_lt ha hb)
  obtain ⟨x, hx, ex⟩ := height_at hP
  have h3 := prod_rank_le h _ x rfl hx
  rw [prod_len h] at hx
  have h4 := height_ge hok (i := x / rows'.length) ((Nat.div_lt_iff_lt_mul (by omega)).2 hx)
  have h5 := height_ge hok' (i := x % rows'.length) (Nat.mod_lt _ (by omega))
  omega
theorem prod_join {x y : Nat} (hx : x < rows.length * rows'.length) (hy : y < rows.length * rows'.length) : joinB (prodL rows rows') x y =
    if joinB rows ((x / rows'.length : Nat) : Int) ((y / rows'.length : Nat) : Int) < 0 ∨ joinB rows' ((x % rows'.length : Nat) : Int) ((y % rows'.length : Nat) : Int) < 0 then -1
    else joinB rows ((x / rows'.length : Nat) : Int) ((y / rows'.length : Nat) : Int) * (rows'.length : Int) + joinB rows' ((x % rows'.length : Nat) : Int) ((y % rows'.length : Nat) : Int) := by
  obtain ⟨⟨hd, hd'⟩, _⟩ := prod_parts h
  have hok := (domB_iff.1 hd).1
  have hok' := (domB_iff.1 hd').1
  have hP := (domB_iff.1 (prod_dom h)).1
  have n' := hok'.len
  have d : ∀ z, z < rows.length * rows'.length → z / rows'.length < rows.length ∧ z % rows'.length < rows'.length := fun z hz => ⟨(Nat.div_lt_iff_lt_mul (by omega)).2 hz, Nat.mod_lt _ (by omega)⟩
  obtain ⟨x1, x2⟩ := d x hx
  obtain ⟨y1, y2⟩ := d y hy
  have hxl : x < (prodL rows rows').length := by rw [prod_len h]; exact hx
  have hyl : y < (prodL rows rows').length := by rw [prod_len h]; exact hy
  rw [joinB_at hP hxl hyl, joinB_at hok x1 y1, joinB_at hok' x2 y2]
  have none_of : (∀ c : Nat, joinI (prodL rows rows') x y ≠ (c : Int)) → joinI (prodL rows rows') x y = -1 := fun hno => by
    rcases join_cases hP hxl hyl with e | ⟨c, _, e⟩
    · exact e
    · exact absurd e (hno c)
  rcases join_cases hok x1 y1 with e1 | ⟨c, hc, e1⟩
  · rw [if_pos (.inl (by omega))]
    refine none_of fun z ez => ?_
    obtain ⟨p, q, s⟩ := (join_is hP hxl hyl).1 ez
    obtain ⟨p1, p2⟩ := (prod_lq h).1 p
    obtain ⟨q1, q2⟩ := (prod_lq h).1 q
    obtain ⟨j, _, ej, _⟩ := dom_join hd p1 q1
    omega
  · rcases join_cases hok' x2 y2 with e2 | ⟨c', hc', e2⟩
    · rw [if_pos (.inr (by omega))]
      refine none_of fun z ez => ?_
      obtain ⟨p, q, s⟩ := (join_is hP hxl hyl).1 ez
      obtain ⟨p1, p2⟩ := (prod_lq h).1 p
      obtain ⟨q1, q2⟩ := (prod_lq h).1 q
      obtain ⟨j, _, ej, _⟩ := dom_join hd' p2 q2
      omega
    · rw [if_neg (by omega), e1, e2]
      obtain ⟨p1, q1, s1⟩ := (join_is hok x1 y1).1 e1
      obtain ⟨p2, q2, s2⟩ := (join_is hok' x2 y2).1 e2
      have hcd := code_div (a := c) hc'
      have key : joinI (prodL rows rows') x y = ((c * rows'.length + c' : Nat) : Int) := by
        refine (join_is hP hxl hyl).2 ⟨(prod_lq h).2 ?_, (prod_lq h).2 ?_, fun z hz1 hz2 => (prod_lq h).2 ?_⟩
        · rw [hcd.1, hcd.2]; exact ⟨p1, p2⟩
        · rw [hcd.1, hcd.2]; exact ⟨q1, q2⟩
        · rw [hcd.1, hcd.2]
          obtain ⟨a1, a2⟩ := (prod_lq h).1 hz1
          obtain ⟨b1, b2⟩ := (prod_lq h).1 hz2
          exact ⟨s1 _ a1 b1, s2 _ a2 b2⟩
      rw [key, Int.natCast_add, Int.natCast_mul]
end
end Go.Proofs.YtjfbjfclcpcaiaaDoor
