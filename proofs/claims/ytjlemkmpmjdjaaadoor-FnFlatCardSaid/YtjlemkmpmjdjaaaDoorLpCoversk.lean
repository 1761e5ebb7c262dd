/- The law FnCovers: an order is made of its covers. -/
import Derived.Test.YtjlemkmpmjdjaaaDoorPa29
import Derived.Test.YtjlemkmpmjdjaaaDoorPa23
import Derived.Test.YtjlemkmpmjdjaaaDoorFromIk
import Derived.Test.YtjlemkmpmjdjaaaDoorPa21
import Derived.Test.YtjlemkmpmjdjaaaDoorPa13
import Derived.Test.YtjlemkmpmjdjaaaDoorSamek
namespace Go.Proofs.YtjlemkmpmjdjaaaDoor
open Go.RowKit Go.Deep Go.Shelf

theorem coverB_bulk2 (rows : Rows2) : bulk (coverB rows) ≤ 1048576 := by
  unfold coverB
  by_cases h : validB rows = true
  · have hok := ok_of_valid h
    rw [if_pos h]
    have h1 : ∀ l : List (List Int), (∀ x ∈ l, x.length ≤ 256) → (l.map List.length).sum ≤ l.length * 256 := by
      intro l
      induction l with
      | nil => intro _; simp
      | cons y l ih =>
        intro hx
        have := ih fun x hx' => hx x (by simp [hx'])
        have := hx y (by simp)
        simp only [List.map_cons, List.sum_cons, List.length_cons]
        omega
    have h2 := h1 ((List.range rows.length).map (coversI rows)) (by
      intro x hx
      obtain ⟨i, hi, rfl⟩ := List.mem_map.1 hx
      rw [covers_eq hok (List.mem_range.1 hi), List.length_map]
      unfold elems
      have := List.length_filter_le (fun b => (coversF (gridF rows) i).testBit b) (List.range 256)
      simpa using this)
    have hn := hok.len.2
    have e : ((List.range rows.length).map (coversI rows)).length = rows.length := by simp
    unfold bulk
    rw [e] at h2 ⊢
    omega
  · rw [if_neg h]; simp [bulk]

theorem sameLists_self (v u : Value) (xs : Rows2) (w : World) (hv : RowsAt w v xs) (hu : RowsAt w u xs) : Calls Tryd.prog 35 #[v, u] w (SaysN true w) :=
  (sameLists_any v u xs xs w hv hu).mono fun e w' ⟨he, n, hw⟩ => ⟨by rw [he]; simp, by rw [hw]; exact below_drewN' _ _ _⟩
theorem sameOrder_self (v u : Value) (xs : Rows2) (w : World) (hv : RowsAt w v xs) (hu : RowsAt w u xs) : Calls Tryd.prog 37 #[.agg #[v], .agg #[u]] w (SaysN true w) :=
  (sameOrder_any v u xs xs w hv hu).mono fun e w' ⟨he, hw⟩ => ⟨by rw [he]; simp, hw⟩

/-- Two answers beside the order. -/
structure Hold2 (w : World) (b : Nat) (u : Value) (rows : Rows2) (v1 v2 : Value) (cs : Rows2) (W : World) : Prop where
  hold : HoldO w b u rows W
  one : RowsAt W v1 cs
  two : RowsAt W v2 cs
theorem Hold2.step {w W W' : World} {b : Nat} {u v1 v2 : Value} {rows cs : Rows2} (h : Hold2 w b u rows v1 v2 cs W) (hb : Below W.heap.size W W') : Hold2 w b u rows v1 v2 cs W' :=
  ⟨h.hold.step hb, h.one.below hb, h.two.below hb⟩
/-- The answer, and the order that is made of it, in its variable. -/
structure HoldX (w : World) (b : Nat) (u : Value) (rows : Rows2) (v1 : Value) (cs : Rows2) (b3 : Nat) (v3 : Value) (W : World) : Prop where
  hold : HoldO w b u rows W
  one : RowsAt W v1 cs
  box : Boxed W b3 25 v3
  made : RowsAt W v3 rows
theorem HoldX.step {w W W' : World} {b b3 : Nat} {u v1 v3 : Value} {rows cs : Rows2} (h : HoldX w b u rows v1 cs b3 v3 W) (hb : Below W.heap.size W W') : HoldX w b u rows v1 cs b3 v3 W' :=
  ⟨h.hold.step hb, h.one.below hb, (hb.block _ h.box.lt).trans h.box, h.made.below hb⟩
theorem HoldX.start {w W : World} {b : Nat} {u v1 v3 : Value} {rows cs : Rows2} (h : HoldO w b u rows W) (h1 : RowsAt W v1 cs) (h3 : RowsAt W v3 rows) :
    HoldX w b u rows v1 cs W.heap.size v3 (W.alloc (.cells #[v3] 25)) := by
  have hb := (Below.refl W.heap.size W).alloc (Nat.le_refl _) (.cells #[v3] 25)
  exact ⟨h.step hb, h1.below hb, Boxed.new _ _ _, h3.below hb⟩

set_option maxRecDepth 100000 in
set_option maxHeartbeats 8000000 in
theorem lawCovers (v : Value) (w : World) (hv : CodeAt w.heap.size w v) (hT : Tab w) : Calls Tryd.prog 8 #[v] w (SaysN true w) := by
  have hdraw := drawCovers_any v w hv
  obtain ⟨a, n, C, rfl, hnC, hCm, _⟩ := hv
  unfold maxLen at hCm
  have HTT := Lib.hid hT
  clear hT
  by_cases hn : 1048576 < n
  · have hz : (1048576 : Int) < (n : Int) := by omega
    clear hdraw
    go_enter Tryd.func8, Tryd.ntmps8
    go_wp2
    go_ret
    exact ⟨rfl, Below.refl _ _⟩
  · have hz : ¬ (1048576 : Int) < (n : Int) := by omega
    go_enter Tryd.func8, Tryd.ntmps8
    go_upto_region 4 with (go_at_call 32; refine hdraw.mono ?_; clear hdraw; rintro e w1 ⟨rows, u, rfl, ho, hbk, hb⟩; have H1 := Lib.hid (HoldO.start ho.at hb); obtain ⟨au, Cu, rfl⟩ := ho.form; clear ho hb)
    generalize w1.alloc (.cells #[.slice au rows.length Cu] 25) = w2 at H1 ⊢
    generalize w1.heap.size = B at H1 ⊢
    have hbk2 : bulk rows ≤ 1048576 := by omega
    have hci := implCovers_any _ rows w2 H1.out.rows (HTT.out.below H1.out.below) hbk2
    have hcs := fun W (h : HoldO w B (.slice au rows.length Cu) rows W) => specCovers_any _ rows W h.rows hbk2
    have HCB := Lib.hid (fun W (h : HoldO w B (.slice au rows.length Cu) rows W) a b => implBelow_any _ rows a b W h.rows (HTT.out.below h.below) hbk2)
    have HCF := Lib.hid (fun W v1 (h : HoldO w B (.slice au rows.length Cu) rows W) (h1 : RowsAt W v1 (coverB rows)) => implFrom_any v1 (coverB rows) W h1 (HTT.out.below h.below) (coverB_bulk2 rows))
    have HLEN := Lib.hid (show rows.length ≤ 1048576 by unfold bulk at hbk2; omega)
    have hc1 := H1.out.box.cell
    have hfact := fact_covers (rows := rows)
    have HCL := Lib.hid (show (coverB rows).length ≤ 1048576 by have := coverB_bulk2 rows; unfold bulk at this; omega)
    have HCR := Lib.hid (show ∀ i (hi : i < (coverB rows).length), (coverB rows)[i].length ≤ 1048576 from fun i hi => by have := bulk_row hi; have := coverB_bulk2 rows; omega)
    cases hq : validB rows with
    | false =>
      rw [hq] at hci hcs
      clear hq hfact
      generalize coverB rows = cs at hci hcs HCF HCL HCR
      have hcl1 := HCL.out
      go_wp2_with (first | (go_at_call 33; refine hci.mono ?_; clear hci; rintro e w3 ⟨v1, rfl, ho1, hb⟩; have H2 := Lib.hid (H1.out.step hb); have R1 := Lib.hid ho1.at; obtain ⟨a1, C1, rfl⟩ := ho1.form; have hc2 := H2.out.box.cell; clear hb ho1) | (go_at_call 34; refine (hcs w3 H2.out).mono ?_; clear hcs; rintro e w4 ⟨v2, rfl, ho2, hb⟩; have H3 := Lib.hid (⟨H2.out.step hb, R1.out.below hb, ho2.at⟩ : Hold2 w B _ rows _ _ cs w4); obtain ⟨a2, C2, rfl⟩ := ho2.form; clear hb ho2 R1) | (go_at_call 35; refine (sameLists_self _ _ cs _ H3.out.one H3.out.two).mono ?_; rintro e w5 ⟨rfl, hb⟩; have H4 := Lib.hid (H3.out.step hb); clear hb H3) | (go_at_call 35; refine (sameLists_self _ _ cs _ H4.out.one H4.out.two).mono ?_; rintro e w6 ⟨rfl, hb⟩; have H5 := Lib.hid (H4.out.step hb); clear hb H4))
      go_ret
      exact ⟨rfl, H5.out.hold.below⟩
    | true =>
      obtain ⟨f1, f2, f3, f4⟩ := hfact hq
      have F1 := Lib.hid f1
      have F4 := Lib.hid f4
      rw [hq] at hci hcs
      rw [f2, f3] at HCF
      clear hq hfact f1 f2 f3 f4
      generalize coverB rows = cs at hci hcs HCF HCL HCR F1 F4
      have hcl1 := HCL.out
      go_upto_region 8 with (first | (go_at_call 33; refine hci.mono ?_; clear hci; rintro e w3 ⟨v1, rfl, ho1, hb⟩; have H2 := Lib.hid (H1.out.step hb); have R1 := Lib.hid ho1.at; obtain ⟨a1, C1, rfl⟩ := ho1.form; have hc2 := H2.out.box.cell; clear hb ho1) | (go_at_call 34; refine (hcs w3 H2.out).mono ?_; clear hcs; rintro e w4 ⟨v2, rfl, ho2, hb⟩; have H3 := Lib.hid (⟨H2.out.step hb, R1.out.below hb, ho2.at⟩ : Hold2 w B _ rows _ _ cs w4); obtain ⟨a2, C2, rfl⟩ := ho2.form; clear hb ho2 R1) | (go_at_call 35; refine (sameLists_self _ _ cs _ H3.out.one H3.out.two).mono ?_; rintro e w5 ⟨rfl, hb⟩; have H4 := Lib.hid (H3.out.step hb); clear hb H3))
      go_upto_region 9 with (go_at_call 36; refine (HCF.out _ _ H4.out.hold H4.out.one).mono ?_; rintro e w6 ⟨v3, rfl, ho3, hb⟩; have H5 := Lib.hid (HoldX.start (H4.out.hold.step hb) (H4.out.one.below hb) ho3.at); obtain ⟨a3, C3, rfl⟩ := ho3.form; clear hb ho3 H4 HCF)
      generalize w6.alloc (.cells #[.slice a3 rows.length C3] 25) = w7 at H5 ⊢
      generalize w6.heap.size = B3 at H5 ⊢
      go_wp2
      go_loopw [10] (fun iv wr => ∃ i : Nat, i ≤ cs.length ∧ iv = .int .i64 i ∧ HoldX w B (.slice au rows.length Cu) rows (.slice a1 cs.length C1) cs B3 (.slice a3 rows.length C3) wr) (fun iv _ => cs.length - (intOf iv).toNat)
      case atStart => exact ⟨0, Nat.zero_le _, rfl, H5.out⟩
      case round =>
        obtain ⟨i, hi, rfl, hh⟩ := hrel
        have HK := Lib.hid hh
        have hc4 := hh.hold.box.cell
        have hc5 := hh.box.cell
        have hl1 := HCL.out
        clear hh H5 H2
        by_cases hlt : i < cs.length
        · have hltz : (i : Int) < (cs.length : Int) := by omega
          clear hc5
          go_wp2
          go_loopw [11] (fun kv wr => ∃ k : Nat, k ≤ cs[i].length ∧ kv = .int .i64 k ∧ HoldX w B (.slice au rows.length Cu) rows (.slice a1 cs.length C1) cs B3 (.slice a3 rows.length C3) wr) (fun kv _ => cs[i].length - (intOf kv).toNat)
          case atStart => exact ⟨0, Nat.zero_le _, rfl, HK.out⟩
          case round =>
            obtain ⟨k, hk, rfl, hh⟩ := hrel
            have HJ := Lib.hid hh
            have hli := HCR.out i hlt
            clear HK hc4
            obtain ⟨b0, o0, u, e, hcu, hu⟩ := (by obtain ⟨A0, C0, e0, _, _, hx⟩ := hh.one; cases e0; exact hx i hlt : ∃ b o u, a1 = some ⟨b, o, none⟩ ∧ wr.cell? ⟨b, o + i, none⟩ = some u ∧ IntsAt wr u cs[i])
            cases e
            obtain ⟨A1, C2', rfl, hC1, hm1, _, hy⟩ := hu
            unfold maxLen at hm1
            clear hh
            by_cases hkl : k < cs[i].length
            · have hkz : (k : Int) < (cs[i].length : Int) := by omega
              obtain ⟨b1, o1, rfl, hcx⟩ := hy k hkl
              have HX := Lib.hid (F4.out i hlt _ (List.getElem_mem hkl))
              generalize cs[i][k] = x at hcx HX
              clear hy
              go_wp2
              go_loopw [13] (fun cv wr => ∃ c : Nat, c ≤ cs.length ∧ cv = .int .i64 c ∧ HoldX w B (.slice au rows.length Cu) rows (.slice (some ⟨b0, o0, none⟩) cs.length C1) cs B3 (.slice a3 rows.length C3) wr) (fun cv _ => cs.length - (intOf cv).toNat)
              case atStart => exact ⟨0, Nat.zero_le _, rfl, HJ.out⟩
              case round =>
                obtain ⟨c, hc, rfl, hh⟩ := hrel
                have HC := Lib.hid hh
                have hc6 := hh.hold.box.cell
                clear hh HJ hcu hcx
                by_cases hcl : c < cs.length
                · have hcz : (c : Int) < (cs.length : Int) := by omega
                  by_cases hce : c = i
                  · have hb1 : ((c : Int) != (i : Int)) = false := by simp [hce]
                    clear hce
                    go_wp2
                    go_roundw
                    case rel => exact ⟨c + 1, by omega, by go_num, HC.out⟩
                    case measure => simp [intOf]; omega
                  · have hb1 : ((c : Int) != (i : Int)) = true := by simp; omega
                    by_cases hcx : (c : Int) = x
                    · have hb2 : ((c : Int) != x) = false := by simp [hcx]
                      clear hcx
                      go_wp2
                      go_roundw
                      case rel => exact ⟨c + 1, by omega, by go_num, HC.out⟩
                      case measure => simp [intOf]; omega
                    · have hb2 : ((c : Int) != x) = true := by simp; exact hcx
                      have hno := HX.out c (by have := F1.out; omega) (by omega) hcx
                      have k1 := HCB.out wr HC.out.hold i c
                      have k2 := fun W h => HCB.out W h c x
                      clear hcx hce
                      cases q1 : belowB rows i c with
                      | false =>
                        rw [q1] at k1
                        clear q1 k2 hno
                        go_wp2_with (go_at_call 19; refine k1.mono ?_; clear k1; rintro e w8 ⟨rfl, hb⟩; have H8 := Lib.hid (HC.out.step hb); clear hb)
                        go_roundw
                        case rel => exact ⟨c + 1, by omega, by go_num, H8.out⟩
                        case measure => simp [intOf]; omega
                      | true =>
                        rw [q1] at k1
                        rw [hno q1] at k2
                        clear q1 hno
                        go_wp2_with (first | (go_at_call 19; refine k1.mono ?_; clear k1; rintro e w8 ⟨rfl, hb⟩; have H8 := Lib.hid (HC.out.step hb); have hc7 := H8.out.hold.box.cell; clear hb) | (go_at_call 19; refine (k2 _ H8.out.hold).mono ?_; clear k2; rintro e w9 ⟨rfl, hb⟩; have H9 := Lib.hid (H8.out.step hb); clear hb))
                        go_roundw
                        case rel => exact ⟨c + 1, by omega, by go_num, H9.out⟩
                        case measure => simp [intOf]; omega
                · obtain rfl : c = cs.length := by omega
                  have hcz : ¬ (cs.length : Int) < (cs.length : Int) := by omega
                  go_wp2
                  go_roundw
                  case rel => exact ⟨k + 1, by omega, by go_num, HC.out⟩
                  case measure => simp [intOf]; omega
            · obtain rfl : k = cs[i].length := by omega
              have hkz : ¬ (cs[i].length : Int) < (cs[i].length : Int) := by omega
              clear hy
              go_wp2
              go_roundw
              case rel => exact ⟨i + 1, by omega, by go_num, HJ.out⟩
              case measure => simp [intOf]; omega
        · obtain rfl : i = cs.length := by omega
          have hltz : ¬ (cs.length : Int) < (cs.length : Int) := by omega
          go_wp2_with (go_at_call 37; refine (sameOrder_self _ _ rows _ HK.out.made HK.out.hold.rows).mono ?_; rintro e w8 ⟨rfl, hb⟩; have H8 := Lib.hid (HK.out.step hb); clear hb)
          go_ret
          exact ⟨rfl, H8.out.hold.below⟩
end Go.Proofs.YtjlemkmpmjdjaaaDoor
