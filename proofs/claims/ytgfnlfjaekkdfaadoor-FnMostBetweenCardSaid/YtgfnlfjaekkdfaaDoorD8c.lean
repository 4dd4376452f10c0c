/- Draws of chapter 8's arguments that go through l8Set. -/
import Derived.Test.YtgfnlfjaekkdfaaDoorSAa
import Derived.Test.YtgfnlfjaekkdfaaDoorNA
namespace Go.Proofs.YtgfnlfjaekkdfaaDoor
open Go.RowKit
set_option linter.unusedVariables false

theorem gb_of_bel8 {w w' : World} (hb : Below w.heap.size w w') : w.grownBy w' none := ⟨hb.os, hb.tape, hb.output, hb.size, fun k hk _ => hb.block k hk⟩
theorem Rd.bel8 {w w' : World} {B g : Nat} {A : Option Addr} {n c : Nat} {f : Nat → Int} {p : Nat} (h : Rd w B g A n c f p) (hb : Below w.heap.size w w') : Rd w' B g A n c f p := h.grown (gb_of_bel8 hb) (fun k e => by cases e)

set_option maxRecDepth 100000 in
set_option maxHeartbeats 4000000 in
theorem l8Set_any (w : World) (B g : Nat) (A : Option Addr) (n c : Nat) (f : Nat → Int) (p : Nat) (pol : Int) (hr : Rd w B g A n c f p) (hp : p ≤ 1000) :
    Calls Tryd.prog 17 #[.pointer (some ⟨g, 0, none⟩), .int .i64 pol] w (LsOut B g A n c f p 41 6 (fun _ => True) w) := by
  have HR0 := Lib.hid hr
  have hgl := hr.lt
  have hBg := hr.ge
  clear hr
  go_enter Tryd.func17, Tryd.ntmps17
  go_wp2_with fail
  refine (set_any _ _ _ _ _ _ _ _ HR0.out (by omega)).mono ?_
  rintro e w2 ⟨v, ts, q, rfl, hl, hsm, hq, hr, hgb, ho⟩
  obtain ⟨A2, c2, rfl⟩ := ho.form
  have HR2 := Lib.hid hr
  have HG2 := Lib.hid hgb
  have HT2 := Lib.hid ho.reads.2
  have hs2 : w.heap.size ≤ w2.heap.size := hgb.size
  clear hr hgb ho hsm
  go_wp2_with fail
  refine (sSortDue_any w2 A2 _ c2 ts HT2.out (by omega)).mono ?_
  rintro e w3 ⟨A3, c3, rfl, ho, hb⟩
  have HR := Lib.hid (HR2.out.bel8 hb)
  have HG := Lib.hid (gb_trans HG2.out (gb_of_bel8 hb) (fun x e => by cases e))
  have HO := Lib.hid (own_more ho hs2)
  have hsl := sortOf_le ts
  obtain ⟨us, hus⟩ : ∃ us, us = sortOf ts := ⟨_, rfl⟩
  rw [← hus] at hsl HO ⊢
  have hl5 : us.length ≤ 5 := by omega
  clear ho hb hsl hus HR2 HG2 HT2
  by_cases hpol : pol = 1
  · subst hpol
    rcases HO.out.2 with ⟨e, h0⟩ | ⟨gg, cap, cur, e, hgg, _⟩
    · injection e with e1 e2 e3
      subst e1 e3
      obtain rfl : us = [] := List.eq_nil_of_length_eq_zero h0
      go_wp2
      go_loopw [6] (fun i wr => i = .int .i64 0 ∧ wr = w3) (fun i _ => 0)
      case atStart => exact ⟨rfl, rfl⟩
      case round =>
        obtain ⟨rfl, rfl⟩ := hrel
        go_wp2_with fail
        refine (pick_any _ B g A n c f q 3 HR.out (by omega) (by omega)).mono ?_
        rintro e w8 ⟨y, rfl, y0, _, _, hr8, hg8⟩
        have HR8 := Lib.hid hr8
        have HG8 := Lib.hid (gb_trans HG.out hg8 (fun x e => .inl (by injection e with e; exact e.symm)))
        have HO8 := Lib.hid (HO.out.kept hg8 (fun k e => by injection e with e; omega))
        have hs8 : w.heap.size ≤ w8.heap.size := HG8.out.size
        clear hr8 hg8
        by_cases hy : 0 < y
        · have hyd : decide (y > 0) = true := decide_eq_true hy
          obtain ⟨b, hb⟩ : ∃ b, allB ([] : List Tk) 1 = b := ⟨_, rfl⟩
          obtain ⟨xs, hxs⟩ : ∃ xs, xs = if b then (allA ([] : List Tk) 1 (([] : List Tk)).length).1 else [] := ⟨_, rfl⟩
          obtain ⟨zr, hzr⟩ : ∃ zr, zr = if b then (allA ([] : List Tk) 1 (([] : List Tk)).length).2 else [] := ⟨_, rfl⟩
          have hxl : xs.length ≤ 6 := by
            rw [hxs]
            split
            · exact Nat.le_trans (all_len _ _ _ (Nat.le_refl _)).1 (by omega)
            · exact Nat.zero_le _
          have HBB := Lib.hid hb
          have HXS := Lib.hid hxs
          have HZR := Lib.hid hzr
          clear hb hxs hzr
          go_wp2_with fail
          refine (sAll_is w8 none _ 0 ([] : List Tk) 1 HO8.out.reads.2 b HBB.out (by omega) xs zr HXS.out HZR.out).mono ?_
          rintro e w9 ⟨A9, c9, A10, c10, rfl, ho9, hoz9, hb9⟩
          have HR9 := Lib.hid (HR8.out.bel8 hb9)
          have HG9 := Lib.hid (gb_trans HG8.out (gb_of_bel8 hb9) (fun x e => by cases e))
          have HO9 := Lib.hid (own_more ho9 hs8)
          clear ho9 hoz9 hb9
          go_wp2
          go_ret
          exact ⟨_, xs, q + 1, rfl, hxl, fun _ _ => trivial, by omega, HR9.out, HG9.out, HO9.out⟩
        · have hyd : decide (y > 0) = false := decide_eq_false hy
          go_wp2
          go_ret
          exact ⟨_, ([] : List Tk), q + 1, rfl, by simp, fun _ _ => trivial, by omega, HR8.out, HG8.out, HO8.out⟩
    · injection e with e1 e2 e3
      subst e1 e3
      go_wp2
      go_loopw [6] (fun i wr => ∃ (j : Nat) (vs : List Tk), j ≤ us.length ∧ i = .int .i64 j ∧ vs.length = us.length ∧ Own wr w.heap.size (.slice (some ⟨gg, 0, none⟩) us.length c3) vs ∧ Rd wr B g A n c f q ∧ w.grownBy wr (some g)) (fun i _ => us.length - (intOf i).toNat)
      case atStart => exact ⟨0, us, Nat.zero_le _, rfl, rfl, HO.out, HR.out, HG.out⟩
      case round =>
        obtain ⟨j, vs, hj, rfl, hvs, ho, hr, hg⟩ := hrel
        have HOR := Lib.hid ho
        have HRR := Lib.hid hr
        have HGR := Lib.hid hg
        have HUS := Lib.hid hvs
        clear ho hr hg hvs HO HR HG
        by_cases hlt : j < us.length
        · obtain ⟨t, ht⟩ : ∃ t, vs[j]? = some t := ⟨vs[j]'(by rw [HUS.out]; exact hlt), List.getElem?_eq_getElem _⟩
          obtain ⟨b, o, eA, hbl, c0, c1', c2', c3', c4⟩ := HOR.out.reads.2.at_ j t ht
          injection eA with eA
          injection eA with eA1 eA2
          subst eA1 eA2
          simp only [Nat.zero_add] at c0 c1' c2' c3' c4
          have hfz := HOR.out.frozen
          have HX := Lib.hid (HOR.out.due j t t.ev ht)
          have HXR := Lib.hid (HRR.out.set (q := ⟨gg, j * 5 + 2, none⟩) (by dsimp only; omega) (by dsimp only; omega) (.int .i64 t.ev))
          have HXG := Lib.hid (gb_set HGR.out (p := ⟨gg, j * 5 + 2, none⟩) (.inr hgg) (.int .i64 t.ev))
          have HL := Lib.hid (show (vs.set j { t with du := t.ev }).length = us.length by rw [List.length_set]; exact HUS.out)
          have hji : (j : Int) < (us.length : Int) := by omega
          have hj0 : (0 : Int) ≤ (j : Int) := by omega
          clear ht HOR HRR HGR
          go_wp2
          go_roundw
          case rel => exact ⟨j + 1, _, by omega, by go_num, HL.out, HX.out, HXR.out, HXG.out⟩
          case measure => simp [intOf]; omega
        · obtain rfl : j = us.length := by omega
          have hvl : vs.length ≤ 5 := by rw [HUS.out]; exact hl5
          have HO := Lib.hid (show Own wr w.heap.size (.slice (some ⟨gg, 0, none⟩) vs.length c3) vs by rw [HUS.out]; exact HOR.out)
          have HR := HRR
          have HG := HGR
          have HO' := HOR
          go_wp2_with fail
          refine (pick_any _ B g A n c f q 3 HR.out (by omega) (by omega)).mono ?_
          rintro e w8 ⟨y, rfl, y0, _, _, hr8, hg8⟩
          have HR8 := Lib.hid hr8
          have HG8 := Lib.hid (gb_trans HG.out hg8 (fun x e => .inl (by injection e with e; exact e.symm)))
          have HO8 := Lib.hid (HO'.out.kept hg8 (fun k e => by injection e with e; omega))
          have hs8 : w.heap.size ≤ w8.heap.size := HG8.out.size
          clear hr8 hg8
          by_cases hy : 0 < y
          · have hyd : decide (y > 0) = true := decide_eq_true hy
            obtain ⟨b, hb⟩ : ∃ b, allB vs 1 = b := ⟨_, rfl⟩
            obtain ⟨xs, hxs⟩ : ∃ xs, xs = if b then (allA vs 1 (vs).length).1 else [] := ⟨_, rfl⟩
            obtain ⟨zr, hzr⟩ : ∃ zr, zr = if b then (allA vs 1 (vs).length).2 else [] := ⟨_, rfl⟩
            have hxl : xs.length ≤ 6 := by
              rw [hxs]
              split
              · exact Nat.le_trans (all_len _ _ _ (Nat.le_refl _)).1 (by omega)
              · exact Nat.zero_le _
            have HBB := Lib.hid hb
            have HXS := Lib.hid hxs
            have HZR := Lib.hid hzr
            clear hb hxs hzr
            go_wp2_with fail
            refine (sAll_is w8 (some ⟨gg, 0, none⟩) _ c3 vs 1 HO8.out.reads.2 b HBB.out (by omega) xs zr HXS.out HZR.out).mono ?_
            rintro e w9 ⟨A9, c9, A10, c10, rfl, ho9, hoz9, hb9⟩
            have HR9 := Lib.hid (HR8.out.bel8 hb9)
            have HG9 := Lib.hid (gb_trans HG8.out (gb_of_bel8 hb9) (fun x e => by cases e))
            have HO9 := Lib.hid (own_more ho9 hs8)
            clear ho9 hoz9 hb9
            go_wp2
            go_ret
            exact ⟨_, xs, q + 1, rfl, hxl, fun _ _ => trivial, by omega, HR9.out, HG9.out, HO9.out⟩
          · have hyd : decide (y > 0) = false := decide_eq_false hy
            go_wp2
            go_ret
            exact ⟨_, vs, q + 1, rfl, by omega, fun _ _ => trivial, by omega, HR8.out, HG8.out, HO8.out⟩
  · have hpb : (pol == 1) = false := by simpa using hpol
    go_wp2_with fail
    refine (pick_any _ B g A n c f q 3 HR.out (by omega) (by omega)).mono ?_
    rintro e w8 ⟨y, rfl, y0, _, _, hr8, hg8⟩
    have HR8 := Lib.hid hr8
    have HG8 := Lib.hid (gb_trans HG.out hg8 (fun x e => .inl (by injection e with e; exact e.symm)))
    have HO8 := Lib.hid (HO.out.kept hg8 (fun k e => by injection e with e; omega))
    have hs8 : w.heap.size ≤ w8.heap.size := HG8.out.size
    clear hr8 hg8
    by_cases hy : 0 < y
    · have hyd : decide (y > 0) = true := decide_eq_true hy
      obtain ⟨b, hb⟩ : ∃ b, allB us pol = b := ⟨_, rfl⟩
      obtain ⟨xs, hxs⟩ : ∃ xs, xs = if b then (allA us pol (us).length).1 else [] := ⟨_, rfl⟩
      obtain ⟨zr, hzr⟩ : ∃ zr, zr = if b then (allA us pol (us).length).2 else [] := ⟨_, rfl⟩
      have hxl : xs.length ≤ 6 := by
        rw [hxs]
        split
        · exact Nat.le_trans (all_len _ _ _ (Nat.le_refl _)).1 (by omega)
        · exact Nat.zero_le _
      have HBB := Lib.hid hb
      have HXS := Lib.hid hxs
      have HZR := Lib.hid hzr
      clear hb hxs hzr
      go_wp2_with fail
      refine (sAll_is w8 A3 _ c3 us pol HO8.out.reads.2 b HBB.out (by omega) xs zr HXS.out HZR.out).mono ?_
      rintro e w9 ⟨A9, c9, A10, c10, rfl, ho9, hoz9, hb9⟩
      have HR9 := Lib.hid (HR8.out.bel8 hb9)
      have HG9 := Lib.hid (gb_trans HG8.out (gb_of_bel8 hb9) (fun x e => by cases e))
      have HO9 := Lib.hid (own_more ho9 hs8)
      clear ho9 hoz9 hb9
      go_wp2
      go_ret
      exact ⟨_, xs, q + 1, rfl, hxl, fun _ _ => trivial, by omega, HR9.out, HG9.out, HO9.out⟩
    · have hyd : decide (y > 0) = false := decide_eq_false hy
      go_wp2
      go_ret
      exact ⟨_, us, q + 1, rfl, by omega, fun _ _ => trivial, by omega, HR8.out, HG8.out, HO8.out⟩

def DrewLII (w : World) (e : Ending) (w' : World) : Prop :=
  ∃ (A : Option Addr) (c : Nat) (ts : List Tk) (z pol : Int), e = .returned (.tuple #[.slice A ts.length c, .int .i64 z, .int .i64 pol]) ∧ ts.length ≤ 6 ∧ (-1 ≤ z ∧ z ≤ 2) ∧ (0 ≤ pol ∧ pol ≤ 2) ∧ Own w' w.heap.size (.slice A ts.length c) ts ∧ Below w.heap.size w w'
set_option maxRecDepth 100000 in
set_option maxHeartbeats 1000000 in
theorem dDrawMostHigh_any (w : World) (A : Option Addr) (n c : Nat) (f : Nat → Int) (h : Code w w.heap.size A n c f) :
    Calls Tryd.prog 8 #[.slice A n c] w (DrewLII w) := by
  have H := Lib.hid h
  clear h
  go_enter Tryd.func8, Tryd.ntmps8
  go_wp2_with fail
  refine (open_any _ A n c f H.out).mono ?_
  rintro e w1 ⟨rfl, m, hr, hb⟩
  have hgl := hr.lt
  have HR1 := Lib.hid hr
  have HB1 := Lib.hid hb
  clear hr hb
  go_wp2_with fail
  refine (num_any _ _ _ _ _ _ _ _ _ 7 0 2 (HR1.out.alloc _) (by omega) (by omega) (by omega) (by omega) ?_).mono ?_
  · exact lit_cells_at _ _ _ _ _ _ (by simp) (fun i hi => by rcases (by omega : i = 0 ∨ i = 1 ∨ i = 2 ∨ i = 3 ∨ i = 4 ∨ i = 5 ∨ i = 6) with rfl | rfl | rfl | rfl | rfl | rfl | rfl <;> exact ⟨_, rfl, by decide, by decide⟩)
  rintro e w2 ⟨pol, rfl, pol0, pol1, hr, hg⟩
  have hgb : w1.grownBy w2 (some w.heap.size) := gb_trans (gb_alloc (World.grownBy.refl w1 _) _) hg (fun x e => .inl (by injection e with e; exact e.symm))
  have HR2 := Lib.hid hr
  have HB2 := Lib.hid (below_of_gb HB1.out hgb HB1.out.size (Nat.le_refl _))
  clear hr hg hgb
  go_wp2_with fail
  refine (l8Set_any _ _ _ _ _ _ _ _ pol HR2.out (by omega)).mono ?_
  rintro e w3 ⟨v, ts, q, rfl, hl, _, hq, hr, hgb, ho⟩
  obtain ⟨A3, c3, rfl⟩ := ho.form
  have hlt3 := hr.lt
  have HR3 := Lib.hid hr
  have HB3 := Lib.hid (below_of_gb HB2.out hgb HB2.out.size (Nat.le_refl _))
  have HO3 := Lib.hid (own_more ho HB2.out.size)
  have HOM := Lib.hid (fun k e => (World.ownsRow.lt ho k e).1)
  have hs12 : w.heap.size < w2.heap.size := HR2.out.lt
  clear hr hgb ho
  go_wp2_with fail
  refine (num_any _ _ _ _ _ _ _ q _ 5 (-1) 2 (HR3.out.alloc _) (by omega) (by omega) (by omega) (by omega) ?_).mono ?_
  · exact lit_cells_at _ _ _ _ _ _ (by simp) (fun i hi => by rcases (by omega : i = 0 ∨ i = 1 ∨ i = 2 ∨ i = 3 ∨ i = 4) with rfl | rfl | rfl | rfl | rfl <;> exact ⟨_, rfl, by decide, by decide⟩)
  rintro e w4 ⟨z, rfl, z0, z1, hr, hg⟩
  have hgb : w3.grownBy w4 (some w.heap.size) := gb_trans (gb_alloc (World.grownBy.refl w3 _) _) hg (fun x e => .inl (by injection e with e; exact e.symm))
  have HB4 := Lib.hid (below_of_gb HB3.out hgb HB3.out.size (Nat.le_refl _))
  have HO4 := Lib.hid (show Own w4 w.heap.size (.slice A3 ts.length c3) ts from World.ownsRow.kept HO3.out hgb (by
    rcases he : (Value.slice A3 ts.length c3).ownBlock with _ | k
    · exact .inl rfl
    · right
      intro e
      have := HOM.out k he
      injection e with e
      omega))
  clear hr hg hgb
  go_wp2
  go_ret3
  exact ⟨A3, c3, ts, z, pol, rfl, hl, by omega, by omega, HO4.out, HB4.out⟩
set_option maxRecDepth 100000 in
theorem dDrawMostLow_any (w : World) (A : Option Addr) (n c : Nat) (f : Nat → Int) (h : Code w w.heap.size A n c f) :
    Calls Tryd.prog 5 #[.slice A n c] w (DrewLII w) := by
  have H := Lib.hid h
  clear h
  go_enter Tryd.func5, Tryd.ntmps5
  go_wp2_with fail
  refine (dDrawMostHigh_any _ A n c f H.out).mono ?_
  rintro e w1 ⟨A2, c2, ts, z, pol, rfl, hx⟩
  have HX := Lib.hid hx
  clear hx
  go_wp2
  go_ret3
  exact ⟨A2, c2, ts, z, pol, rfl, HX.out⟩

end Go.Proofs.YtgfnlfjaekkdfaaDoor
