/- Draws of chapter 9's arguments. -/
import Derived.Test.YtfjbkblodgdcnaaDoorNA
import Derived.Test.YtfjbkblodgdcnaaDoorNB
namespace Go.Proofs.YtfjbkblodgdcnaaDoor
open Go.RowKit
set_option linter.unusedVariables false

theorem mem_set_small2 {ts : List Tk} {k : Nat} {t : Tk} (h : ∀ x ∈ ts, smallTk x) (ht : smallTk t) : ∀ x ∈ ts.set k { t with du := t.ev }, smallTk x := by
  intro x hx
  rcases List.mem_or_eq_of_mem_set hx with hx | hx
  · exact h x hx
  · obtain ⟨lo, hi, du, ev, cr⟩ := t
    obtain ⟨a, b, c, d⟩ := ht
    rw [hx]
    exact ⟨a, b, d, d⟩
theorem mem_set_small3 {ts : List Tk} {k : Nat} {t : Tk} (h : ∀ x ∈ ts, smallTk x) (ht : smallTk t) : ∀ x ∈ ts.set k t, smallTk x := by
  intro x hx
  rcases List.mem_or_eq_of_mem_set hx with hx | hx
  · exact h x hx
  · rw [hx]; exact ht
theorem cell_one_z (w : World) (z : Int) (ty : TypeId) (g : Nat) (hg : g = w.heap.size) : ∀ j u, ([Value.int .i64 z])[j]? = some u → (w.alloc (.cells #[.int .i64 z] ty)).cell? ((⟨g, 0, none⟩ : Addr).add j) = some u := by
  subst hg
  intro j u hj
  have ea : (⟨w.heap.size, 0, none⟩ : Addr).add j = ⟨w.heap.size, j, none⟩ := by unfold Addr.add; split <;> simp_all
  rw [ea, (Blk.new w ty _).cell j, ← hj]
  simp
theorem take_cells5 (ts : List Tk) : ∀ i, (ts.flatMap Tk.cells).take (i * 5) = (ts.take i).flatMap Tk.cells := by
  induction ts with
  | nil => intro i; simp
  | cons t ts ih =>
    intro i
    cases i with
    | zero => simp
    | succ i =>
      have e : (i + 1) * 5 = t.cells.length + i * 5 := by simp [Tk.cells]; omega
      rw [List.flatMap_cons, e, List.take_append, List.take_succ_cons]
      simp [ih]
      exact List.take_of_length_le (by omega)
/-- The first tasks of a list of the call's own. -/
theorem Own.cut {w : World} {B h n c k : Nat} {ts : List Tk} (ho : Own w B (.slice (some ⟨h, 0, none⟩) n c) ts) (hk : k ≤ n) : Own w B (.slice (some ⟨h, 0, none⟩) k c) (ts.take k) := by
  have hn := ho.reads.1
  have hl : (ts.take k).length = k := by rw [List.length_take]; omega
  rcases ho.2 with ⟨e, h0⟩ | ⟨g', cap, cur, e, hb, hg, h1, h2, h3, h4⟩
  · cases e
  · injection e with e1 e2 e3
    injection e1 with e1
    injection e1 with e1
    subst e1 e3
    refine ⟨cells_length _, .inr ⟨h, c, cur, by rw [hl], hb, hg, by rw [hl]; omega, h2, h3, ?_⟩⟩
    rw [hl, ← take_cells5 ts k, ← h4, List.take_take, Nat.min_eq_left (by rw [← hn]; exact Nat.mul_le_mul_right 5 hk)]

set_option maxRecDepth 100000 in
set_option maxHeartbeats 4000000 in
theorem l9Set_any (w : World) (B g : Nat) (A : Option Addr) (n c : Nat) (f : Nat → Int) (p : Nat) (pol : Int) (hr : Rd w B g A n c f p) (hp : p ≤ 1000) :
    Calls Tryd.prog 96 #[.pointer (some ⟨g, 0, none⟩), .int .i64 pol] w (LsOut B g A n c f p 40 4 smallTk w) := by
  have HR0' := Lib.hid hr
  have hgl := hr.lt
  have hBg := hr.ge
  clear hr
  go_enter Tryd.func96, Tryd.ntmps96
  go_wp2_with fail
  refine (set_any _ _ _ _ _ _ _ _ HR0'.out (by omega)).mono ?_
  rintro e w2 ⟨v, ts, q, rfl, hl, hsm, hq, hr, hgb, ho⟩
  obtain ⟨A2, c2, rfl⟩ := ho.form
  have HR0 := Lib.hid hr
  have HG0 := Lib.hid hgb
  have HOf := Lib.hid ho
  have HST : Hid (∀ t ∈ ts, smallTk t) := fun t ht => (hsm t ht).small
  clear hr hgb ho HR0' hsm
  by_cases h5 : ts.length = 5
  · rcases HOf.out.2 with ⟨e, h0⟩ | ⟨gg0, cap0, cur0, e0, hgg0, _, h51, _⟩
    · omega
    injection e0 with e1 e2 e3
    subst e1 e3
    rw [h5] at h51 HOf ⊢
    have h5i : (4 : Int) ≤ (c2 : Int) := by omega
    obtain ⟨us, hu⟩ : ∃ us, us = ts.take 4 := ⟨_, rfl⟩
    have hul : us.length = 4 := by rw [hu, List.length_take]; omega
    have HO0 : Hid (Own w2 w.heap.size (.slice (some ⟨gg0, 0, none⟩) 4 c2) us) := by
      show Own _ _ _ _
      rw [hu]; exact HOf.out.cut (by omega)
    have HSU : Hid (∀ t ∈ us, smallTk t) := fun t ht => HST.out t (by rw [hu] at ht; exact List.mem_of_mem_take ht)
    have hus : 4 ≤ 4 := by omega
    have hus0 : us.length ≤ 4 := by omega
    have HUL : Hid (us.length = 4) := hul
    clear hu HOf HST h5 hul
    by_cases hpol : pol = 1
    · subst hpol
      · go_wp2
        go_loopw [6] (fun i wr => ∃ (j : Nat) (vs : List Tk), j ≤ 4 ∧ i = .int .i64 j ∧ vs.length = 4 ∧ Hid (∀ t ∈ vs, smallTk t) ∧ Own wr w.heap.size (.slice (some ⟨gg0, 0, none⟩) 4 c2) vs ∧ Rd wr B g A n c f q ∧ w.grownBy wr (some g)) (fun i _ => 4 - (intOf i).toNat)
        case atStart => exact ⟨0, us, Nat.zero_le _, rfl, HUL.out, HSU, HO0.out, HR0.out, HG0.out⟩
        case round =>
          obtain ⟨j, vs, hj, rfl, hvs, HSV, ho, hr, hg⟩ := hrel
          have HOR := Lib.hid ho
          have HRR := Lib.hid hr
          have HGR := Lib.hid hg
          have HUS := Lib.hid hvs
          clear ho hr hg hvs
          by_cases hlt : j < 4
          · obtain ⟨t, ht⟩ : ∃ t, vs[j]? = some t := ⟨vs[j]'(by rw [HUS.out]; exact hlt), List.getElem?_eq_getElem _⟩
            obtain ⟨b, o, eA, hbl, c0, c1', c2', c3, c4⟩ := HOR.out.reads.2.at_ j t ht
            injection eA with eA
            injection eA with eA1 eA2
            subst eA1 eA2
            simp only [Nat.zero_add] at c0 c1' c2' c3 c4
            have hfz := HOR.out.frozen
            have hst := HSV.out t (List.mem_of_getElem? ht)
            have HX := Lib.hid (HOR.out.due j t t.ev ht)
            have HXR := Lib.hid (HRR.out.set (q := ⟨gg0, j * 5 + 2, none⟩) (by dsimp only; omega) (by dsimp only; omega) (.int .i64 t.ev))
            have HXG := Lib.hid (gb_set HGR.out (p := ⟨gg0, j * 5 + 2, none⟩) (.inr hgg0) (.int .i64 t.ev))
            have HL := Lib.hid (show (vs.set j { t with du := t.ev }).length = 4 by rw [List.length_set]; exact HUS.out)
            have HSV2 : Hid (∀ x ∈ vs.set j { t with du := t.ev }, smallTk x) := Lib.hid (mem_set_small2 HSV.out hst)
            have hji : (j : Int) < (4 : Int) := by omega
            have hj0 : (0 : Int) ≤ (j : Int) := by omega
            clear ht hst HOR HRR HGR
            go_wp2
            go_roundw
            case rel => exact ⟨j + 1, _, by omega, by go_num, HL.out, HSV2, HX.out, HXR.out, HXG.out⟩
            case measure => simp [intOf]; omega
          · obtain rfl : j = 4 := by omega
            go_wp2
            go_ret
            exact ⟨_, vs, q, rfl, by rw [HUS.out]; exact hus, HSV.out, by omega, HRR.out, HGR.out, HOR.out⟩
    · have hpb : (pol == 1) = false := by simpa using hpol
      go_wp2
      go_loopw [6] (fun i wr => i = .int .i64 0 ∧ wr = w2) (fun i _ => 0)
      case atStart => exact ⟨rfl, rfl⟩
      case round =>
        obtain ⟨rfl, rfl⟩ := hrel
        go_wp2
        go_ret
        exact ⟨_, us, q, rfl, hus0, HSU.out, by omega, HR0.out, HG0.out, HO0.out⟩
  · have hne : ¬ (ts.length : Int) = 5 := by omega
    obtain ⟨us, hu⟩ : ∃ us, us = ts := ⟨_, rfl⟩
    have HO0 : Hid (Own w2 w.heap.size (.slice A2 us.length c2) us) := by show Own _ _ _ _; rw [hu]; exact HOf.out
    have HSU : Hid (∀ t ∈ us, smallTk t) := by show ∀ t ∈ us, smallTk t; rw [hu]; exact HST.out
    have hus : us.length ≤ 4 := by rw [hu]; omega
    have hus0 : us.length ≤ 4 := hus
    have HUL : Hid (us.length = us.length) := rfl
    rw [← hu] at hne ⊢
    clear hu HOf HST h5
    by_cases hpol : pol = 1
    · subst hpol
      rcases HO0.out.2 with ⟨e, h0⟩ | ⟨gg, cap, cur, e, hgg, _⟩
      · injection e with e1 e2 e3
        subst e1 e3
        have h0i : (us.length : Int) = 0 := by omega
        have HO00 := Lib.hid (show Own w2 w.heap.size (.slice none 0 0) us by have h := HO0.out; rw [h0] at h; exact h)
        go_wp2
        go_loopw [6] (fun i wr => i = .int .i64 0 ∧ wr = w2) (fun i _ => 0)
        case atStart => exact ⟨rfl, rfl⟩
        case round =>
          obtain ⟨rfl, rfl⟩ := hrel
          go_wp2
          go_ret
          exact ⟨_, us, q, rfl, hus0, HSU.out, by omega, HR0.out, HG0.out, HO00.out⟩
      · injection e with e1 e2 e3
        subst e1 e3
        go_wp2
        go_loopw [6] (fun i wr => ∃ (j : Nat) (vs : List Tk), j ≤ us.length ∧ i = .int .i64 j ∧ vs.length = us.length ∧ Hid (∀ t ∈ vs, smallTk t) ∧ Own wr w.heap.size (.slice (some ⟨gg, 0, none⟩) us.length c2) vs ∧ Rd wr B g A n c f q ∧ w.grownBy wr (some g)) (fun i _ => us.length - (intOf i).toNat)
        case atStart => exact ⟨0, us, Nat.zero_le _, rfl, rfl, HSU, HO0.out, HR0.out, HG0.out⟩
        case round =>
          obtain ⟨j, vs, hj, rfl, hvs, HSV, ho, hr, hg⟩ := hrel
          have HOR := Lib.hid ho
          have HRR := Lib.hid hr
          have HGR := Lib.hid hg
          have HUS := Lib.hid hvs
          clear ho hr hg hvs
          by_cases hlt : j < us.length
          · obtain ⟨t, ht⟩ : ∃ t, vs[j]? = some t := ⟨vs[j]'(by rw [HUS.out]; exact hlt), List.getElem?_eq_getElem _⟩
            obtain ⟨b, o, eA, hbl, c0, c1', c2', c3, c4⟩ := HOR.out.reads.2.at_ j t ht
            injection eA with eA
            injection eA with eA1 eA2
            subst eA1 eA2
            simp only [Nat.zero_add] at c0 c1' c2' c3 c4
            have hfz := HOR.out.frozen
            have hst := HSV.out t (List.mem_of_getElem? ht)
            have HX := Lib.hid (HOR.out.due j t t.ev ht)
            have HXR := Lib.hid (HRR.out.set (q := ⟨gg, j * 5 + 2, none⟩) (by dsimp only; omega) (by dsimp only; omega) (.int .i64 t.ev))
            have HXG := Lib.hid (gb_set HGR.out (p := ⟨gg, j * 5 + 2, none⟩) (.inr hgg) (.int .i64 t.ev))
            have HL := Lib.hid (show (vs.set j { t with du := t.ev }).length = us.length by rw [List.length_set]; exact HUS.out)
            have HSV2 : Hid (∀ x ∈ vs.set j { t with du := t.ev }, smallTk x) := Lib.hid (mem_set_small2 HSV.out hst)
            have hji : (j : Int) < (us.length : Int) := by omega
            have hj0 : (0 : Int) ≤ (j : Int) := by omega
            clear ht hst HOR HRR HGR
            go_wp2
            go_roundw
            case rel => exact ⟨j + 1, _, by omega, by go_num, HL.out, HSV2, HX.out, HXR.out, HXG.out⟩
            case measure => simp [intOf]; omega
          · obtain rfl : j = us.length := by omega
            go_wp2
            go_ret
            exact ⟨_, vs, q, rfl, by rw [HUS.out]; exact hus, HSV.out, by omega, HRR.out, HGR.out, HOR.out⟩
    · have hpb : (pol == 1) = false := by simpa using hpol
      go_wp2
      go_loopw [6] (fun i wr => i = .int .i64 0 ∧ wr = w2) (fun i _ => 0)
      case atStart => exact ⟨rfl, rfl⟩
      case round =>
        obtain ⟨rfl, rfl⟩ := hrel
        by_cases h0 : 0 < us.length
        · go_wp2
          go_ret
          exact ⟨_, us, q, rfl, hus0, HSU.out, by omega, HR0.out, HG0.out, HO0.out⟩
        · obtain rfl : us = [] := List.eq_nil_of_length_eq_zero (by omega)
          clear h0
          go_wp2
          go_ret
          exact ⟨_, [], q, rfl, by simp, HSU.out, by omega, HR0.out, HG0.out, HO0.out⟩

def WhOut (B g : Nat) (A : Option Addr) (n c : Nat) (f : Nat → Int) (p d m : Nat) (w : World) (e : Ending) (w' : World) : Prop :=
  ∃ (A2 : Option Addr) (c2 : Nat) (zs : List Int) (p' : Nat), e = .returned (.slice A2 zs.length c2) ∧ zs.length ≤ m ∧ p' ≤ p + d ∧ Rd w' B g A n c f p' ∧ w.grownBy w' (some g) ∧ OwnZ w' w.heap.size (.slice A2 zs.length c2) zs

set_option maxRecDepth 100000 in
set_option maxHeartbeats 4000000 in
theorem l9Where_any (w : World) (B g : Nat) (A : Option Addr) (n c : Nat) (f : Nat → Int) (p k : Nat) (pr : Int) (hr : Rd w B g A n c f p) (hp : p ≤ 1000) (hk : k ≤ 4) (hpr : pr ≤ 1000) :
    Calls Tryd.prog 97 #[.pointer (some ⟨g, 0, none⟩), .int .i64 (k : Int), .int .i64 pr] w (WhOut B g A n c f p 10 5 w) := by
  obtain ⟨i0, hi, hz0, hz1, hz2⟩ := info_parts info_int
  have HR0 := Lib.hid hr
  have hgl := hr.lt
  have hBg := hr.ge
  clear hr
  go_enter Tryd.func97, Tryd.ntmps97
  go_wp2
  go_loopw [7, 8] (fun v i wr => ∃ (j : Nat) (zs : List Int), j ≤ k ∧ i = .int .i64 j ∧ zs.length = j ∧ OwnZ wr w.heap.size v zs ∧ Rd wr B g A n c f (p + j) ∧ w.grownBy wr (some g)) (fun _ i _ => k - (intOf i).toNat)
  case atStart => exact ⟨0, [], Nat.zero_le _, rfl, rfl, OwnZ.empty _, HR0.out.alloc _, gb_alloc (World.grownBy.refl w _) _⟩
  case round =>
    obtain ⟨j, zs, hj, rfl, hzl, ho, hr, hg⟩ := hrel
    obtain ⟨A3, c3, rfl⟩ := ho.form
    have HO := Lib.hid ho
    have HR := Lib.hid hr
    have HG := Lib.hid hg
    have HZL := Lib.hid hzl
    clear ho hr hg hzl
    by_cases hlt : j < k
    · have hji : (j : Int) < (k : Int) := by omega
      go_wp2_with fail
      refine (pick_any _ B g A n c f _ pr HR.out (by omega) (by omega)).mono ?_
      rintro e w4 ⟨z, rfl, z0, _, _, hr4, hg4⟩
      have HR4 := Lib.hid hr4
      have HG4 := Lib.hid (gb_trans HG.out hg4 (fun x e => .inl (by injection e with e; exact e.symm)))
      have HO4 := Lib.hid (HO.out.kept hg4 (fun k e => by injection e with e; omega))
      have hsz4 : w.heap.size ≤ w4.heap.size := HG4.out.size
      clear hr4 hg4
      have b1 : zs.length + 1 ≤ maxLen := by have := HZL.out; unfold maxLen; omega
      have b2 : (zs.length + 1) * 8 ≤ 140737488355328 := by have := HZL.out; omega
      go_wp2_with (at_builtin; refine wpList_append_own _ rfl (.tmp 15) (.tmp 19) 43 rfl w.heap.size 3 i0 _ 1 8 Tryd.underlying43 hi hz0 hz1 hz2 rfl (by decide) _ zs.length (zs.map (Value.int .i64)) rfl (HO4.out.alloc _) ⟨w4.heap.size, 0, none⟩ 1 1 [Value.int .i64 z] rfl rfl (cell_one_z _ _ _ _ rfl) (by intro u hu; rw [List.mem_singleton.1 hu]; rfl) b1 b2 (by simp; omega) ?_; intro v' w7 hown' hgrow _)
      have HO7 := Lib.hid (show OwnZ w7 w.heap.size v' (zs ++ [z]) from OwnZ.snoc hown')
      have HG7 := Lib.hid (gb_trans (gb_alloc HG4.out _) hgrow (fun x e => .inr ((World.ownsRow.lt HO4.out x e).1)))
      have HR7 := Lib.hid ((HR4.out.alloc _).grown hgrow (fun k e => by have := (World.ownsRow.lt HO4.out k e).1; exact ⟨by omega, by omega⟩))
      clear hown' hgrow b1 b2
      go_wp2
      go_roundw
      case rel => exact ⟨j + 1, zs ++ [z], by omega, by go_num, by rw [List.length_append, HZL.out]; rfl, HO7.out, HR7.out, HG7.out⟩
      case measure => simp [intOf]; omega
    · obtain rfl : j = k := by omega
      go_wp2_with fail
      refine (pick_any _ B g A n c f _ 16 HR.out (by omega) (by omega)).mono ?_
      rintro e w4 ⟨y, rfl, y0, _, _, hr4, hg4⟩
      have HR4 := Lib.hid hr4
      have HG4 := Lib.hid (gb_trans HG.out hg4 (fun x e => .inl (by injection e with e; exact e.symm)))
      have HO4 := Lib.hid (HO.out.kept hg4 (fun k e => by injection e with e; omega))
      have hsz4 : w.heap.size ≤ w4.heap.size := HG4.out.size
      clear hr4 hg4
      by_cases hy : y = 0
      · subst hy
        have hl4 := HR4.out.lt
        go_wp2_with fail
        refine (num_any _ B g A n c f _ _ 3 (-1) 3 (HR4.out.alloc _) (by omega) (by omega) (by omega) (by simp; omega) ?_).mono ?_
        · exact lit_cells_at _ _ _ _ _ _ (by simp) (fun i hi => by rcases (by omega : i = 0 ∨ i = 1 ∨ i = 2) with rfl | rfl | rfl <;> exact ⟨_, rfl, by decide, by decide⟩)
        rintro e w5 ⟨z, rfl, z0, z1, hr5, hg5⟩
        have hgw5 : w4.grownBy w5 (some g) := gb_trans (gb_alloc (World.grownBy.refl w4 _) _) hg5 (fun x e => .inl (by injection e with e; exact e.symm))
        have HR5 := Lib.hid hr5
        have HG5 := Lib.hid (gb_trans HG4.out hgw5 (fun x e => .inl (by injection e with e; exact e.symm)))
        have HO5 := Lib.hid (HO4.out.kept hgw5 (fun k e => by injection e with e; omega))
        have hsz5 : w.heap.size ≤ w5.heap.size := HG5.out.size
        clear hr5 hg5 hgw5
        have b1 : zs.length + 1 ≤ maxLen := by have := HZL.out; unfold maxLen; omega
        have b2 : (zs.length + 1) * 8 ≤ 140737488355328 := by have := HZL.out; omega
        go_wp2_with (at_builtin; refine wpList_append_own _ rfl (.tmp 24) (.tmp 28) 43 rfl w.heap.size 3 i0 _ 1 8 Tryd.underlying43 hi hz0 hz1 hz2 rfl (by decide) _ zs.length (zs.map (Value.int .i64)) rfl (HO5.out.alloc _) ⟨w5.heap.size, 0, none⟩ 1 1 [Value.int .i64 z] rfl rfl (cell_one_z _ _ _ _ rfl) (by intro u hu; rw [List.mem_singleton.1 hu]; rfl) b1 b2 (by simp; omega) ?_; intro v' w7 hown' hgrow _)
        have HO7 := Lib.hid (show OwnZ w7 w.heap.size v' (zs ++ [z]) from OwnZ.snoc hown')
        have HG7 := Lib.hid (gb_trans (gb_alloc HG5.out _) hgrow (fun x e => .inr ((World.ownsRow.lt HO5.out x e).1)))
        have HR7 := Lib.hid ((HR5.out.alloc _).grown hgrow (fun k e => by have := (World.ownsRow.lt HO5.out k e).1; exact ⟨by omega, by omega⟩))
        clear hown' hgrow b1 b2
        obtain ⟨A7, c7, rfl⟩ := HO7.out.form
        go_wp2
        go_ret
        exact ⟨A7, c7, zs ++ [z], _, rfl, by rw [List.length_append, HZL.out]; show j + 1 ≤ 5; omega, by omega, HR7.out, HG7.out, HO7.out⟩
      · have ty : (y == 0) = false := by simpa using hy
        go_wp2
        go_ret
        exact ⟨A3, c3, zs, _, rfl, by rw [HZL.out]; omega, by omega, HR4.out, HG4.out, HO4.out⟩

end Go.Proofs.YtfjbkblodgdcnaaDoor
