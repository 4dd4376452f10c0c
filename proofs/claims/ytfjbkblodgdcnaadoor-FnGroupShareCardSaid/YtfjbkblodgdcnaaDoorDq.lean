/- Draws of chapter 9's arguments: tasks, a way, a number of processors and a policy. -/
import Derived.Test.YtfjbkblodgdcnaaDoorDp
namespace Go.Proofs.YtfjbkblodgdcnaaDoor
open Go.RowKit
set_option linter.unusedVariables false

theorem OwnZ.setNe {w : World} {B : Nat} {v : Value} {zs : List Int} (h : OwnZ w B v zs) {a : Addr} (hv : ∀ k, v.ownBlock = some k → k ≠ a.block) (u : Value) : OwnZ (w.setCell a u) B v zs := by
  refine ⟨h.1, ?_⟩
  rcases h.2 with hn | ⟨g, cap, cur, e, hb, hg, rest⟩
  · exact .inl hn
  · exact .inr ⟨g, cap, cur, e, hb, (Below.heap_setCell w a u g (fun e2 => hv g (by rw [e]; rfl) e2)).trans hg, rest⟩
theorem Code.bel9 {w w' : World} {A : Option Addr} {n c : Nat} {f : Nat → Int} (h : Code w w.heap.size A n c f) (hb : Below w.heap.size w w') : Code w' w'.heap.size A n c f :=
  ⟨h.le, h.max, fun i hi => by
    obtain ⟨b, o, e, hlt, hc⟩ := h.at_ i hi
    exact ⟨b, o, e, Nat.lt_of_lt_of_le hlt hb.size, (hb.cell (p := ⟨b, o + i, none⟩) hlt).trans hc⟩, h.byte⟩
theorem Own.kept_one {w w' : World} {B M : Nat} {v : Value} {ts : List Tk} (h : Own w B v ts) (hg : w.grownBy w' (some M)) (hv : ∀ k, v.ownBlock = some k → k < M) : Own w' B v ts := by
  refine World.ownsRow.kept h hg ?_
  rcases he : v.ownBlock with _ | k
  · exact .inl rfl
  · right
    intro e
    have := hv k he
    injection e with e
    omega
theorem OwnZ.kept_one {w w' : World} {B M : Nat} {v : Value} {zs : List Int} (h : OwnZ w B v zs) (hg : w.grownBy w' (some M)) (hv : ∀ k, v.ownBlock = some k → k < M) : OwnZ w' B v zs := by
  refine World.ownsRow.kept h hg ?_
  rcases he : v.ownBlock with _ | k
  · exact .inl rfl
  · right
    intro e
    have := hv k he
    injection e with e
    omega
def CaseOut (w : World) (e : Ending) (w' : World) : Prop :=
  ∃ (A2 : Option Addr) (c2 : Nat) (ts : List Tk) (A3 : Option Addr) (c3 : Nat) (zs : List Int) (nn pol : Int), e = .returned (.tuple #[.slice A2 ts.length c2, .slice A3 zs.length c3, .int .i64 nn, .int .i64 pol]) ∧ ts.length ≤ 4 ∧ zs.length ≤ 5 ∧
    (0 ≤ nn ∧ nn ≤ 4) ∧ (0 ≤ pol ∧ pol ≤ 2) ∧ Own w' w.heap.size (.slice A2 ts.length c2) ts ∧ OwnZ w' w.heap.size (.slice A3 zs.length c3) zs ∧ Below w.heap.size w w'

set_option maxRecDepth 100000 in
set_option maxHeartbeats 8000000 in
theorem l9Case_any (w : World) (A : Option Addr) (n c : Nat) (f : Nat → Int) (h : Code w w.heap.size A n c f) :
    Calls Tryd.prog 67 #[.slice A n c] w (CaseOut w) := by
  have H := Lib.hid h
  clear h
  go_enter Tryd.func67, Tryd.ntmps67
  go_wp2_with fail
  refine (open_any _ A n c f H.out).mono ?_
  rintro e w1 ⟨rfl, m, hr, hb⟩
  have HR1 := Lib.hid hr
  have HB1 := Lib.hid hb
  clear hr hb
  have hlt1 := HR1.out.lt
  go_wp2_with fail
  refine (num_any _ _ _ _ _ _ _ _ _ 7 0 2 (HR1.out.alloc _) (by omega) (by omega) (by omega) (by first | omega | (simp; omega)) ?_).mono ?_
  · exact lit_cells_at _ _ _ _ _ _ (by simp) (fun i hi => by rcases (by omega : i = 0 ∨ i = 1 ∨ i = 2 ∨ i = 3 ∨ i = 4 ∨ i = 5 ∨ i = 6) with rfl | rfl | rfl | rfl | rfl | rfl | rfl <;> exact ⟨_, rfl, by decide, by decide⟩)
  rintro e w2 ⟨pol, rfl, pol0, pol1, hr, hg⟩
  have hgb : w1.grownBy w2 (some w.heap.size) := gb_trans (gb_alloc (World.grownBy.refl w1 _) _) hg (fun x e => .inl (by injection e with e; exact e.symm))
  have HR2 := Lib.hid hr
  have HB2 := Lib.hid (below_of_gb HB1.out hgb HB1.out.size (Nat.le_refl _))
  have hs12 : w1.heap.size ≤ w2.heap.size := hgb.size
  clear hr hg hgb
  go_wp2_with fail
  refine (l9Set_any _ _ _ _ _ _ _ _ pol HR2.out (by omega)).mono ?_
  rintro e w3 ⟨v, ts, p', rfl, hl, hsm, hp', hr, hgb, ho⟩
  obtain ⟨A3, c3, rfl⟩ := ho.form
  have HR3 := Lib.hid hr
  have HB3 := Lib.hid (below_of_gb HB2.out hgb HB2.out.size (Nat.le_refl _))
  have HO3 := Lib.hid (own_more ho (show w1.heap.size ≤ w2.heap.size from hs12))
  have HOM := Lib.hid (fun k e => (World.ownsRow.lt ho k e).2)
  have hs23 : w2.heap.size ≤ w3.heap.size := hgb.size
  have HS := Lib.hid hsm
  clear hr hgb ho hsm
  have hlt3 := HR3.out.lt
  go_wp2_with fail
  refine (num_any _ _ _ _ _ _ _ _ _ 5 1 3 (HR3.out.alloc _) (by omega) (by omega) (by omega) (by first | omega | (simp; omega)) ?_).mono ?_
  · exact lit_cells_at _ _ _ _ _ _ (by simp) (fun i hi => by rcases (by omega : i = 0 ∨ i = 1 ∨ i = 2 ∨ i = 3 ∨ i = 4) with rfl | rfl | rfl | rfl | rfl <;> exact ⟨_, rfl, by decide, by decide⟩)
  rintro e w4 ⟨nn, rfl, nn0, nn1, hr, hg⟩
  have hgb : w3.grownBy w4 (some w.heap.size) := gb_trans (gb_alloc (World.grownBy.refl w3 _) _) hg (fun x e => .inl (by injection e with e; exact e.symm))
  have HR4 := Lib.hid hr
  have HS34 : w3.heap.size ≤ w4.heap.size := hgb.size
  have HB4 := Lib.hid (below_of_gb HB3.out hgb HB3.out.size (Nat.le_refl _))
  have HO4 := Lib.hid (HO3.out.kept hgb (fun k e => by injection e with e; omega))
  clear hr hg hgb
  have hs34 : w3.heap.size ≤ w4.heap.size := HS34
  go_wp2_with fail
  refine (l9Where_any _ _ _ _ _ _ _ _ ts.length nn HR4.out (by omega) hl (by omega)).mono ?_
  rintro e w5 ⟨Az, cz, zs, q, rfl, hzl, hq, hr, hgb, hoz⟩
  have HR5 := Lib.hid hr
  have HB5 := Lib.hid (below_of_gb HB4.out hgb HB4.out.size (Nat.le_refl _))
  have HO5 := Lib.hid (HO4.out.kept hgb (fun k e => by injection e with e; omega))
  have HZ5 := Lib.hid (hoz.less (show w1.heap.size ≤ w4.heap.size from Nat.le_trans hs12 (Nat.le_trans hs23 hs34)))
  have HZM : Hid (∀ k, (Value.slice Az zs.length cz).ownBlock = some k → w3.heap.size ≤ k) := Lib.hid (fun k e => by have := (World.ownsRow.lt hoz k e).1; omega)
  clear hr hgb hoz
  go_wp2_with fail
  refine (pick_any _ _ _ _ _ _ _ _ 12 HR5.out (by omega) (by omega)).mono ?_
  rintro e w6 ⟨y, rfl, y0, _, _, hr, hgb⟩
  have HR6 := Lib.hid hr
  have HB6 := Lib.hid (below_of_gb HB5.out hgb HB5.out.size (Nat.le_refl _))
  have HO6 := Lib.hid (HO5.out.kept hgb (fun k e => by injection e with e; omega))
  have HZ6 := Lib.hid (HZ5.out.kept hgb (fun k e => by injection e with e; omega))
  clear hr hgb
  by_cases hy : y = 0
  · subst hy
    have hlt6 := HR6.out.lt
    go_wp2_with fail
    refine (num_any _ _ _ _ _ _ _ _ _ 3 0 4 (HR6.out.alloc _) (by omega) (by omega) (by omega) (by first | omega | (simp; omega)) ?_).mono ?_
    · exact lit_cells_at _ _ _ _ _ _ (by simp) (fun i hi => by rcases (by omega : i = 0 ∨ i = 1 ∨ i = 2) with rfl | rfl | rfl <;> exact ⟨_, rfl, by decide, by decide⟩)
    rintro e w7 ⟨n2, rfl, n20, n21, hr, hg⟩
    have hgb : w6.grownBy w7 (some w.heap.size) := gb_trans (gb_alloc (World.grownBy.refl w6 _) _) hg (fun x e => .inl (by injection e with e; exact e.symm))
    have HR7 := Lib.hid hr
    have HB7 := Lib.hid (below_of_gb HB6.out hgb HB6.out.size (Nat.le_refl _))
    have HO7 := Lib.hid (HO6.out.kept hgb (fun k e => by injection e with e; omega))
    have HZ7 := Lib.hid (HZ6.out.kept hgb (fun k e => by injection e with e; omega))
    clear hr hg hgb
    by_cases h0 : ts.length = 0
    · obtain rfl : ts = [] := List.eq_nil_of_length_eq_zero h0
      clear h0
      go_wp2
      refine bodyPost_ret (v := .tuple #[.slice A3 0 c3, .slice Az zs.length cz, .int .i64 n2, .int .i64 pol]) (by simp [results, Tryd.results67, go_sem]) rfl ?_
      exact ⟨A3, c3, [], Az, cz, zs, n2, pol, rfl, hl, hzl, by omega, by omega, own_more HO7.out HB1.out.size, HZ7.out.less HB1.out.size, HB7.out⟩
    have hpos : 0 < ts.length := by omega
    clear h0
    go_wp2_with fail
    refine (pick_any _ _ _ _ _ _ _ _ 12 HR7.out (by omega) (by omega)).mono ?_
    rintro e w8 ⟨u, rfl, u0, _, _, hr, hgb⟩
    have HR8 := Lib.hid hr
    have HB8 := Lib.hid (below_of_gb HB7.out hgb HB7.out.size (Nat.le_refl _))
    have HO8 := Lib.hid (HO7.out.kept hgb (fun k e => by injection e with e; omega))
    have HZ8 := Lib.hid (HZ7.out.kept hgb (fun k e => by injection e with e; omega))
    clear hr hgb
    by_cases hu : u = 0
    · subst hu
      obtain ⟨h, hA3⟩ : ∃ h, A3 = some ⟨h, 0, none⟩ := by
        rcases HO8.out.2 with ⟨e, e0⟩ | ⟨h, cap, cur, e, _⟩
        · omega
        · injection e with e1 e2 e3; exact ⟨h, e1⟩
      subst hA3
      obtain ⟨t, ht⟩ : ∃ t, ts[0]? = some t := ⟨ts[0], List.getElem?_eq_getElem hpos⟩
      have hst := HS.out t (List.mem_of_getElem? ht)
      obtain ⟨b, o, eA, hbl, c0, c1', c2, c3', c4⟩ := HO8.out.reads.2.at_ 0 t ht
      injection eA with eA
      injection eA with eA1 eA2
      subst eA1 eA2
      simp only [Nat.zero_add, Nat.zero_mul] at c0 c1' c2 c3' c4
      have HST := Lib.hid hst
      have HT := Lib.hid ht
      clear hst ht
      go_wp2_with fail
      refine (wrong_any _ _ _ _ _ _ _ _ t.lo t.hi t.du t.ev t.cr HR8.out (by omega) HST.out).mono ?_
      rintro e w9 ⟨lo, hi', du, ev, cr, p3, rfl, hs3, hp3, hr, hgb⟩
      clear c0 c1' c2 c3' c4
      have HR9 := Lib.hid hr
      have HB9 := Lib.hid (below_of_gb HB8.out hgb HB8.out.size (Nat.le_refl _))
      have HO9 := Lib.hid (HO8.out.kept hgb (fun k e => by injection e with e; omega))
      have HZ9 := Lib.hid (HZ8.out.kept hgb (fun k e => by injection e with e; omega))
      clear hr hgb
      go_wp2_with fail
      refine (wrong_any _ _ _ _ _ _ _ _ lo hi' du ev cr HR9.out (by omega) hs3).mono ?_
      rintro e w10 ⟨lo2, hi2, du2, ev2, cr2, p4, rfl, hs4, hp4, hr, hgb⟩
      have HB10 := Lib.hid (below_of_gb HB9.out hgb HB9.out.size (Nat.le_refl _))
      have HO10 := Lib.hid (HO9.out.kept hgb (fun k e => by injection e with e; omega))
      have HZ10 := Lib.hid (HZ9.out.kept hgb (fun k e => by injection e with e; omega))
      clear hr hgb
      have hge : w.heap.size ≤ h := Nat.le_trans HB1.out.size ((World.ownsRow.lt HO10.out h rfl).1)
      have hzh : ∀ k, (Value.slice Az zs.length cz).ownBlock = some k → k ≠ h := fun k e1 e2 => by
        have := HZM.out k e1
        have := HOM.out h rfl
        omega
      obtain ⟨b, o, eA, hbl, c0, c1', c2, c3', c4⟩ := HO10.out.reads.2.at_ 0 t HT.out
      injection eA with eA
      injection eA with eA1 eA2
      subst eA1 eA2
      simp only [Nat.zero_add, Nat.zero_mul] at c0 c1' c2 c3' c4
      have hfz := World.ownsRow.frozenAt HO10.out
      have HOP := Lib.hid (HO10.out.put 0 ⟨lo2, hi2, du2, ev2, cr2⟩ hpos)
      have HZP := Lib.hid (((((HZ10.out.setNe (a := ⟨h, 0, none⟩) hzh (.int .i64 lo2)).setNe (a := ⟨h, 1, none⟩) hzh (.int .i64 hi2)).setNe (a := ⟨h, 2, none⟩) hzh (.int .i64 du2)).setNe (a := ⟨h, 3, none⟩) hzh (.int .i64 ev2)).setNe (a := ⟨h, 4, none⟩) hzh (.bool cr2))
      have HBP := Lib.hid (bl_set (p := ⟨h, 4, none⟩) (bl_set (p := ⟨h, 3, none⟩) (bl_set (p := ⟨h, 2, none⟩) (bl_set (p := ⟨h, 1, none⟩) (bl_set (p := ⟨h, 0, none⟩) HB10.out hge (.int .i64 lo2)) hge (.int .i64 hi2)) hge (.int .i64 du2)) hge (.int .i64 ev2)) hge (.bool cr2))
      have hlen2 : (ts.set 0 ⟨lo2, hi2, du2, ev2, cr2⟩).length = ts.length := List.length_set
      have HL2 := Lib.hid hlen2
      clear hlen2 hzh
      go_wp2
      refine bodyPost_ret (v := .tuple #[.slice (some ⟨h, 0, none⟩) ts.length c3, .slice Az zs.length cz, .int .i64 n2, .int .i64 pol]) (by simp [results, Tryd.results67, go_sem]) rfl ?_
      exact ⟨_, c3, ts.set 0 ⟨lo2, hi2, du2, ev2, cr2⟩, Az, cz, zs, n2, pol, by rw [HL2.out], by rw [HL2.out]; exact hl, hzl, by omega, by omega, by rw [HL2.out]; exact own_more HOP.out HB1.out.size, HZP.out.less HB1.out.size, HBP.out⟩
    · have ty : (u == 0) = false := by simpa using hu
      clear hu
      go_wp2
      refine bodyPost_ret (v := .tuple #[.slice A3 ts.length c3, .slice Az zs.length cz, .int .i64 n2, .int .i64 pol]) (by simp [results, Tryd.results67, go_sem]) rfl ?_
      exact ⟨A3, c3, ts, Az, cz, zs, n2, pol, rfl, hl, hzl, by omega, by omega, own_more HO8.out HB1.out.size, HZ8.out.less HB1.out.size, HB8.out⟩
  · have ty : (y == 0) = false := by simpa using hy
    clear hy
    by_cases h0 : ts.length = 0
    · obtain rfl : ts = [] := List.eq_nil_of_length_eq_zero h0
      clear h0
      go_wp2
      refine bodyPost_ret (v := .tuple #[.slice A3 0 c3, .slice Az zs.length cz, .int .i64 nn, .int .i64 pol]) (by simp [results, Tryd.results67, go_sem]) rfl ?_
      exact ⟨A3, c3, [], Az, cz, zs, nn, pol, rfl, hl, hzl, by omega, by omega, own_more HO6.out HB1.out.size, HZ6.out.less HB1.out.size, HB6.out⟩
    have hpos : 0 < ts.length := by omega
    clear h0
    go_wp2_with fail
    refine (pick_any _ _ _ _ _ _ _ _ 12 HR6.out (by omega) (by omega)).mono ?_
    rintro e w7 ⟨u, rfl, u0, _, _, hr, hgb⟩
    have HR7 := Lib.hid hr
    have HB7 := Lib.hid (below_of_gb HB6.out hgb HB6.out.size (Nat.le_refl _))
    have HO7 := Lib.hid (HO6.out.kept hgb (fun k e => by injection e with e; omega))
    have HZ7 := Lib.hid (HZ6.out.kept hgb (fun k e => by injection e with e; omega))
    clear hr hgb
    by_cases hu : u = 0
    · subst hu
      obtain ⟨h, hA3⟩ : ∃ h, A3 = some ⟨h, 0, none⟩ := by
        rcases HO7.out.2 with ⟨e, e0⟩ | ⟨h, cap, cur, e, _⟩
        · omega
        · injection e with e1 e2 e3; exact ⟨h, e1⟩
      subst hA3
      obtain ⟨t, ht⟩ : ∃ t, ts[0]? = some t := ⟨ts[0], List.getElem?_eq_getElem hpos⟩
      have hst := HS.out t (List.mem_of_getElem? ht)
      obtain ⟨b, o, eA, hbl, c0, c1', c2, c3', c4⟩ := HO7.out.reads.2.at_ 0 t ht
      injection eA with eA
      injection eA with eA1 eA2
      subst eA1 eA2
      simp only [Nat.zero_add, Nat.zero_mul] at c0 c1' c2 c3' c4
      have HST := Lib.hid hst
      have HT := Lib.hid ht
      clear hst ht
      go_wp2_with fail
      refine (wrong_any _ _ _ _ _ _ _ _ t.lo t.hi t.du t.ev t.cr HR7.out (by omega) HST.out).mono ?_
      rintro e w8 ⟨lo, hi', du, ev, cr, p3, rfl, hs3, hp3, hr, hgb⟩
      clear c0 c1' c2 c3' c4
      have HR8 := Lib.hid hr
      have HB8 := Lib.hid (below_of_gb HB7.out hgb HB7.out.size (Nat.le_refl _))
      have HO8 := Lib.hid (HO7.out.kept hgb (fun k e => by injection e with e; omega))
      have HZ8 := Lib.hid (HZ7.out.kept hgb (fun k e => by injection e with e; omega))
      clear hr hgb
      go_wp2_with fail
      refine (wrong_any _ _ _ _ _ _ _ _ lo hi' du ev cr HR8.out (by omega) hs3).mono ?_
      rintro e w9 ⟨lo2, hi2, du2, ev2, cr2, p4, rfl, hs4, hp4, hr, hgb⟩
      have HB9 := Lib.hid (below_of_gb HB8.out hgb HB8.out.size (Nat.le_refl _))
      have HO9 := Lib.hid (HO8.out.kept hgb (fun k e => by injection e with e; omega))
      have HZ9 := Lib.hid (HZ8.out.kept hgb (fun k e => by injection e with e; omega))
      clear hr hgb
      have hge : w.heap.size ≤ h := Nat.le_trans HB1.out.size ((World.ownsRow.lt HO9.out h rfl).1)
      have hzh : ∀ k, (Value.slice Az zs.length cz).ownBlock = some k → k ≠ h := fun k e1 e2 => by
        have := HZM.out k e1
        have := HOM.out h rfl
        omega
      obtain ⟨b, o, eA, hbl, c0, c1', c2, c3', c4⟩ := HO9.out.reads.2.at_ 0 t HT.out
      injection eA with eA
      injection eA with eA1 eA2
      subst eA1 eA2
      simp only [Nat.zero_add, Nat.zero_mul] at c0 c1' c2 c3' c4
      have hfz := World.ownsRow.frozenAt HO9.out
      have HOP := Lib.hid (HO9.out.put 0 ⟨lo2, hi2, du2, ev2, cr2⟩ hpos)
      have HZP := Lib.hid (((((HZ9.out.setNe (a := ⟨h, 0, none⟩) hzh (.int .i64 lo2)).setNe (a := ⟨h, 1, none⟩) hzh (.int .i64 hi2)).setNe (a := ⟨h, 2, none⟩) hzh (.int .i64 du2)).setNe (a := ⟨h, 3, none⟩) hzh (.int .i64 ev2)).setNe (a := ⟨h, 4, none⟩) hzh (.bool cr2))
      have HBP := Lib.hid (bl_set (p := ⟨h, 4, none⟩) (bl_set (p := ⟨h, 3, none⟩) (bl_set (p := ⟨h, 2, none⟩) (bl_set (p := ⟨h, 1, none⟩) (bl_set (p := ⟨h, 0, none⟩) HB9.out hge (.int .i64 lo2)) hge (.int .i64 hi2)) hge (.int .i64 du2)) hge (.int .i64 ev2)) hge (.bool cr2))
      have hlen2 : (ts.set 0 ⟨lo2, hi2, du2, ev2, cr2⟩).length = ts.length := List.length_set
      have HL2 := Lib.hid hlen2
      clear hlen2 hzh
      go_wp2
      refine bodyPost_ret (v := .tuple #[.slice (some ⟨h, 0, none⟩) ts.length c3, .slice Az zs.length cz, .int .i64 nn, .int .i64 pol]) (by simp [results, Tryd.results67, go_sem]) rfl ?_
      exact ⟨_, c3, ts.set 0 ⟨lo2, hi2, du2, ev2, cr2⟩, Az, cz, zs, nn, pol, by rw [HL2.out], by rw [HL2.out]; exact hl, hzl, by omega, by omega, by rw [HL2.out]; exact own_more HOP.out HB1.out.size, HZP.out.less HB1.out.size, HBP.out⟩
    · have ty : (u == 0) = false := by simpa using hu
      clear hu
      go_wp2
      refine bodyPost_ret (v := .tuple #[.slice A3 ts.length c3, .slice Az zs.length cz, .int .i64 nn, .int .i64 pol]) (by simp [results, Tryd.results67, go_sem]) rfl ?_
      exact ⟨A3, c3, ts, Az, cz, zs, nn, pol, rfl, hl, hzl, by omega, by omega, own_more HO7.out HB1.out.size, HZ7.out.less HB1.out.size, HB7.out⟩

def DrewPk (w : World) (e : Ending) (w' : World) : Prop :=
  ∃ (A2 : Option Addr) (c2 : Nat) (ts : List Tk) (A3 : Option Addr) (c3 : Nat) (zs : List Int) (z : Int), e = .returned (.tuple #[.slice A2 ts.length c2, .slice A3 zs.length c3, .int .i64 z]) ∧ ts.length ≤ 4 ∧ zs.length ≤ 5 ∧ (-1 ≤ z ∧ z ≤ 4) ∧
    Own w' w.heap.size (.slice A2 ts.length c2) ts ∧ OwnZ w' w.heap.size (.slice A3 zs.length c3) zs ∧ Below w.heap.size w w'
def DrewPf (w : World) (e : Ending) (w' : World) : Prop :=
  ∃ (A2 : Option Addr) (c2 : Nat) (ts : List Tk) (A3 : Option Addr) (c3 : Nat) (zs : List Int), e = .returned (.tuple #[.slice A2 ts.length c2, .slice A3 zs.length c3]) ∧ ts.length ≤ 4 ∧ zs.length ≤ 5 ∧
    Own w' w.heap.size (.slice A2 ts.length c2) ts ∧ OwnZ w' w.heap.size (.slice A3 zs.length c3) zs ∧ Below w.heap.size w w'
def DrewFw (w : World) (e : Ending) (w' : World) : Prop :=
  ∃ (A2 : Option Addr) (c2 : Nat) (ts : List Tk) (z : Int), e = .returned (.tuple #[.slice A2 ts.length c2, .int .i64 z]) ∧ ts.length ≤ 4 ∧ (0 ≤ z ∧ z ≤ 2) ∧ Own w' w.heap.size (.slice A2 ts.length c2) ts ∧ Below w.heap.size w w'

set_option maxRecDepth 100000 in
set_option maxHeartbeats 1000000 in
theorem dDrawGroupOf_any (w : World) (A : Option Addr) (n c : Nat) (f : Nat → Int) (h : Code w w.heap.size A n c f) :
    Calls Tryd.prog 31 #[.slice A n c] w (DrewPk w) := by
  have H := Lib.hid h
  clear h
  go_enter Tryd.func31, Tryd.ntmps31
  go_wp2_with fail
  refine (l9Case_any _ A n c f H.out).mono ?_
  rintro e w1 ⟨A2, c2, ts, A3, c3, zs, nn, pol, rfl, hl, hzl, hnn, hpol, ho, hoz, hb⟩
  have HO := Lib.hid ho
  have HZ := Lib.hid hoz
  have HB := Lib.hid hb
  have HOM : Hid (∀ k, (Value.slice A2 ts.length c2).ownBlock = some k → k < w1.heap.size) := fun k e => (World.ownsRow.lt ho k e).2
  have HZM : Hid (∀ k, (Value.slice A3 zs.length c3).ownBlock = some k → k < w1.heap.size) := fun k e => (World.ownsRow.lt hoz k e).2
  clear ho hoz hb
  have hCd : Code w1 w1.heap.size A n c f := H.out.bel9 HB.out
  go_wp2_with fail
  refine (open_any _ A n c f hCd).mono ?_
  rintro e w2 ⟨rfl, m, hr, hb⟩
  have HR2 := Lib.hid hr
  have hgl := hr.lt
  have HB2 := Lib.hid (bl_trans HB.out hb)
  have HO2 := Lib.hid (HO.out.below hb)
  have HZ2 := Lib.hid (HZ.out.below hb)
  have hs1 : w.heap.size ≤ w1.heap.size := HB.out.size
  clear hr hb
  go_wp2_with fail
  refine (num_any _ _ _ _ _ _ _ _ _ 5 (-1) 4 (HR2.out.alloc _) (by omega) (by omega) (by omega) (by omega) ?_).mono ?_
  · exact lit_cells_at _ _ _ _ _ _ (by simp) (fun i hi => by rcases (by omega : i = 0 ∨ i = 1 ∨ i = 2 ∨ i = 3 ∨ i = 4) with rfl | rfl | rfl | rfl | rfl <;> exact ⟨_, rfl, by decide, by decide⟩)
  rintro e w3 ⟨z, rfl, z0, z1, hr, hg⟩
  have hgb : w2.grownBy w3 (some w1.heap.size) := gb_trans (gb_alloc (World.grownBy.refl w2 _) _) hg (fun x e => .inl (by injection e with e; exact e.symm))
  have HB3 := Lib.hid (below_of_gb HB2.out hgb HB2.out.size hs1)
  have HO3 := Lib.hid (HO2.out.kept_one hgb HOM.out)
  have HZ3 := Lib.hid (HZ2.out.kept_one hgb HZM.out)
  clear hr hg hgb
  go_wp2
  go_ret3
  exact ⟨A2, c2, ts, A3, c3, zs, z, rfl, hl, hzl, by omega, HO3.out, HZ3.out, HB3.out⟩

end Go.Proofs.YtfjbkblodgdcnaaDoor
