/- Contract of the reference's draw of tasks and jobs, sometimes ones that are not valid; nothing that was there is written. -/
import Derived.Test.YthdclaljgimclaaDoorSDj
namespace Go.Proofs.YthdclaljgimclaaDoor
open Go.RowKit
set_option linter.unusedVariables false

/-- Tasks and jobs of the call's own. -/
def DrewLJ (w : World) (e : Ending) (w' : World) : Prop :=
  ∃ (A : Option Addr) (c : Nat) (ts : List Tk) (g2 c2 : Nat) (js : List Jb), e = .returned (.tuple #[.slice A ts.length c, .slice (some ⟨g2, 0, none⟩) js.length c2]) ∧ ts.length ≤ 5 ∧ (∀ t ∈ ts, smallTk t) ∧ js.length ≤ 61 ∧ (∀ j ∈ js, smallJ j) ∧ Own w' w.heap.size (.slice A ts.length c) ts ∧ OwnJ w' w.heap.size (.slice (some ⟨g2, 0, none⟩) js.length c2) js ∧ Below w.heap.size w w'
theorem OwnJ.cells_ {w : World} {B h n c : Nat} {js : List Jb} (ho : OwnJ w B (.slice (some ⟨h, 0, none⟩) n c) js) : B ≤ h ∧ h < w.heap.size := by
  rcases ho.2 with ⟨e, _⟩ | ⟨g, cap, cur, e, hb, hh, _⟩
  · cases e
  · injection e with e1 e2 e3
    injection e1 with e1
    injection e1 with e1
    subst e1
    exact ⟨hb, (Array.getElem?_eq_some_iff.1 hh).1⟩
theorem Own.kept_row {w w' : World} {B : Nat} {v : Value} {ts : List Tk} {row : Option Nat} (h : Own w B v ts) (hg : w.grownBy w' row) (hr : ∀ k, v.ownBlock = some k → row = some k → False) : Own w' B v ts := by
  refine World.ownsRow.kept h hg ?_
  rcases he : v.ownBlock with _ | k
  · exact .inl rfl
  · right
    intro e
    exact hr k he e.symm
theorem jset_cells (js : List Jb) : ∀ (k : Nat) (j : Jb) (z : Int), js[k]? = some j →
    (js.flatMap Jb.cells).set (k * 3 + 2) (.int .i64 z) = (js.set k ⟨j.ta, j.tm, z⟩).flatMap Jb.cells := by
  induction js with
  | nil => intro k j z h; simp at h
  | cons a js ih =>
    intro k j z h
    cases k with
    | zero => simp at h; subst h; simp [List.flatMap_cons, Jb.cells]
    | succ k =>
      have e0 : (k + 1) * 3 = k * 3 + 3 := by omega
      simp only [List.flatMap_cons, Jb.cells, List.set_cons_succ, e0, List.cons_append, List.nil_append, Nat.add_right_comm]
      rw [← ih k j z (by simpa using h)]
theorem OwnJ.put {w : World} {B h n c : Nat} {js : List Jb} (ho : OwnJ w B (.slice (some ⟨h, 0, none⟩) n c) js) (k : Nat) (j : Jb) (z : Int) (hk : js[k]? = some j) :
    OwnJ (w.setCell ⟨h, k * 3 + 2, none⟩ (.int .i64 z)) B (.slice (some ⟨h, 0, none⟩) n c) (js.set k ⟨j.ta, j.tm, z⟩) := by
  have hn := ho.reads.1
  subst hn
  have h1 := (World.ownsRow.stored ho (k * 3 + 2) (.int .i64 z)).1
  unfold OwnJ
  rw [List.length_set, ← jset_cells js k j z hk]
  exact h1
set_option maxRecDepth 100000 in
set_option maxHeartbeats 4000000 in
theorem l6Case_any (w : World) (A : Option Addr) (n c : Nat) (f : Nat → Int) (h : Code w w.heap.size A n c f) :
    Calls Tryd.prog 28 #[.slice A n c] w (DrewLJ w) := by
  obtain ⟨i0, hi, hz0, hz1, hz2⟩ := info_parts info_job
  have H := Lib.hid h
  clear h
  go_enter Tryd.func28, Tryd.ntmps28
  go_wp2_with fail
  refine (open_any _ A n c f H.out).mono ?_
  rintro e w1 ⟨rfl, m, hr, hb⟩
  have hgl := hr.lt
  have HR := Lib.hid hr
  have HB := Lib.hid hb
  clear hr hb
  go_wp2_with fail
  refine (set_any _ _ _ _ _ _ _ _ HR.out (by omega)).mono ?_
  rintro e w2 ⟨v, ts, p, rfl, hl, hg, hp, hr, hgb, ho⟩
  obtain ⟨A2, c2, rfl⟩ := ho.form
  have hlt2 := hr.lt
  have HR2 := Lib.hid hr
  have HB2 := Lib.hid (below_of_gb HB.out hgb HB.out.size (Nat.le_refl _))
  have HO2 := Lib.hid ho
  have HS := Lib.hid (fun t ht => (hg t ht).small : ∀ t ∈ ts, smallTk t)
  have HGD := Lib.hid hg
  have HA2 := Lib.hid (show ∀ k, (Value.slice A2 ts.length c2).ownBlock = some k → k < w2.heap.size from fun k e => (World.ownsRow.lt ho k e).2)
  have hs12 : w1.heap.size ≤ w2.heap.size := hgb.size
  clear hr hgb ho hg
  go_wp2_with fail
  refine (l6Jobs_any _ _ _ _ _ _ _ _ HR2.out (by omega) w1.heap.size A2 c2 ts HO2.out (by omega) HGD.out (by omega)).mono ?_
  rintro e w3 ⟨g3, c3, js, p3, rfl, hjl, hjs, hp3, hr, hgb, ho⟩
  have HR3 := Lib.hid hr
  have HB3 := Lib.hid (below_of_gb HB2.out hgb HB2.out.size (Nat.le_refl _))
  have HO3 := Lib.hid (HO2.out.kept hgb (fun k e => by injection e with e; omega))
  have HJ3 := Lib.hid ho
  have HSJ := Lib.hid hjs
  clear hr hgb ho hjs HR HR2 HB2 HO2
  go_wp2_with fail
  refine (pick_any _ _ _ _ _ _ _ p3 20 HR3.out (by omega) (by omega)).mono ?_
  rintro e w4 ⟨y, rfl, y0, _, _, hr, hgb⟩
  have HR4 := Lib.hid hr
  have HB4 := Lib.hid (below_of_gb HB3.out hgb HB3.out.size (Nat.le_refl _))
  have HO4 := Lib.hid (HO3.out.kept hgb (fun k e => by injection e with e; omega))
  have HJ4 := Lib.hid (HJ3.out.kept hgb (fun k e => by injection e with e; omega))
  clear hr hgb HR3 HB3 HO3 HJ3
  have hw1 : w.heap.size < w1.heap.size := hgl
  have hlt4 := HR4.out.lt
  obtain ⟨nj, hnj⟩ : ∃ k, js.length = k := ⟨_, rfl⟩
  have HN := Lib.hid hnj
  by_cases hy0 : y = 0
  · subst hy0
    clear hnj HN
    go_wp2_with fail
    refine (num_any _ _ _ _ _ _ _ (p3 + 1) _ 3 (-1) 5 (HR4.out.alloc _) (by omega) (by omega) (by omega) (by omega) ?_).mono ?_
    · exact lit_cells_at _ _ _ _ _ _ (by simp) (fun i hi => by rcases (by omega : i = 0 ∨ i = 1 ∨ i = 2) with rfl | rfl | rfl <;> exact ⟨_, rfl, by decide, by decide⟩)
    rintro e w5 ⟨x1, rfl, x10, x11, hr, hgb⟩
    have hlt5 := hr.lt
    have HR5 := Lib.hid hr
    have HG5 := Lib.hid (gb_trans (gb_alloc (World.grownBy.refl w4 _) _) hgb (fun x e => .inl (by injection e with e; exact e.symm)))
    clear hr hgb
    go_wp2_with fail
    refine (num_any _ _ _ _ _ _ _ (p3 + 1 + 1) _ 3 0 201 (HR5.out.alloc _) (by omega) (by omega) (by omega) (by omega) ?_).mono ?_
    · exact lit_cells_at _ _ _ _ _ _ (by simp) (fun i hi => by rcases (by omega : i = 0 ∨ i = 1 ∨ i = 2) with rfl | rfl | rfl <;> exact ⟨_, rfl, by decide, by decide⟩)
    rintro e w6 ⟨x2, rfl, x20, x21, hr, hgb⟩
    have hlt6 := hr.lt
    have HR6 := Lib.hid hr
    have HG6 := Lib.hid (gb_trans (gb_alloc HG5.out _) hgb (fun x e => .inl (by injection e with e; exact e.symm)))
    clear hr hgb
    go_wp2_with fail
    refine (num_any _ _ _ _ _ _ _ (p3 + 1 + 1 + 1) _ 3 0 21 (HR6.out.alloc _) (by omega) (by omega) (by omega) (by omega) ?_).mono ?_
    · exact lit_cells_at _ _ _ _ _ _ (by simp) (fun i hi => by rcases (by omega : i = 0 ∨ i = 1 ∨ i = 2) with rfl | rfl | rfl <;> exact ⟨_, rfl, by decide, by decide⟩)
    rintro e w7 ⟨x3, rfl, x30, x31, hr, hgb⟩
    have hlt7 := hr.lt
    have HR7 := Lib.hid hr
    have HG7 := Lib.hid (gb_trans (gb_alloc HG6.out _) hgb (fun x e => .inl (by injection e with e; exact e.symm)))
    clear hr hgb
    have HJ7 := Lib.hid (HJ4.out.kept HG7.out (fun k e => by injection e with e; omega))
    have HO7 := Lib.hid (HO4.out.kept HG7.out (fun k e => by injection e with e; omega))
    have HB7 := Lib.hid (below_of_gb HB4.out HG7.out HB4.out.size (Nat.le_refl _))
    have hs7 : w.heap.size ≤ w7.heap.size := HB7.out.size
    have XB := Lib.hid (show smallJ ⟨x1, x2, x3⟩ from ⟨⟨x10, x11⟩, ⟨x20, x21⟩, ⟨x30, x31⟩⟩)
    have hcap := HJ7.out.le
    have hg3 := HJ7.out.cells_
    clear HG5 HG6 HG7 HR5 HR6 HR7 HJ4 HO4 HB4 HR4
    go_wp2_with (at_builtin; refine wpList_append_own _ rfl (.tmp 19) (.tmp 30) 23 rfl w2.heap.size 35 i0 _ 3 24 Tryd.underlying23 hi hz0 hz1 hz2 rfl (by decide) _ js.length (js.flatMap Jb.cells) rfl (show OwnJ _ w2.heap.size _ js from HJ7.out.alloc _) ⟨w7.heap.size, 0, none⟩ 1 1 (Jb.cells ⟨x1, x2, x3⟩) rfl rfl (cell_new3 _ ⟨x1, x2, x3⟩ _) (by intro u hu; exact jcells_one [⟨x1, x2, x3⟩] u (by simpa using hu)) (by unfold maxLen; omega) (by omega) (by simp; omega) ?_; intro v2 w9 hown2 hgrow2 _; have HJ9 := Lib.hid (show OwnJ w9 w2.heap.size v2 (js ++ [⟨x1, x2, x3⟩]) from OwnJ.snoc hown2); have HB9 := Lib.hid ((show Below w.heap.size w _ from bl_alloc HB7.out _).grown hgrow2 (by simp; omega) (fun k e => Nat.le_trans (Nat.le_of_lt hlt2) (World.ownsRow.lt HJ7.out k e).1)); have HO9 := Lib.hid ((HO7.out.alloc _).kept_row hgrow2 (fun k e1 e2 => by have q1 := HA2.out k e1; have q2 := (World.ownsRow.lt HJ7.out k e2).1; omega)); obtain ⟨g4, c4, hv2⟩ := HJ9.out.some_ (by simp); have HLN := Lib.hid (show (js ++ [(⟨x1, x2, x3⟩ : Jb)]).length = js.length + 1 by simp); rw [HLN.out] at hv2; subst hv2; clear hown2 hgrow2)
    have HSN := Lib.hid (show ∀ j ∈ js ++ [⟨x1, x2, x3⟩], smallJ j from fun j hj => by
      rcases List.mem_append.1 hj with h | h
      · exact HSJ.out j h
      · simp at h; subst h; exact XB.out)
    have hln : (js ++ [(⟨x1, x2, x3⟩ : Jb)]).length ≤ 61 := by simp; omega
    have HX : Hid (DrewLJ w (.returned (.tuple #[.slice A2 ts.length c2, .slice (some ⟨g4, 0, none⟩) (js.length + 1) c4])) w9) := ⟨A2, c2, ts, g4, c4, js ++ [⟨x1, x2, x3⟩], by rw [HLN.out], hl, HS.out, hln, HSN.out, own_more HO9.out HB.out.size, by rw [HLN.out]; exact HJ9.out.less (by omega), HB9.out⟩
    clear HO9 HJ9 HB9 HSN HLN hln
    go_wp2
    go_ret2
    exact HX.out
  by_cases hy1 : y = 1
  · subst hy1
    clear hy0 hnj HN
    by_cases hj0 : js.length = 0
    · have HX : Hid (DrewLJ w (.returned (.tuple #[.slice A2 ts.length c2, .slice (some ⟨g3, 0, none⟩) js.length c3])) w4) := ⟨A2, c2, ts, g3, c3, js, rfl, hl, HS.out, by omega, HSJ.out, own_more HO4.out HB.out.size, HJ4.out.less (by omega), HB4.out⟩
      have hj1 : ¬ (0 : Int) < (js.length : Int) := by omega
      clear HO4 HJ4 HB4 hj0
      go_wp2
      go_ret2
      exact HX.out
    have hj1 : (0 : Int) < (js.length : Int) := by omega
    clear hj0
    go_wp2_with fail
    refine (pick_any _ _ _ _ _ _ _ (p3 + 1) (js.length : Int) HR4.out (by omega) (by omega)).mono ?_
    rintro e w5 ⟨kk, rfl, k0, k1, _, hr, hgb⟩
    have hk1 := k1 (by omega)
    obtain ⟨k, rfl⟩ : ∃ k : Nat, kk = (k : Int) := ⟨kk.toNat, by omega⟩
    have hk : k < js.length := by omega
    have hlt5 := hr.lt
    have HR5 := Lib.hid hr
    have HG5 := Lib.hid hgb
    clear hr hgb k1
    go_wp2_with fail
    refine (num_any _ _ _ _ _ _ _ (p3 + 1 + 1) _ 3 0 20 (HR5.out.alloc _) (by omega) (by omega) (by omega) (by omega) ?_).mono ?_
    · exact lit_cells_at _ _ _ _ _ _ (by simp) (fun i hi => by rcases (by omega : i = 0 ∨ i = 1 ∨ i = 2) with rfl | rfl | rfl <;> exact ⟨_, rfl, by decide, by decide⟩)
    rintro e w6 ⟨x, rfl, x0, x1, hr, hgb⟩
    have HG6 := Lib.hid (gb_trans (gb_alloc HG5.out _) hgb (fun x e => .inl (by injection e with e; exact e.symm)))
    clear hr hgb
    have HJ6 := Lib.hid (HJ4.out.kept HG6.out (fun k e => by injection e with e; omega))
    have HO6 := Lib.hid (HO4.out.kept HG6.out (fun k e => by injection e with e; omega))
    have HB6 := Lib.hid (below_of_gb HB4.out HG6.out HB4.out.size (Nat.le_refl _))
    have hfz := World.ownsRow.frozenAt HJ6.out
    have hg3 := HJ6.out.cells_
    obtain ⟨j, hj⟩ : ∃ j, js[k]? = some j := ⟨js[k]'hk, List.getElem?_eq_getElem _⟩
    obtain ⟨_, p0, p1, p2⟩ := HJ6.out.reads.2.get hj
    have HJJ := Lib.hid hj
    simp only [Nat.zero_add] at p0 p1 p2
    clear hj HJ4 HO4 HB4 HG5 HR4 HR5
    have HJ8 := Lib.hid (HJ6.out.put k j x HJJ.out)
    have HO8 := Lib.hid (show Own _ w1.heap.size _ ts from ownsRow_setCell_other HO6.out (a := ⟨g3, k * 3 + 2, none⟩) (fun e => by have := HA2.out _ e; dsimp only at this; omega) (.int .i64 x))
    have HB8 := Lib.hid (bl_set HB6.out (p := ⟨g3, k * 3 + 2, none⟩) (by dsimp only; omega) (.int .i64 x))
    have HSN := Lib.hid (show ∀ a ∈ js.set k ⟨j.ta, j.tm, x⟩, smallJ a from fun a ha => by
      rcases List.mem_or_eq_of_mem_set ha with h | h
      · exact HSJ.out a h
      · rw [h]; obtain ⟨q1, q2, q3⟩ := HSJ.out j (List.mem_of_getElem? HJJ.out); exact ⟨q1, q2, by dsimp only; omega⟩)
    have HX : Hid (DrewLJ w (.returned (.tuple #[.slice A2 ts.length c2, .slice (some ⟨g3, 0, none⟩) js.length c3])) (w6.setCell ⟨g3, k * 3 + 2, none⟩ (.int .i64 x))) := ⟨A2, c2, ts, g3, c3, js.set k ⟨j.ta, j.tm, x⟩, by rw [List.length_set], hl, HS.out, by rw [List.length_set]; omega, HSN.out, own_more HO8.out HB.out.size, by rw [List.length_set]; exact HJ8.out.less (by omega), HB8.out⟩
    clear HJ8 HO8 HB8 HSN HG6 HJ6 HO6 HB6
    go_wp2
    go_ret2
    exact HX.out
  have hjx : js.length ≤ 61 := by omega
  clear hnj HN
  by_cases hy2 : y = 2
  · subst hy2
    clear hy0 hy1
    by_cases ht0 : ts.length = 0
    · have HX : Hid (DrewLJ w (.returned (.tuple #[.slice A2 ts.length c2, .slice (some ⟨g3, 0, none⟩) js.length c3])) w4) := ⟨A2, c2, ts, g3, c3, js, rfl, hl, HS.out, hjx, HSJ.out, own_more HO4.out HB.out.size, HJ4.out.less (by omega), HB4.out⟩
      have ht1 : ¬ (0 : Int) < (ts.length : Int) := by omega
      clear HO4 HJ4 HB4 ht0
      go_wp2
      go_ret2
      exact HX.out
    have ht1 : (0 : Int) < (ts.length : Int) := by omega
    obtain ⟨h, hA⟩ : ∃ h, A2 = some ⟨h, 0, none⟩ := by
      rcases HO4.out.2 with ⟨e, e0⟩ | ⟨h, cap, cur, e, _⟩
      · omega
      · injection e with e1 e2 e3; exact ⟨h, e1⟩
    subst hA
    clear ht0
    go_wp2_with fail
    refine (pick_any _ _ _ _ _ _ _ (p3 + 1) (ts.length : Int) HR4.out (by omega) (by omega)).mono ?_
    rintro e w5 ⟨kk, rfl, k0, k1, _, hr, hgb⟩
    have hk1 := k1 (by omega)
    obtain ⟨k, rfl⟩ : ∃ k : Nat, kk = (k : Int) := ⟨kk.toNat, by omega⟩
    have hk : k < ts.length := by omega
    have hlt5 := hr.lt
    have HR5 := Lib.hid hr
    have HG5 := Lib.hid hgb
    have HO5 := Lib.hid (HO4.out.kept hgb (fun k e => by injection e with e; omega))
    clear hr hgb k1
    obtain ⟨t, ht⟩ : ∃ t, ts[k]? = some t := ⟨ts[k], List.getElem?_eq_getElem hk⟩
    have HST := Lib.hid (HS.out t (List.mem_of_getElem? ht))
    obtain ⟨b, o, eA, hbl, c0, c1', c2', c3', c4'⟩ := HO5.out.reads.2.at_ k t ht
    injection eA with eA
    injection eA with eA1 eA2
    subst eA1 eA2
    simp only [Nat.zero_add] at c0 c1' c2' c3' c4'
    have HT := Lib.hid ht
    clear ht
    go_wp2_with fail
    refine (wrong_any _ _ _ _ _ _ _ _ t.lo t.hi t.du t.ev t.cr HR5.out (by omega) HST.out).mono ?_
    rintro e w6 ⟨lo, hi', du, ev, cr, p6, rfl, hs6, hp6, hr, hgb⟩
    clear c0 c1' c2' c3' c4'
    have HR6 := Lib.hid hr
    have HS6 := Lib.hid hs6
    have hlt6 := hr.lt
    have HG6 := Lib.hid (gb_trans HG5.out hgb (fun x e => .inl (by injection e with e; exact e.symm)))
    clear hr hgb hs6
    go_wp2_with fail
    refine (wrong_any _ _ _ _ _ _ _ _ lo hi' du ev cr HR6.out (by omega) HS6.out).mono ?_
    rintro e w7 ⟨lo2, hi2, du2, ev2, cr2, p7, rfl, hs7, hp7, hr, hgb⟩
    have HS7 := Lib.hid hs7
    have HG7 := Lib.hid (gb_trans HG6.out hgb (fun x e => .inl (by injection e with e; exact e.symm)))
    clear hr hgb hs7
    have HO7 := Lib.hid (HO4.out.kept HG7.out (fun k e => by injection e with e; omega))
    have HJ7 := Lib.hid (HJ4.out.kept HG7.out (fun k e => by injection e with e; omega))
    have HB7 := Lib.hid (below_of_gb HB4.out HG7.out HB4.out.size (Nat.le_refl _))
    have hge : w1.heap.size ≤ h := (World.ownsRow.lt HO7.out h rfl).1
    have hlh : h < w2.heap.size := HA2.out h rfl
    have hfz := World.ownsRow.frozenAt HO7.out
    obtain ⟨b, o, eA, hbl, c0, c1', c2', c3', c4'⟩ := HO7.out.reads.2.at_ k t HT.out
    injection eA with eA
    injection eA with eA1 eA2
    subst eA1 eA2
    simp only [Nat.zero_add] at c0 c1' c2' c3' c4'
    clear HO4 HJ4 HB4 HG5 HG6 HO5 HR4 HR5 HR6
    have HO8 := Lib.hid (HO7.out.put k ⟨lo2, hi2, du2, ev2, cr2⟩ hk)
    have HJ8 := Lib.hid (show OwnJ _ w2.heap.size _ js from ownsRow_setCell_below (ownsRow_setCell_below (ownsRow_setCell_below (ownsRow_setCell_below (ownsRow_setCell_below HJ7.out (a := ⟨h, k * 5, none⟩) hlh (.int .i64 lo2)) (a := ⟨h, k * 5 + 1, none⟩) hlh (.int .i64 hi2)) (a := ⟨h, k * 5 + 2, none⟩) hlh (.int .i64 du2)) (a := ⟨h, k * 5 + 3, none⟩) hlh (.int .i64 ev2)) (a := ⟨h, k * 5 + 4, none⟩) hlh (.bool cr2))
    have HB8 := Lib.hid (bl_set (bl_set (bl_set (bl_set (bl_set HB7.out (p := ⟨h, k * 5, none⟩) (by dsimp only; omega) (.int .i64 lo2)) (p := ⟨h, k * 5 + 1, none⟩) (by dsimp only; omega) (.int .i64 hi2)) (p := ⟨h, k * 5 + 2, none⟩) (by dsimp only; omega) (.int .i64 du2)) (p := ⟨h, k * 5 + 3, none⟩) (by dsimp only; omega) (.int .i64 ev2)) (p := ⟨h, k * 5 + 4, none⟩) (by dsimp only; omega) (.bool cr2))
    have HSS : Hid (∀ a ∈ ts.set k ⟨lo2, hi2, du2, ev2, cr2⟩, smallTk a) := mem_set_small HS.out HS7.out
    have HX : Hid (DrewLJ w (.returned (.tuple #[.slice (some ⟨h, 0, none⟩) ts.length c2, .slice (some ⟨g3, 0, none⟩) js.length c3])) (((((w7.setCell ⟨h, k * 5, none⟩ (.int .i64 lo2)).setCell ⟨h, k * 5 + 1, none⟩ (.int .i64 hi2)).setCell ⟨h, k * 5 + 2, none⟩ (.int .i64 du2)).setCell ⟨h, k * 5 + 3, none⟩ (.int .i64 ev2)).setCell ⟨h, k * 5 + 4, none⟩ (.bool cr2))) := ⟨_, c2, ts.set k ⟨lo2, hi2, du2, ev2, cr2⟩, g3, c3, js, by rw [List.length_set], by rw [List.length_set]; exact hl, HSS.out, hjx, HSJ.out, by rw [List.length_set]; exact own_more HO8.out HB.out.size, HJ8.out.less (by omega), HB8.out⟩
    clear HO8 HJ8 HB8 HSS HO7 HJ7 HB7 HG7
    go_wp2_with fail
    go_ret2
    exact HX.out
  have HX : Hid (DrewLJ w (.returned (.tuple #[.slice A2 ts.length c2, .slice (some ⟨g3, 0, none⟩) js.length c3])) w4) := ⟨A2, c2, ts, g3, c3, js, rfl, hl, HS.out, hjx, HSJ.out, own_more HO4.out HB.out.size, HJ4.out.less (by omega), HB4.out⟩
  have b0 : (y == 0) = false := by simp; exact hy0
  have b1 : (y == 1) = false := by simp; exact hy1
  have b2 : (y == 2) = false := by simp; exact hy2
  clear HO4 HJ4 HB4
  go_wp2
  go_ret2
  exact HX.out
end Go.Proofs.YthdclaljgimclaaDoor
