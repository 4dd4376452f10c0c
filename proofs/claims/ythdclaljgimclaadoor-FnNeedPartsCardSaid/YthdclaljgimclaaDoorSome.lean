/- Contracts of what the reference draws as a list of tasks, some of them wrong. -/
import Derived.Test.YthdclaljgimclaaDoorList
namespace Go.Proofs.YthdclaljgimclaaDoor
open Go.RowKit

def sliceLen : Value → Nat
  | .slice _ n _ => n
  | _ => 0

theorem set_cells (ts : List Tk) : ∀ (k : Nat) (t : Tk), k < ts.length →
    (((((ts.flatMap Tk.cells).set (k * 5) (.int .i64 t.lo)).set (k * 5 + 1) (.int .i64 t.hi)).set (k * 5 + 2) (.int .i64 t.du)).set (k * 5 + 3) (.int .i64 t.ev)).set (k * 5 + 4) (.bool t.cr) = (ts.set k t).flatMap Tk.cells := by
  induction ts with
  | nil => intro k t h; simp at h
  | cons a ts ih =>
    intro k t h
    cases k with
    | zero => simp [List.flatMap_cons, Tk.cells]
    | succ k =>
      have e0 : (k + 1) * 5 = k * 5 + 5 := by omega
      simp only [List.flatMap_cons, Tk.cells, List.set_cons_succ, e0, List.cons_append, List.nil_append]
      rw [← ih k t (by simpa using h)]

theorem Own.put {w : World} {B h n c : Nat} {ts : List Tk} (ho : Own w B (.slice (some ⟨h, 0, none⟩) n c) ts) (k : Nat) (t : Tk) (hk : k < ts.length) :
    Own (((((w.setCell ⟨h, k * 5, none⟩ (.int .i64 t.lo)).setCell ⟨h, k * 5 + 1, none⟩ (.int .i64 t.hi)).setCell ⟨h, k * 5 + 2, none⟩ (.int .i64 t.du)).setCell ⟨h, k * 5 + 3, none⟩ (.int .i64 t.ev)).setCell ⟨h, k * 5 + 4, none⟩ (.bool t.cr)) B (.slice (some ⟨h, 0, none⟩) n c) (ts.set k t) := by
  have hn := ho.reads.1
  subst hn
  have h5 := (((((World.ownsRow.stored ho (k * 5) (.int .i64 t.lo)).1.stored (k * 5 + 1) (.int .i64 t.hi)).1.stored (k * 5 + 2) (.int .i64 t.du)).1.stored (k * 5 + 3) (.int .i64 t.ev)).1.stored (k * 5 + 4) (.bool t.cr)).1
  unfold Own
  rw [List.length_set, ← set_cells ts k t hk]
  exact h5

theorem mem_set_small {ts : List Tk} {k : Nat} {t : Tk} {P : Tk → Prop} (h : ∀ t ∈ ts, P t) (ht : P t) : ∀ x ∈ ts.set k t, P x := fun x hx => by
  rcases List.mem_or_eq_of_mem_set hx with h1 | h1
  · exact h x h1
  · rw [h1]; exact ht

set_option maxRecDepth 100000 in
set_option maxHeartbeats 2000000 in
theorem some_any (w : World) (B g : Nat) (A : Option Addr) (n c : Nat) (f : Nat → Int) (p : Nat) (hr : Rd w B g A n c f p) (hp : p ≤ 1000) :
    Calls Tryd.prog 42 #[.pointer (some ⟨g, 0, none⟩)] w (LsOut B g A n c f p 100 6 smallTk w) := by
  obtain ⟨i0, hi, hz0, hz1, hz2⟩ := info_parts info_task
  have HR0 := Lib.hid hr
  have hgl := hr.lt
  have hBg := hr.ge
  clear hr
  go_enter Tryd.func42, Tryd.ntmps42
  go_wp2_with fail
  refine (set_any _ B g A n c f p HR0.out (by omega)).mono ?_
  rintro e w1 ⟨v, ts, p1, rfl, hl1, hg1, hp1, hr1, hgb1, ho1⟩
  obtain ⟨A1, c1, rfl⟩ := ho1.form
  have HR := Lib.hid hr1
  have HG := Lib.hid hgb1
  have HO := Lib.hid ho1
  have HS := Lib.hid (fun t ht => (hg1 t ht).small : ∀ t ∈ ts, smallTk t)
  clear hr1 hgb1 ho1 hg1
  by_cases h0 : ts.length = 0
  · have h0' : ¬ 0 < ts.length := by omega
    clear h0
    go_wp2_with fail
    refine (pick_any _ B g A n c f _ 24 HR.out (by omega) (by omega)).mono ?_
    rintro e w4 ⟨y, rfl, hy0, _, _, hr4, hg4⟩
    have HR4 := Lib.hid hr4
    have HG4 := Lib.hid (gb_trans HG.out hg4 (fun x e => .inl (by injection e with e; exact e.symm)))
    have HO4 := Lib.hid (HO.out.kept hg4 (fun k e => by injection e with e; omega))
    clear hr4 hg4 HR HG HO
    by_cases hy : y = 0
    · subst hy
      go_wp2
      go_loopw [3] (fun v wr => ∃ (ts : List Tk) (p' : Nat), ts.length ≤ 6 ∧ p' ≤ p + 60 + ts.length * 6 ∧ Hid (∀ t ∈ ts, smallTk t) ∧ Rd wr B g A n c f p' ∧ w.grownBy wr (some g) ∧ Own wr w.heap.size v ts) (fun v _ => 7 - sliceLen v)
      case atStart => exact ⟨ts, _, by omega, by omega, HS.out, HR4.out, HG4.out, HO4.out⟩
      case round =>
        obtain ⟨ts5, p5, hl5, hp5, hgood5, hr5, hg5, ho5⟩ := hrel
        obtain ⟨A5, c5, rfl⟩ := ho5.form
        have HR5 := Lib.hid hr5
        have HG5 := Lib.hid hg5
        have HO5 := Lib.hid ho5
        clear hr5 hg5 ho5
        by_cases h6 : ts5.length ≤ 5
        · go_wp2_with fail
          refine (task_any _ B g A n c f p5 HR5.out (by omega)).mono ?_
          rintro e w6 ⟨lo, hi', du, ev, cr, p6, rfl, hg, hp6, hr6, hgb6⟩
          have HO6 := Lib.hid (HO5.out.kept hgb6 (fun k e => by injection e with e; omega))
          have HG6 := Lib.hid (gb_trans HG5.out hgb6 (fun x e => .inl (by injection e with e; exact e.symm)))
          have HR6 := Lib.hid hr6
          have hsz6 : w.heap.size ≤ w6.heap.size := HG6.out.size
          clear hr6 hgb6
          have b1 : ts5.length + 1 ≤ maxLen := by unfold maxLen; omega
          have b2 : (ts5.length + 1) * 40 ≤ 140737488355328 := by omega
          go_wp2_with (at_builtin; refine wpList_append_own _ rfl (.tmp 29) (.tmp 32) 37 rfl w.heap.size 74 i0 _ 5 40 Tryd.underlying37 hi hz0 hz1 hz2 rfl (by decide) _ ts5.length (ts5.flatMap Tk.cells) rfl (HO6.out.alloc _) ⟨w6.heap.size, 0, none⟩ 1 1 (Tk.cells ⟨lo, hi', du, ev, cr⟩) rfl rfl (cell_new5 _ ⟨lo, hi', du, ev, cr⟩ _) (by intro u hu; exact cells_one [⟨lo, hi', du, ev, cr⟩] u (by simpa using hu)) b1 b2 (by simp; omega) ?_; intro v' w7 hown' hgrow _)
          have HO7 := Lib.hid (Own.snoc hown')
          have HG7 := Lib.hid (gb_trans (gb_alloc HG6.out _) hgrow (fun x e => .inr ((World.ownsRow.lt HO6.out x e).1)))
          have HR7 := Lib.hid ((HR6.out.alloc _).grown hgrow (fun k e => by have := (World.ownsRow.lt HO6.out k e).1; exact ⟨by omega, by omega⟩))
          have hgood' : Hid (∀ t ∈ ts5 ++ [⟨lo, hi', du, ev, cr⟩], smallTk t) := fun t ht => by
            rcases List.mem_append.1 ht with h | h
            · exact hgood5.out t h
            · simp at h; subst h; exact hg.small
          have hl7 : sliceLen v' = ts5.length + 1 := by obtain ⟨_, _, e⟩ := HO7.out.form; rw [e]; simp [sliceLen]
          have HL7 := Lib.hid hl7
          clear hown' hgrow hg hl7
          go_wp2
          go_roundw
          case rel => exact ⟨ts5 ++ [⟨lo, hi', du, ev, cr⟩], p6, by simp; omega, by simp; omega, hgood', HR7.out, HG7.out, HO7.out⟩
          case measure => have := HL7.out; simp [sliceLen] at this ⊢; omega
        · go_wp2
          go_ret
          exact ⟨_, ts5, p5, rfl, hl5, hgood5.out, by omega, HR5.out, HG5.out, HO5.out⟩
    · have ty : (y == 0) = false := by simpa using hy
      clear hy
      go_wp2
      go_ret
      exact ⟨_, ts, _, rfl, by omega, HS.out, by omega, HR4.out, HG4.out, HO4.out⟩
  · have h0' : 0 < ts.length := by omega
    clear h0
    obtain ⟨h, hA1⟩ : ∃ h, A1 = some ⟨h, 0, none⟩ := by
      rcases HO.out.2 with ⟨e, e0⟩ | ⟨h, cap, cur, e, _⟩
      · omega
      · injection e with e1 e2 e3; exact ⟨h, e1⟩
    subst hA1
    go_wp2_with fail
    refine (pick_any _ B g A n c f _ (ts.length : Int) HR.out (by omega) (by omega)).mono ?_
    rintro e w2 ⟨k, rfl, hk0, hk1, _, hr2, hg2⟩
    obtain ⟨k, rfl⟩ := Int.eq_ofNat_of_zero_le hk0
    have hk : k < ts.length := by have := hk1 (by omega); omega
    clear hk1
    have HR2 := Lib.hid hr2
    have HG2 := Lib.hid (gb_trans HG.out hg2 (fun x e => .inl (by injection e with e; exact e.symm)))
    have HO2 := Lib.hid (HO.out.kept hg2 (fun k e => by injection e with e; omega))
    clear hr2 hg2 HR HG HO
    obtain ⟨t, ht⟩ : ∃ t, ts[k]? = some t := ⟨ts[k], List.getElem?_eq_getElem hk⟩
    have hst := HS.out t (List.mem_of_getElem? ht)
    obtain ⟨b, o, eA, hbl, c0, c1', c2, c3, c4⟩ := HO2.out.reads.2.at_ k t ht
    injection eA with eA
    injection eA with eA1 eA2
    subst eA1 eA2
    simp only [Nat.zero_add] at c0 c1' c2 c3 c4
    have HST := Lib.hid hst
    have HT := Lib.hid ht
    clear hst ht
    go_wp2_with fail
    refine (wrong_any _ B g A n c f _ t.lo t.hi t.du t.ev t.cr HR2.out (by omega) HST.out).mono ?_
    rintro e w3 ⟨lo, hi', du, ev, cr, p3, rfl, hs3, hp3, hr3, hg3⟩
    clear c0 c1' c2 c3 c4
    have HR3 := Lib.hid hr3
    have HG3 := Lib.hid (gb_trans HG2.out hg3 (fun x e => .inl (by injection e with e; exact e.symm)))
    have HO3 := Lib.hid (HO2.out.kept hg3 (fun k e => by injection e with e; omega))
    have hge : w.heap.size ≤ h := (World.ownsRow.lt HO3.out h rfl).1
    have hfz := World.ownsRow.frozenAt HO3.out
    obtain ⟨b, o, eA, hbl, c0, c1', c2, c3, c4⟩ := HO3.out.reads.2.at_ k t HT.out
    injection eA with eA
    injection eA with eA1 eA2
    subst eA1 eA2
    simp only [Nat.zero_add] at c0 c1' c2 c3 c4
    have HS3 := Lib.hid hs3
    clear hr3 hg3 hs3
    go_wp2_with fail
    have HO := Lib.hid (HO3.out.put k ⟨lo, hi', du, ev, cr⟩ hk)
    have HR : Hid (Rd _ B g A n c f p3) := Rd.set (Rd.set (Rd.set (Rd.set (Rd.set HR3.out (q := ⟨h, k * 5, none⟩) (by dsimp only; omega) (by dsimp only; omega) (.int .i64 lo)) (q := ⟨h, k * 5 + 1, none⟩) (by dsimp only; omega) (by dsimp only; omega) (.int .i64 hi')) (q := ⟨h, k * 5 + 2, none⟩) (by dsimp only; omega) (by dsimp only; omega) (.int .i64 du)) (q := ⟨h, k * 5 + 3, none⟩) (by dsimp only; omega) (by dsimp only; omega) (.int .i64 ev)) (q := ⟨h, k * 5 + 4, none⟩) (by dsimp only; omega) (by dsimp only; omega) (.bool cr)
    have HG : Hid (w.grownBy _ (some g)) := gb_set (gb_set (gb_set (gb_set (gb_set HG3.out (p := ⟨h, k * 5, none⟩) (.inr (by dsimp only; omega)) (.int .i64 lo)) (p := ⟨h, k * 5 + 1, none⟩) (.inr (by dsimp only; omega)) (.int .i64 hi')) (p := ⟨h, k * 5 + 2, none⟩) (.inr (by dsimp only; omega)) (.int .i64 du)) (p := ⟨h, k * 5 + 3, none⟩) (.inr (by dsimp only; omega)) (.int .i64 ev)) (p := ⟨h, k * 5 + 4, none⟩) (.inr (by dsimp only; omega)) (.bool cr)
    obtain ⟨ts', hts', hlen'⟩ : ∃ ts', ts' = ts.set k ⟨lo, hi', du, ev, cr⟩ ∧ ts'.length = ts.length := ⟨_, rfl, by simp⟩
    have HSS : Hid (∀ t ∈ ts', smallTk t) := by rw [hts']; exact mem_set_small HS.out HS3.out
    clear HS
    have HS := HSS
    clear HSS
    rw [← hts'] at HO
    clear c0 c1' c2 c3 c4 hfz hts'
    have hlen6 : ts'.length ≤ 5 := by omega
    have HLL := Lib.hid hlen'
    clear hlen'
    refine (pick_any _ B g A n c f _ 24 HR.out (by omega) (by omega)).mono ?_
    rintro e w4 ⟨y, rfl, hy0, _, _, hr4, hg4⟩
    have HR4 := Lib.hid hr4
    have HG4 := Lib.hid (gb_trans HG.out hg4 (fun x e => .inl (by injection e with e; exact e.symm)))
    have HO4 := Lib.hid (HO.out.kept hg4 (fun k e => by injection e with e; omega))
    clear hr4 hg4 HR HG HO
    by_cases hy : y = 0
    · subst hy
      go_wp2
      go_loopw [3] (fun v wr => ∃ (ts : List Tk) (p' : Nat), ts.length ≤ 6 ∧ p' ≤ p + 60 + ts.length * 6 ∧ Hid (∀ t ∈ ts, smallTk t) ∧ Rd wr B g A n c f p' ∧ w.grownBy wr (some g) ∧ Own wr w.heap.size v ts) (fun v _ => 7 - sliceLen v)
      case atStart => exact ⟨ts', _, by omega, by omega, HS.out, HR4.out, HG4.out, HO4.out⟩
      case round =>
        obtain ⟨ts5, p5, hl5, hp5, hgood5, hr5, hg5, ho5⟩ := hrel
        obtain ⟨A5, c5, rfl⟩ := ho5.form
        have HR5 := Lib.hid hr5
        have HG5 := Lib.hid hg5
        have HO5 := Lib.hid ho5
        clear hr5 hg5 ho5
        by_cases h6 : ts5.length ≤ 5
        · go_wp2_with fail
          refine (task_any _ B g A n c f p5 HR5.out (by omega)).mono ?_
          rintro e w6 ⟨lo, hi', du, ev, cr, p6, rfl, hg, hp6, hr6, hgb6⟩
          have HO6 := Lib.hid (HO5.out.kept hgb6 (fun k e => by injection e with e; omega))
          have HG6 := Lib.hid (gb_trans HG5.out hgb6 (fun x e => .inl (by injection e with e; exact e.symm)))
          have HR6 := Lib.hid hr6
          have hsz6 : w.heap.size ≤ w6.heap.size := HG6.out.size
          clear hr6 hgb6
          have b1 : ts5.length + 1 ≤ maxLen := by unfold maxLen; omega
          have b2 : (ts5.length + 1) * 40 ≤ 140737488355328 := by omega
          go_wp2_with (at_builtin; refine wpList_append_own _ rfl (.tmp 29) (.tmp 32) 37 rfl w.heap.size 74 i0 _ 5 40 Tryd.underlying37 hi hz0 hz1 hz2 rfl (by decide) _ ts5.length (ts5.flatMap Tk.cells) rfl (HO6.out.alloc _) ⟨w6.heap.size, 0, none⟩ 1 1 (Tk.cells ⟨lo, hi', du, ev, cr⟩) rfl rfl (cell_new5 _ ⟨lo, hi', du, ev, cr⟩ _) (by intro u hu; exact cells_one [⟨lo, hi', du, ev, cr⟩] u (by simpa using hu)) b1 b2 (by simp; omega) ?_; intro v' w7 hown' hgrow _)
          have HO7 := Lib.hid (Own.snoc hown')
          have HG7 := Lib.hid (gb_trans (gb_alloc HG6.out _) hgrow (fun x e => .inr ((World.ownsRow.lt HO6.out x e).1)))
          have HR7 := Lib.hid ((HR6.out.alloc _).grown hgrow (fun k e => by have := (World.ownsRow.lt HO6.out k e).1; exact ⟨by omega, by omega⟩))
          have hgood' : Hid (∀ t ∈ ts5 ++ [⟨lo, hi', du, ev, cr⟩], smallTk t) := fun t ht => by
            rcases List.mem_append.1 ht with h | h
            · exact hgood5.out t h
            · simp at h; subst h; exact hg.small
          have hl7 : sliceLen v' = ts5.length + 1 := by obtain ⟨_, _, e⟩ := HO7.out.form; rw [e]; simp [sliceLen]
          have HL7 := Lib.hid hl7
          clear hown' hgrow hg hl7
          go_wp2
          go_roundw
          case rel => exact ⟨ts5 ++ [⟨lo, hi', du, ev, cr⟩], p6, by simp; omega, by simp; omega, hgood', HR7.out, HG7.out, HO7.out⟩
          case measure => have := HL7.out; simp [sliceLen] at this ⊢; omega
        · go_wp2
          go_ret
          exact ⟨_, ts5, p5, rfl, hl5, hgood5.out, by omega, HR5.out, HG5.out, HO5.out⟩
    · have ty : (y == 0) = false := by simpa using hy
      clear hy
      go_wp2
      go_ret
      exact ⟨_, ts', _, rfl, by omega, HS.out, by omega, HR4.out, HG4.out, HO4.out⟩

def DrewList (m : Nat) (good : Tk → Prop) (w : World) (e : Ending) (w' : World) : Prop :=
  ∃ (A : Option Addr) (c : Nat) (ts : List Tk), e = .returned (.slice A ts.length c) ∧ ts.length ≤ m ∧ (∀ t ∈ ts, good t) ∧ Own w' w.heap.size (.slice A ts.length c) ts ∧ Below w.heap.size w w'

end Go.Proofs.YthdclaljgimclaaDoor
