import Derived.Test.YtgponahmkjohiabGreatDoorZMsF
import Derived.Test.YtgponahmkjohiabGreatDoorZNH
import Derived.Test.YtgponahmkjohiabGreatDoorZNA
import Derived.RegionTactic
import Derived.Deep.RegionHeldLaw
import Derived.Deep.AppendLies
namespace Go.Proofs.YtgponahmkjohiabGreatDoor
open Go.RowKit
set_option linter.unusedVariables false
/-- What a draw of tasks, jobs and a policy leaves. -/
def TJOut (B g : Nat) (A : Option Addr) (n c : Nat) (f : Nat → Int) (p d : Nat) (w : World) (e : Ending) (w' : World) : Prop :=
  ∃ (A1 : Option Addr) (c1 : Nat) (ts : List Tk) (A2 : Option Addr) (c2 : Nat) (js : List Jb) (pol : Int) (p' : Nat), e = .returned (.tuple #[.slice A1 ts.length c1, .slice A2 js.length c2, .int .i64 pol]) ∧ ts.length ≤ 5 ∧ js.length ≤ 60 ∧ (∀ t ∈ ts, goodTk t) ∧ (∀ j ∈ js, smallJ j) ∧ (pol = 0 ∨ pol = 1) ∧ p' ≤ p + d ∧
    Rd w' B g A n c f p' ∧ w.grownBy w' (some g) ∧ Own w' w.heap.size (.slice A1 ts.length c1) ts ∧ OwnJ w' w.heap.size (.slice A2 js.length c2) js
theorem sortOf_good {ts : List Tk} (h : ∀ t ∈ ts, goodTk t) : ∀ t ∈ sortOf ts, goodTk t := by
  unfold sortOf
  split
  · intro t ht; exact h t ((sortL_perm ts).mem_iff.1 ht)
  · intro t ht; cases ht
theorem good_due {t : Tk} (h : goodTk t) : goodTk { t with du := t.ev } := by
  obtain ⟨h1, h2, h3, h4, h5, h6⟩ := h
  exact ⟨h1, h2, Int.le_trans h3 h4, Int.le_refl _, h5, h6⟩
theorem Own.keptUp {w w' : World} {B g : Nat} {v : Value} {ts : List Tk} (h : Own w B v ts) (hg : w.grownBy w' (some g)) (hB : g < B) : Own w' B v ts := h.kept hg (fun k e => by injection e with e; omega)
theorem OwnZ.drewM {w : World} {B : Nat} {v : Value} {zs : List Int} (h : OwnZ w B v zs) : OwnZ w.drew B v zs := h
set_option maxRecDepth 100000 in
set_option maxHeartbeats 4000000 in
theorem l7Draw_any (w : World) (B g : Nat) (A : Option Addr) (n c : Nat) (f : Nat → Int) (p : Nat) (hr : Rd w B g A n c f p) (hp : p ≤ 500) :
    Calls Tryz.prog 42 #[.pointer (some ⟨g, 0, none⟩)] w (TJOut B g A n c f p 300 w) := by
  have HR0 := Lib.hid hr
  have hgl := hr.lt
  have hBg := hr.ge
  clear hr
  go_enter Tryz.func42, Tryz.ntmps42
  go_wp2_with fail
  refine (pick_any _ B g A n c f p 2 HR0.out (by omega) (by omega)).mono ?_
  rintro e w1 ⟨y, rfl, y0, y1, _, hr, hgb⟩
  have hs1 : w.heap.size ≤ w1.heap.size := hgb.size
  have y2 : y < 2 := y1 (by omega)
  have HR1 := Lib.hid hr
  have HG1 := Lib.hid hgb
  clear hr hgb y1
  go_wp2_with fail
  refine (set_any _ B g A n c f (p + 1) HR1.out (by omega)).mono ?_
  rintro e w2 ⟨v, us, p2, rfl, hl, hgood, hp2, hr, hgb, ho⟩
  obtain ⟨A2, c2, rfl⟩ := ho.form
  have hs2 : w1.heap.size ≤ w2.heap.size := hgb.size
  have HR2 := Lib.hid hr
  have HG2 := Lib.hid (gb_trans HG1.out hgb (fun x e => .inl (by injection e with e; exact e.symm)))
  have HO2 := Lib.hid ho.reads.2
  have HGD := Lib.hid (sortOf_good hgood)
  have hsl : (sortOf us).length ≤ 5 := Nat.le_trans (sortOf_le us) hl
  clear hr hgb ho hgood
  go_wp2_with fail
  refine (sSortDue_any _ A2 us.length c2 us HO2.out (by omega)).mono ?_
  rintro e w3 ⟨A3, c3, rfl, ho, hb⟩
  have hs3 : w2.heap.size ≤ w3.heap.size := hb.size
  have HR3 := Lib.hid (HR2.out.bel hb)
  have HG3 := Lib.hid (gb_trans HG2.out (gb_of_belowJ hb) (fun x e => by cases e))
  have HO3 := Lib.hid ho
  clear ho hb
  obtain ⟨ts, hts⟩ : ∃ ts, sortOf us = ts := ⟨_, rfl⟩
  rw [hts] at HO3 HGD hsl ⊢
  clear hts HO2 HR2 HG2
  by_cases hy : y = 1
  case neg =>
    obtain rfl : y = 0 := by omega
    have t1 : ((0 : Int) == 1) = false := rfl
    clear hy
    go_wp2_with fail
    refine (l6Jobs_any _ B g A n c f p2 HR3.out (by omega) w2.heap.size A3 c3 ts HO3.out (by omega) HGD.out hsl).mono ?_
    rintro e w5 ⟨g2, c5, js, p5, rfl, hjl, hjs, hp5, hr, hgb, hoj⟩
    have HX : Hid (TJOut B g A n c f p 300 w (.returned (.tuple #[.slice A3 ts.length c3, .slice (some ⟨g2, 0, none⟩) js.length c5, .int .i64 0])) w5) := Lib.hid ⟨A3, c3, ts, _, c5, js, 0, p5, rfl, hsl, hjl, HGD.out, hjs, .inl rfl, by omega, hr, gb_trans HG3.out hgb (fun x e => .inl (by injection e with e; exact e.symm)), own_more (HO3.out.keptUp hgb (by omega)) (by omega), OwnJ.less hoj (by omega)⟩
    clear hr hgb hoj hjs
    go_wp2
    refine bodyPost_ret (v := .tuple #[.slice A3 ts.length c3, .slice (some ⟨g2, 0, none⟩) js.length c5, .int .i64 0]) (by simp [results, Tryz.results42, go_sem]) rfl HX.out
  subst hy
  have t1 : ((1 : Int) == 1) = true := rfl
  rcases HO3.out.2 with ⟨e, h0⟩ | ⟨gg, cap, cur, e, hgg, _⟩
  · injection e with e1 e2 e3
    subst e1 e3
    have h0i : (ts.length : Int) = 0 := by omega
    have HO0 := Lib.hid (show Own w3 w2.heap.size (.slice none 0 0) ts by have h := HO3.out; rw [h0] at h; exact h)
    have HTL := Lib.hid h0
    obtain rfl : ts = [] := List.length_eq_zero_iff.1 h0
    clear h0i h0
    go_wp2
    go_loopw [7] (fun i wr => i = .int .i64 0 ∧ wr = w3) (fun i _ => 0)
    case atStart => exact ⟨rfl, rfl⟩
    case round =>
      obtain ⟨rfl, rfl⟩ := hrel
      go_wp2_with fail
      refine (l6Jobs_any _ B g A n c f p2 HR3.out (by omega) w2.heap.size none 0 [] HO3.out (by omega) HGD.out hsl).mono ?_
      rintro e w5 ⟨g2, c5, js, p5, rfl, hjl, hjs, hp5, hr, hgb, hoj⟩
      have HX : Hid (TJOut B g A n c f p 300 w (.returned (.tuple #[.slice none 0 0, .slice (some ⟨g2, 0, none⟩) js.length c5, .int .i64 1])) w5) := Lib.hid ⟨none, 0, [], _, c5, js, 1, p5, rfl, hsl, hjl, HGD.out, hjs, .inr rfl, by omega, hr, gb_trans HG3.out hgb (fun x e => .inl (by injection e with e; exact e.symm)), own_more (HO3.out.keptUp hgb (by omega)) (by omega), OwnJ.less hoj (by omega)⟩
      clear hr hgb hoj hjs
      go_wp2
      refine bodyPost_ret (v := .tuple #[.slice none 0 0, .slice (some ⟨g2, 0, none⟩) js.length c5, .int .i64 1]) (by simp [results, Tryz.results42, go_sem]) rfl HX.out
  · injection e with e1 e2 e3
    subst e1 e3
    go_wp2
    go_loopw [7] (fun i wr => ∃ (j : Nat) (us : List Tk), j ≤ ts.length ∧ i = .int .i64 j ∧ Hid (us.length = ts.length) ∧ Hid (∀ t ∈ us, goodTk t) ∧ Hid (Own wr w2.heap.size (.slice (some ⟨gg, 0, none⟩) ts.length c3) us) ∧ Hid (Rd wr B g A n c f p2) ∧ Hid (w.grownBy wr (some g))) (fun i _ => ts.length - (intOf i).toNat)
    case atStart => exact ⟨0, ts, Nat.zero_le _, rfl, Lib.hid rfl, HGD, HO3, HR3, HG3⟩
    case round =>
      obtain ⟨j, us, hj, rfl, HUS, HGU, HOR, HRR, HGR⟩ := hrel
      by_cases hlt : j < ts.length
      · obtain ⟨t, ht⟩ : ∃ t, us[j]? = some t := ⟨us[j]'(by rw [HUS.out]; exact hlt), List.getElem?_eq_getElem _⟩
        obtain ⟨b, o, eA, hbl, c0, c1, c2', c3', c4⟩ := HOR.out.reads.2.at_ j t ht
        injection eA with eA
        injection eA with eA1 eA2
        subst eA1 eA2
        simp only [Nat.zero_add] at c0 c1 c2' c3' c4
        have hfz := HOR.out.frozen
        have HX := Lib.hid (HOR.out.due j t t.ev ht)
        have HXR := Lib.hid (HRR.out.set (q := ⟨gg, j * 5 + 2, none⟩) (by dsimp only; omega) (by dsimp only; omega) (.int .i64 t.ev))
        have HXG := Lib.hid (gb_set HGR.out (p := ⟨gg, j * 5 + 2, none⟩) (.inr (by dsimp only; omega)) (.int .i64 t.ev))
        have HL := Lib.hid (show (us.set j { t with du := t.ev }).length = ts.length by rw [List.length_set]; exact HUS.out)
        have HGX : Hid (∀ x ∈ us.set j { t with du := t.ev }, goodTk x) := Lib.hid (fun x hx => by
          rcases List.mem_or_eq_of_mem_set hx with h | h
          · exact HGU.out x h
          · rw [h]; exact good_due (HGU.out t (List.mem_of_getElem? ht)))
        have hji : (j : Int) < (ts.length : Int) := by omega
        have hj0 : (0 : Int) ≤ (j : Int) := by omega
        clear ht HOR HRR HGR
        go_wp2
        go_roundw
        case rel => exact ⟨j + 1, _, by omega, by go_num, HL, HGX, HX, HXR, HXG⟩
        case measure => simp [intOf]; omega
      · obtain rfl : j = ts.length := by omega
        have HOU : Hid (Own wr w2.heap.size (.slice (some ⟨gg, 0, none⟩) us.length c3) us) := Lib.hid (by rw [HUS.out]; exact HOR.out)
        have hws : w2.heap.size ≤ wr.heap.size := by have := (World.ownsRow.lt HOR.out gg rfl); omega
        have HQ : Hid (Calls Tryz.prog 85 #[.pointer (some ⟨g, 0, none⟩), .slice (some ⟨gg, 0, none⟩) ts.length c3] wr (JsOut B g A n c f p2 200 60 wr)) := Lib.hid (by
          have h := l6Jobs_any _ B g A n c f p2 HRR.out (by omega) w2.heap.size (some ⟨gg, 0, none⟩) c3 us HOU.out (by omega) HGU.out (by rw [HUS.out]; exact hsl)
          rw [HUS.out] at h
          exact h)
        go_wp2_with fail
        refine HQ.out.mono ?_
        rintro e w5 ⟨g2, c5, js, p5, rfl, hjl, hjs, hp5, hr, hgb, hoj⟩
        have HX : Hid (TJOut B g A n c f p 300 w (.returned (.tuple #[.slice (some ⟨gg, 0, none⟩) ts.length c3, .slice (some ⟨g2, 0, none⟩) js.length c5, .int .i64 1])) w5) := Lib.hid ⟨_, c3, us, _, c5, js, 1, p5, by rw [HUS.out], by rw [HUS.out]; exact hsl, hjl, HGU.out, hjs, .inr rfl, by omega, hr, gb_trans HGR.out hgb (fun x e => .inl (by injection e with e; exact e.symm)), own_more (HOU.out.keptUp hgb (by omega)) (by omega), OwnJ.less hoj (by omega)⟩
        clear hr hgb hoj hjs
        go_wp2
        refine bodyPost_ret (v := .tuple #[.slice (some ⟨gg, 0, none⟩) ts.length c3, .slice (some ⟨g2, 0, none⟩) js.length c5, .int .i64 1]) (by simp [results, Tryz.results42, go_sem]) rfl HX.out
end Go.Proofs.YtgponahmkjohiabGreatDoor
