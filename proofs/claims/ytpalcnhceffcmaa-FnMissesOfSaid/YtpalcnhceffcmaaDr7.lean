/- Draws of tasks, jobs, a policy and a run. -/
import Derived.Test.YtpalcnhceffcmaaMsF
import Derived.Test.YtpalcnhceffcmaaNH
import Derived.Test.YtpalcnhceffcmaaSortM
import Derived.Test.YtpalcnhceffcmaaDr5
import Derived.RegionTactic
import Derived.Deep.RegionHeldLaw
import Derived.Deep.AppendLies
namespace Go.Proofs.Ytpalcnhceffcmaa
open Go.RowKit
set_option linter.unusedVariables false

/-- What a draw of tasks, jobs and a policy leaves. -/
def TJOut (B g : Nat) (A : Option Addr) (n c : Nat) (f : Nat → Int) (p d : Nat) (w : World) (e : Ending) (w' : World) : Prop :=
  ∃ (A1 : Option Addr) (c1 : Nat) (ts : List Tk) (A2 : Option Addr) (c2 : Nat) (js : List Jb) (pol : Int) (p' : Nat), e = .returned (.tuple #[.slice A1 ts.length c1, .slice A2 js.length c2, .int .i64 pol]) ∧ ts.length ≤ 5 ∧ js.length ≤ 60 ∧ (∀ t ∈ ts, goodTk t) ∧ (∀ j ∈ js, smallJ j) ∧ (pol = 0 ∨ pol = 1) ∧ p' ≤ p + d ∧
    Rd w' B g A n c f p' ∧ w.grownBy w' (some g) ∧ Own w' w.heap.size (.slice A1 ts.length c1) ts ∧ OwnJ w' w.heap.size (.slice A2 js.length c2) js
theorem sortOf_good {ts : List Tk} (h : ∀ t ∈ ts, goodTk t) : ∀ t ∈ sortOf ts, goodTk t := by
  unfold sortOf
  split
  · intro t ht; exact h t ((sortL_perm ts).mem_iff.1 ht)
  · intro t ht; cases ht
theorem good_due {t : Tk} (h : goodTk t) : goodTk { t with du := t.ev } := by
  obtain ⟨h1, h2, h3, h4, h5, h6⟩ := h
  exact ⟨h1, h2, Int.le_trans h3 h4, Int.le_refl _, h5, h6⟩
theorem Own.keptUp {w w' : World} {B g : Nat} {v : Value} {ts : List Tk} (h : Own w B v ts) (hg : w.grownBy w' (some g)) (hB : g < B) : Own w' B v ts := h.kept hg (fun k e => by injection e with e; omega)

theorem OwnZ.readsL {w : World} {B n c : Nat} {A : Option Addr} {zs : List Int} (h : OwnZ w B (.slice A n c) zs) : Zs w w.heap.size A zs.length zs := by
  obtain ⟨A', c', e⟩ := h.form
  injection e with e1 e2 e3
  subst e2
  exact h.reads
theorem OwnZ.norm {w : World} {B n c : Nat} {A : Option Addr} {zs : List Int} (h : OwnZ w B (.slice A n c) zs) : OwnZ w B (.slice A zs.length c) zs := by
  obtain ⟨A', c', e⟩ := h.form
  injection e with e1 e2 e3
  subst e2
  exact h
theorem OwnZ.drewM {w : World} {B : Nat} {v : Value} {zs : List Int} (h : OwnZ w B v zs) : OwnZ w.drew B v zs := h
set_option maxRecDepth 100000 in
set_option maxHeartbeats 4000000 in
theorem l7Draw_any (w : World) (B g : Nat) (A : Option Addr) (n c : Nat) (f : Nat → Int) (p : Nat) (hr : Rd w B g A n c f p) (hp : p ≤ 500) :
    Calls Try.prog 45 #[.pointer (some ⟨g, 0, none⟩)] w (TJOut B g A n c f p 300 w) := by
  have HR0 := Lib.hid hr
  have hgl := hr.lt
  have hBg := hr.ge
  clear hr
  go_enter Try.func45, Try.ntmps45
  go_wp2_with fail
  refine (pick_any _ B g A n c f p 2 HR0.out (by omega) (by omega)).mono ?_
  rintro e w1 ⟨y, rfl, y0, y1, _, hr, hgb⟩
  have hs1 : w.heap.size ≤ w1.heap.size := hgb.size
  have y2 : y < 2 := y1 (by omega)
  have HR1 := Lib.hid hr
  have HG1 := Lib.hid hgb
  clear hr hgb y1
  go_wp2_with fail
  refine (set_any _ B g A n c f (p + 1) HR1.out (by omega)).mono ?_
  rintro e w2 ⟨v, us, p2, rfl, hl, hgood, hp2, hr, hgb, ho⟩
  obtain ⟨A2, c2, rfl⟩ := ho.form
  have hs2 : w1.heap.size ≤ w2.heap.size := hgb.size
  have HR2 := Lib.hid hr
  have HG2 := Lib.hid (gb_trans HG1.out hgb (fun x e => .inl (by injection e with e; exact e.symm)))
  have HO2 := Lib.hid ho.reads.2
  have HGD := Lib.hid (sortOf_good hgood)
  have hsl : (sortOf us).length ≤ 5 := Nat.le_trans (sortOf_le us) hl
  clear hr hgb ho hgood
  go_wp2_with fail
  refine (sSortDue_any _ A2 us.length c2 us HO2.out (by omega)).mono ?_
  rintro e w3 ⟨A3, c3, rfl, ho, hb⟩
  have hs3 : w2.heap.size ≤ w3.heap.size := hb.size
  have HR3 := Lib.hid (HR2.out.bel hb)
  have HG3 := Lib.hid (gb_trans HG2.out (gb_of_belowJ hb) (fun x e => by cases e))
  have HO3 := Lib.hid ho
  clear ho hb
  obtain ⟨ts, hts⟩ : ∃ ts, sortOf us = ts := ⟨_, rfl⟩
  rw [hts] at HO3 HGD hsl ⊢
  clear hts HO2 HR2 HG2
  by_cases hy : y = 1
  case neg =>
    obtain rfl : y = 0 := by omega
    have t1 : ((0 : Int) == 1) = false := rfl
    clear hy
    go_wp2_with fail
    refine (l6Jobs_any _ B g A n c f p2 HR3.out (by omega) w2.heap.size A3 c3 ts HO3.out (by omega) HGD.out hsl).mono ?_
    rintro e w5 ⟨g2, c5, js, p5, rfl, hjl, hjs, hp5, hr, hgb, hoj⟩
    have HX : Hid (TJOut B g A n c f p 300 w (.returned (.tuple #[.slice A3 ts.length c3, .slice (some ⟨g2, 0, none⟩) js.length c5, .int .i64 0])) w5) := Lib.hid ⟨A3, c3, ts, _, c5, js, 0, p5, rfl, hsl, hjl, HGD.out, hjs, .inl rfl, by omega, hr, gb_trans HG3.out hgb (fun x e => .inl (by injection e with e; exact e.symm)), own_more (HO3.out.keptUp hgb (by omega)) (by omega), OwnJ.less hoj (by omega)⟩
    clear hr hgb hoj hjs
    go_wp2
    refine bodyPost_ret (v := .tuple #[.slice A3 ts.length c3, .slice (some ⟨g2, 0, none⟩) js.length c5, .int .i64 0]) (by simp [results, Try.results45, go_sem]) rfl HX.out
  subst hy
  have t1 : ((1 : Int) == 1) = true := rfl
  rcases HO3.out.2 with ⟨e, h0⟩ | ⟨gg, cap, cur, e, hgg, _⟩
  · injection e with e1 e2 e3
    subst e1 e3
    have h0i : (ts.length : Int) = 0 := by omega
    have HO0 := Lib.hid (show Own w3 w2.heap.size (.slice none 0 0) ts by have h := HO3.out; rw [h0] at h; exact h)
    have HTL := Lib.hid h0
    obtain rfl : ts = [] := List.length_eq_zero_iff.1 h0
    clear h0i h0
    go_wp2
    go_loopw [7] (fun i wr => i = .int .i64 0 ∧ wr = w3) (fun i _ => 0)
    case atStart => exact ⟨rfl, rfl⟩
    case round =>
      obtain ⟨rfl, rfl⟩ := hrel
      go_wp2_with fail
      refine (l6Jobs_any _ B g A n c f p2 HR3.out (by omega) w2.heap.size none 0 [] HO3.out (by omega) HGD.out hsl).mono ?_
      rintro e w5 ⟨g2, c5, js, p5, rfl, hjl, hjs, hp5, hr, hgb, hoj⟩
      have HX : Hid (TJOut B g A n c f p 300 w (.returned (.tuple #[.slice none 0 0, .slice (some ⟨g2, 0, none⟩) js.length c5, .int .i64 1])) w5) := Lib.hid ⟨none, 0, [], _, c5, js, 1, p5, rfl, hsl, hjl, HGD.out, hjs, .inr rfl, by omega, hr, gb_trans HG3.out hgb (fun x e => .inl (by injection e with e; exact e.symm)), own_more (HO3.out.keptUp hgb (by omega)) (by omega), OwnJ.less hoj (by omega)⟩
      clear hr hgb hoj hjs
      go_wp2
      refine bodyPost_ret (v := .tuple #[.slice none 0 0, .slice (some ⟨g2, 0, none⟩) js.length c5, .int .i64 1]) (by simp [results, Try.results45, go_sem]) rfl HX.out
  · injection e with e1 e2 e3
    subst e1 e3
    go_wp2
    go_loopw [7] (fun i wr => ∃ (j : Nat) (us : List Tk), j ≤ ts.length ∧ i = .int .i64 j ∧ Hid (us.length = ts.length) ∧ Hid (∀ t ∈ us, goodTk t) ∧ Hid (Own wr w2.heap.size (.slice (some ⟨gg, 0, none⟩) ts.length c3) us) ∧ Hid (Rd wr B g A n c f p2) ∧ Hid (w.grownBy wr (some g))) (fun i _ => ts.length - (intOf i).toNat)
    case atStart => exact ⟨0, ts, Nat.zero_le _, rfl, Lib.hid rfl, HGD, HO3, HR3, HG3⟩
    case round =>
      obtain ⟨j, us, hj, rfl, HUS, HGU, HOR, HRR, HGR⟩ := hrel
      by_cases hlt : j < ts.length
      · obtain ⟨t, ht⟩ : ∃ t, us[j]? = some t := ⟨us[j]'(by rw [HUS.out]; exact hlt), List.getElem?_eq_getElem _⟩
        obtain ⟨b, o, eA, hbl, c0, c1, c2', c3', c4⟩ := HOR.out.reads.2.at_ j t ht
        injection eA with eA
        injection eA with eA1 eA2
        subst eA1 eA2
        simp only [Nat.zero_add] at c0 c1 c2' c3' c4
        have hfz := HOR.out.frozen
        have HX := Lib.hid (HOR.out.due j t t.ev ht)
        have HXR := Lib.hid (HRR.out.set (q := ⟨gg, j * 5 + 2, none⟩) (by dsimp only; omega) (by dsimp only; omega) (.int .i64 t.ev))
        have HXG := Lib.hid (gb_set HGR.out (p := ⟨gg, j * 5 + 2, none⟩) (.inr (by dsimp only; omega)) (.int .i64 t.ev))
        have HL := Lib.hid (show (us.set j { t with du := t.ev }).length = ts.length by rw [List.length_set]; exact HUS.out)
        have HGX : Hid (∀ x ∈ us.set j { t with du := t.ev }, goodTk x) := Lib.hid (fun x hx => by
          rcases List.mem_or_eq_of_mem_set hx with h | h
          · exact HGU.out x h
          · rw [h]; exact good_due (HGU.out t (List.mem_of_getElem? ht)))
        have hji : (j : Int) < (ts.length : Int) := by omega
        have hj0 : (0 : Int) ≤ (j : Int) := by omega
        clear ht HOR HRR HGR
        go_wp2
        go_roundw
        case rel => exact ⟨j + 1, _, by omega, by go_num, HL, HGX, HX, HXR, HXG⟩
        case measure => simp [intOf]; omega
      · obtain rfl : j = ts.length := by omega
        have HOU : Hid (Own wr w2.heap.size (.slice (some ⟨gg, 0, none⟩) us.length c3) us) := Lib.hid (by rw [HUS.out]; exact HOR.out)
        have hws : w2.heap.size ≤ wr.heap.size := by have := (World.ownsRow.lt HOR.out gg rfl); omega
        have HQ : Hid (Calls Try.prog 58 #[.pointer (some ⟨g, 0, none⟩), .slice (some ⟨gg, 0, none⟩) ts.length c3] wr (JsOut B g A n c f p2 200 60 wr)) := Lib.hid (by
          have h := l6Jobs_any _ B g A n c f p2 HRR.out (by omega) w2.heap.size (some ⟨gg, 0, none⟩) c3 us HOU.out (by omega) HGU.out (by rw [HUS.out]; exact hsl)
          rw [HUS.out] at h
          exact h)
        go_wp2_with fail
        refine HQ.out.mono ?_
        rintro e w5 ⟨g2, c5, js, p5, rfl, hjl, hjs, hp5, hr, hgb, hoj⟩
        have HX : Hid (TJOut B g A n c f p 300 w (.returned (.tuple #[.slice (some ⟨gg, 0, none⟩) ts.length c3, .slice (some ⟨g2, 0, none⟩) js.length c5, .int .i64 1])) w5) := Lib.hid ⟨_, c3, us, _, c5, js, 1, p5, by rw [HUS.out], by rw [HUS.out]; exact hsl, hjl, HGU.out, hjs, .inr rfl, by omega, hr, gb_trans HGR.out hgb (fun x e => .inl (by injection e with e; exact e.symm)), own_more (HOU.out.keptUp hgb (by omega)) (by omega), OwnJ.less hoj (by omega)⟩
        clear hr hgb hoj hjs
        go_wp2
        refine bodyPost_ret (v := .tuple #[.slice (some ⟨gg, 0, none⟩) ts.length c3, .slice (some ⟨g2, 0, none⟩) js.length c5, .int .i64 1]) (by simp [results, Try.results45, go_sem]) rfl HX.out

/-- What a drawn run is: a run of the machine, perhaps with one number more. -/
def DrawnR (ts : List Tk) (js : List Jb) (en tr sw : List Int) (hi : Bool) : Prop :=
  ∃ (pol tk : Int), (pol = 0 ∨ pol = 1) ∧ 0 ≤ tk ∧ tk ≤ 60 ∧ sw = (runR ts js pol tk).sw ∧ hi = (runR ts js pol tk).hi ∧
    ((en = (runR ts js pol tk).en ∧ tr = (runR ts js pol tk).tr) ∨ (∃ z : Int, -2 ≤ z ∧ z ≤ 5 ∧ en = (runR ts js pol tk).en ++ [z] ∧ tr = (runR ts js pol tk).tr) ∨ (∃ z : Int, -2 ≤ z ∧ z ≤ 5 ∧ en = (runR ts js pol tk).en ∧ tr = (runR ts js pol tk).tr ++ [z]))
def DrewRun (w : World) (e : Ending) (w' : World) : Prop :=
  ∃ (A1 : Option Addr) (c1 : Nat) (ts : List Tk) (A2 : Option Addr) (c2 : Nat) (js : List Jb) (A3 : Option Addr) (c3 : Nat) (en : List Int) (A4 : Option Addr) (c4 : Nat) (tr : List Int) (A5 : Option Addr) (c5 : Nat) (sw : List Int) (hi : Bool),
    e = .returned (.tuple #[.slice A1 ts.length c1, .slice A2 js.length c2, .agg #[.slice A3 en.length c3, .slice A4 tr.length c4, .slice A5 sw.length c5, .bool hi]]) ∧ ts.length ≤ 5 ∧ js.length ≤ 60 ∧ (∀ t ∈ ts, goodTk t) ∧ (∀ j ∈ js, smallJ j) ∧ DrawnR ts js en tr sw hi ∧
    Own w' w.heap.size (.slice A1 ts.length c1) ts ∧ OwnJ w' w.heap.size (.slice A2 js.length c2) js ∧ OwnZ w' w.heap.size (.slice A3 en.length c3) en ∧ OwnZ w' w.heap.size (.slice A4 tr.length c4) tr ∧ OwnZ w' w.heap.size (.slice A5 sw.length c5) sw ∧ Below w.heap.size w w'

theorem runR_len (ts : List Tk) (js : List Jb) (pol tk : Int) (h0 : 0 ≤ tk) (h1 : tk ≤ 60) (hj : js.length ≤ 60) : (runR ts js pol tk).en.length ≤ 60 ∧ (runR ts js pol tk).tr.length ≤ 60 := by
  cases h : okR ts js pol tk
  · rw [runR_no h]; exact ⟨Nat.zero_le _, Nat.zero_le _⟩
  · rw [runR_ok h]
    have hv := (okR_iff.1 h).1
    have a := (run_at (p := poOf ts pol) hv tk.toNat).1.enl
    have b := tr_len (p := poOf ts pol) hv tk.toNat
    omega
set_option maxRecDepth 100000 in
set_option maxHeartbeats 4000000 in
theorem l7Run_any (w : World) (A : Option Addr) (n c : Nat) (f : Nat → Int) (h : Code w w.heap.size A n c f) :
    Calls Try.prog 32 #[.slice A n c] w (DrewRun w) := by
  obtain ⟨i1, hi1, hy0, hy1, hy2⟩ := info_parts info_int
  have H := Lib.hid h
  have HZ0 := Lib.hid (Blk.new w 27 #[.slice none 0 0, .slice none 0 0, .slice none 0 0, .bool false])
  clear h
  go_enter Try.func32, Try.ntmps32
  go_wp2_with fail
  refine (open_any _ A n c f (H.out.alloc _)).mono ?_
  rintro e w1 ⟨rfl, n', hr, hb⟩
  have hs1 : w.heap.size + 1 ≤ w1.heap.size := by have := hb.size; simp at this; omega
  have hGv : (w.alloc (.cells #[.slice none 0 0, .slice none 0 0, .slice none 0 0, .bool false] 27)).heap.size = w.heap.size + 1 := by simp
  have HZ1 := Lib.hid (HZ0.out.below hb (by omega))
  rw [hGv] at hr hb ⊢
  have HRd1 := Lib.hid hr
  have HB1 : Hid (Below w.heap.size w w1) := Lib.hid ((bl_alloc (Below.refl _ w) _).trans (hb.mono (by omega)))
  have hg1 : w.heap.size + 1 < w1.heap.size := HRd1.out.lt
  clear hr hb hGv
  go_wp2_with fail
  refine (l7Draw_any _ (w.heap.size + 1) (w.heap.size + 1) A n' c f 0 HRd1.out (by omega)).mono ?_
  rintro e w2 ⟨A1, c1, ts, A2, c2, js, pol, p2, rfl, htl, hjl, hgt, hgj, hpol, hp2, hr, hgb, ho, hoj⟩
  have hs2 : w1.heap.size ≤ w2.heap.size := hgb.size
  have HRd2 := Lib.hid hr
  have HGW2 := Lib.hid hgb
  have HZ2 := Lib.hid (HZ1.out.grown hgb (fun e => by injection e with e; omega))
  have HB2 : Hid (Below w.heap.size w w2) := Lib.hid (HB1.out.grown hgb (by omega) (fun x e => by injection e with e; omega))
  have HT2 := Lib.hid ho.reads.2
  have HJ2 := Lib.hid hoj.reads.2
  have HOT2 : Hid (∀ x, (Value.slice A1 ts.length c1).ownBlock = some x → (w.heap.size + 1) < x) := Lib.hid (fun x e => by have := (World.ownsRow.lt ho x e).1; omega)
  have HOJ2 : Hid (∀ x, (Value.slice A2 js.length c2).ownBlock = some x → (w.heap.size + 1) < x) := Lib.hid (fun x e => by have := (World.ownsRow.lt hoj x e).1; omega)
  have HGT := Lib.hid hgt
  have HGJ := Lib.hid hgj
  have HO2 := Lib.hid ho
  have HOJ := Lib.hid hoj
  have HPO := Lib.hid hpol
  clear hr hgb ho hoj hgt hgj hpol
  go_wp2_with fail
  refine (num_any _ (w.heap.size + 1) (w.heap.size + 1) A n' c f p2 _ 5 0 60 (HRd2.out.alloc _) (by omega) (by omega) (by omega) (by (try simp); omega) (lit_cells_at _ _ _ _ _ _ (by first | rfl | simp) (fun i hi => by rcases (by omega : i = 0 ∨ i = 1 ∨ i = 2 ∨ i = 3 ∨ i = 4) with rfl | rfl | rfl | rfl | rfl <;> exact ⟨_, rfl, by decide, by decide⟩))).mono ?_
  rintro e w3 ⟨tk, rfl, tk0, tk1, hr, hgb⟩
  have hs3 : w2.heap.size ≤ w3.heap.size := by have := hgb.size; simp at this; omega
  have HG3 : Hid (w2.grownBy w3 (some (w.heap.size + 1))) := Lib.hid (gb_trans (gb_alloc (World.grownBy.refl w2 _) _) hgb (fun x e => .inl (by injection e with e; exact e.symm)))
  have HRd3 := Lib.hid hr
  have HO3 : Hid (Own w3 w1.heap.size (.slice A1 ts.length c1) ts) := Lib.hid (HO2.out.keptUp HG3.out (by omega))
  have HOJ3 : Hid (OwnJ w3 w1.heap.size (.slice A2 js.length c2) js) := Lib.hid (HOJ.out.kept HG3.out (fun k e => by injection e with e; omega))
  have HZ3 := Lib.hid (HZ2.out.grown HG3.out (fun e => by injection e with e; omega))
  have HB3 : Hid (Below w.heap.size w w3) := Lib.hid (HB2.out.grown HG3.out (by omega) (fun x e => by injection e with e; omega))
  clear hr hgb HT2 HJ2
  go_wp2_with fail
  refine (sRunJobs_is _ A1 ts.length c1 ts HO3.out.reads.2 (by omega) A2 js.length c2 js HOJ3.out.reads.2 pol tk).mono ?_
  obtain ⟨s, hs⟩ : ∃ s, runR ts js pol tk = s := ⟨_, rfl⟩
  rw [hs]
  rintro e w4 ⟨A3, c3, A4, c4, A5, c5, rfl, o1, o2, o3, p12, p13, p23, hb⟩
  have HSV := Lib.hid hs
  obtain ⟨en, tr, sw, hi, wkx, nxx⟩ := s
  dsimp only at o1 o2 o3 p12 p13 p23 ⊢
  have hs4 : w3.heap.size ≤ w4.heap.size := hb.size
  have HRd4 := Lib.hid ((HRd3.out.bel hb).alloc (.cells #[.slice A3 en.length c3, .slice A4 tr.length c4, .slice A5 sw.length c5, .bool hi] 27))
  have HX4 := Lib.hid (Blk.new w4 27 #[.slice A3 en.length c3, .slice A4 tr.length c4, .slice A5 sw.length c5, .bool hi])
  have HO4 := Lib.hid ((HO3.out.below hb).alloc (.cells #[.slice A3 en.length c3, .slice A4 tr.length c4, .slice A5 sw.length c5, .bool hi] 27))
  have HOJ4 := Lib.hid ((HOJ3.out.below hb).alloc (.cells #[.slice A3 en.length c3, .slice A4 tr.length c4, .slice A5 sw.length c5, .bool hi] 27))
  have HZ4 := Lib.hid ((HZ3.out.below hb (by omega)).alloc (.cells #[.slice A3 en.length c3, .slice A4 tr.length c4, .slice A5 sw.length c5, .bool hi] 27))
  have HB4 : Hid (Below w.heap.size w (w4.alloc (.cells #[.slice A3 en.length c3, .slice A4 tr.length c4, .slice A5 sw.length c5, .bool hi] 27))) := Lib.hid (bl_alloc (HB3.out.trans (hb.mono (by omega))) _)
  have HE4 := Lib.hid (o1.alloc (.cells #[.slice A3 en.length c3, .slice A4 tr.length c4, .slice A5 sw.length c5, .bool hi] 27))
  have HT4 := Lib.hid (o2.alloc (.cells #[.slice A3 en.length c3, .slice A4 tr.length c4, .slice A5 sw.length c5, .bool hi] 27))
  have HW4 := Lib.hid (o3.alloc (.cells #[.slice A3 en.length c3, .slice A4 tr.length c4, .slice A5 sw.length c5, .bool hi] 27))
  have HER := Lib.hid (fun x e => World.ownsRow.lt o1 x e)
  have HTR := Lib.hid (fun x e => World.ownsRow.lt o2 x e)
  have HWR := Lib.hid (fun x e => World.ownsRow.lt o3 x e)
  have HOT3 := Lib.hid (fun x e => World.ownsRow.lt HO3.out x e)
  have HOJ3r := Lib.hid (fun x e => World.ownsRow.lt HOJ3.out x e)
  have P12 := Lib.hid p12
  have P13 := Lib.hid p13
  have P23 := Lib.hid p23
  clear o1 o2 o3 p12 p13 p23 hb hs
  go_wp2_with fail
  refine (pick_any _ (w.heap.size + 1) (w.heap.size + 1) A n' c f (p2 + 1) 20 HRd4.out (by omega) (by omega)).mono ?_
  rintro e w6 ⟨y, rfl, y0, _, _, hr, hgb⟩
  have hs6 : w4.heap.size + 1 ≤ w6.heap.size := by have := hgb.size; simp at this; omega
  have HRd6 := Lib.hid hr
  have HX6 := Lib.hid (HX4.out.grown hgb (fun e => by injection e with e; omega))
  have HO6 := Lib.hid (HO4.out.keptUp hgb (by omega))
  have HOJ6 : Hid (OwnJ w6 w1.heap.size (.slice A2 js.length c2) js) := Lib.hid (HOJ4.out.kept hgb (fun k e => by injection e with e; omega))
  have HZ6 := Lib.hid (HZ4.out.grown hgb (fun e => by injection e with e; omega))
  have HB6 : Hid (Below w.heap.size w w6) := Lib.hid (HB4.out.grown hgb (by simp; omega) (fun x e => by injection e with e; omega))
  have HE6 := Lib.hid (HE4.out.kept hgb (fun k e => by injection e with e; omega))
  have HT6 := Lib.hid (HT4.out.kept hgb (fun k e => by injection e with e; omega))
  have HW6 := Lib.hid (HW4.out.kept hgb (fun k e => by injection e with e; omega))
  clear hr hgb
  have hbs : w.heap.size + 1 < w4.heap.size := by omega
  by_cases hyz : y = 0
  case pos =>
    subst hyz
    have t1 : ((0 : Int) == 0) = true := rfl
    have HLN : Hid (en.length ≤ 1000) := Lib.hid (by
      have h := runR_len ts js pol tk tk0 (by omega) hjl
      rw [HSV.out] at h
      dsimp only at h
      omega)
    have hln := HLN.out
    obtain ⟨hS0, hF0⟩ : w6.cell? ⟨w4.heap.size, 0, none⟩ = some (Value.slice A3 en.length c3) ∧ w6.frozen? ⟨w4.heap.size, 0, none⟩ = false := ⟨HX6.out.cell 0, HX6.out.frozen 0⟩
    obtain ⟨hS0a, hF0a⟩ : (w6.alloc (.cells #[.int .i64 5, .int .i64 (-1), .int .i64 (-2)] 3)).cell? ⟨w4.heap.size, 0, none⟩ = some (Value.slice A3 en.length c3) ∧ (w6.alloc (.cells #[.int .i64 5, .int .i64 (-1), .int .i64 (-2)] 3)).frozen? ⟨w4.heap.size, 0, none⟩ = false := ⟨(HX6.out.alloc _).cell 0, (HX6.out.alloc _).frozen 0⟩
    go_wp2_with fail
    go_region_law
      (first
        | (go_simp
           go_at_call 41
           refine (num_any _ (w.heap.size + 1) (w.heap.size + 1) A n' c f (p2 + 1 + 1) _ 3 (-2) 5 ?_ (by omega) (by omega) (by omega) ?_ ?_).mono ?_
           · (repeat (first | with_reducible exact HRd6.out | with_reducible refine Rd.drew5 ?_ | with_reducible refine Rd.alloc ?_ _))
           · ((try simp); omega)
           · exact lit_cells_at _ _ _ _ _ _ (by first | rfl | simp) (fun i hi => by rcases (by omega : i = 0 ∨ i = 1 ∨ i = 2) with rfl | rfl | rfl <;> exact ⟨_, rfl, by decide, by decide⟩)
           rintro e w7 ⟨z, rfl, hz0, hz1, hr, hgb⟩
           have HG7 : Hid (w6.grownBy w7 (some (w.heap.size + 1))) := Lib.hid (gb_trans (by repeat (first | with_reducible exact World.grownBy.refl w6 _ | with_reducible refine gb_drew5 ?_ | with_reducible refine gb_alloc ?_ _)) hgb (fun x e => .inl (by injection e with e; exact e.symm)))
           have hs7 : w6.heap.size ≤ w7.heap.size := HG7.out.size
           have HX7 := Lib.hid (HX6.out.grown HG7.out (fun e => by injection e with e; omega))
           have H7 := Lib.hid (HE6.out.kept HG7.out (fun k e => by injection e with e; omega))
           obtain ⟨hS1, hF1⟩ : w7.cell? ⟨w4.heap.size, 0, none⟩ = some (Value.slice A3 en.length c3) ∧ w7.frozen? ⟨w4.heap.size, 0, none⟩ = false := ⟨HX7.out.cell 0, HX7.out.frozen 0⟩
           obtain ⟨hS1a, hF1a⟩ : (w7.alloc (.cells #[.int .i64 z] 3)).cell? ⟨w4.heap.size, 0, none⟩ = some (Value.slice A3 en.length c3) ∧ (w7.alloc (.cells #[.int .i64 z] 3)).frozen? ⟨w4.heap.size, 0, none⟩ = false := ⟨(HX7.out.alloc _).cell 0, (HX7.out.alloc _).frozen 0⟩
           clear hr hgb)
        | (refine step_append_lies _ (by rfl) (.tmp 34) (.tmp 38) 25 (by rfl) w3.heap.size 3 i1 _ 1 8 Try.underlying25 hi1 hy0 hy1 hy2 rfl (by decide) (Value.slice A3 en.length c3) en.length (en.map (Value.int .i64)) (by rfl) (show OwnZ _ w3.heap.size (Value.slice A3 en.length c3) en from (by repeat (first | with_reducible exact H7.out | with_reducible refine OwnZ.alloc ?_ _ | with_reducible refine OwnZ.drewM ?_))) _ 1 1 [Value.int .i64 z] (by rfl) rfl (cell_new1_at _ _ _ _ (by first | rfl | simp)) (by intro u hu; rw [List.mem_singleton.1 hu]; rfl) (by omega) (by unfold maxLen; omega) (by omega) (by simp; omega) _ rfl ?_
           intro g9 cap9 w9 hown9 hgrow9 hat9 hlt9
           have HO9 : Hid (OwnZ w9 w3.heap.size (.slice (some ⟨g9, 0, none⟩) (en.length + 1) cap9) (en ++ [z])) := Lib.hid (OwnZ.snoc hown9)
           have HG9 : Hid (w7.grownBy w9 ((Value.slice A3 en.length c3) : Value).ownBlock) := Lib.hid (World.grownBy.trans (by repeat (first | with_reducible exact World.grownBy.refl w7 _ | with_reducible refine gb_drew5 ?_ | with_reducible refine gb_alloc ?_ _)) hgrow9)
           have hs9 : w7.heap.size ≤ w9.heap.size := HG9.out.size
           have HX9 := Lib.hid (HX7.out.grown HG9.out (fun e => by have := (HER.out _ e.symm).2; omega))
           obtain ⟨hS2, hF2⟩ : w9.cell? ⟨w4.heap.size, 0, none⟩ = some (Value.slice A3 en.length c3) ∧ w9.frozen? ⟨w4.heap.size, 0, none⟩ = false := ⟨HX9.out.cell 0, HX9.out.frozen 0⟩
           have HAT9 : Hid ((Value.slice A3 en.length c3).ownBlock = some g9 ∨ w7.heap.size < g9) := Lib.hid (hat9.imp id (fun e => by (try simp at e); omega))
           clear hown9 hgrow9 hat9))
    all_goals
      have HS10 : Hid (Kp w6 (w9.setCell ⟨w4.heap.size, 0, none⟩ (.slice (some ⟨g9, 0, none⟩) (en.length + 1) cap9)) (fun x => x = w.heap.size + 1 ∨ (Value.slice A3 en.length c3).ownBlock = some x ∨ x = w4.heap.size)) := Lib.hid ((((Kp.refl w6 _).grown HG7.out (fun x e => .inl (.inl (by injection e with e; exact e.symm)))).grown HG9.out (fun x e => .inl (.inr (.inl e)))).set (a := ⟨w4.heap.size, 0, none⟩) (.inl (.inr (.inr rfl))) _)
      have HO10t : Hid (Own (w9.setCell ⟨w4.heap.size, 0, none⟩ (.slice (some ⟨g9, 0, none⟩) (en.length + 1) cap9)) w1.heap.size (.slice A1 ts.length c1) ts) := Lib.hid (ownsRow_kp HO6.out HS10.out (fun x e e2 => by have := HOT3.out x e; rcases e2 with e2 | e2 | e2; omega; (have := (HER.out x e2).1; omega); omega))
      have HO10j : Hid (OwnJ (w9.setCell ⟨w4.heap.size, 0, none⟩ (.slice (some ⟨g9, 0, none⟩) (en.length + 1) cap9)) w1.heap.size (.slice A2 js.length c2) js) := Lib.hid (ownsRow_kp HOJ6.out HS10.out (fun x e e2 => by have := HOJ3r.out x e; rcases e2 with e2 | e2 | e2; omega; (have := (HER.out x e2).1; omega); omega))
      have HT10 : Hid (OwnZ (w9.setCell ⟨w4.heap.size, 0, none⟩ (.slice (some ⟨g9, 0, none⟩) (en.length + 1) cap9)) w3.heap.size (.slice A4 tr.length c4) tr) := Lib.hid (ownsRow_kp HT6.out HS10.out (fun x e e2 => by have := HTR.out x e; rcases e2 with e2 | e2 | e2; omega; (exact P12.out x e2 e); omega))
      have HW10 : Hid (OwnZ (w9.setCell ⟨w4.heap.size, 0, none⟩ (.slice (some ⟨g9, 0, none⟩) (en.length + 1) cap9)) w3.heap.size (.slice A5 sw.length c5) sw) := Lib.hid (ownsRow_kp HW6.out HS10.out (fun x e e2 => by have := HWR.out x e; rcases e2 with e2 | e2 | e2; omega; (exact P13.out x e2 e); omega))
      have HO10 : Hid (OwnZ (w9.setCell ⟨w4.heap.size, 0, none⟩ (.slice (some ⟨g9, 0, none⟩) (en.length + 1) cap9)) w3.heap.size (.slice (some ⟨g9, 0, none⟩) (en.length + 1) cap9) (en ++ [z])) := Lib.hid (ownsRow_kp HO9.out (S := fun x => x = w4.heap.size) ((Kp.refl w9 (fun x => x = w4.heap.size)).set (a := ⟨w4.heap.size, 0, none⟩) (.inl rfl) _) (fun x e e2 => by
        have e3 : g9 = x := Option.some.inj e
        rcases HAT9.out with h | h
        · have := (HER.out g9 h).2; omega
        · omega))
      have HX10 := Lib.hid (HX9.out.set_ 0 (.slice (some ⟨g9, 0, none⟩) (en.length + 1) cap9))
      have HZ10 := Lib.hid (((HZ6.out.grown HG7.out (fun e => by injection e with e; omega)).grown HG9.out (fun e => by have := (HER.out _ e.symm).1; omega)).far (p := ⟨w4.heap.size, 0, none⟩) (by dsimp only; omega) (.slice (some ⟨g9, 0, none⟩) (en.length + 1) cap9))
      have HB10 : Hid (Below w.heap.size w (w9.setCell ⟨w4.heap.size, 0, none⟩ (.slice (some ⟨g9, 0, none⟩) (en.length + 1) cap9))) := Lib.hid (bl_set ((HB6.out.grown HG7.out (by omega) (fun x e => by injection e with e; omega)).grown HG9.out (by omega) (fun x e => by have := (HER.out x e).1; omega)) (by dsimp only; omega) _)
      have HDR : Hid (DrawnR ts js (en ++ [z]) tr sw hi) := Lib.hid ⟨pol, tk, HPO.out, tk0, tk1, by rw [HSV.out], by rw [HSV.out], .inr (.inl ⟨z, hz0, hz1, by rw [HSV.out], by rw [HSV.out]⟩)⟩
      obtain ⟨W10, hW10⟩ : ∃ W10, w9.setCell ⟨w4.heap.size, 0, none⟩ (.slice (some ⟨g9, 0, none⟩) (en.length + 1) cap9) = W10 := ⟨_, rfl⟩
      rw [hW10] at HO10t HO10j HT10 HW10 HO10 HX10 HZ10 HB10 ⊢
      clear hS0 hF0 hS0a hF0a hS1 hF1 hS1a hF1a hS2 hF2 HS10 hW10
      obtain ⟨b0, b1, b2, b3⟩ := Blk.quad HX10.out
      obtain ⟨z0, z1, z2, z3⟩ := Blk.quad HZ10.out
      have fz := HZ10.out.frozen
      have HKP : Hid (Kp W10 ((((W10.setCell ⟨w.heap.size, 0, none⟩ (.slice (some ⟨g9, 0, none⟩) (en.length + 1) cap9)).setCell ⟨w.heap.size, 1, none⟩ (.slice A4 tr.length c4)).setCell ⟨w.heap.size, 2, none⟩ (.slice A5 sw.length c5)).setCell ⟨w.heap.size, 3, none⟩ (.bool hi)).drew (fun x => x = w.heap.size)) := Lib.hid ((((((Kp.refl W10 (fun x => x = w.heap.size)).set (a := ⟨w.heap.size, 0, none⟩) (.inl rfl) _).set (a := ⟨w.heap.size, 1, none⟩) (.inl rfl) _).set (a := ⟨w.heap.size, 2, none⟩) (.inl rfl) _).set (a := ⟨w.heap.size, 3, none⟩) (.inl rfl) _).drew)
      go_wp2_with fail
      go_region
      go_wp2
      have hZ := (((HZ10.out.set_ 0 (.slice (some ⟨g9, 0, none⟩) (en.length + 1) cap9)).set_ 1 (.slice A4 tr.length c4)).set_ 2 (.slice A5 sw.length c5)).set_ 3 (.bool hi)
      obtain ⟨y0, y1, y2, y3⟩ := Blk.quad (w := ((((W10.setCell ⟨w.heap.size, 0, none⟩ (.slice (some ⟨g9, 0, none⟩) (en.length + 1) cap9)).setCell ⟨w.heap.size, 1, none⟩ (.slice A4 tr.length c4)).setCell ⟨w.heap.size, 2, none⟩ (.slice A5 sw.length c5)).setCell ⟨w.heap.size, 3, none⟩ (.bool hi)).drew) hZ
      clear hZ b0 b1 b2 b3 z0 z1 z2 z3
      refine bodyPost_ret (v := .tuple #[.slice A1 ts.length c1, .slice A2 js.length c2, .agg #[.slice (some ⟨g9, 0, none⟩) (en.length + 1) cap9, .slice A4 tr.length c4, .slice A5 sw.length c5, .bool hi]]) (by simp [results, Try.results32, go_sem, y0, y1, y2, y3]) rfl ?_
      have k1 := ownsRow_kp HO10t.out HKP.out (fun x e e2 => by have := (World.ownsRow.lt HO10t.out x e).1; omega)
      have k2 := ownsRow_kp HO10j.out HKP.out (fun x e e2 => by have := (World.ownsRow.lt HO10j.out x e).1; omega)
      have k3 : OwnZ _ _ _ (en ++ [z]) := ownsRow_kp HO10.out HKP.out (fun x e e2 => by have := (World.ownsRow.lt HO10.out x e).1; omega)
      have k4 : OwnZ _ _ _ tr := ownsRow_kp HT10.out HKP.out (fun x e e2 => by have := (World.ownsRow.lt HT10.out x e).1; omega)
      have k5 := ownsRow_kp HW10.out HKP.out (fun x e e2 => by have := (World.ownsRow.lt HW10.out x e).1; omega)
      exact ⟨A1, c1, ts, A2, c2, js, (some ⟨g9, 0, none⟩), cap9, (en ++ [z]), A4, c4, tr, A5, c5, sw, hi, by rw [List.length_append]; rfl, htl, hjl, HGT.out, HGJ.out, HDR.out, own_more k1 (by omega), OwnJ.less k2 (by omega), OwnZ.less k3.norm (by omega), OwnZ.less k4.norm (by omega), OwnZ.less (OwnZ.norm k5) (by omega), Below.drew (bl_set (bl_set (bl_set (bl_set HB10.out (by dsimp only; omega) _) (by dsimp only; omega) _) (by dsimp only; omega) _) (by dsimp only; omega) _)⟩

  have t1 : (y == 0) = false := by simpa using hyz
  by_cases hyy : y = 1
  case pos =>
    subst hyy
    have t2 : ((1 : Int) == 1) = true := rfl
    have HLN : Hid (tr.length ≤ 1000) := Lib.hid (by
      have h := runR_len ts js pol tk tk0 (by omega) hjl
      rw [HSV.out] at h
      dsimp only at h
      omega)
    have hln := HLN.out
    obtain ⟨hS0, hF0⟩ : w6.cell? ⟨w4.heap.size, 1, none⟩ = some (Value.slice A4 tr.length c4) ∧ w6.frozen? ⟨w4.heap.size, 1, none⟩ = false := ⟨HX6.out.cell 1, HX6.out.frozen 1⟩
    obtain ⟨hS0a, hF0a⟩ : (w6.alloc (.cells #[.int .i64 0, .int .i64 5, .int .i64 (-2)] 3)).cell? ⟨w4.heap.size, 1, none⟩ = some (Value.slice A4 tr.length c4) ∧ (w6.alloc (.cells #[.int .i64 0, .int .i64 5, .int .i64 (-2)] 3)).frozen? ⟨w4.heap.size, 1, none⟩ = false := ⟨(HX6.out.alloc _).cell 1, (HX6.out.alloc _).frozen 1⟩
    go_wp2_with fail
    go_region_law
      (first
        | (go_simp
           go_at_call 41
           refine (num_any _ (w.heap.size + 1) (w.heap.size + 1) A n' c f (p2 + 1 + 1) _ 3 (-2) 5 ?_ (by omega) (by omega) (by omega) ?_ ?_).mono ?_
           · (repeat (first | with_reducible exact HRd6.out | with_reducible refine Rd.drew5 ?_ | with_reducible refine Rd.alloc ?_ _))
           · ((try simp); omega)
           · exact lit_cells_at _ _ _ _ _ _ (by first | rfl | simp) (fun i hi => by rcases (by omega : i = 0 ∨ i = 1 ∨ i = 2) with rfl | rfl | rfl <;> exact ⟨_, rfl, by decide, by decide⟩)
           rintro e w7 ⟨z, rfl, hz0, hz1, hr, hgb⟩
           have HG7 : Hid (w6.grownBy w7 (some (w.heap.size + 1))) := Lib.hid (gb_trans (by repeat (first | with_reducible exact World.grownBy.refl w6 _ | with_reducible refine gb_drew5 ?_ | with_reducible refine gb_alloc ?_ _)) hgb (fun x e => .inl (by injection e with e; exact e.symm)))
           have hs7 : w6.heap.size ≤ w7.heap.size := HG7.out.size
           have HX7 := Lib.hid (HX6.out.grown HG7.out (fun e => by injection e with e; omega))
           have H7 := Lib.hid (HT6.out.kept HG7.out (fun k e => by injection e with e; omega))
           obtain ⟨hS1, hF1⟩ : w7.cell? ⟨w4.heap.size, 1, none⟩ = some (Value.slice A4 tr.length c4) ∧ w7.frozen? ⟨w4.heap.size, 1, none⟩ = false := ⟨HX7.out.cell 1, HX7.out.frozen 1⟩
           obtain ⟨hS1a, hF1a⟩ : (w7.alloc (.cells #[.int .i64 z] 3)).cell? ⟨w4.heap.size, 1, none⟩ = some (Value.slice A4 tr.length c4) ∧ (w7.alloc (.cells #[.int .i64 z] 3)).frozen? ⟨w4.heap.size, 1, none⟩ = false := ⟨(HX7.out.alloc _).cell 1, (HX7.out.alloc _).frozen 1⟩
           clear hr hgb)
        | (refine step_append_lies _ (by rfl) (.tmp 44) (.tmp 48) 25 (by rfl) w3.heap.size 3 i1 _ 1 8 Try.underlying25 hi1 hy0 hy1 hy2 rfl (by decide) (Value.slice A4 tr.length c4) tr.length (tr.map (Value.int .i64)) (by rfl) (show OwnZ _ w3.heap.size (Value.slice A4 tr.length c4) tr from (by repeat (first | with_reducible exact H7.out | with_reducible refine OwnZ.alloc ?_ _ | with_reducible refine OwnZ.drewM ?_))) _ 1 1 [Value.int .i64 z] (by rfl) rfl (cell_new1_at _ _ _ _ (by first | rfl | simp)) (by intro u hu; rw [List.mem_singleton.1 hu]; rfl) (by omega) (by unfold maxLen; omega) (by omega) (by simp; omega) _ rfl ?_
           intro g9 cap9 w9 hown9 hgrow9 hat9 hlt9
           have HO9 : Hid (OwnZ w9 w3.heap.size (.slice (some ⟨g9, 0, none⟩) (tr.length + 1) cap9) (tr ++ [z])) := Lib.hid (OwnZ.snoc hown9)
           have HG9 : Hid (w7.grownBy w9 ((Value.slice A4 tr.length c4) : Value).ownBlock) := Lib.hid (World.grownBy.trans (by repeat (first | with_reducible exact World.grownBy.refl w7 _ | with_reducible refine gb_drew5 ?_ | with_reducible refine gb_alloc ?_ _)) hgrow9)
           have hs9 : w7.heap.size ≤ w9.heap.size := HG9.out.size
           have HX9 := Lib.hid (HX7.out.grown HG9.out (fun e => by have := (HTR.out _ e.symm).2; omega))
           obtain ⟨hS2, hF2⟩ : w9.cell? ⟨w4.heap.size, 1, none⟩ = some (Value.slice A4 tr.length c4) ∧ w9.frozen? ⟨w4.heap.size, 1, none⟩ = false := ⟨HX9.out.cell 1, HX9.out.frozen 1⟩
           have HAT9 : Hid ((Value.slice A4 tr.length c4).ownBlock = some g9 ∨ w7.heap.size < g9) := Lib.hid (hat9.imp id (fun e => by (try simp at e); omega))
           clear hown9 hgrow9 hat9))
    all_goals
      have HS10 : Hid (Kp w6 (w9.setCell ⟨w4.heap.size, 1, none⟩ (.slice (some ⟨g9, 0, none⟩) (tr.length + 1) cap9)) (fun x => x = w.heap.size + 1 ∨ (Value.slice A4 tr.length c4).ownBlock = some x ∨ x = w4.heap.size)) := Lib.hid ((((Kp.refl w6 _).grown HG7.out (fun x e => .inl (.inl (by injection e with e; exact e.symm)))).grown HG9.out (fun x e => .inl (.inr (.inl e)))).set (a := ⟨w4.heap.size, 1, none⟩) (.inl (.inr (.inr rfl))) _)
      have HO10t : Hid (Own (w9.setCell ⟨w4.heap.size, 1, none⟩ (.slice (some ⟨g9, 0, none⟩) (tr.length + 1) cap9)) w1.heap.size (.slice A1 ts.length c1) ts) := Lib.hid (ownsRow_kp HO6.out HS10.out (fun x e e2 => by have := HOT3.out x e; rcases e2 with e2 | e2 | e2; omega; (have := (HTR.out x e2).1; omega); omega))
      have HO10j : Hid (OwnJ (w9.setCell ⟨w4.heap.size, 1, none⟩ (.slice (some ⟨g9, 0, none⟩) (tr.length + 1) cap9)) w1.heap.size (.slice A2 js.length c2) js) := Lib.hid (ownsRow_kp HOJ6.out HS10.out (fun x e e2 => by have := HOJ3r.out x e; rcases e2 with e2 | e2 | e2; omega; (have := (HTR.out x e2).1; omega); omega))
      have HE10 : Hid (OwnZ (w9.setCell ⟨w4.heap.size, 1, none⟩ (.slice (some ⟨g9, 0, none⟩) (tr.length + 1) cap9)) w3.heap.size (.slice A3 en.length c3) en) := Lib.hid (ownsRow_kp HE6.out HS10.out (fun x e e2 => by have := HER.out x e; rcases e2 with e2 | e2 | e2; omega; (exact P12.out x e e2); omega))
      have HW10 : Hid (OwnZ (w9.setCell ⟨w4.heap.size, 1, none⟩ (.slice (some ⟨g9, 0, none⟩) (tr.length + 1) cap9)) w3.heap.size (.slice A5 sw.length c5) sw) := Lib.hid (ownsRow_kp HW6.out HS10.out (fun x e e2 => by have := HWR.out x e; rcases e2 with e2 | e2 | e2; omega; (exact P23.out x e2 e); omega))
      have HO10 : Hid (OwnZ (w9.setCell ⟨w4.heap.size, 1, none⟩ (.slice (some ⟨g9, 0, none⟩) (tr.length + 1) cap9)) w3.heap.size (.slice (some ⟨g9, 0, none⟩) (tr.length + 1) cap9) (tr ++ [z])) := Lib.hid (ownsRow_kp HO9.out (S := fun x => x = w4.heap.size) ((Kp.refl w9 (fun x => x = w4.heap.size)).set (a := ⟨w4.heap.size, 1, none⟩) (.inl rfl) _) (fun x e e2 => by
        have e3 : g9 = x := Option.some.inj e
        rcases HAT9.out with h | h
        · have := (HTR.out g9 h).2; omega
        · omega))
      have HX10 := Lib.hid (HX9.out.set_ 1 (.slice (some ⟨g9, 0, none⟩) (tr.length + 1) cap9))
      have HZ10 := Lib.hid (((HZ6.out.grown HG7.out (fun e => by injection e with e; omega)).grown HG9.out (fun e => by have := (HTR.out _ e.symm).1; omega)).far (p := ⟨w4.heap.size, 1, none⟩) (by dsimp only; omega) (.slice (some ⟨g9, 0, none⟩) (tr.length + 1) cap9))
      have HB10 : Hid (Below w.heap.size w (w9.setCell ⟨w4.heap.size, 1, none⟩ (.slice (some ⟨g9, 0, none⟩) (tr.length + 1) cap9))) := Lib.hid (bl_set ((HB6.out.grown HG7.out (by omega) (fun x e => by injection e with e; omega)).grown HG9.out (by omega) (fun x e => by have := (HTR.out x e).1; omega)) (by dsimp only; omega) _)
      have HDR : Hid (DrawnR ts js en (tr ++ [z]) sw hi) := Lib.hid ⟨pol, tk, HPO.out, tk0, tk1, by rw [HSV.out], by rw [HSV.out], .inr (.inr ⟨z, hz0, hz1, by rw [HSV.out], by rw [HSV.out]⟩)⟩
      obtain ⟨W10, hW10⟩ : ∃ W10, w9.setCell ⟨w4.heap.size, 1, none⟩ (.slice (some ⟨g9, 0, none⟩) (tr.length + 1) cap9) = W10 := ⟨_, rfl⟩
      rw [hW10] at HO10t HO10j HE10 HW10 HO10 HX10 HZ10 HB10 ⊢
      clear hS0 hF0 hS0a hF0a hS1 hF1 hS1a hF1a hS2 hF2 HS10 hW10
      obtain ⟨b0, b1, b2, b3⟩ := Blk.quad HX10.out
      obtain ⟨z0, z1, z2, z3⟩ := Blk.quad HZ10.out
      have fz := HZ10.out.frozen
      have HKP : Hid (Kp W10 ((((W10.setCell ⟨w.heap.size, 0, none⟩ (.slice A3 en.length c3)).setCell ⟨w.heap.size, 1, none⟩ (.slice (some ⟨g9, 0, none⟩) (tr.length + 1) cap9)).setCell ⟨w.heap.size, 2, none⟩ (.slice A5 sw.length c5)).setCell ⟨w.heap.size, 3, none⟩ (.bool hi)).drew (fun x => x = w.heap.size)) := Lib.hid ((((((Kp.refl W10 (fun x => x = w.heap.size)).set (a := ⟨w.heap.size, 0, none⟩) (.inl rfl) _).set (a := ⟨w.heap.size, 1, none⟩) (.inl rfl) _).set (a := ⟨w.heap.size, 2, none⟩) (.inl rfl) _).set (a := ⟨w.heap.size, 3, none⟩) (.inl rfl) _).drew)
      go_wp2_with fail
      go_region
      go_wp2
      have hZ := (((HZ10.out.set_ 0 (.slice A3 en.length c3)).set_ 1 (.slice (some ⟨g9, 0, none⟩) (tr.length + 1) cap9)).set_ 2 (.slice A5 sw.length c5)).set_ 3 (.bool hi)
      obtain ⟨y0, y1, y2, y3⟩ := Blk.quad (w := ((((W10.setCell ⟨w.heap.size, 0, none⟩ (.slice A3 en.length c3)).setCell ⟨w.heap.size, 1, none⟩ (.slice (some ⟨g9, 0, none⟩) (tr.length + 1) cap9)).setCell ⟨w.heap.size, 2, none⟩ (.slice A5 sw.length c5)).setCell ⟨w.heap.size, 3, none⟩ (.bool hi)).drew) hZ
      clear hZ b0 b1 b2 b3 z0 z1 z2 z3
      refine bodyPost_ret (v := .tuple #[.slice A1 ts.length c1, .slice A2 js.length c2, .agg #[.slice A3 en.length c3, .slice (some ⟨g9, 0, none⟩) (tr.length + 1) cap9, .slice A5 sw.length c5, .bool hi]]) (by simp [results, Try.results32, go_sem, y0, y1, y2, y3]) rfl ?_
      have k1 := ownsRow_kp HO10t.out HKP.out (fun x e e2 => by have := (World.ownsRow.lt HO10t.out x e).1; omega)
      have k2 := ownsRow_kp HO10j.out HKP.out (fun x e e2 => by have := (World.ownsRow.lt HO10j.out x e).1; omega)
      have k3 : OwnZ _ _ _ en := ownsRow_kp HE10.out HKP.out (fun x e e2 => by have := (World.ownsRow.lt HE10.out x e).1; omega)
      have k4 : OwnZ _ _ _ (tr ++ [z]) := ownsRow_kp HO10.out HKP.out (fun x e e2 => by have := (World.ownsRow.lt HO10.out x e).1; omega)
      have k5 := ownsRow_kp HW10.out HKP.out (fun x e e2 => by have := (World.ownsRow.lt HW10.out x e).1; omega)
      exact ⟨A1, c1, ts, A2, c2, js, A3, c3, en, (some ⟨g9, 0, none⟩), cap9, (tr ++ [z]), A5, c5, sw, hi, by rw [List.length_append]; rfl, htl, hjl, HGT.out, HGJ.out, HDR.out, own_more k1 (by omega), OwnJ.less k2 (by omega), OwnZ.less k3.norm (by omega), OwnZ.less k4.norm (by omega), OwnZ.less (OwnZ.norm k5) (by omega), Below.drew (bl_set (bl_set (bl_set (bl_set HB10.out (by dsimp only; omega) _) (by dsimp only; omega) _) (by dsimp only; omega) _) (by dsimp only; omega) _)⟩

  have t2 : (y == 1) = false := by simpa using hyy
  have HDR : Hid (DrawnR ts js en tr sw hi) := Lib.hid ⟨pol, tk, HPO.out, tk0, tk1, by rw [HSV.out], by rw [HSV.out], .inl ⟨by rw [HSV.out], by rw [HSV.out]⟩⟩
  clear hyz hyy
  obtain ⟨b0, b1, b2, b3⟩ := Blk.quad HX6.out
  obtain ⟨z0, z1, z2, z3⟩ := Blk.quad HZ6.out
  have fz := HZ6.out.frozen
  have HKP : Hid (Kp w6 ((((w6.setCell ⟨w.heap.size, 0, none⟩ (.slice A3 en.length c3)).setCell ⟨w.heap.size, 1, none⟩ (.slice A4 tr.length c4)).setCell ⟨w.heap.size, 2, none⟩ (.slice A5 sw.length c5)).setCell ⟨w.heap.size, 3, none⟩ (.bool hi)).drew (fun x => x = w.heap.size)) := Lib.hid ((((((Kp.refl w6 (fun x => x = w.heap.size)).set (a := ⟨w.heap.size, 0, none⟩) (.inl rfl) _).set (a := ⟨w.heap.size, 1, none⟩) (.inl rfl) _).set (a := ⟨w.heap.size, 2, none⟩) (.inl rfl) _).set (a := ⟨w.heap.size, 3, none⟩) (.inl rfl) _).drew)
  go_wp2_with fail
  go_region
  go_wp2
  have hZ := (((HZ6.out.set_ 0 (.slice A3 en.length c3)).set_ 1 (.slice A4 tr.length c4)).set_ 2 (.slice A5 sw.length c5)).set_ 3 (.bool hi)
  obtain ⟨y0, y1, y2, y3⟩ := Blk.quad (w := ((((w6.setCell ⟨w.heap.size, 0, none⟩ (.slice A3 en.length c3)).setCell ⟨w.heap.size, 1, none⟩ (.slice A4 tr.length c4)).setCell ⟨w.heap.size, 2, none⟩ (.slice A5 sw.length c5)).setCell ⟨w.heap.size, 3, none⟩ (.bool hi)).drew) hZ
  clear hZ b0 b1 b2 b3 z0 z1 z2 z3
  refine bodyPost_ret (v := .tuple #[.slice A1 ts.length c1, .slice A2 js.length c2, .agg #[.slice A3 en.length c3, .slice A4 tr.length c4, .slice A5 sw.length c5, .bool hi]]) (by simp [results, Try.results32, go_sem, y0, y1, y2, y3]) rfl ?_
  have k1 := ownsRow_kp HO6.out HKP.out (fun x e e2 => by have := (World.ownsRow.lt HO6.out x e).1; omega)
  have k2 := ownsRow_kp HOJ6.out HKP.out (fun x e e2 => by have := (World.ownsRow.lt HOJ6.out x e).1; omega)
  have k3 : OwnZ _ _ _ en := ownsRow_kp HE6.out HKP.out (fun x e e2 => by have := (World.ownsRow.lt HE6.out x e).1; omega)
  have k4 : OwnZ _ _ _ tr := ownsRow_kp HT6.out HKP.out (fun x e e2 => by have := (World.ownsRow.lt HT6.out x e).1; omega)
  have k5 := ownsRow_kp HW6.out HKP.out (fun x e e2 => by have := (World.ownsRow.lt HW6.out x e).1; omega)
  exact ⟨A1, c1, ts, A2, c2, js, A3, c3, en, A4, c4, tr, A5, c5, sw, hi, rfl, htl, hjl, HGT.out, HGJ.out, HDR.out, own_more k1 (by omega), OwnJ.less k2 (by omega), OwnZ.less k3.norm (by omega), OwnZ.less k4.norm (by omega), OwnZ.less (OwnZ.norm k5) (by omega), Below.drew (bl_set (bl_set (bl_set (bl_set HB6.out (by dsimp only; omega) _) (by dsimp only; omega) _) (by dsimp only; omega) _) (by dsimp only; omega) _)⟩

end Go.Proofs.Ytpalcnhceffcmaa
