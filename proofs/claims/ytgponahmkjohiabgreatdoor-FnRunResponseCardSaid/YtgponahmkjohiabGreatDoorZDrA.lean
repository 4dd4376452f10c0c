import Derived.Test.YtgponahmkjohiabGreatDoorZDr7
import Derived.Test.YtgponahmkjohiabGreatDoorZNH
import Derived.Test.YtgponahmkjohiabGreatDoorZNG
namespace Go.Proofs.YtgponahmkjohiabGreatDoor
open Go.RowKit
set_option linter.unusedVariables false
theorem Code.belA {w w' : World} {A : Option Addr} {n c : Nat} {f : Nat → Int} (h : Code w w.heap.size A n c f) (hb : Below w.heap.size w w') : Code w' w'.heap.size A n c f :=
  ⟨h.le, h.max, fun i hi => by
    obtain ⟨b, o, e, hlt, hc⟩ := h.at_ i hi
    refine ⟨b, o, e, Nat.lt_of_lt_of_le hlt hb.size, ?_⟩
    have e2 := hb.block b hlt
    rw [← hc]
    simp only [World.cell?, e2], h.byte⟩
theorem sameR_self (en tr sw : List Int) (hi : Bool) : sameR en tr sw hi en tr sw hi = true := by unfold sameR; simp
theorem runR_len10 (ts : List Tk) (js : List Jb) (pol tk : Int) (hj : js.length ≤ 61) : (runR ts js pol tk).en.length ≤ 61 ∧ (runR ts js pol tk).tr.length ≤ 200 ∧ (runR ts js pol tk).sw.length ≤ 200 := by
  cases h : okR ts js pol tk
  · rw [runR_no h]; exact ⟨Nat.zero_le _, Nat.zero_le _, Nat.zero_le _⟩
  · rw [runR_ok h]
    have hk := okR_iff.1 h
    have hv := hk.1
    have i := (run_at (p := poOf ts pol) hv tk.toNat).1
    have a := i.enl
    have b := tr_len (p := poOf ts pol) hv tk.toNat
    have c := sw_len i (by omega)
    omega
/-- What a draw of the arguments of RunJobs leaves. -/
def DrewRJ (w : World) (e : Ending) (w' : World) : Prop :=
  ∃ (A1 : Option Addr) (c1 : Nat) (ts : List Tk) (A2 : Option Addr) (c2 : Nat) (js : List Jb) (pol tk : Int), e = .returned (.tuple #[.slice A1 ts.length c1, .slice A2 js.length c2, .int .i64 pol, .int .i64 tk]) ∧ ts.length ≤ 5 ∧ js.length ≤ 61 ∧ -1 ≤ pol ∧ pol ≤ 2 ∧ -1 ≤ tk ∧ tk ≤ 201 ∧
    Own w' w.heap.size (.slice A1 ts.length c1) ts ∧ OwnJ w' w.heap.size (.slice A2 js.length c2) js ∧ Below w.heap.size w w'
set_option maxRecDepth 100000 in
set_option maxHeartbeats 8000000 in
theorem dDrawRun_any (w : World) (A : Option Addr) (n c : Nat) (f : Nat → Int) (h : Code w w.heap.size A n c f) :
    Calls Tryz.prog 12 #[.slice A n c] w (DrewRJ w) := by
  have H := Lib.hid h
  clear h
  go_enter Tryz.func12, Tryz.ntmps12
  go_wp2_with fail
  refine (open_any _ A n c f H.out).mono ?_
  rintro e w1 ⟨rfl, n', hr, hb⟩
  have HRd1 := Lib.hid hr
  have HB1 : Hid (Below w.heap.size w w1) := Lib.hid hb
  have hg1 : w.heap.size < w1.heap.size := HRd1.out.lt
  clear hr hb
  go_wp2_with fail
  refine (l7Draw_any _ w.heap.size w.heap.size A n' c f 0 HRd1.out (by omega)).mono ?_
  rintro e w2 ⟨A1, c1, ts, A2, c2, js, pol, p2, rfl, htl, hjl, hgt, hgj, hpol, hp2, hr, hgb, ho, hoj⟩
  have hs2 : w1.heap.size ≤ w2.heap.size := hgb.size
  have HRd2 := Lib.hid hr
  have HB2 : Hid (Below w.heap.size w w2) := Lib.hid (HB1.out.grown hgb (by omega) (fun x e => by injection e with e; omega))
  have HO2 := Lib.hid ho
  have HOJ2 := Lib.hid hoj
  clear hr hgb ho hoj hgt hgj
  go_wp2_with fail
  refine (pick_any _ w.heap.size w.heap.size A n' c f p2 12 HRd2.out (by omega) (by omega)).mono ?_
  rintro e w3 ⟨y, rfl, y0, y1, _, hr, hgb⟩
  have hs3 : w2.heap.size ≤ w3.heap.size := hgb.size
  have HRd3 := Lib.hid hr
  have HB3 : Hid (Below w.heap.size w w3) := Lib.hid (HB2.out.grown hgb (by omega) (fun x e => by injection e with e; omega))
  have HO3 : Hid (Own w3 w1.heap.size (.slice A1 ts.length c1) ts) := Lib.hid (HO2.out.keptUp hgb (by omega))
  have HOJ3 : Hid (OwnJ w3 w1.heap.size (.slice A2 js.length c2) js) := Lib.hid (HOJ2.out.kept hgb (fun k e => by injection e with e; omega))
  clear hr hgb y1 HRd2 HB2 HO2 HOJ2
  by_cases hy : y = 0
  · subst hy
    have t1 : ((0 : Int) == 0) = true := rfl
    clear HO3 HOJ3
    go_wp2_with fail
    refine (l6Case_any _ A n c f (Code.belA H.out HB3.out)).mono ?_
    rintro e w4 ⟨B1, d1, us, g2, d2, ks, rfl, hul, hus, hkl, hks, hou, hok, hb4⟩
    have hs4 := hb4.size
    have HRd4 := Lib.hid (HRd3.out.bel hb4)
    have HB4 : Hid (Below w.heap.size w w4) := Lib.hid (HB3.out.trans (hb4.mono (by omega)))
    have HO4 := Lib.hid hou
    have HOJ4 := Lib.hid hok
    clear hus hks hou hok hb4
    go_wp2_with fail
    refine (num_any _ w.heap.size w.heap.size A n' c f (p2 + 1) _ 4 (-1) 2 (HRd4.out.alloc _) (by omega) (by omega) (by omega) (by (try simp); omega) (lit_cells_at _ _ _ _ _ _ (by first | rfl | simp) (fun i hi => by rcases (by omega : i = 0 ∨ i = 1 ∨ i = 2 ∨ i = 3) with rfl | rfl | rfl | rfl <;> exact ⟨_, rfl, by decide, by decide⟩))).mono ?_
    rintro e w5 ⟨pol5, rfl, o0, o1, hr, hgb⟩
    have hs5 : w4.heap.size ≤ w5.heap.size := by have := hgb.size; simp at this; omega
    have HG5 : Hid (w4.grownBy w5 (some w.heap.size)) := Lib.hid (gb_trans (gb_alloc (World.grownBy.refl w4 _) _) hgb (fun x e => .inl (by injection e with e; exact e.symm)))
    have HRd5 := Lib.hid hr
    have HO5 : Hid (Own w5 w3.heap.size (.slice B1 us.length d1) us) := Lib.hid (HO4.out.keptUp HG5.out (by omega))
    have HOJ5 : Hid (OwnJ w5 w3.heap.size (.slice (some ⟨g2, 0, none⟩) ks.length d2) ks) := Lib.hid (HOJ4.out.kept HG5.out (fun k e => by injection e with e; omega))
    have HB5 : Hid (Below w.heap.size w w5) := Lib.hid (HB4.out.grown HG5.out (by omega) (fun x e => by injection e with e; omega))
    clear hr hgb
    go_wp2_with fail
    refine (num_any _ w.heap.size w.heap.size A n' c f (p2 + 1 + 1) _ 7 (-1) 201 (HRd5.out.alloc _) (by omega) (by omega) (by omega) (by (try simp); omega) (lit_cells_at _ _ _ _ _ _ (by first | rfl | simp) (fun i hi => by rcases (by omega : i = 0 ∨ i = 1 ∨ i = 2 ∨ i = 3 ∨ i = 4 ∨ i = 5 ∨ i = 6) with rfl | rfl | rfl | rfl | rfl | rfl | rfl <;> exact ⟨_, rfl, by decide, by decide⟩))).mono ?_
    rintro e w6 ⟨tk, rfl, k0, k1, hr, hgb⟩
    have HG6 : Hid (w5.grownBy w6 (some w.heap.size)) := Lib.hid (gb_trans (gb_alloc (World.grownBy.refl w5 _) _) hgb (fun x e => .inl (by injection e with e; exact e.symm)))
    have HX : Hid (DrewRJ w (.returned (.tuple #[.slice B1 us.length d1, .slice (some ⟨g2, 0, none⟩) ks.length d2, .int .i64 pol5, .int .i64 tk])) w6) := Lib.hid ⟨B1, d1, us, _, d2, ks, pol5, tk, rfl, hul, hkl, o0, o1, k0, k1, own_more (HO5.out.keptUp HG6.out (by omega)) (by omega), (HOJ5.out.kept HG6.out (fun k e => by injection e with e; omega)).less (by omega), HB5.out.grown HG6.out (by omega) (fun x e => by injection e with e; omega)⟩
    clear hr hgb
    go_wp2
    refine bodyPost_ret (v := .tuple #[.slice B1 us.length d1, .slice (some ⟨g2, 0, none⟩) ks.length d2, .int .i64 pol5, .int .i64 tk]) (by simp [results, Tryz.results12, go_sem]) rfl HX.out
  · have t1 : (y == 0) = false := by rw [beq_eq_false_iff_ne]; exact hy
    have HY := Lib.hid hy
    clear hy
    have hpb : -1 ≤ pol ∧ pol ≤ 2 := by omega
    have HPB := Lib.hid hpb
    clear hpol hpb
    go_wp2_with fail
    refine (num_any _ w.heap.size w.heap.size A n' c f (p2 + 1) _ 7 (-1) 201 (HRd3.out.alloc _) (by omega) (by omega) (by omega) (by (try simp); omega) (lit_cells_at _ _ _ _ _ _ (by first | rfl | simp) (fun i hi => by rcases (by omega : i = 0 ∨ i = 1 ∨ i = 2 ∨ i = 3 ∨ i = 4 ∨ i = 5 ∨ i = 6) with rfl | rfl | rfl | rfl | rfl | rfl | rfl <;> exact ⟨_, rfl, by decide, by decide⟩))).mono ?_
    rintro e w6 ⟨tk, rfl, k0, k1, hr, hgb⟩
    have HG6 : Hid (w3.grownBy w6 (some w.heap.size)) := Lib.hid (gb_trans (gb_alloc (World.grownBy.refl w3 _) _) hgb (fun x e => .inl (by injection e with e; exact e.symm)))
    have HX : Hid (DrewRJ w (.returned (.tuple #[.slice A1 ts.length c1, .slice A2 js.length c2, .int .i64 pol, .int .i64 tk])) w6) := Lib.hid ⟨A1, c1, ts, A2, c2, js, pol, tk, rfl, htl, by omega, HPB.out.1, HPB.out.2, k0, k1, own_more (HO3.out.keptUp HG6.out (by omega)) (by omega), (HOJ3.out.kept HG6.out (fun k e => by injection e with e; omega)).less (by omega), HB3.out.grown HG6.out (by omega) (fun x e => by injection e with e; omega)⟩
    clear hr hgb
    go_wp2
    refine bodyPost_ret (v := .tuple #[.slice A1 ts.length c1, .slice A2 js.length c2, .int .i64 pol, .int .i64 tk]) (by simp [results, Tryz.results12, go_sem]) rfl HX.out
end Go.Proofs.YtgponahmkjohiabGreatDoor
