/- Contract of the reference's draw of jobs. -/
import Derived.Test.YtjondedkgkohfaaSWo
import Derived.Test.YtjondedkgkohfaaSome
import Derived.Test.YtjondedkgkohfaaLit
import Derived.Deep.RegionHeld3
namespace Go.Proofs.Ytjondedkgkohfaa
open Go.RowKit
set_option linter.unusedVariables false

theorem gb_of_below {a b : World} (h : Below a.heap.size a b) : a.grownBy b none := ⟨h.os, h.tape, h.output, h.size, fun k hk _ => h.block k hk⟩
theorem Rd.bel {w w' : World} {B g : Nat} {A : Option Addr} {n c : Nat} {f : Nat → Int} {p : Nat} (h : Rd w B g A n c f p) (hb : Below w.heap.size w w') : Rd w' B g A n c f p := h.grown (gb_of_below hb) (fun k e => by cases e)
theorem Rd.drew5 {w : World} {B g : Nat} {A : Option Addr} {n c : Nat} {f : Nat → Int} {p : Nat} (h : Rd w B g A n c f p) : Rd w.drew B g A n c f p := ⟨h.blk, h.ge, h.len, h.at_, h.byte⟩
theorem gb_drew5 {a w : World} {row : Option Nat} (h : a.grownBy w row) : a.grownBy w.drew row := ⟨h.os, h.tape, h.output, h.size, h.block⟩
theorem gb_bel {a b c : World} {g : Nat} (h : a.grownBy b (some g)) (k : Below b.heap.size b c) : a.grownBy c (some g) := gb_trans h (gb_of_below k) (fun x e => by cases e)
theorem cell_gb {a w : World} {g b i : Nat} (h : a.grownBy w (some g)) (hb : b < a.heap.size) (hne : b ≠ g) : w.cell? ⟨b, i, none⟩ = a.cell? ⟨b, i, none⟩ := by
  have e := h.block b hb (by intro e; injection e with e; exact hne e)
  simp only [World.cell?, e]
theorem cell_set3 (w : World) {h g i : Nat} (hne : h ≠ g) (a b c : Value) : (((w.setCell ⟨g, 0, none⟩ a).setCell ⟨g, 1, none⟩ b).setCell ⟨g, 2, none⟩ c).cell? ⟨h, i, none⟩ = w.cell? ⟨h, i, none⟩ := by
  rw [World.cell?_setCell_other _ _ _ _ (fun e => by injection e with e1; omega), World.cell?_setCell_other _ _ _ _ (fun e => by injection e with e1; omega), World.cell?_setCell_other _ _ _ _ (fun e => by injection e with e1; omega)]
def smallJ (j : Jb) : Prop := (-1 ≤ j.ta ∧ j.ta ≤ 5) ∧ (0 ≤ j.tm ∧ j.tm ≤ 201) ∧ (0 ≤ j.ne ∧ j.ne ≤ 21)
/-- What a draw of jobs leaves. -/
def JsOut (B g : Nat) (A : Option Addr) (n c : Nat) (f : Nat → Int) (p d m : Nat) (w : World) (e : Ending) (w' : World) : Prop :=
  ∃ (g2 c2 : Nat) (js : List Jb) (p' : Nat), e = .returned (.slice (some ⟨g2, 0, none⟩) js.length c2) ∧ js.length ≤ m ∧ (∀ j ∈ js, smallJ j) ∧ p' ≤ p + d ∧ Rd w' B g A n c f p' ∧ w.grownBy w' (some g) ∧ OwnJ w' w.heap.size (.slice (some ⟨g2, 0, none⟩) js.length c2) js
theorem small_jobs {ts : List Tk} {js : List Jb} (h : jobsB ts js = true) : ∀ j ∈ js, smallJ j := fun j hj => by
  have := wrB_iff.1 (jobs_wr (jobs_set h) (jobs_job h hj))
  unfold smallJ; omega
theorem put_ok {ts : List Tk} {js : List Jb} {j : Jb} (h : putB ts js j = true) : jobsB ts (putV ts js j) = true := by
  unfold putV
  rw [h, if_pos rfl]
  unfold putB at h
  simp at h
  exact h.2
theorem set_good {ts : List Tk} (hg : ∀ t ∈ ts, goodTk t) (hl : ts.length ≤ 5) : setB ts = true := by
  unfold setB
  simp only [Bool.and_eq_true, decide_eq_true_iff, List.all_eq_true]
  exact ⟨hl, fun t ht => goodT.valid (hg t ht)⟩
set_option maxRecDepth 100000 in
set_option maxHeartbeats 8000000 in
theorem l6Jobs_any (w : World) (B g : Nat) (A : Option Addr) (n c : Nat) (f : Nat → Int) (p : Nat) (hr : Rd w B g A n c f p) (hp : p ≤ 1000) (B1 : Nat) (A1 : Option Addr) (c1 : Nat) (ts : List Tk) (ho : Own w B1 (.slice A1 ts.length c1) ts) (hB1 : g < B1) (hg : ∀ t ∈ ts, goodTk t) (hl : ts.length ≤ 5) :
    Calls Try.prog 86 #[.pointer (some ⟨g, 0, none⟩), .slice A1 ts.length c1] w (JsOut B g A n c f p 200 60 w) := by
  obtain ⟨i0, hi, hz0, hz1, hz2⟩ := info_parts info_job
  have HR := Lib.hid hr
  have HO := Lib.hid ho
  have HGD := Lib.hid hg
  have HSB := Lib.hid (set_good hg hl)
  have hgl := hr.lt
  have hBg := hr.ge
  obtain ⟨m, hm⟩ : ∃ m, ts.length = m := ⟨_, rfl⟩
  have HM := Lib.hid hm
  clear hr ho hg
  rw [hm] at HO hl ⊢
  clear hm
  go_enter Try.func86, Try.ntmps86
  go_wp2_with fail
  refine (pick_any _ B g A n c f p 3 (HR.out.alloc _) (by omega) (by omega)).mono ?_
  rintro e w1 ⟨y, rfl, y0, _, _, hr1, hgb1⟩
  have HR1 := Lib.hid hr1
  have HG1 := Lib.hid (gb_trans (gb_alloc (World.grownBy.refl w (some g)) _) hgb1 (fun x e => .inl (by injection e with e; exact e.symm)))
  have HO1 := Lib.hid ((HO.out.alloc (.cells #[] 35)).kept hgb1 (fun k e => by injection e with e; omega))
  have HJ1 := Lib.hid ((OwnJ.empty w).kept hgb1 (fun k e => by injection e with e; omega))
  have hs1 : w.heap.size ≤ w1.heap.size := HG1.out.size
  clear hr1 hgb1
  by_cases hy : y = 0
  · subst hy
    go_wp2_with fail
    refine (num_any _ B g A n c f (p + 1) _ 4 5 40 (HR1.out.alloc _) (by omega) (by omega) (by omega) (by simp; omega) ?_).mono ?_
    · exact lit_cells_at _ _ _ _ _ _ (by simp) (fun i hi => by rcases (by omega : i = 0 ∨ i = 1 ∨ i = 2 ∨ i = 3) with rfl | rfl | rfl | rfl <;> exact ⟨_, rfl, by decide, by decide⟩)
    rintro e w2 ⟨u, rfl, hu0, hu1, hr2, hgb2⟩
    have HR2 := Lib.hid hr2
    have HG2 := Lib.hid (gb_trans (gb_alloc HG1.out _) hgb2 (fun x e => .inl (by injection e with e; exact e.symm)))
    have HO2 := Lib.hid ((HO1.out.alloc _).kept hgb2 (fun k e => by injection e with e; omega))
    clear hr2 hgb2
    go_wp2_with fail
    refine (pick_any _ B g A n c f (p + 1 + 1) 2 HR2.out (by omega) (by omega)).mono ?_
    rintro e w3 ⟨z, rfl, z0, _, _, hr3, hgb3⟩
    have HR3 := Lib.hid hr3
    have HG3 := Lib.hid (gb_trans HG2.out hgb3 (fun x e => .inl (by injection e with e; exact e.symm)))
    have HO3 := Lib.hid (HO2.out.kept hgb3 (fun k e => by injection e with e; omega))
    clear hr3 hgb3
    obtain ⟨bz, hbz⟩ : ∃ b, (z == 0) = b := ⟨_, rfl⟩
    obtain ⟨bw, hbw⟩ : ∃ b, worstB ts u bz = b := ⟨_, rfl⟩
    have HBW := Lib.hid hbw
    clear hbw
    go_wp2_with fail
    refine (sWorst_is _ A1 m c1 ts HO3.out.reads.2 (by omega) u bz bw HBW.out).mono ?_
    rintro e w4 ⟨g4, c4, rfl, ho4, hb4⟩
    have HR4 := Lib.hid (HR3.out.bel hb4)
    have HG4 := Lib.hid (gb_bel HG3.out hb4)
    have HO4 := Lib.hid (ho4.less (HG3.out.size))
    have HSM := Lib.hid (show (worstV ts u bz).length ≤ 60 ∧ ∀ j ∈ worstV ts u bz, smallJ j by
      unfold worstV
      cases hh : worstB ts u bz
      · simp
      · have hj := worst_jobs hh
        exact ⟨jobs_len hj, small_jobs hj⟩)
    clear hb4 ho4
    go_wp2
    go_ret
    exact ⟨g4, c4, worstV ts u bz, p + 1 + 1 + 1, rfl, HSM.out.1, HSM.out.2, by omega, HR4.out, HG4.out, HO4.out⟩
  have hy0 : (y == 0) = false := by simp; exact hy
  go_wp2_with fail
  refine (num_any _ B g A n c f (p + 1) _ 6 0 20 (HR1.out.alloc _) (by omega) (by omega) (by omega) (by simp; omega) ?_).mono ?_
  · exact lit_cells_at _ _ _ _ _ _ (by simp) (fun i hi => by rcases (by omega : i = 0 ∨ i = 1 ∨ i = 2 ∨ i = 3 ∨ i = 4 ∨ i = 5) with rfl | rfl | rfl | rfl | rfl | rfl <;> exact ⟨_, rfl, by decide, by decide⟩)
  rintro e w2 ⟨u, rfl, hu0, hu1, hr2, hgb2⟩
  have HR2 := Lib.hid hr2
  have HG2 := Lib.hid (gb_trans (gb_alloc HG1.out _) hgb2 (fun x e => .inl (by injection e with e; exact e.symm)))
  have HO2 := Lib.hid ((HO1.out.alloc _).kept hgb2 (fun k e => by injection e with e; omega))
  have HJ2 := Lib.hid ((HJ1.out.alloc _).kept hgb2 (fun k e => by injection e with e; omega))
  clear hr2 hgb2
  obtain ⟨U, rfl⟩ : ∃ U : Nat, u = (U : Int) := ⟨u.toNat, by omega⟩
  clear hu0
  go_wp2
  go_loopw [5, 6] (fun v i wr => ∃ (q g3 c3 p' : Nat) (js : List Jb), q ≤ 20 ∧ i = .int .i64 q ∧ v = .slice (some ⟨g3, 0, none⟩) js.length c3 ∧ p' + 3 * q ≤ p + 2 + 60 ∧ js.length ≤ 60 ∧ Hid (jobsB ts js = true) ∧ Hid (OwnJ wr w.heap.size v js) ∧ Hid (Own wr B1 (.slice A1 m c1) ts) ∧ Hid (Rd wr B g A n c f p') ∧ Hid (w.grownBy wr (some g))) (fun _ i _ => (intOf i).toNat)
  case atStart => exact ⟨U, w.heap.size, 0, p + 1 + 1, [], by omega, rfl, rfl, by omega, by simp, Lib.hid (jobs_parts.2 ⟨HSB.out, by simp, rfl, rfl⟩), HJ2, HO2, HR2, HG2⟩
  case round =>
    obtain ⟨q, g3, c3, p', js, hq, rfl, rfl, hp', hjl, HJB, HJ, HL, HRd, HG⟩ := hrel
    obtain ⟨w4, hw4⟩ : ∃ W, W = wr := ⟨_, rfl⟩
    subst hw4
    have hs4 : w.heap.size ≤ w4.heap.size := HG.out.size
    clear HR1 HG1 HO1 HJ1 HR2 HG2 HO2 HJ2
    by_cases hq0 : q = 0
    · subst hq0
      go_wp2
      go_ret
      exact ⟨g3, c3, js, p', rfl, hjl, small_jobs HJB.out, by omega, HRd.out, HG.out, HJ.out⟩
    have q0 : (0 : Int) < (q : Int) := by omega
    have q00 : 0 < q := by omega
    by_cases hm0 : m = 0
    · subst hm0
      go_wp2
      go_ret
      exact ⟨g3, c3, js, p', rfl, hjl, small_jobs HJB.out, by omega, HRd.out, HG.out, HJ.out⟩
    have m0 : (0 : Int) < (m : Int) := by omega
    have m00 : 0 < m := by omega
    go_wp2_with fail
    refine (pick_any _ B g A n c f p' (m : Int) HRd.out (by omega) (by omega)).mono ?_
    rintro e w5 ⟨xx, rfl, x0, x1, _, hr5, hgb5⟩
    have hx1 := x1 (by omega)
    obtain ⟨x, rfl⟩ : ∃ x : Nat, xx = (x : Int) := ⟨xx.toNat, by omega⟩
    have hxm : x < m := by omega
    have HR5 := Lib.hid hr5
    have HGW := Lib.hid (gb_trans HG.out hgb5 (fun x e => .inl (by injection e with e; exact e.symm)))
    have HL5 := Lib.hid (HL.out.kept hgb5 (fun k e => by injection e with e; omega))
    have HJ5 := Lib.hid (HJ.out.kept hgb5 (fun k e => by injection e with e; omega))
    have hs5 : w.heap.size ≤ w5.heap.size := HGW.out.size
    clear hr5 hgb5 x1 HRd HG HL HJ
    obtain ⟨t, ht⟩ : ∃ t, ts[x]? = some t := ⟨ts[x]'(by rw [HM.out]; exact hxm), List.getElem?_eq_getElem _⟩
    have hgd := HGD.out t (List.mem_of_getElem? ht)
    have hbnd : 1 ≤ t.hi ∧ t.hi ≤ 20 := by unfold goodTk goodT at hgd; omega
    obtain ⟨bt, ot, hA1, hbt5, d0, d1, d2, d3, d4⟩ := HL5.out.reads.2.at_ x t ht
    have hotz : ot = 0 ∧ B1 ≤ bt := by
      rcases HL5.out.2 with ⟨e, h0⟩ | ⟨gg, cap, cur, e, hbb, _⟩
      · exfalso; have := HM.out; omega
      · injection e with e1 e2 e3
        rw [hA1] at e1
        injection e1 with e1
        injection e1 with e1 e2
        exact ⟨e2, by omega⟩
    obtain ⟨rfl, hbB⟩ := hotz
    have hbtg : bt ≠ g := by omega
    rw [Nat.zero_add] at d1
    obtain ⟨lo, hi', du, ev, cr⟩ := t
    dsimp only at d1 hbnd
    have hS5 := d1
    have x2 : (x : Int) < (m : Int) := by omega
    clear hgd d0 d1 d2 d3 d4 ht
    subst hA1
    go_wp2_with fail
    have hS5d : w5.drew.cell? ⟨bt, x * 5 + 1, none⟩ = some (.int .i64 hi') := hS5
    have hS5a : ∀ o : Obj, (w5.alloc o).drew.cell? ⟨bt, x * 5 + 1, none⟩ = some (.int .i64 hi') := fun o => (World.cell?_alloc_lt w5 o ⟨bt, x * 5 + 1, none⟩ hbt5).trans hS5
    have hbt5d : (⟨bt, x * 5 + 1, none⟩ : Addr).block < w5.drew.heap.size := hbt5
    go_region_held3 (fun W => W.cell? ⟨bt, x * 5 + 1, none⟩ = some (.int .i64 hi')) (first | with_reducible exact hS5d | with_reducible exact hS5 | with_reducible exact hS5a _ | with_reducible exact hS6 | with_reducible exact hS7 | with_reducible exact (World.cell?_alloc_lt _ _ ⟨bt, x * 5 + 1, none⟩ hbt5d).trans hS5d | with_reducible exact (World.cell?_alloc_lt w6 _ ⟨bt, x * 5 + 1, none⟩ (show bt < w6.heap.size from Nat.lt_of_lt_of_le hbt5 HG6.out.size)).trans hS6 | with_reducible exact (World.cell?_alloc_lt w7 _ ⟨bt, x * 5 + 1, none⟩ (show bt < w7.heap.size from Nat.lt_of_lt_of_le hbt5 HG7.out.size)).trans hS7 | with_reducible exact (cell_set3 w7 (show bt ≠ w5.heap.size from Nat.ne_of_lt hbt5) _ _ _).trans hS7 | with_reducible exact (cell_set3 w7 (show bt ≠ w6.heap.size from Nat.ne_of_lt (Nat.lt_of_lt_of_le hbt5 HG6.out.size)) _ _ _).trans hS7 | with_reducible exact (cell_set3 w7 (show bt ≠ w5.drew.heap.size from Nat.ne_of_lt hbt5) _ _ _).trans hS7)
      ((first
        | (have uu := HR6; clear uu; go_at_call 64; refine (pick_any _ B g A n c f (p' + 1 + 1) hi' (by repeat (first | exact HR6.out | refine Rd.alloc ?_ _ | refine Rd.drew5 ?_)) (by omega) (by omega)).mono ?_; rintro e w7 ⟨y2, rfl, y20, y21, _, hr, hgb⟩; have HR7 := Lib.hid hr; have HG7 := Lib.hid (show w5.grownBy w7 (some g) from gb_trans (by repeat (first | exact HG6.out | refine gb_alloc ?_ _ | refine gb_drew5 ?_)) hgb (fun x e => .inl (by injection e with e; exact e.symm))); have hS7 := (cell_gb HG7.out hbt5 hbtg (i := x * 5 + 1)).trans hS5; (first | (have bC := Lib.hid (Blk.grown bC.out hgb (by intro e; injection e; omega))) | (have bC := Lib.hid (Blk.grown (show Blk _ w6.heap.size 35 #[.int .i64 0, .int .i64 0, .int .i64 0] from by have hh := Blk.new w6 35 #[.int .i64 0, .int .i64 0, .int .i64 0]; exact hh) hgb (by intro e; injection e; have := HR6.out.lt; omega))) | skip); (first | (have cC := bC.out.cell; have fC := bC.out.frozen) | skip); have hy2 := y21 (by omega); have kw : IntKind.i64.wrap (1 + y2) = 1 + y2 := IntWalk.i64_in _ (by omega); clear hr hgb)
        | (have uu := HR5; clear uu; go_at_call 64; refine (pick_any _ B g A n c f (p' + 1) 30 (by repeat (first | exact HR5.out | refine Rd.alloc ?_ _ | refine Rd.drew5 ?_)) (by omega) (by omega)).mono ?_; rintro e w6 ⟨y1, rfl, y10, y11, _, hr, hgb⟩; have HR6 := Lib.hid hr; have HG6 := Lib.hid (show w5.grownBy w6 (some g) from gb_trans (by repeat (first | exact World.grownBy.refl w5 _ | refine gb_alloc ?_ _ | refine gb_drew5 ?_)) hgb (fun x e => .inl (by injection e with e; exact e.symm))); have hS6 := (cell_gb HG6.out hbt5 hbtg (i := x * 5 + 1)).trans hS5; (first | (have bC := Lib.hid (Blk.grown bC.out hgb (by intro e; injection e; omega))) | (have bC := Lib.hid (Blk.grown (show Blk _ w5.heap.size 35 #[.int .i64 0, .int .i64 0, .int .i64 0] from by have hh := Blk.new w5 35 #[.int .i64 0, .int .i64 0, .int .i64 0]; exact hh) hgb (by intro e; injection e; have := HR5.out.lt; omega))) | skip); (first | (have cC := bC.out.cell; have fC := bC.out.frozen) | skip); have hy1 := y11 (by omega); clear hr hgb)))
    all_goals first
      | (have bJ := Lib.hid (show Blk (((w7.setCell ⟨w6.heap.size, 0, none⟩ (.int .i64 (x : Int))).setCell ⟨w6.heap.size, 1, none⟩ (.int .i64 y1)).setCell ⟨w6.heap.size, 2, none⟩ (.int .i64 (1 + y2))) (w6.heap.size) 35 #[.int .i64 (x : Int), .int .i64 y1, .int .i64 (1 + y2)] from ((bC.out.set_ 0 _).set_ 1 _).set_ 2 _); have GB := Lib.hid (show w5.grownBy (((w7.setCell ⟨w6.heap.size, 0, none⟩ (.int .i64 (x : Int))).setCell ⟨w6.heap.size, 1, none⟩ (.int .i64 y1)).setCell ⟨w6.heap.size, 2, none⟩ (.int .i64 (1 + y2))) (some g) from gb_set (gb_set (gb_set HG7.out (.inr HG6.out.size) _) (.inr HG6.out.size) _) (.inr HG6.out.size) _); have RD := Lib.hid (show Rd (((w7.setCell ⟨w6.heap.size, 0, none⟩ (.int .i64 (x : Int))).setCell ⟨w6.heap.size, 1, none⟩ (.int .i64 y1)).setCell ⟨w6.heap.size, 2, none⟩ (.int .i64 (1 + y2))) B g A n c f (p' + 1 + 1 + 1) from Rd.set (Rd.set (Rd.set HR7.out (by dsimp only; have := HG6.out.size; omega) (by dsimp only; have := HG6.out.size; have := HR5.out.lt; omega) _) (by dsimp only; have := HG6.out.size; omega) (by dsimp only; have := HG6.out.size; have := HR5.out.lt; omega) _) (by dsimp only; have := HG6.out.size; omega) (by dsimp only; have := HG6.out.size; have := HR5.out.lt; omega) _); have hav : w5.heap.size ≤ w6.heap.size := HG6.out.size; (try clear bC cC fC); clear HR6 HG6 HR7 HG7 hS6 hS7; generalize (((w7.setCell ⟨w6.heap.size, 0, none⟩ (.int .i64 (x : Int))).setCell ⟨w6.heap.size, 1, none⟩ (.int .i64 y1)).setCell ⟨w6.heap.size, 2, none⟩ (.int .i64 (1 + y2))) = w8 at *; generalize w6.heap.size = av at *)
      | (have bJ := Lib.hid (show Blk (((w7.setCell ⟨w5.heap.size, 0, none⟩ (.int .i64 (x : Int))).setCell ⟨w5.heap.size, 1, none⟩ (.int .i64 y1)).setCell ⟨w5.heap.size, 2, none⟩ (.int .i64 (1 + y2))) (w5.heap.size) 35 #[.int .i64 (x : Int), .int .i64 y1, .int .i64 (1 + y2)] from ((bC.out.set_ 0 _).set_ 1 _).set_ 2 _); have GB := Lib.hid (show w5.grownBy (((w7.setCell ⟨w5.heap.size, 0, none⟩ (.int .i64 (x : Int))).setCell ⟨w5.heap.size, 1, none⟩ (.int .i64 y1)).setCell ⟨w5.heap.size, 2, none⟩ (.int .i64 (1 + y2))) (some g) from gb_set (gb_set (gb_set HG7.out (.inr (Nat.le_refl _)) _) (.inr (Nat.le_refl _)) _) (.inr (Nat.le_refl _)) _); have RD := Lib.hid (show Rd (((w7.setCell ⟨w5.heap.size, 0, none⟩ (.int .i64 (x : Int))).setCell ⟨w5.heap.size, 1, none⟩ (.int .i64 y1)).setCell ⟨w5.heap.size, 2, none⟩ (.int .i64 (1 + y2))) B g A n c f (p' + 1 + 1 + 1) from Rd.set (Rd.set (Rd.set HR7.out (by dsimp only; have := HG6.out.size; omega) (by dsimp only; have := HG6.out.size; have := HR5.out.lt; omega) _) (by dsimp only; have := HG6.out.size; omega) (by dsimp only; have := HG6.out.size; have := HR5.out.lt; omega) _) (by dsimp only; have := HG6.out.size; omega) (by dsimp only; have := HG6.out.size; have := HR5.out.lt; omega) _); have hav : w5.heap.size ≤ w5.heap.size := (Nat.le_refl _); (try clear bC cC fC); clear HR6 HG6 HR7 HG7 hS6 hS7; generalize (((w7.setCell ⟨w5.heap.size, 0, none⟩ (.int .i64 (x : Int))).setCell ⟨w5.heap.size, 1, none⟩ (.int .i64 y1)).setCell ⟨w5.heap.size, 2, none⟩ (.int .i64 (1 + y2))) = w8 at *; generalize w5.heap.size = av at *)
      | (have bJ := Lib.hid (show Blk (w7.alloc (.cells #[.int .i64 (x : Int), .int .i64 y1, .int .i64 (1 + y2)] 35)) (w7.heap.size) 35 #[.int .i64 (x : Int), .int .i64 y1, .int .i64 (1 + y2)] from Blk.new w7 _ _); have GB := Lib.hid (show w5.grownBy (w7.alloc (.cells #[.int .i64 (x : Int), .int .i64 y1, .int .i64 (1 + y2)] 35)) (some g) from gb_alloc HG7.out _); have RD := Lib.hid (show Rd (w7.alloc (.cells #[.int .i64 (x : Int), .int .i64 y1, .int .i64 (1 + y2)] 35)) B g A n c f (p' + 1 + 1 + 1) from HR7.out.alloc _); have hav : w5.heap.size ≤ w7.heap.size := HG7.out.size; (try clear bC cC fC); clear HR6 HG6 HR7 HG7 hS6 hS7; generalize (w7.alloc (.cells #[.int .i64 (x : Int), .int .i64 y1, .int .i64 (1 + y2)] 35)) = w8 at *; generalize w7.heap.size = av at *)
    all_goals (
      have cj := bJ.out.cell
      have HL8 := Lib.hid (HL5.out.kept GB.out (fun k e => by injection e with e; omega))
      have HJ8 := Lib.hid (HJ5.out.kept GB.out (fun k e => by injection e with e; omega))
      have HG8 := Lib.hid (gb_trans HGW.out GB.out (fun x e => .inl (by injection e with e; exact e.symm)))
      have hle8 := HJ8.out.le
      have hs8 : w.heap.size ≤ w8.heap.size := HG8.out.size
      clear HL5 HJ5 HGW GB HR5 hS5 hS5d hS5a hbt5d)
    all_goals obtain ⟨pb, hpb⟩ : ∃ b, putB ts js ⟨(x : Int), y1, 1 + y2⟩ = b := ⟨_, rfl⟩
    all_goals have HPB := Lib.hid hpb
    all_goals clear hpb
    all_goals go_wp2_with fail
    all_goals refine (sPut_is _ (some ⟨bt, 0, none⟩) m c1 ts (HL8.out.reads.2) (by omega) g3 0 js.length c3 js (HJ8.out.reads.2) hle8 ⟨(x : Int), y1, 1 + y2⟩ pb HPB.out).mono ?_
    all_goals rintro e w9 ⟨g4, c4, rfl, ho9, hb9⟩
    all_goals have HO9 := Lib.hid (ho9.less hs8)
    all_goals have HJ9 := Lib.hid (HJ8.out.below hb9)
    all_goals have HL9 := Lib.hid (HL8.out.below hb9)
    all_goals have RD9 := Lib.hid (RD.out.bel hb9)
    all_goals have HG9 := Lib.hid (gb_bel HG8.out hb9)
    all_goals clear ho9 hb9 cj
    all_goals cases pb
    all_goals (
      go_wp2
      go_roundw
      case rel =>
        first
        | exact ⟨q - 1, g4, c4, p' + 1 + 1 + 1, putV ts js ⟨(x : Int), y1, 1 + y2⟩, by omega, by go_num, rfl, by omega, jobs_len (put_ok HPB.out), Lib.hid (put_ok HPB.out), HO9, HL9, RD9, HG9⟩
        | exact ⟨q - 1, g3, c3, p' + 1 + 1 + 1, js, by omega, by go_num, rfl, by omega, hjl, HJB, HJ9, HL9, RD9, HG9⟩
      case measure => simp [intOf]; omega)

end Go.Proofs.Ytjondedkgkohfaa
