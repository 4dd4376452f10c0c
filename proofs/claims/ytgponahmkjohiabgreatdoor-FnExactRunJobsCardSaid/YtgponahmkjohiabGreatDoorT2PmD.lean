import Derived.RegionTactic
import Derived.ChangeAlike
import Derived.Test.YtgponahmkjohiabGreatDoorT2PmC
namespace Go.Proofs.YtgponahmkjohiabGreatDoor
open Go.RowKit
set_option linter.unusedVariables false
set_option maxRecDepth 100000 in
set_option maxHeartbeats 4000000 in
theorem iTaskOf_is (w : World) (B M : Nat) (p : Pm) (A : Option Addr) (n c : Nat) (ts : List Tk) (Aj : Option Addr) (nj cj : Nat) (js : List Jb) (hB : B ≤ w.heap.size) (hT : Tks w B A n ts) (hJ : Jbs w B Aj nj js) (hp : PAt w M p) (hL : p.L = .slice A n c) (hJv : p.J = .slice Aj nj cj) (hv : jobsB ts js = true) (k : Nat) (hk : k < js.length) :
    Calls Tryz.prog 140 #[.pointer (some ⟨M, 0, none⟩), .int .i64 (k : Int)] w fun e w' => e = .returned (tkV (tkJ ts js k)) ∧ Below w.heap.size w w' := by
  obtain ⟨j1, j2, j3, j4, j5, j6, j7, j8⟩ := job_ok hv hk
  obtain ⟨bj, oj, rfl, hbj, hja⟩ := hJ.at_ k _ (job_get hk)
  obtain ⟨q, hq⟩ := Int.eq_ofNat_of_zero_le j4
  have hql : q < ts.length := by omega
  obtain ⟨t, ht⟩ : ∃ t, ts[q]? = some t := ⟨ts[q], List.getElem?_eq_getElem _⟩
  have etk : tkJ ts js k = t := by unfold tkJ; rw [hq]; exact tkOf_get ht
  obtain ⟨bt, ot, rfl, hbt, hta⟩ := hT.at_ q t ht
  have hkn : k < nj := by have := hJ.len; omega
  have hqn : q < n := by have := hT.len; omega
  obtain ⟨lo, hh, du, ev, cr⟩ := t
  obtain ⟨W1, hW1⟩ : ∃ W1, w.alloc (.cells #[.int .i64 0, .int .i64 0, .int .i64 0, .int .i64 0, .bool false] 43) = W1 := ⟨_, rfl⟩
  have hb1 : Below w.heap.size w W1 := hW1 ▸ bl_alloc (Below.refl _ _) _
  have hN : Blk W1 w.heap.size 43 #[.int .i64 0, .int .i64 0, .int .i64 0, .int .i64 0, .bool false] := hW1 ▸ Blk.new w _ _
  have hp1 := hp.bel hb1
  have c0 : W1.cell? ⟨M, 0, none⟩ = some (.slice (some ⟨bt, ot, none⟩) n c) := by rw [hp1.c0, hL]
  have c1 : W1.cell? ⟨M, 1, none⟩ = some (.slice (some ⟨bj, oj, none⟩) nj cj) := by rw [hp1.c1, hJv]
  have hja1 := hja.keep (w' := W1) (fun i => hb1.cell (p := ⟨bj, i, none⟩) (by dsimp only; omega))
  have hta1 := hta.keep (w' := W1) (fun i => hb1.cell (p := ⟨bt, i, none⟩) (by dsimp only; omega))
  have d0 := hja1.c0
  rw [hq] at d0
  obtain ⟨t0, t1, t2, t3, t4⟩ := hta1
  dsimp only at t0 t1 t2 t3 t4
  have fN := hN.frozen
  obtain ⟨n0, n1, n2, n3, n4⟩ := hN.five
  have HZ := Lib.hid (hN.fill5 (v0 := .int .i64 lo) (v1 := .int .i64 hh) (v2 := .int .i64 du) (v3 := .int .i64 ev) (v4 := .bool cr))
  have HBZ : Hid (Below w.heap.size w (fill5 W1 w.heap.size (.int .i64 lo) (.int .i64 hh) (.int .i64 du) (.int .i64 ev) (.bool cr))) := Lib.hid (((((bl_set hb1 (by dsimp only; omega) _).setCell (by dsimp only; omega) _).setCell (by dsimp only; omega) _).setCell (by dsimp only; omega) _).setCell (by dsimp only; omega) _)
  unfold fill5 at HZ HBZ
  have k0 : (0 : Int) ≤ (k : Int) := by omega
  have k1 : (k : Int) < (nj : Int) := by omega
  have q0 : (0 : Int) ≤ (q : Int) := by omega
  have q1 : (q : Int) < (n : Int) := by omega
  rw [etk]
  clear hp hp1 hT hJ hL hJv hja hja1 hta hN hb1 ht hv etk hq j1 j2 j3 j4 j5 j6 j7 j8
  go_enter Tryz.func140, Tryz.ntmps140
  go_wp2
  go_region
  all_goals (
    obtain ⟨z0, z1, z2, z3, z4⟩ := HZ.out.five
    go_wp2
    refine bodyPost_ret (v := tkV ⟨lo, hh, du, ev, cr⟩) (by simp [results, Tryz.results140, go_sem, z0, z1, z2, z3, z4, tkV]) rfl ⟨rfl, (by repeat (first | exact HBZ.out | refine bl_drewN ?_ _ | refine Below.drew ?_))⟩)
set_option maxHeartbeats 4000000 in
theorem iPlAdd_is (w : World) (M : Nat) (p : Pm) (hp : PAt w M p) (k : Nat) (hc : p.cn < 60) :
    Calls Tryz.prog 135 #[.pointer (some ⟨M, 5, none⟩), .int .i64 (k : Int)] w fun e w' => e = .returned (.tuple #[]) ∧ PAt w' M { p with lf := p.lf.set p.cn (k : Int), cn := p.cn + 1 } ∧ Kp w w' (fun x => x = M) := by
  have c65 := hp.c65
  have e5 := hp.left hc
  have f0 := hp.frozen
  have h1 := hp.sLf hc (k : Int)
  have h2 := h1.sCn (p.cn + 1)
  have e65 := h1.c65
  dsimp only at h1 h2 e65
  have q0 : (0 : Int) ≤ (p.cn : Int) := by omega
  have q1 : (p.cn : Int) < 60 := by omega
  have q2 : (((p.cn + 1 : Nat) : Int)) = (p.cn : Int) + 1 := by omega
  rw [q2] at h2
  have HX := Lib.hid h2
  have HK : Hid (Kp w ((w.setCell ⟨M, 5 + p.cn, none⟩ (.int .i64 (k : Int))).setCell ⟨M, 65, none⟩ (.int .i64 ((p.cn : Int) + 1))) (fun x => x = M)) := Lib.hid (Kp.set (S := fun x => x = M) (Kp.set (S := fun x => x = M) (Kp.refl w _) (a := ⟨M, 5 + p.cn, none⟩) (.inl rfl) _) (a := ⟨M, 65, none⟩) (.inl rfl) _)
  clear hp h1 h2 q2
  go_enter Tryz.func135, Tryz.ntmps135
  go_wp2
  go_region
  all_goals (
    go_wp2
    go_end0
    exact ⟨rfl, HX.out.drew, HK.out.drew⟩)
theorem fol1_is (w : World) (R : Nat) (k z : Nat) (hR : Blk w R 3 #[.int .i64 (z : Int)]) (b : Bool) (hb : (!decide ((k : Int) = (z : Int))) = b) :
    Calls Tryz.prog 139 #[.int .i64 (k : Int), .pointer (some ⟨R, 0, none⟩)] w (BRes b w) := by
  have c0 := hR.cell 0
  clear hR
  have c0' : w.cell? ⟨R, 0, none⟩ = some (.int .i64 (z : Int)) := c0
  clear c0
  by_cases hk : (k : Int) = (z : Int)
  · obtain rfl : b = false := by rw [← hb, decide_eq_true hk]; rfl
    have t1 : ((k : Int) != (z : Int)) = false := by rw [hk]; simp
    have t2 : k = z := by omega
    subst t2
    clear hk hb
    go_enter Tryz.func139, Tryz.ntmps139
    go_wp2
    go_ret
    exact ⟨rfl, Below.refl _ _⟩
  · obtain rfl : b = true := by rw [← hb, decide_eq_false hk]; rfl
    have t1 : ((k : Int) != (z : Int)) = true := by simp only [bne_iff_ne]; exact hk
    have t2 : ¬ k = z := by omega
    have HH := Lib.hid hk
    clear hk hb
    go_enter Tryz.func139, Tryz.ntmps139
    go_wp2
    go_ret
    exact ⟨rfl, Below.refl _ _⟩
end Go.Proofs.YtgponahmkjohiabGreatDoor
