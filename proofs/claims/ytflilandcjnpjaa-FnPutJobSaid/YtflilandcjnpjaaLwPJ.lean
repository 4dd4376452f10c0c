/- The walk of the law FnPutJob. -/
import Derived.Test.YtflilandcjnpjaaM6
import Derived.Test.YtflilandcjnpjaaM5
import Derived.Test.YtflilandcjnpjaaM4
import Derived.Test.YtflilandcjnpjaaM2
import Derived.Deep.RegionHeld3
namespace Go.Proofs.Ytflilandcjnpjaa
open Go.RowKit
set_option linter.unusedVariables false

/-- What is put among valid jobs: the others are what was there, and it is there once. -/
theorem put_rest {ts : List Tk} {js : List Jb} {j : Jb} (h : jobsB ts (putL j js) = true) : (putL j js).filter (fun a => !decide (a = j)) = js ∧ (putL j js).countP (fun a => decide (a = j)) = 1 := by
  obtain ⟨h1, h2⟩ := put_once h
  unfold putL
  rw [List.filter_append, List.filter_cons, List.countP_append, List.countP_cons]
  have f1 : (js.take (putAt j js)).filter (fun a => !decide (a = j)) = js.take (putAt j js) := List.filter_eq_self.2 (fun a ha => by simp [h1 a ha])
  have f2 : (js.drop (putAt j js)).filter (fun a => !decide (a = j)) = js.drop (putAt j js) := List.filter_eq_self.2 (fun a ha => by simp [h2 a ha])
  have c1 : (js.take (putAt j js)).countP (fun a => decide (a = j)) = 0 := List.countP_eq_zero.2 (fun a ha => by simp [h1 a ha])
  have c2 : (js.drop (putAt j js)).countP (fun a => decide (a = j)) = 0 := List.countP_eq_zero.2 (fun a ha => by simp [h2 a ha])
  rw [f1, f2, c1, c2]
  simp

set_option maxRecDepth 100000 in
set_option maxHeartbeats 8000000 in
theorem fnPutJob_walk (w : World) (A : Option Addr) (n c : Nat) (f : Nat → Int) (h : Code w w.heap.size A n c f) :
    Calls Try.prog 4 #[.slice A n c] w fun e w' => e = .returned (.bool true) ∧ Below w.heap.size w w' := by
  have H := Lib.hid h
  have hle := h.le
  have hmax := h.max
  unfold maxLen at hmax
  clear h
  by_cases hn : 1048576 < n
  · go_enter Try.func4, Try.ntmps4
    go_wp2
    go_ret
    exact ⟨rfl, Below.refl _ _⟩
  go_enter Try.func4, Try.ntmps4
  go_wp2_with fail
  refine (dDrawPutJob_any _ A n c f H.out).mono ?_
  rintro e w1 ⟨At, ct, ts, gj, cj, js, j, rfl, hl, hst, hjl, hsj, hsmj, ho, hj, hb⟩
  have HB1 := Lib.hid hb
  have hs1 := HB1.out.size
  have HO1 := Lib.hid ho
  have HT1 := Lib.hid ho.reads.2
  clear ho hst
  have HOJ1 := Lib.hid hj
  have HJ1 := Lib.hid hj.reads.2
  have hjc := hj.le
  clear hj hsj
  clear hb H
  obtain ⟨i0, hi0, hz0, hz1, hz2⟩ := info_parts info_job
  obtain ⟨b, hb⟩ : ∃ b, putB ts js j = b := ⟨_, rfl⟩
  have HPB := Lib.hid hb
  clear hb
  obtain ⟨V, hV⟩ : ∃ V, putV ts js j = V := ⟨_, rfl⟩
  have HPV := Lib.hid hV
  clear hV
  obtain ⟨ta, tm, ne⟩ := j
  unfold Jb.val
  have BJ1 := Lib.hid (Blk.new w1 38 #[.int .i64 ta, .int .i64 tm, .int .i64 ne])
  have cJ := BJ1.out.cell
  go_wp2_with fail
  refine (iPut_is _ At _ ct ts (tks_to6 HT1.out (by repeat (first | with_reducible exact Below.refl _ _ | with_reducible refine Below.drew ?_ | with_reducible refine bl_drewN ?_ _ | with_reducible refine bl_alloc ?_ _))) (by omega) (some ⟨gj, 0, none⟩) _ cj js (jbs_to HJ1.out (by repeat (first | with_reducible exact Below.refl _ _ | with_reducible refine Below.drew ?_ | with_reducible refine bl_drewN ?_ _ | with_reducible refine bl_alloc ?_ _))) ⟨ta, tm, ne⟩ b HPB.out).mono ?_
  rintro e w2 ⟨Ax, cx, rfl, hox, hb⟩
  have HS2 := Lib.hid (show Below w1.heap.size w1 w2 from bl_trans (by repeat (first | with_reducible exact Below.refl _ _ | with_reducible refine Below.drew ?_ | with_reducible refine bl_drewN ?_ _ | with_reducible refine bl_alloc ?_ _)) hb)
  have HB2 := Lib.hid (bl_trans HB1.out HS2.out)
  have hs2 := HB2.out.size
  have hq2 := HS2.out.size
  have HT2 := Lib.hid (tks_to6 HT1.out HS2.out)
  have HJ2 := Lib.hid (jbs_to HJ1.out HS2.out)
  have BJ2 := Lib.hid (Blk.below BJ1.out (by first | exact HS2.out | exact bl_trans (by repeat (first | with_reducible exact Below.refl _ _ | with_reducible refine Below.drew ?_ | with_reducible refine bl_drewN ?_ _ | with_reducible refine bl_alloc ?_ _)) hb) BJ1.out.lt)
  rw [HPV.out] at hox
  have HX2 := Lib.hid hox.reads.2
  clear hox cJ
  have cJ := BJ2.out.cell
  clear hb
  try rw [HPV.out]
  go_wp2_with fail
  refine (sPut_is _ At _ ct ts (tks_to6 HT2.out (by repeat (first | with_reducible exact Below.refl _ _ | with_reducible refine Below.drew ?_ | with_reducible refine bl_drewN ?_ _ | with_reducible refine bl_alloc ?_ _))) (by omega) gj 0 _ cj js (jbs_to HJ2.out (by repeat (first | with_reducible exact Below.refl _ _ | with_reducible refine Below.drew ?_ | with_reducible refine bl_drewN ?_ _ | with_reducible refine bl_alloc ?_ _))) hjc ⟨ta, tm, ne⟩ b HPB.out).mono ?_
  rintro e w3 ⟨gy, cy, rfl, hoy, hb⟩
  have HS3 := Lib.hid (show Below w2.heap.size w2 w3 from bl_trans (by repeat (first | with_reducible exact Below.refl _ _ | with_reducible refine Below.drew ?_ | with_reducible refine bl_drewN ?_ _ | with_reducible refine bl_alloc ?_ _)) hb)
  have HB3 := Lib.hid (bl_trans HB2.out HS3.out)
  have hs3 := HB3.out.size
  have hq3 := HS3.out.size
  have HT3 := Lib.hid (tks_to6 HT2.out HS3.out)
  have HJ3 := Lib.hid (jbs_to HJ2.out HS3.out)
  have BJ3 := Lib.hid (Blk.below BJ2.out (by first | exact HS3.out | exact bl_trans (by repeat (first | with_reducible exact Below.refl _ _ | with_reducible refine Below.drew ?_ | with_reducible refine bl_drewN ?_ _ | with_reducible refine bl_alloc ?_ _)) hb) BJ2.out.lt)
  have HX3 := Lib.hid (jbs_to HX2.out HS3.out)
  rw [HPV.out] at hoy
  have HY3 := Lib.hid hoy.reads.2
  clear hoy cJ
  have cJ := BJ3.out.cell
  clear hb
  try rw [HPV.out]
  have hVl : V.length ≤ 62 := by
    rw [← HPV.out]; unfold putV; split
    · rw [putL_len]; omega
    · simp
  cases b
  · skip
    go_wp2_with fail
    refine (dmJobs_any _ Ax (some ⟨gy, 0, none⟩) V.length cx cy V (jbs_to HX3.out (by repeat (first | with_reducible exact Below.refl _ _ | with_reducible refine Below.drew ?_ | with_reducible refine bl_drewN ?_ _ | with_reducible refine bl_alloc ?_ _))) (jbs_to HY3.out (by repeat (first | with_reducible exact Below.refl _ _ | with_reducible refine Below.drew ?_ | with_reducible refine bl_drewN ?_ _ | with_reducible refine bl_alloc ?_ _))) (by omega)).mono ?_
    rintro e w4 ⟨rfl, hb⟩
    have HS4 := Lib.hid (show Below w3.heap.size w3 w4 from bl_trans (by repeat (first | with_reducible exact Below.refl _ _ | with_reducible refine Below.drew ?_ | with_reducible refine bl_drewN ?_ _ | with_reducible refine bl_alloc ?_ _)) hb)
    have HB4 := Lib.hid (bl_trans HB3.out HS4.out)
    have hs4 := HB4.out.size
    have hq4 := HS4.out.size
    have HT4 := Lib.hid (tks_to6 HT3.out HS4.out)
    have HJ4 := Lib.hid (jbs_to HJ3.out HS4.out)
    have BJ4 := Lib.hid (Blk.below BJ3.out (by first | exact HS4.out | exact bl_trans (by repeat (first | with_reducible exact Below.refl _ _ | with_reducible refine Below.drew ?_ | with_reducible refine bl_drewN ?_ _ | with_reducible refine bl_alloc ?_ _)) hb) BJ3.out.lt)
    have HX4 := Lib.hid (jbs_to HX3.out HS4.out)
    have HY4 := Lib.hid (jbs_to HY3.out HS4.out)
    clear hb
    go_wp2_with fail
    refine (dmJobs_any _ Ax (some ⟨gy, 0, none⟩) V.length cx cy V (jbs_to HX4.out (by repeat (first | with_reducible exact Below.refl _ _ | with_reducible refine Below.drew ?_ | with_reducible refine bl_drewN ?_ _ | with_reducible refine bl_alloc ?_ _))) (jbs_to HY4.out (by repeat (first | with_reducible exact Below.refl _ _ | with_reducible refine Below.drew ?_ | with_reducible refine bl_drewN ?_ _ | with_reducible refine bl_alloc ?_ _))) (by omega)).mono ?_
    rintro e w5 ⟨rfl, hb⟩
    have HS5 := Lib.hid (show Below w4.heap.size w4 w5 from bl_trans (by repeat (first | with_reducible exact Below.refl _ _ | with_reducible refine Below.drew ?_ | with_reducible refine bl_drewN ?_ _ | with_reducible refine bl_alloc ?_ _)) hb)
    have HB5 := Lib.hid (bl_trans HB4.out HS5.out)
    have hs5 := HB5.out.size
    have hq5 := HS5.out.size
    have HT5 := Lib.hid (tks_to6 HT4.out HS5.out)
    have HJ5 := Lib.hid (jbs_to HJ4.out HS5.out)
    have BJ5 := Lib.hid (Blk.below BJ4.out (by first | exact HS5.out | exact bl_trans (by repeat (first | with_reducible exact Below.refl _ _ | with_reducible refine Below.drew ?_ | with_reducible refine bl_drewN ?_ _ | with_reducible refine bl_alloc ?_ _)) hb) BJ4.out.lt)
    have HX5 := Lib.hid (jbs_to HX4.out HS5.out)
    have HY5 := Lib.hid (jbs_to HY4.out HS5.out)
    clear hb
    go_wp2
    go_ret
    exact ⟨rfl, by repeat (first | with_reducible exact HB5.out | refine bl_drewN ?_ _ | refine Below.drew ?_ | refine bl_alloc ?_ _)⟩
  go_wp2_with fail
  refine (dmJobs_any _ Ax (some ⟨gy, 0, none⟩) V.length cx cy V (jbs_to HX3.out (by repeat (first | with_reducible exact Below.refl _ _ | with_reducible refine Below.drew ?_ | with_reducible refine bl_drewN ?_ _ | with_reducible refine bl_alloc ?_ _))) (jbs_to HY3.out (by repeat (first | with_reducible exact Below.refl _ _ | with_reducible refine Below.drew ?_ | with_reducible refine bl_drewN ?_ _ | with_reducible refine bl_alloc ?_ _))) (by omega)).mono ?_
  rintro e w4 ⟨rfl, hb⟩
  have HS4 := Lib.hid (show Below w3.heap.size w3 w4 from bl_trans (by repeat (first | with_reducible exact Below.refl _ _ | with_reducible refine Below.drew ?_ | with_reducible refine bl_drewN ?_ _ | with_reducible refine bl_alloc ?_ _)) hb)
  have HB4 := Lib.hid (bl_trans HB3.out HS4.out)
  have hs4 := HB4.out.size
  have hq4 := HS4.out.size
  have HT4 := Lib.hid (tks_to6 HT3.out HS4.out)
  have HJ4 := Lib.hid (jbs_to HJ3.out HS4.out)
  have BJ4 := Lib.hid (Blk.below BJ3.out (by first | exact HS4.out | exact bl_trans (by repeat (first | with_reducible exact Below.refl _ _ | with_reducible refine Below.drew ?_ | with_reducible refine bl_drewN ?_ _ | with_reducible refine bl_alloc ?_ _)) hb) BJ3.out.lt)
  have HX4 := Lib.hid (jbs_to HX3.out HS4.out)
  have HY4 := Lib.hid (jbs_to HY3.out HS4.out)
  clear hb
  clear cJ
  have hVV : V = putL ⟨ta, tm, ne⟩ js := by rw [← HPV.out]; unfold putV; rw [HPB.out]; rfl
  have hjv : jobsB ts V = true ∧ jobsB ts js = true := by
    have h1 := HPB.out
    unfold putB at h1
    rw [Bool.and_eq_true, ← hVV] at h1
    exact ⟨h1.2, h1.1⟩
  have HVV := Lib.hid hVV
  have HJV := Lib.hid hjv.1
  have hwr := (wrsB_iff.1 (jobs_wrs hjv.2)).2
  have hbn := sumJ_bound (z := ta) hwr
  obtain ⟨r, hr⟩ : ∃ r, needJ js ta = r := ⟨_, rfl⟩
  have hr1 : r = sumJ ta js := by rw [← hr]; unfold needJ; rw [jobs_wrs hjv.2]; rfl
  have HR1 := Lib.hid hr
  have HR2 := Lib.hid (show needJ V ta = r + ne by
    unfold needJ
    rw [jobs_wrs hjv.1, hVV, hr1]
    show sumJ ta (putL ⟨ta, tm, ne⟩ js) = _
    rw [sumJ_put]
    simp)
  have hne : 1 ≤ ne ∧ ne ≤ 20 := by
    have h1 := wrB_iff.1 ((wrsB_iff.1 (jobs_wrs hjv.1)).2 ⟨ta, tm, ne⟩ (by rw [hVV]; exact putL_mem _ _))
    exact ⟨h1.2.2.2.2.1, h1.2.2.2.2.2⟩
  have hrb : 0 ≤ r ∧ r ≤ 1300 := by omega
  have HRL := Lib.hid (put_rest (show jobsB ts (putL ⟨ta, tm, ne⟩ js) = true by rw [← hVV]; exact hjv.1))
  clear hVV hjv hwr hbn hr hr1 hsmj
  go_wp2
  go_loopw [10, 11, 12] (fun s m i wr => ∃ (q : Nat) (rest : List Jb), q ≤ V.length ∧ i = .int .i64 q ∧ rest.length ≤ q ∧ Hid (rest = (V.take q).filter (fun a => !decide (a = ⟨ta, tm, ne⟩))) ∧ m = .int .i64 ((V.take q).countP (fun a => decide (a = ⟨ta, tm, ne⟩)) : Int) ∧ Hid (OwnJ wr w4.heap.size s rest) ∧ Hid (Below w4.heap.size w4 wr)) (fun _ _ i _ => V.length - (intOf i).toNat)
  case atStart => exact ⟨0, [], Nat.zero_le _, rfl, Nat.zero_le _, Lib.hid rfl, rfl, Lib.hid (OwnJ.empty w4), Lib.hid (bl_alloc (Below.refl _ _) _)⟩
  case round =>
    obtain ⟨q, rest, hq, rfl, hrl, HRS, rfl, HRO, HS⟩ := hrel
    obtain ⟨w9, hw9⟩ : ∃ W, W = wr := ⟨_, rfl⟩
    subst hw9
    obtain ⟨Ar, cr, rfl⟩ := HRO.out.form
    have BJ9 := Lib.hid (Blk.below BJ4.out HS.out BJ4.out.lt)
    have j0 := BJ9.out.cell 0
    have j1 := BJ9.out.cell 1
    have j2 := BJ9.out.cell 2
    have hs9 := HS.out.size
    obtain ⟨cn, hcn⟩ : ∃ cn, (V.take q).countP (fun a => decide (a = (⟨ta, tm, ne⟩ : Jb))) = cn := ⟨_, rfl⟩
    have hcnq : cn ≤ q := by rw [← hcn]; exact Nat.le_trans (List.countP_le_length) (List.length_take_le _ _)
    have HCN := Lib.hid hcn
    simp only [hcn]
    clear hcn
    by_cases hqm : q < V.length
    · skip
      have q1 : (q : Int) < (V.length : Int) := by omega
      have q0 : (0 : Int) ≤ (q : Int) := by omega
      obtain ⟨a, ha⟩ : ∃ a, V[q]? = some a := ⟨V[q], List.getElem?_eq_getElem _⟩
      obtain ⟨bx, ox, rfl, hbx, a0, a1, a2⟩ := (jbs_to HX4.out HS.out).at_ q a ha
      have HTK := Lib.hid (show V.take (q + 1) = V.take q ++ [a] by rw [List.take_add_one, ha]; rfl)
      obtain ⟨sa, sm, se⟩ := a
      dsimp only at a0 a1 a2
      clear ha
      by_cases hsame : (⟨sa, sm, se⟩ : Jb) = ⟨ta, tm, ne⟩
      · obtain ⟨rfl, rfl, rfl⟩ : sa = ta ∧ sm = tm ∧ se = ne := by injection hsame with h1 h2 h3; exact ⟨h1, h2, h3⟩
        have HN1 := Lib.hid (show (V.take (q + 1)).countP (fun a => decide (a = (⟨sa, sm, se⟩ : Jb))) = cn + 1 by rw [HTK.out, List.countP_append, HCN.out]; simp)
        have HN2 := Lib.hid (show (V.take (q + 1)).filter (fun a => !decide (a = (⟨sa, sm, se⟩ : Jb))) = rest by rw [HTK.out, List.filter_append, HRS.out]; simp)
        clear hsame
        go_wp2
        go_quiet (fail)
        go_wp2
        go_roundw
        case rel => exact ⟨q + 1, rest, by omega, by go_num, by omega, Lib.hid HN2.out.symm, by rw [HN1.out]; go_num, Lib.hid (by repeat (first | with_reducible exact HRO.out | refine OwnJ.drewN ?_ _ | refine OwnJ.drew ?_)), Lib.hid (by repeat (first | with_reducible exact HS.out | refine bl_drewN ?_ _ | refine Below.drew ?_))⟩
        case measure => simp [intOf]; omega
      · have HN1 := Lib.hid (show (V.take (q + 1)).countP (fun a => decide (a = (⟨ta, tm, ne⟩ : Jb))) = cn by rw [HTK.out, List.countP_append, HCN.out]; simp [hsame])
        have HN2 := Lib.hid (show (V.take (q + 1)).filter (fun a => !decide (a = (⟨ta, tm, ne⟩ : Jb))) = rest ++ [⟨sa, sm, se⟩] by rw [HTK.out, List.filter_append, HRS.out]; simp [hsame])
        have hdiff : ((sa == ta) && ((sm == tm) && (se == ne))) = false := by
          cases hx : (sa == ta) && ((sm == tm) && (se == ne))
          · rfl
          · rw [Bool.and_eq_true, Bool.and_eq_true] at hx
            exact absurd (Jb.eq_of (by simpa using hx.1) (by simpa using hx.2.1) (by simpa using hx.2.2)) hsame
        have HD := Lib.hid hdiff
        clear hsame hdiff
        cases e1 : (sa == ta) <;> cases e2 : (sm == tm) <;> cases e3 : (se == ne)
        all_goals (try (exfalso; have hx := HD.out; rw [e1, e2, e3] at hx; cases hx; done))
        all_goals
          go_wp2
          go_quiet (fail)
          have HS5 := Lib.hid (bl_drewN HS.out nq)
          have HO5 : Hid (OwnJ (w9.drewN nq) w4.heap.size (.slice Ar rest.length cr) rest) := Lib.hid (OwnJ.drewN HRO.out nq)
          have a0' : (w9.drewN nq).cell? ⟨bx, ox + q * 3, none⟩ = some (.int .i64 sa) := a0
          have a1' : (w9.drewN nq).cell? ⟨bx, ox + q * 3 + 1, none⟩ = some (.int .i64 sm) := a1
          have a2' : (w9.drewN nq).cell? ⟨bx, ox + q * 3 + 2, none⟩ = some (.int .i64 se) := a2
          clear a0 a1 a2 j0 j1 j2
          have hs5 := HS5.out.size
          generalize (w9.drewN nq) = w5 at *
          go_wp2_with (at_builtin; refine wpList_append_own _ rfl (.tmp 72) (.tmp 77) 26 rfl w4.heap.size 38 i0 _ 3 24 Try.underlying26 hi0 hz0 hz1 hz2 rfl (by decide) (.slice Ar rest.length cr) rest.length (rest.flatMap Jb.cells) rfl (HO5.out.alloc _) ⟨w5.heap.size, 0, none⟩ 1 1 (Jb.cells ⟨sa, sm, se⟩) rfl rfl (cell_new3 w5 ⟨sa, sm, se⟩ 38) (by intro u hu; exact jcells_one [⟨sa, sm, se⟩] u (by simpa using hu)) (by unfold maxLen; omega) (by omega) (by simp; omega) ?_; intro v6 w6 hown6 hgrow6 _; have HO6 := Lib.hid (show OwnJ w6 w4.heap.size v6 (rest ++ [⟨sa, sm, se⟩]) from OwnJ.snoc hown6); have HS6 := Lib.hid ((bl_alloc HS5.out _).grown hgrow6 (by simp; omega) (fun x e => (World.ownsRow.lt HO5.out x e).1)); clear hown6 hgrow6)
          go_wp2
          go_roundw
          case rel => exact ⟨q + 1, rest ++ [⟨sa, sm, se⟩], by omega, by go_num, by simp; omega, Lib.hid HN2.out.symm, by rw [HN1.out], HO6, HS6⟩
          case measure => simp [intOf]; omega
    · obtain rfl : q = V.length := by omega
      obtain rfl : cn = 1 := by
        rw [← HCN.out, List.take_length, HVV.out]; exact HRL.out.2
      obtain rfl : rest = js := by
        rw [HRS.out, List.take_length, HVV.out]; exact HRL.out.1
      have HT9 := Lib.hid (tks_to6 HT4.out HS.out)
      have HJ9 := Lib.hid (jbs_to HJ4.out HS.out)
      have HX9 := Lib.hid (jbs_to HX4.out HS.out)
      have HR9 := Lib.hid HRO.out.reads.2
      have HB9 := Lib.hid (bl_trans HB4.out HS.out)
      have kw : IntKind.i64.wrap (r + ne) = r + ne := IntWalk.i64_in _ (by omega)
      have hlb := BJ9.out.lt
      have TOK0 : True := trivial
      go_wp2
      go_region_held3 (fun W => W.cell? ⟨w1.heap.size, 0, none⟩ = some (.int .i64 ta) ∧ W.cell? ⟨w1.heap.size, 1, none⟩ = some (.int .i64 tm) ∧ W.cell? ⟨w1.heap.size, 2, none⟩ = some (.int .i64 ne)) (first | assumption | (simp [go_sem, *]; done))
        ((first
          | (have uu := TOK0; clear uu; go_at_call 20; refine (iJobs_is _ At _ ct ts (tks_to6 HT9.out (by repeat (first | with_reducible exact Below.refl _ _ | with_reducible refine Below.drew ?_ | with_reducible refine bl_drewN ?_ _))) (by omega) Ax V.length cx V (jbs_to HX9.out (by repeat (first | with_reducible exact Below.refl _ _ | with_reducible refine Below.drew ?_ | with_reducible refine bl_drewN ?_ _))) true HJV.out).mono ?_; rintro e wA ⟨rfl, hb⟩; have HA := Lib.hid (show Below w9.heap.size w9 wA from bl_trans (by repeat (first | with_reducible exact Below.refl _ _ | with_reducible refine Below.drew ?_ | with_reducible refine bl_drewN ?_ _)) hb); have p0 := (Blk.below BJ9.out HA.out hlb).cell 0; have p1 := (Blk.below BJ9.out HA.out hlb).cell 1; have p2 := (Blk.below BJ9.out HA.out hlb).cell 2; have TOK1 := TOK0; clear TOK0 hb j0 j1 j2)
          | (have uu := TOK1; clear uu; go_at_call 17; refine (dmJobs_any _ Ar (some ⟨gj, 0, none⟩) rest.length cr cj rest (jbs_to HR9.out (by repeat (first | with_reducible exact HA.out | with_reducible refine Below.drew ?_ | with_reducible refine bl_drewN ?_ _))) (jbs_to HJ9.out (by repeat (first | with_reducible exact HA.out | with_reducible refine Below.drew ?_ | with_reducible refine bl_drewN ?_ _))) (by omega)).mono ?_; rintro e wB ⟨rfl, hb⟩; have HB := Lib.hid (show Below w9.heap.size w9 wB from bl_trans (by repeat (first | with_reducible exact HA.out | with_reducible refine Below.drew ?_ | with_reducible refine bl_drewN ?_ _)) hb); have q0 := (Blk.below BJ9.out HB.out hlb).cell 0; have q1 := (Blk.below BJ9.out HB.out hlb).cell 1; have q2 := (Blk.below BJ9.out HB.out hlb).cell 2; have TOK2 := TOK1; clear TOK1 hb p0 p1 p2)
          | (have uu := TOK2; clear uu; go_at_call 19; (with_reducible refine (iNeed_is _ Ax V.length cx V (jbs_to HX9.out (by repeat (first | with_reducible exact HB.out | with_reducible refine Below.drew ?_ | with_reducible refine bl_drewN ?_ _))) ta (r + ne) HR2.out).mono ?_); rintro e wC ⟨rfl, hb⟩; have HC := Lib.hid (show Below w9.heap.size w9 wC from bl_trans (by repeat (first | with_reducible exact HB.out | with_reducible refine Below.drew ?_ | with_reducible refine bl_drewN ?_ _)) hb); have s0 := (Blk.below BJ9.out HC.out hlb).cell 0; have s1 := (Blk.below BJ9.out HC.out hlb).cell 1; have s2 := (Blk.below BJ9.out HC.out hlb).cell 2; have TOKX := TOK2; clear TOK2 hb q0 q1 q2)
          | (have uu := TOK2; clear uu; go_at_call 19; (with_reducible refine (iNeed_is _ (some ⟨gj, 0, none⟩) rest.length cj rest (jbs_to HJ9.out (by repeat (first | with_reducible exact HB.out | with_reducible refine Below.drew ?_ | with_reducible refine bl_drewN ?_ _))) ta r HR1.out).mono ?_); rintro e wC ⟨rfl, hb⟩; have HC := Lib.hid (show Below w9.heap.size w9 wC from bl_trans (by repeat (first | with_reducible exact HB.out | with_reducible refine Below.drew ?_ | with_reducible refine bl_drewN ?_ _)) hb); have s0 := (Blk.below BJ9.out HC.out hlb).cell 0; have s1 := (Blk.below BJ9.out HC.out hlb).cell 1; have s2 := (Blk.below BJ9.out HC.out hlb).cell 2; have TOKJ := TOK2; clear TOK2 hb q0 q1 q2)
          | (have uu := TOKX; clear uu; go_at_call 19; (with_reducible refine (iNeed_is _ (some ⟨gj, 0, none⟩) rest.length cj rest (jbs_to HJ9.out (by repeat (first | with_reducible exact HC.out | with_reducible refine Below.drew ?_ | with_reducible refine bl_drewN ?_ _))) ta r HR1.out).mono ?_); rintro e wD ⟨rfl, hb⟩; have HD := Lib.hid (show Below w9.heap.size w9 wD from bl_trans (by repeat (first | with_reducible exact HC.out | with_reducible refine Below.drew ?_ | with_reducible refine bl_drewN ?_ _)) hb); have u0 := (Blk.below BJ9.out HD.out hlb).cell 0; have u1 := (Blk.below BJ9.out HD.out hlb).cell 1; have u2 := (Blk.below BJ9.out HD.out hlb).cell 2; have TOKE := TOKX; clear TOKX hb s0 s1 s2)
          | (have uu := TOKJ; clear uu; go_at_call 19; (with_reducible refine (iNeed_is _ Ax V.length cx V (jbs_to HX9.out (by repeat (first | with_reducible exact HC.out | with_reducible refine Below.drew ?_ | with_reducible refine bl_drewN ?_ _))) ta (r + ne) HR2.out).mono ?_); rintro e wD ⟨rfl, hb⟩; have HD := Lib.hid (show Below w9.heap.size w9 wD from bl_trans (by repeat (first | with_reducible exact HC.out | with_reducible refine Below.drew ?_ | with_reducible refine bl_drewN ?_ _)) hb); have u0 := (Blk.below BJ9.out HD.out hlb).cell 0; have u1 := (Blk.below BJ9.out HD.out hlb).cell 1; have u2 := (Blk.below BJ9.out HD.out hlb).cell 2; have TOKE := TOKJ; clear TOKJ hb s0 s1 s2)))
      all_goals
        go_wp2
        go_ret
        exact ⟨by simp, (by repeat (first | with_reducible exact bl_trans HB9.out HD.out | refine bl_drewN ?_ _ | refine Below.drew ?_))⟩

end Go.Proofs.Ytflilandcjnpjaa
