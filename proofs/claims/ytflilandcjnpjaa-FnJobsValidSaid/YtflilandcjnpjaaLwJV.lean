/- The walk of the law FnJobsValid. -/
import Derived.Test.YtflilandcjnpjaaM6
import Derived.Test.YtflilandcjnpjaaM3
import Derived.Test.YtflilandcjnpjaaM4
namespace Go.Proofs.Ytflilandcjnpjaa
open Go.RowKit
set_option linter.unusedVariables false

set_option maxRecDepth 100000 in
set_option maxHeartbeats 8000000 in
theorem fnJobsValid_walk (w : World) (A : Option Addr) (n c : Nat) (f : Nat → Int) (h : Code w w.heap.size A n c f) :
    Calls Try.prog 5 #[.slice A n c] w fun e w' => e = .returned (.bool true) ∧ Below w.heap.size w w' := by
  have H := Lib.hid h
  have hle := h.le
  have hmax := h.max
  unfold maxLen at hmax
  clear h
  by_cases hn : 1048576 < n
  · go_enter Try.func5, Try.ntmps5
    go_wp2
    go_ret
    exact ⟨rfl, Below.refl _ _⟩
  go_enter Try.func5, Try.ntmps5
  go_wp2_with fail
  refine (dDrawJobsValid_any _ A n c f H.out).mono ?_
  rintro e w1 ⟨At, ct, ts, gj, cj, js, rfl, hl, hst, hjl, hsj, ho, hj, hb⟩
  have HB1 := Lib.hid hb
  have hs1 := HB1.out.size
  have HO1 := Lib.hid ho
  have HT1 := Lib.hid ho.reads.2
  clear ho hst
  have HOJ1 := Lib.hid hj
  have HJ1 := Lib.hid hj.reads.2
  have hjc := hj.le
  clear hj hsj
  clear hb H
  obtain ⟨b, hb⟩ : ∃ b, jobsB ts js = b := ⟨_, rfl⟩
  have HPB := Lib.hid hb
  by_cases hs : b = false ∨ js.length = 0
  · clear hb
    cases b
    · skip
      go_wp2_with fail
      refine (iJobs_is _ At _ ct ts (tks_to6 HT1.out (by repeat (first | with_reducible exact Below.refl _ _ | with_reducible refine Below.drew ?_ | with_reducible refine bl_drewN ?_ _ | with_reducible refine bl_alloc ?_ _))) (by omega) (some ⟨gj, 0, none⟩) _ cj js (jbs_to HJ1.out (by repeat (first | with_reducible exact Below.refl _ _ | with_reducible refine Below.drew ?_ | with_reducible refine bl_drewN ?_ _ | with_reducible refine bl_alloc ?_ _))) false HPB.out).mono ?_
      rintro e w2 ⟨rfl, hb⟩
      have HS2 := Lib.hid (show Below w1.heap.size w1 w2 from bl_trans (by repeat (first | with_reducible exact Below.refl _ _ | with_reducible refine Below.drew ?_ | with_reducible refine bl_drewN ?_ _ | with_reducible refine bl_alloc ?_ _)) hb)
      have HB2 := Lib.hid (bl_trans HB1.out HS2.out)
      have hs2 := HB2.out.size
      have hq2 := HS2.out.size
      have HT2 := Lib.hid (tks_to6 HT1.out HS2.out)
      have HJ2 := Lib.hid (jbs_to HJ1.out HS2.out)
      clear hb
      go_wp2_with fail
      refine (sJobs_is _ At _ ct ts (tks_to6 HT2.out (by repeat (first | with_reducible exact Below.refl _ _ | with_reducible refine Below.drew ?_ | with_reducible refine bl_drewN ?_ _ | with_reducible refine bl_alloc ?_ _))) (by omega) (some ⟨gj, 0, none⟩) _ cj js (jbs_to HJ2.out (by repeat (first | with_reducible exact Below.refl _ _ | with_reducible refine Below.drew ?_ | with_reducible refine bl_drewN ?_ _ | with_reducible refine bl_alloc ?_ _))) false HPB.out).mono ?_
      rintro e w3 ⟨rfl, hb⟩
      have HS3 := Lib.hid (show Below w2.heap.size w2 w3 from bl_trans (by repeat (first | with_reducible exact Below.refl _ _ | with_reducible refine Below.drew ?_ | with_reducible refine bl_drewN ?_ _ | with_reducible refine bl_alloc ?_ _)) hb)
      have HB3 := Lib.hid (bl_trans HB2.out HS3.out)
      have hs3 := HB3.out.size
      have hq3 := HS3.out.size
      have HT3 := Lib.hid (tks_to6 HT2.out HS3.out)
      have HJ3 := Lib.hid (jbs_to HJ2.out HS3.out)
      clear hb
      go_wp2_with fail
      refine (sJobs_is _ At _ ct ts (tks_to6 HT3.out (by repeat (first | with_reducible exact Below.refl _ _ | with_reducible refine Below.drew ?_ | with_reducible refine bl_drewN ?_ _ | with_reducible refine bl_alloc ?_ _))) (by omega) (some ⟨gj, 0, none⟩) _ cj js (jbs_to HJ3.out (by repeat (first | with_reducible exact Below.refl _ _ | with_reducible refine Below.drew ?_ | with_reducible refine bl_drewN ?_ _ | with_reducible refine bl_alloc ?_ _))) false HPB.out).mono ?_
      rintro e w4 ⟨rfl, hb⟩
      have HS4 := Lib.hid (show Below w3.heap.size w3 w4 from bl_trans (by repeat (first | with_reducible exact Below.refl _ _ | with_reducible refine Below.drew ?_ | with_reducible refine bl_drewN ?_ _ | with_reducible refine bl_alloc ?_ _)) hb)
      have HB4 := Lib.hid (bl_trans HB3.out HS4.out)
      have hs4 := HB4.out.size
      have hq4 := HS4.out.size
      have HT4 := Lib.hid (tks_to6 HT3.out HS4.out)
      have HJ4 := Lib.hid (jbs_to HJ3.out HS4.out)
      clear hb
      go_wp2
      go_ret
      exact ⟨rfl, by repeat (first | with_reducible exact HB4.out | refine bl_drewN ?_ _ | refine Below.drew ?_ | refine bl_alloc ?_ _)⟩
    · have h2 : ((js.length : Int) == 0) = true := by
        rcases hs with h | h
        · cases h
        · simp; exact List.eq_nil_of_length_eq_zero h
      clear hs
      go_wp2_with fail
      refine (iJobs_is _ At _ ct ts (tks_to6 HT1.out (by repeat (first | with_reducible exact Below.refl _ _ | with_reducible refine Below.drew ?_ | with_reducible refine bl_drewN ?_ _ | with_reducible refine bl_alloc ?_ _))) (by omega) (some ⟨gj, 0, none⟩) _ cj js (jbs_to HJ1.out (by repeat (first | with_reducible exact Below.refl _ _ | with_reducible refine Below.drew ?_ | with_reducible refine bl_drewN ?_ _ | with_reducible refine bl_alloc ?_ _))) true HPB.out).mono ?_
      rintro e w2 ⟨rfl, hb⟩
      have HS2 := Lib.hid (show Below w1.heap.size w1 w2 from bl_trans (by repeat (first | with_reducible exact Below.refl _ _ | with_reducible refine Below.drew ?_ | with_reducible refine bl_drewN ?_ _ | with_reducible refine bl_alloc ?_ _)) hb)
      have HB2 := Lib.hid (bl_trans HB1.out HS2.out)
      have hs2 := HB2.out.size
      have hq2 := HS2.out.size
      have HT2 := Lib.hid (tks_to6 HT1.out HS2.out)
      have HJ2 := Lib.hid (jbs_to HJ1.out HS2.out)
      clear hb
      go_wp2_with fail
      refine (sJobs_is _ At _ ct ts (tks_to6 HT2.out (by repeat (first | with_reducible exact Below.refl _ _ | with_reducible refine Below.drew ?_ | with_reducible refine bl_drewN ?_ _ | with_reducible refine bl_alloc ?_ _))) (by omega) (some ⟨gj, 0, none⟩) _ cj js (jbs_to HJ2.out (by repeat (first | with_reducible exact Below.refl _ _ | with_reducible refine Below.drew ?_ | with_reducible refine bl_drewN ?_ _ | with_reducible refine bl_alloc ?_ _))) true HPB.out).mono ?_
      rintro e w3 ⟨rfl, hb⟩
      have HS3 := Lib.hid (show Below w2.heap.size w2 w3 from bl_trans (by repeat (first | with_reducible exact Below.refl _ _ | with_reducible refine Below.drew ?_ | with_reducible refine bl_drewN ?_ _ | with_reducible refine bl_alloc ?_ _)) hb)
      have HB3 := Lib.hid (bl_trans HB2.out HS3.out)
      have hs3 := HB3.out.size
      have hq3 := HS3.out.size
      have HT3 := Lib.hid (tks_to6 HT2.out HS3.out)
      have HJ3 := Lib.hid (jbs_to HJ2.out HS3.out)
      clear hb
      go_wp2_with fail
      refine (sJobs_is _ At _ ct ts (tks_to6 HT3.out (by repeat (first | with_reducible exact Below.refl _ _ | with_reducible refine Below.drew ?_ | with_reducible refine bl_drewN ?_ _ | with_reducible refine bl_alloc ?_ _))) (by omega) (some ⟨gj, 0, none⟩) _ cj js (jbs_to HJ3.out (by repeat (first | with_reducible exact Below.refl _ _ | with_reducible refine Below.drew ?_ | with_reducible refine bl_drewN ?_ _ | with_reducible refine bl_alloc ?_ _))) true HPB.out).mono ?_
      rintro e w4 ⟨rfl, hb⟩
      have HS4 := Lib.hid (show Below w3.heap.size w3 w4 from bl_trans (by repeat (first | with_reducible exact Below.refl _ _ | with_reducible refine Below.drew ?_ | with_reducible refine bl_drewN ?_ _ | with_reducible refine bl_alloc ?_ _)) hb)
      have HB4 := Lib.hid (bl_trans HB3.out HS4.out)
      have hs4 := HB4.out.size
      have hq4 := HS4.out.size
      have HT4 := Lib.hid (tks_to6 HT3.out HS4.out)
      have HJ4 := Lib.hid (jbs_to HJ3.out HS4.out)
      clear hb
      go_wp2
      go_ret
      exact ⟨rfl, by repeat (first | with_reducible exact HB4.out | refine bl_drewN ?_ _ | refine Below.drew ?_ | refine bl_alloc ?_ _)⟩
  obtain ⟨rfl, h2⟩ : b = true ∧ 0 < js.length := by
    cases b
    · exact absurd (.inl rfl) hs
    · exact ⟨rfl, by omega⟩
  clear hs hb
  obtain ⟨m, hm⟩ : ∃ m, js.length = m + 1 := ⟨js.length - 1, by omega⟩
  have HM := Lib.hid hm
  rw [hm] at HOJ1 HJ1 hjc hjl
  simp only [hm]
  have d2 : (((m + 1 : Nat) : Int) == 0) = false := by simp; omega
  have d3 : (((m : Int) + 1) == 0) = false := by simp; omega
  obtain ⟨j, hj⟩ : ∃ j, js[m]? = some j := ⟨js[m]'(by omega), List.getElem?_eq_getElem _⟩
  have HJM := Lib.hid hj
  have hjs : js = js.take m ++ [j] := by
    have h1 := List.take_add_one (l := js) (i := m)
    rw [hj, List.take_of_length_le (by omega)] at h1
    exact h1
  have HPRE := Lib.hid (jobs_pre m HPB.out)
  have HPL := Lib.hid (show putL j (js.take m) = js by rw [put_last (ts := ts) (by rw [← hjs]; exact HPB.out)]; exact hjs.symm)
  have HPU := Lib.hid (show putB ts (js.take m) j = true by unfold putB; rw [HPL.out, HPRE.out, HPB.out]; rfl)
  have HPV := Lib.hid (show putV ts (js.take m) j = js by unfold putV; rw [HPU.out, HPL.out]; rfl)
  obtain ⟨hgjB, hgjl, z0, z1, z2⟩ := ownJ_get HOJ1.out hj
  obtain ⟨ta, tm, ne⟩ := j
  dsimp only at z0 z1 z2
  have kw : IntKind.i64.wrap ((m : Int) + 1 - 1) = (m : Int) := by rw [IntWalk.i64_in _ (by omega)]; omega
  have kw2 : IntKind.i64.wrap (m : Int) = (m : Int) := IntWalk.i64_in _ (by omega)
  have m0 : (0 : Int) ≤ (m : Int) := by omega
  have m1 : (m : Int) < (m : Int) + 1 := by omega
  have mc : (m : Int) ≤ (cj : Int) := by omega
  have mcn : m ≤ cj := by omega
  clear hm hj hjs h2
  go_wp2_with fail
  refine (iJobs_is _ At _ ct ts (tks_to6 HT1.out (by repeat (first | with_reducible exact Below.refl _ _ | with_reducible refine Below.drew ?_ | with_reducible refine bl_drewN ?_ _ | with_reducible refine bl_alloc ?_ _))) (by omega) (some ⟨gj, 0, none⟩) _ cj js (jbs_to HJ1.out (by repeat (first | with_reducible exact Below.refl _ _ | with_reducible refine Below.drew ?_ | with_reducible refine bl_drewN ?_ _ | with_reducible refine bl_alloc ?_ _))) true HPB.out).mono ?_
  rintro e w2 ⟨rfl, hb⟩
  have HS2 := Lib.hid (show Below w1.heap.size w1 w2 from bl_trans (by repeat (first | with_reducible exact Below.refl _ _ | with_reducible refine Below.drew ?_ | with_reducible refine bl_drewN ?_ _ | with_reducible refine bl_alloc ?_ _)) hb)
  have HB2 := Lib.hid (bl_trans HB1.out HS2.out)
  have hs2 := HB2.out.size
  have hq2 := HS2.out.size
  have HT2 := Lib.hid (tks_to6 HT1.out HS2.out)
  have HJ2 := Lib.hid (jbs_to HJ1.out HS2.out)
  clear hb
  go_wp2_with fail
  refine (sJobs_is _ At _ ct ts (tks_to6 HT2.out (by repeat (first | with_reducible exact Below.refl _ _ | with_reducible refine Below.drew ?_ | with_reducible refine bl_drewN ?_ _ | with_reducible refine bl_alloc ?_ _))) (by omega) (some ⟨gj, 0, none⟩) _ cj js (jbs_to HJ2.out (by repeat (first | with_reducible exact Below.refl _ _ | with_reducible refine Below.drew ?_ | with_reducible refine bl_drewN ?_ _ | with_reducible refine bl_alloc ?_ _))) true HPB.out).mono ?_
  rintro e w3 ⟨rfl, hb⟩
  have HS3 := Lib.hid (show Below w2.heap.size w2 w3 from bl_trans (by repeat (first | with_reducible exact Below.refl _ _ | with_reducible refine Below.drew ?_ | with_reducible refine bl_drewN ?_ _ | with_reducible refine bl_alloc ?_ _)) hb)
  have HB3 := Lib.hid (bl_trans HB2.out HS3.out)
  have hs3 := HB3.out.size
  have hq3 := HS3.out.size
  have HT3 := Lib.hid (tks_to6 HT2.out HS3.out)
  have HJ3 := Lib.hid (jbs_to HJ2.out HS3.out)
  clear hb
  have c0 := (HS2.out.cell (p := ⟨gj, m * 3, none⟩) hgjl).trans z0
  have c1 := (HS2.out.cell (p := ⟨gj, m * 3 + 1, none⟩) hgjl).trans z1
  have c2 := (HS2.out.cell (p := ⟨gj, m * 3 + 2, none⟩) hgjl).trans z2
  have e0 := (HS3.out.cell (p := ⟨gj, m * 3, none⟩) (by dsimp only; omega)).trans c0
  have e1 := (HS3.out.cell (p := ⟨gj, m * 3 + 1, none⟩) (by dsimp only; omega)).trans c1
  have e2 := (HS3.out.cell (p := ⟨gj, m * 3 + 2, none⟩) (by dsimp only; omega)).trans c2
  clear z0 z1 z2 c0 c1 c2
  go_wp2
  go_region_held3 (fun W => W.cell? ⟨gj, m * 3, none⟩ = some (.int .i64 ta) ∧ W.cell? ⟨gj, m * 3 + 1, none⟩ = some (.int .i64 tm) ∧ W.cell? ⟨gj, m * 3 + 2, none⟩ = some (.int .i64 ne)) (first | exact ⟨e0, e1, e2⟩ | assumption | (simp [go_sem, *]; done))
    ((go_at_call 22; refine (iPut_is _ At _ ct ts (tks_to6 HT3.out (by repeat (first | with_reducible exact Below.refl _ _ | with_reducible refine Below.drew ?_ | with_reducible refine bl_drewN ?_ _ | with_reducible refine bl_alloc ?_ _))) (by omega) (some ⟨gj, 0, none⟩) m cj (js.take m) (Jbs.take (jbs_to HJ3.out (by repeat (first | with_reducible exact Below.refl _ _ | with_reducible refine Below.drew ?_ | with_reducible refine bl_drewN ?_ _ | with_reducible refine bl_alloc ?_ _))) (by omega)) ⟨ta, tm, ne⟩ true HPU.out).mono ?_; rintro e w4 ⟨Ax, cx, rfl, hox, hb⟩; have HS4 := Lib.hid (show Below w3.heap.size w3 w4 from bl_trans (by repeat (first | with_reducible exact Below.refl _ _ | with_reducible refine Below.drew ?_ | with_reducible refine bl_drewN ?_ _ | with_reducible refine bl_alloc ?_ _)) hb); have f0 := (HS4.out.cell (p := ⟨gj, m * 3, none⟩) (by dsimp only; omega)).trans e0; have f1 := (HS4.out.cell (p := ⟨gj, m * 3 + 1, none⟩) (by dsimp only; omega)).trans e1; have f2 := (HS4.out.cell (p := ⟨gj, m * 3 + 2, none⟩) (by dsimp only; omega)).trans e2; rw [HPV.out] at hox; have HX4 := Lib.hid hox.reads.2; clear hox hb))
  rw [HPV.out]
  have HB4 := Lib.hid (bl_trans HB3.out HS4.out)
  have hs4 := HB4.out.size
  have hq4 := HS4.out.size
  have HT4 := Lib.hid (tks_to6 HT3.out HS4.out)
  have HJ4 := Lib.hid (jbs_to HJ3.out HS4.out)
  clear e0 e1 e2 f0 f1 f2
  go_wp2_with fail
  refine (iJobs_is _ At _ ct ts (tks_to6 HT4.out (by repeat (first | with_reducible exact Below.refl _ _ | with_reducible refine Below.drew ?_ | with_reducible refine bl_drewN ?_ _ | with_reducible refine bl_alloc ?_ _))) (by omega) (some ⟨gj, 0, none⟩) m cj (js.take m) (Jbs.take (jbs_to HJ4.out (by repeat (first | with_reducible exact Below.refl _ _ | with_reducible refine Below.drew ?_ | with_reducible refine bl_drewN ?_ _ | with_reducible refine bl_alloc ?_ _))) (by omega)) true HPRE.out).mono ?_
  rintro e w5 ⟨rfl, hb⟩
  have HS5 := Lib.hid (show Below w4.heap.size w4 w5 from bl_trans (by repeat (first | with_reducible exact Below.refl _ _ | with_reducible refine Below.drew ?_ | with_reducible refine bl_drewN ?_ _ | with_reducible refine bl_alloc ?_ _)) hb)
  have HB5 := Lib.hid (bl_trans HB4.out HS5.out)
  have hs5 := HB5.out.size
  have hq5 := HS5.out.size
  have HT5 := Lib.hid (tks_to6 HT4.out HS5.out)
  have HJ5 := Lib.hid (jbs_to HJ4.out HS5.out)
  have HX5 := Lib.hid (jbs_to HX4.out HS5.out)
  clear hb
  have HML := HM.out
  rw [HML] at HX5
  rw [HML]
  clear HML
  go_wp2_with fail
  refine (dmJobs_any _ Ax (some ⟨gj, 0, none⟩) (m + 1) cx cj js (jbs_to HX5.out (by repeat (first | with_reducible exact Below.refl _ _ | with_reducible refine Below.drew ?_ | with_reducible refine bl_drewN ?_ _ | with_reducible refine bl_alloc ?_ _))) (jbs_to HJ5.out (by repeat (first | with_reducible exact Below.refl _ _ | with_reducible refine Below.drew ?_ | with_reducible refine bl_drewN ?_ _ | with_reducible refine bl_alloc ?_ _))) (by omega)).mono ?_
  rintro e w6 ⟨rfl, hb⟩
  have HS6 := Lib.hid (show Below w5.heap.size w5 w6 from bl_trans (by repeat (first | with_reducible exact Below.refl _ _ | with_reducible refine Below.drew ?_ | with_reducible refine bl_drewN ?_ _ | with_reducible refine bl_alloc ?_ _)) hb)
  have HB6 := Lib.hid (bl_trans HB5.out HS6.out)
  have hs6 := HB6.out.size
  have hq6 := HS6.out.size
  have HT6 := Lib.hid (tks_to6 HT5.out HS6.out)
  have HJ6 := Lib.hid (jbs_to HJ5.out HS6.out)
  have HX6 := Lib.hid (jbs_to HX5.out HS6.out)
  clear hb
  go_wp2
  go_ret
  exact ⟨rfl, by repeat (first | with_reducible exact HB6.out | refine bl_drewN ?_ _ | refine Below.drew ?_ | refine bl_alloc ?_ _)⟩

end Go.Proofs.Ytflilandcjnpjaa
