/- The walk of the law FnWorstPrefix. -/
import Derived.Test.YtflilandcjnpjaaM6
import Derived.Test.YtflilandcjnpjaaM4
namespace Go.Proofs.Ytflilandcjnpjaa
open Go.RowKit
set_option linter.unusedVariables false

set_option maxRecDepth 100000 in
set_option maxHeartbeats 8000000 in
theorem fnWorstPrefix_walk (w : World) (A : Option Addr) (n c : Nat) (f : Nat → Int) (h : Code w w.heap.size A n c f) :
    Calls Try.prog 6 #[.slice A n c] w fun e w' => e = .returned (.bool true) ∧ Below w.heap.size w w' := by
  have H := Lib.hid h
  have hle := h.le
  have hmax := h.max
  unfold maxLen at hmax
  clear h
  by_cases hn : 1048576 < n
  · go_enter Try.func6, Try.ntmps6
    go_wp2
    go_ret
    exact ⟨rfl, Below.refl _ _⟩
  go_enter Try.func6, Try.ntmps6
  go_wp2_with fail
  refine (dDrawWorstJobs_any _ A n c f H.out).mono ?_
  rintro e w1 ⟨At, ct, ts, z, hh, rfl, hl, hst, z0, z1, ho, hb⟩
  have HB1 := Lib.hid hb
  have hs1 := HB1.out.size
  have HO1 := Lib.hid ho
  have HT1 := Lib.hid ho.reads.2
  clear ho hst
  clear hb H
  obtain ⟨b, hb⟩ : ∃ b, worstB ts z hh = b := ⟨_, rfl⟩
  have HPB := Lib.hid hb
  clear hb
  obtain ⟨V, hV⟩ : ∃ V, worstV ts z hh = V := ⟨_, rfl⟩
  have HPV := Lib.hid hV
  have hVl : V.length ≤ 60 := by
    rw [← hV]; unfold worstV; split
    · rename_i hwb; unfold worstB at hwb; simp at hwb; exact hwb.2.2.2
    · simp
  clear hV
  go_wp2_with fail
  refine (iWorst_is _ At _ ct ts (tks_to6 HT1.out (by repeat (first | with_reducible exact Below.refl _ _ | with_reducible refine Below.drew ?_ | with_reducible refine bl_drewN ?_ _ | with_reducible refine bl_alloc ?_ _))) (by omega) z hh b HPB.out).mono ?_
  rintro e w2 ⟨Ax, cx, rfl, hox, hb⟩
  have HS2 := Lib.hid (show Below w1.heap.size w1 w2 from bl_trans (by repeat (first | with_reducible exact Below.refl _ _ | with_reducible refine Below.drew ?_ | with_reducible refine bl_drewN ?_ _ | with_reducible refine bl_alloc ?_ _)) hb)
  have HB2 := Lib.hid (bl_trans HB1.out HS2.out)
  have hs2 := HB2.out.size
  have hq2 := HS2.out.size
  have HT2 := Lib.hid (tks_to6 HT1.out HS2.out)
  rw [HPV.out] at hox
  have HOX2 := Lib.hid hox
  have HX2 := Lib.hid hox.reads.2
  clear hox
  clear hb
  try rw [HPV.out]
  go_wp2_with fail
  refine (sWorst_is _ At _ ct ts (tks_to6 HT2.out (by repeat (first | with_reducible exact Below.refl _ _ | with_reducible refine Below.drew ?_ | with_reducible refine bl_drewN ?_ _ | with_reducible refine bl_alloc ?_ _))) (by omega) z hh b HPB.out).mono ?_
  rintro e w3 ⟨gy, cy, rfl, hoy, hb⟩
  have HS3 := Lib.hid (show Below w2.heap.size w2 w3 from bl_trans (by repeat (first | with_reducible exact Below.refl _ _ | with_reducible refine Below.drew ?_ | with_reducible refine bl_drewN ?_ _ | with_reducible refine bl_alloc ?_ _)) hb)
  have HB3 := Lib.hid (bl_trans HB2.out HS3.out)
  have hs3 := HB3.out.size
  have hq3 := HS3.out.size
  have HT3 := Lib.hid (tks_to6 HT2.out HS3.out)
  have HX3 := Lib.hid (jbs_to HX2.out HS3.out)
  rw [HPV.out] at hoy
  have HY3 := Lib.hid hoy.reads.2
  clear hoy
  clear hb
  try rw [HPV.out]
  cases b
  · skip
    go_wp2_with fail
    refine (dmJobs_any _ Ax (some ⟨gy, 0, none⟩) V.length cx cy V (jbs_to HX3.out (by repeat (first | with_reducible exact Below.refl _ _ | with_reducible refine Below.drew ?_ | with_reducible refine bl_drewN ?_ _ | with_reducible refine bl_alloc ?_ _))) (jbs_to HY3.out (by repeat (first | with_reducible exact Below.refl _ _ | with_reducible refine Below.drew ?_ | with_reducible refine bl_drewN ?_ _ | with_reducible refine bl_alloc ?_ _))) (by omega)).mono ?_
    rintro e w4 ⟨rfl, hb⟩
    have HS4 := Lib.hid (show Below w3.heap.size w3 w4 from bl_trans (by repeat (first | with_reducible exact Below.refl _ _ | with_reducible refine Below.drew ?_ | with_reducible refine bl_drewN ?_ _ | with_reducible refine bl_alloc ?_ _)) hb)
    have HB4 := Lib.hid (bl_trans HB3.out HS4.out)
    have hs4 := HB4.out.size
    have hq4 := HS4.out.size
    have HT4 := Lib.hid (tks_to6 HT3.out HS4.out)
    have HX4 := Lib.hid (jbs_to HX3.out HS4.out)
    have HY4 := Lib.hid (jbs_to HY3.out HS4.out)
    clear hb
    go_wp2_with fail
    refine (dmJobs_any _ Ax (some ⟨gy, 0, none⟩) V.length cx cy V (jbs_to HX4.out (by repeat (first | with_reducible exact Below.refl _ _ | with_reducible refine Below.drew ?_ | with_reducible refine bl_drewN ?_ _ | with_reducible refine bl_alloc ?_ _))) (jbs_to HY4.out (by repeat (first | with_reducible exact Below.refl _ _ | with_reducible refine Below.drew ?_ | with_reducible refine bl_drewN ?_ _ | with_reducible refine bl_alloc ?_ _))) (by omega)).mono ?_
    rintro e w5 ⟨rfl, hb⟩
    have HS5 := Lib.hid (show Below w4.heap.size w4 w5 from bl_trans (by repeat (first | with_reducible exact Below.refl _ _ | with_reducible refine Below.drew ?_ | with_reducible refine bl_drewN ?_ _ | with_reducible refine bl_alloc ?_ _)) hb)
    have HB5 := Lib.hid (bl_trans HB4.out HS5.out)
    have hs5 := HB5.out.size
    have hq5 := HS5.out.size
    have HT5 := Lib.hid (tks_to6 HT4.out HS5.out)
    have HX5 := Lib.hid (jbs_to HX4.out HS5.out)
    have HY5 := Lib.hid (jbs_to HY4.out HS5.out)
    clear hb
    go_wp2
    go_ret
    exact ⟨rfl, by repeat (first | with_reducible exact HB5.out | refine bl_drewN ?_ _ | refine Below.drew ?_ | refine bl_alloc ?_ _)⟩
  obtain ⟨hset, hz0, hz1, hz2⟩ : setB ts = true ∧ 0 ≤ z ∧ z ≤ 200 ∧ (worstL hh ts z.toNat).length ≤ 60 := by
    have h1 := HPB.out
    unfold worstB at h1
    simp at h1
    exact ⟨h1.1, h1.2.1, h1.2.2.1, h1.2.2.2⟩
  obtain ⟨u, rfl⟩ : ∃ u : Nat, z = (u : Int) := ⟨z.toNat, by omega⟩
  rw [Int.toNat_natCast] at hz2
  have HVW := Lib.hid (show V = worstL hh ts u by rw [← HPV.out]; unfold worstV; rw [HPB.out, Int.toNat_natCast]; rfl)
  have HSET := Lib.hid hset
  clear hset
  go_wp2_with fail
  refine (dmJobs_any _ Ax (some ⟨gy, 0, none⟩) V.length cx cy V (jbs_to HX3.out (by repeat (first | with_reducible exact Below.refl _ _ | with_reducible refine Below.drew ?_ | with_reducible refine bl_drewN ?_ _ | with_reducible refine bl_alloc ?_ _))) (jbs_to HY3.out (by repeat (first | with_reducible exact Below.refl _ _ | with_reducible refine Below.drew ?_ | with_reducible refine bl_drewN ?_ _ | with_reducible refine bl_alloc ?_ _))) (by omega)).mono ?_
  rintro e w4 ⟨rfl, hb⟩
  have HS4 := Lib.hid (show Below w3.heap.size w3 w4 from bl_trans (by repeat (first | with_reducible exact Below.refl _ _ | with_reducible refine Below.drew ?_ | with_reducible refine bl_drewN ?_ _ | with_reducible refine bl_alloc ?_ _)) hb)
  have HB4 := Lib.hid (bl_trans HB3.out HS4.out)
  have hs4 := HB4.out.size
  have hq4 := HS4.out.size
  have HT4 := Lib.hid (tks_to6 HT3.out HS4.out)
  have HX4 := Lib.hid (jbs_to HX3.out HS4.out)
  have HY4 := Lib.hid (jbs_to HY3.out HS4.out)
  clear hb
  obtain ⟨q, hq⟩ : ∃ q, u / 2 = q := ⟨_, rfl⟩
  have r3 : (u : Int) / 2 = (q : Int) := by omega
  have r4 : Int.tdiv (u : Int) 2 = (q : Int) := by rw [Int.tdiv_eq_ediv_of_nonneg (by omega)]; exact r3
  have r5 : IntKind.i64.wrap (q : Int) = (q : Int) := IntWalk.i64_in _ (by omega)
  obtain ⟨r, hr⟩ := worst_pre (h := hh) (ts := ts) (m := q) (n := u) (by omega)
  have hlr : (worstL hh ts q).length ≤ V.length := by rw [HVW.out, hr]; simp
  have HB2q := Lib.hid (show worstB ts (q : Int) hh = true by
    unfold worstB
    rw [HSET.out, decide_eq_true (by omega), decide_eq_true (by omega), Int.toNat_natCast, decide_eq_true (by omega)]
    rfl)
  obtain ⟨Y, hY⟩ : ∃ Y, worstL hh ts q = Y := ⟨_, rfl⟩
  have HV2 := Lib.hid (show worstV ts (q : Int) hh = Y by unfold worstV; rw [HB2q.out, Int.toNat_natCast, if_pos rfl]; exact hY)
  rw [hY] at hlr hr
  have HTK := Lib.hid (show V.take Y.length = Y by rw [HVW.out, hr]; simp)
  have hcx : V.length ≤ cx := HOX2.out.le
  clear hr hY hq
  go_wp2_with fail
  refine (iWorst_is _ At _ ct ts (tks_to6 HT4.out (by repeat (first | with_reducible exact Below.refl _ _ | with_reducible refine Below.drew ?_ | with_reducible refine bl_drewN ?_ _ | with_reducible refine bl_alloc ?_ _))) (by omega) (q : Int) hh true HB2q.out).mono ?_
  rintro e w5 ⟨Az, cz, rfl, hoz, hb⟩
  have HS5 := Lib.hid (show Below w4.heap.size w4 w5 from bl_trans (by repeat (first | with_reducible exact Below.refl _ _ | with_reducible refine Below.drew ?_ | with_reducible refine bl_drewN ?_ _ | with_reducible refine bl_alloc ?_ _)) hb)
  have HB5 := Lib.hid (bl_trans HB4.out HS5.out)
  have hs5 := HB5.out.size
  have hq5 := HS5.out.size
  have HT5 := Lib.hid (tks_to6 HT4.out HS5.out)
  have HX5 := Lib.hid (jbs_to HX4.out HS5.out)
  have HY5 := Lib.hid (jbs_to HY4.out HS5.out)
  rw [HV2.out] at hoz
  have HZ5 := Lib.hid hoz.reads.2
  clear hoz
  clear hb
  try rw [HV2.out]
  have y1 : (Y.length : Int) ≤ (V.length : Int) := by omega
  have y2 : (Y.length : Int) ≤ (cx : Int) := by omega
  have y3 : Y.length ≤ cx := by omega
  have y0 : (0 : Int) ≤ (Y.length : Int) := by omega
  go_wp2_with fail
  refine (dmJobs_any _ Ax Az Y.length cx cz Y (by have h1 := Jbs.take (jbs_to HX5.out (by repeat (first | with_reducible exact Below.refl _ _ | with_reducible refine Below.drew ?_ | with_reducible refine bl_drewN ?_ _ | with_reducible refine bl_alloc ?_ _))) hlr; rw [HTK.out] at h1; exact h1) (jbs_to HZ5.out (by repeat (first | with_reducible exact Below.refl _ _ | with_reducible refine Below.drew ?_ | with_reducible refine bl_drewN ?_ _ | with_reducible refine bl_alloc ?_ _))) (by omega)).mono ?_
  rintro e w6 ⟨rfl, hb⟩
  have HS6 := Lib.hid (show Below w5.heap.size w5 w6 from bl_trans (by repeat (first | with_reducible exact Below.refl _ _ | with_reducible refine Below.drew ?_ | with_reducible refine bl_drewN ?_ _ | with_reducible refine bl_alloc ?_ _)) hb)
  have HB6 := Lib.hid (bl_trans HB5.out HS6.out)
  have hs6 := HB6.out.size
  have hq6 := HS6.out.size
  have HT6 := Lib.hid (tks_to6 HT5.out HS6.out)
  have HX6 := Lib.hid (jbs_to HX5.out HS6.out)
  have HY6 := Lib.hid (jbs_to HY5.out HS6.out)
  have HZ6 := Lib.hid (jbs_to HZ5.out HS6.out)
  clear hb
  go_wp2
  go_ret
  exact ⟨rfl, by repeat (first | with_reducible exact HB6.out | refine bl_drewN ?_ _ | refine Below.drew ?_ | refine bl_alloc ?_ _)⟩

end Go.Proofs.Ytflilandcjnpjaa
