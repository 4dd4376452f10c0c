/- The walk of the law FnWorstJobs. -/
import Derived.Test.YtflilandcjnpjaaM6
import Derived.Test.YtflilandcjnpjaaM5
import Derived.Test.YtflilandcjnpjaaM4
namespace Go.Proofs.Ytflilandcjnpjaa
open Go.RowKit
set_option linter.unusedVariables false

theorem ceil_cast {n z j : Nat} (hz : 1 ≤ z) (hj : (n + z - 1) / z = j) : 0 ≤ (n : Int) + (z : Int) - 1 ∧ Int.tdiv ((n : Int) + (z : Int) - 1) (z : Int) = (j : Int) ∧ ((n : Int) + (z : Int) - 1) / (z : Int) = (j : Int) := dem_cast hz hj
theorem sum_take_le {f : Tk → Nat} : ∀ (ts : List Tk) (k : Nat), ((ts.take k).map f).sum ≤ (ts.map f).sum
  | [], k => by simp
  | t :: ts, 0 => by simp
  | t :: ts, k + 1 => by
    have := sum_take_le (f := f) ts k
    rw [List.take_succ_cons, List.map_cons, List.map_cons, List.sum_cons, List.sum_cons]
    omega

set_option maxRecDepth 100000 in
set_option maxHeartbeats 8000000 in
theorem fnWorstJobs_walk (w : World) (A : Option Addr) (n c : Nat) (f : Nat → Int) (h : Code w w.heap.size A n c f) :
    Calls Try.prog 3 #[.slice A n c] w fun e w' => e = .returned (.bool true) ∧ Below w.heap.size w w' := by
  have H := Lib.hid h
  have hle := h.le
  have hmax := h.max
  unfold maxLen at hmax
  clear h
  by_cases hn : 1048576 < n
  · go_enter Try.func3, Try.ntmps3
    go_wp2
    go_ret
    exact ⟨rfl, Below.refl _ _⟩
  go_enter Try.func3, Try.ntmps3
  go_wp2_with fail
  refine (dDrawWorstJobs_any _ A n c f H.out).mono ?_
  rintro e w1 ⟨At, ct, ts, z, hh, rfl, hl, hst, z0, z1, ho, hb⟩
  have HB1 := Lib.hid hb
  have hs1 := HB1.out.size
  have HO1 := Lib.hid ho
  have HT1 := Lib.hid ho.reads.2
  clear ho hst
  clear hb H
  obtain ⟨b, hb⟩ : ∃ b, worstB ts z hh = b := ⟨_, rfl⟩
  have HPB := Lib.hid hb
  clear hb
  obtain ⟨V, hV⟩ : ∃ V, worstV ts z hh = V := ⟨_, rfl⟩
  have HPV := Lib.hid hV
  have hVl : V.length ≤ 60 := by
    rw [← hV]; unfold worstV; split
    · rename_i hwb; unfold worstB at hwb; simp at hwb; exact hwb.2.2.2
    · simp
  clear hV
  go_wp2_with fail
  refine (iWorst_is _ At _ ct ts (tks_to6 HT1.out (by repeat (first | with_reducible exact Below.refl _ _ | with_reducible refine Below.drew ?_ | with_reducible refine bl_drewN ?_ _ | with_reducible refine bl_alloc ?_ _))) (by omega) z hh b HPB.out).mono ?_
  rintro e w2 ⟨Ax, cx, rfl, hox, hb⟩
  have HS2 := Lib.hid (show Below w1.heap.size w1 w2 from bl_trans (by repeat (first | with_reducible exact Below.refl _ _ | with_reducible refine Below.drew ?_ | with_reducible refine bl_drewN ?_ _ | with_reducible refine bl_alloc ?_ _)) hb)
  have HB2 := Lib.hid (bl_trans HB1.out HS2.out)
  have hs2 := HB2.out.size
  have hq2 := HS2.out.size
  have HT2 := Lib.hid (tks_to6 HT1.out HS2.out)
  rw [HPV.out] at hox
  have HOX2 := Lib.hid hox
  have HX2 := Lib.hid hox.reads.2
  clear hox
  clear hb
  try rw [HPV.out]
  go_wp2_with fail
  refine (sWorst_is _ At _ ct ts (tks_to6 HT2.out (by repeat (first | with_reducible exact Below.refl _ _ | with_reducible refine Below.drew ?_ | with_reducible refine bl_drewN ?_ _ | with_reducible refine bl_alloc ?_ _))) (by omega) z hh b HPB.out).mono ?_
  rintro e w3 ⟨gy, cy, rfl, hoy, hb⟩
  have HS3 := Lib.hid (show Below w2.heap.size w2 w3 from bl_trans (by repeat (first | with_reducible exact Below.refl _ _ | with_reducible refine Below.drew ?_ | with_reducible refine bl_drewN ?_ _ | with_reducible refine bl_alloc ?_ _)) hb)
  have HB3 := Lib.hid (bl_trans HB2.out HS3.out)
  have hs3 := HB3.out.size
  have hq3 := HS3.out.size
  have HT3 := Lib.hid (tks_to6 HT2.out HS3.out)
  have HX3 := Lib.hid (jbs_to HX2.out HS3.out)
  rw [HPV.out] at hoy
  have HY3 := Lib.hid hoy.reads.2
  clear hoy
  clear hb
  try rw [HPV.out]
  cases b
  · skip
    go_wp2_with fail
    refine (dmJobs_any _ Ax (some ⟨gy, 0, none⟩) V.length cx cy V (jbs_to HX3.out (by repeat (first | with_reducible exact Below.refl _ _ | with_reducible refine Below.drew ?_ | with_reducible refine bl_drewN ?_ _ | with_reducible refine bl_alloc ?_ _))) (jbs_to HY3.out (by repeat (first | with_reducible exact Below.refl _ _ | with_reducible refine Below.drew ?_ | with_reducible refine bl_drewN ?_ _ | with_reducible refine bl_alloc ?_ _))) (by omega)).mono ?_
    rintro e w4 ⟨rfl, hb⟩
    have HS4 := Lib.hid (show Below w3.heap.size w3 w4 from bl_trans (by repeat (first | with_reducible exact Below.refl _ _ | with_reducible refine Below.drew ?_ | with_reducible refine bl_drewN ?_ _ | with_reducible refine bl_alloc ?_ _)) hb)
    have HB4 := Lib.hid (bl_trans HB3.out HS4.out)
    have hs4 := HB4.out.size
    have hq4 := HS4.out.size
    have HT4 := Lib.hid (tks_to6 HT3.out HS4.out)
    have HX4 := Lib.hid (jbs_to HX3.out HS4.out)
    have HY4 := Lib.hid (jbs_to HY3.out HS4.out)
    clear hb
    go_wp2_with fail
    refine (dmJobs_any _ Ax (some ⟨gy, 0, none⟩) V.length cx cy V (jbs_to HX4.out (by repeat (first | with_reducible exact Below.refl _ _ | with_reducible refine Below.drew ?_ | with_reducible refine bl_drewN ?_ _ | with_reducible refine bl_alloc ?_ _))) (jbs_to HY4.out (by repeat (first | with_reducible exact Below.refl _ _ | with_reducible refine Below.drew ?_ | with_reducible refine bl_drewN ?_ _ | with_reducible refine bl_alloc ?_ _))) (by omega)).mono ?_
    rintro e w5 ⟨rfl, hb⟩
    have HS5 := Lib.hid (show Below w4.heap.size w4 w5 from bl_trans (by repeat (first | with_reducible exact Below.refl _ _ | with_reducible refine Below.drew ?_ | with_reducible refine bl_drewN ?_ _ | with_reducible refine bl_alloc ?_ _)) hb)
    have HB5 := Lib.hid (bl_trans HB4.out HS5.out)
    have hs5 := HB5.out.size
    have hq5 := HS5.out.size
    have HT5 := Lib.hid (tks_to6 HT4.out HS5.out)
    have HX5 := Lib.hid (jbs_to HX4.out HS5.out)
    have HY5 := Lib.hid (jbs_to HY4.out HS5.out)
    clear hb
    go_wp2
    go_ret
    exact ⟨rfl, by repeat (first | with_reducible exact HB5.out | refine bl_drewN ?_ _ | refine Below.drew ?_ | refine bl_alloc ?_ _)⟩
  obtain ⟨hset, hz0, hz1, hz2⟩ : setB ts = true ∧ 0 ≤ z ∧ z ≤ 200 ∧ (worstL hh ts z.toNat).length ≤ 60 := by
    have h1 := HPB.out
    unfold worstB at h1
    simp at h1
    exact ⟨h1.1, h1.2.1, h1.2.2.1, h1.2.2.2⟩
  obtain ⟨u, rfl⟩ : ∃ u : Nat, z = (u : Int) := ⟨z.toNat, by omega⟩
  rw [Int.toNat_natCast] at hz2
  have HVW := Lib.hid (show V = worstL hh ts u by rw [← HPV.out]; unfold worstV; rw [HPB.out, Int.toNat_natCast]; rfl)
  have HSET := Lib.hid hset
  clear hset
  go_wp2_with fail
  refine (dmJobs_any _ Ax (some ⟨gy, 0, none⟩) V.length cx cy V (jbs_to HX3.out (by repeat (first | with_reducible exact Below.refl _ _ | with_reducible refine Below.drew ?_ | with_reducible refine bl_drewN ?_ _ | with_reducible refine bl_alloc ?_ _))) (jbs_to HY3.out (by repeat (first | with_reducible exact Below.refl _ _ | with_reducible refine Below.drew ?_ | with_reducible refine bl_drewN ?_ _ | with_reducible refine bl_alloc ?_ _))) (by omega)).mono ?_
  rintro e w4 ⟨rfl, hb⟩
  have HS4 := Lib.hid (show Below w3.heap.size w3 w4 from bl_trans (by repeat (first | with_reducible exact Below.refl _ _ | with_reducible refine Below.drew ?_ | with_reducible refine bl_drewN ?_ _ | with_reducible refine bl_alloc ?_ _)) hb)
  have HB4 := Lib.hid (bl_trans HB3.out HS4.out)
  have hs4 := HB4.out.size
  have hq4 := HS4.out.size
  have HT4 := Lib.hid (tks_to6 HT3.out HS4.out)
  have HX4 := Lib.hid (jbs_to HX3.out HS4.out)
  have HY4 := Lib.hid (jbs_to HY3.out HS4.out)
  clear hb
  have hok : ∀ t ∈ ts, t.ok = true := by
    have h7 := HSET.out; unfold setB at h7; simp at h7
    exact h7.2
  have hev : ∀ t ∈ ts, 0 < t.ev := fun t ht => by
    have h1 := hok t ht
    unfold Tk.ok validB at h1
    simp at h1
    omega
  have HJW := Lib.hid (show jobsB ts V = true by
    rw [HVW.out]
    have h1 := worst_jobs HPB.out
    rwa [Int.toNat_natCast] at h1)
  have HCNT := Lib.hid (show V.length = (ts.map (ceilD u)).sum by rw [HVW.out]; exact worst_count hev)
  have HNEED := Lib.hid (show ∀ (i : Nat) (t : Tk), ts[i]? = some t → needJ V (i : Int) = (ceilD u t : Int) * needOf hh t from fun i t ht => by
    unfold needJ
    rw [jobs_wrs HJW.out, if_pos rfl, HVW.out]
    exact worst_need ht (hev t (List.mem_of_getElem? ht)))
  have HOK := Lib.hid hok
  clear hok hev
  go_wp2
  go_loopw [10, 11] (fun m i wr => ∃ q : Nat, q ≤ ts.length ∧ i = .int .i64 q ∧ m = .int .i64 (((ts.take q).map (ceilD u)).sum : Int) ∧ Hid (Below w4.heap.size w4 wr)) (fun _ i _ => ts.length - (intOf i).toNat)
  case atStart => exact ⟨0, Nat.zero_le _, rfl, rfl, Lib.hid (Below.refl _ _)⟩
  case round =>
    obtain ⟨q, hq, rfl, rfl, HS⟩ := hrel
    obtain ⟨w9, hw9⟩ : ∃ W, W = wr := ⟨_, rfl⟩
    subst hw9
    have hsl : ((ts.take q).map (ceilD u)).sum ≤ 60 := by
      have h1 := sum_take_le (f := ceilD u) ts q
      have h2 := HCNT.out
      omega
    by_cases hqm : q < ts.length
    · skip
      have q1 : (q : Int) < (ts.length : Int) := by omega
      have q0 : (0 : Int) ≤ (q : Int) := by omega
      obtain ⟨t, ht⟩ : ∃ t, ts[q]? = some t := ⟨ts[q], List.getElem?_eq_getElem _⟩
      have hto := HOK.out t (List.mem_of_getElem? ht)
      have hnd := HNEED.out q t ht
      have HTK := Lib.hid (show ((ts.take (q + 1)).map (ceilD u)).sum = ((ts.take q).map (ceilD u)).sum + ceilD u t by rw [List.take_add_one, ht]; simp)
      obtain ⟨bt, ot, rfl, hbt, t0, t1, t2, t3, t4⟩ := (tks_to6 HT4.out HS.out).at_ q t ht
      obtain ⟨m, hm⟩ : ∃ m, ((ts.take q).map (ceilD u)).sum = m := ⟨_, rfl⟩
      have HM := Lib.hid hm
      rw [hm] at hsl
      simp only [hm]
      clear hm
      obtain ⟨b1, b2, b3, b4, b5, _⟩ := ok_parts hto
      have HTO := Lib.hid hto
      obtain ⟨lo, hi', du, ev, cr⟩ := t
      dsimp only at t0 t1 t2 t3 t4 b1 b2 b3 b4 b5
      obtain ⟨z, rfl⟩ := Int.eq_ofNat_of_zero_le (show 0 ≤ ev by omega)
      obtain ⟨a, rfl⟩ := Int.eq_ofNat_of_zero_le (show 0 ≤ lo by omega)
      obtain ⟨b, rfl⟩ := Int.eq_ofNat_of_zero_le (show 0 ≤ hi' by omega)
      obtain ⟨j, hj⟩ : ∃ j, (u + z - 1) / z = j := ⟨_, rfl⟩
      have hcj : ceilD u ⟨(a : Int), (b : Int), du, (z : Int), cr⟩ = j := hj
      rw [hcj] at hnd
      have hju : j ≤ u + 20 := by rw [← hj]; exact Nat.le_trans (Nat.div_le_self _ _) (by omega)
      obtain ⟨c1, c2, c3⟩ := ceil_cast (n := u) (z := z) (by omega) hj
      have HNX := Lib.hid (show ((ts.take (q + 1)).map (ceilD u)).sum = m + j by rw [HTK.out, HM.out, hcj])
      obtain ⟨d, hd⟩ : ∃ d, dmd ⟨(a : Int), (b : Int), du, (z : Int), cr⟩ u hh = d := ⟨_, rfl⟩
      have HDM := Lib.hid (show dmOf ⟨(a : Int), (b : Int), du, (z : Int), cr⟩ (u : Int) hh = (d, true) by
        unfold dmOf
        rw [HTO.out, decide_eq_true (show (0 : Int) ≤ u by omega), decide_eq_true (show (u : Int) ≤ 1000000 by omega), ← hd]; rfl)
      have HND := Lib.hid (show needJ V (q : Int) = (d : Int) by
        rw [hnd, ← hd, ← hj]
        unfold dmd demN needOf
        cases hh <;> simp)
      have kw1 : IntKind.i64.wrap ((u : Int) + (z : Int)) = (u : Int) + (z : Int) := IntWalk.i64_in _ (by omega)
      have kw2 : IntKind.i64.wrap ((u : Int) + (z : Int) - 1) = (u : Int) + (z : Int) - 1 := IntWalk.i64_in _ (by omega)
      have kw3 : IntKind.i64.wrap (j : Int) = (j : Int) := IntWalk.i64_in _ (by omega)
      have kw4 : IntKind.i64.wrap ((m : Int) + (j : Int)) = (m : Int) + (j : Int) := IntWalk.i64_in _ (by omega)
      have zz : ¬ (z : Int) = 0 := by omega
      have zb : ((z : Int) == 0) = false := by simp; omega
      clear hto hnd hcj hj hd ht
      go_wp2
      go_quiet (fail)
      have HS5 := Lib.hid (bl_drewN HS.out nq)
      have t0' : (w9.drewN nq).cell? ⟨bt, ot + q * 5, none⟩ = some (.int .i64 (a : Int)) := t0
      have t1' : (w9.drewN nq).cell? ⟨bt, ot + q * 5 + 1, none⟩ = some (.int .i64 (b : Int)) := t1
      have t2' : (w9.drewN nq).cell? ⟨bt, ot + q * 5 + 2, none⟩ = some (.int .i64 du) := t2
      have t3' : (w9.drewN nq).cell? ⟨bt, ot + q * 5 + 3, none⟩ = some (.int .i64 (z : Int)) := t3
      have t4' : (w9.drewN nq).cell? ⟨bt, ot + q * 5 + 4, none⟩ = some (.bool cr) := t4
      clear t0 t1 t2 t3 t4 kw1 kw2 kw3 c1 c2 c3
      generalize (w9.drewN nq) = w5 at *
      go_wp2_with fail
      refine (iDemandOf_is _ (a : Int) (b : Int) du (z : Int) cr (u : Int) hh d true HDM.out).mono ?_
      rintro e w6 ⟨rfl, hb6⟩
      have HS6 := Lib.hid (bl_trans HS5.out hb6)
      clear hb6 t0' t1' t2' t3' t4'
      go_wp2_with fail
      refine (iNeed_is _ Ax V.length cx V (jbs_to HX4.out (by repeat (first | with_reducible exact HS6.out | with_reducible refine Below.drew ?_ | with_reducible refine bl_drewN ?_ _ | with_reducible refine bl_alloc ?_ _))) (q : Int) (d : Int) HND.out).mono ?_
      rintro e w7 ⟨rfl, hb7⟩
      have HS7 := Lib.hid (bl_trans HS6.out hb7)
      clear hb7
      go_wp2
      go_roundw
      case rel => exact ⟨q + 1, by omega, by go_num, by rw [HNX.out]; go_num, HS7⟩
      case measure => simp [intOf]; omega
    · obtain rfl : q = ts.length := by omega
      have hall : ((ts.take ts.length).map (ceilD u)).sum = V.length := by rw [List.take_length, HCNT.out]
      rw [hall]
      clear hall
      have HB9 := Lib.hid (bl_trans HB4.out HS.out)
      go_wp2_with fail
      refine (iJobs_is _ At _ ct ts (tks_to6 HT4.out (by repeat (first | with_reducible exact HS.out | with_reducible refine Below.drew ?_ | with_reducible refine bl_drewN ?_ _ | with_reducible refine bl_alloc ?_ _))) (by omega) Ax V.length cx V (jbs_to HX4.out (by repeat (first | with_reducible exact HS.out | with_reducible refine Below.drew ?_ | with_reducible refine bl_drewN ?_ _ | with_reducible refine bl_alloc ?_ _))) true HJW.out).mono ?_
      rintro e w10 ⟨rfl, hb⟩
      have HB10 := Lib.hid (bl_trans HB9.out hb)
      clear hb
      go_wp2
      go_ret
      exact ⟨by simp, HB10.out⟩

end Go.Proofs.Ytflilandcjnpjaa
