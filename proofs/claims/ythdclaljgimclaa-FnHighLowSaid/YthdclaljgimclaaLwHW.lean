/- The walk of the law FnHighLow. -/
import Derived.Test.YthdclaljgimclaaM5
import Derived.Test.YthdclaljgimclaaM4
import Derived.Test.YthdclaljgimclaaM2
namespace Go.Proofs.Ythdclaljgimclaa
open Go.RowKit
set_option linter.unusedVariables false

set_option maxRecDepth 100000 in
set_option maxHeartbeats 8000000 in
theorem fnHighLow_walk (w : World) (A : Option Addr) (n c : Nat) (f : Nat → Int) (h : Code w w.heap.size A n c f) :
    Calls Try.prog 5 #[.slice A n c] w fun e w' => e = .returned (.bool true) ∧ Below w.heap.size w w' := by
  have H := Lib.hid h
  have hle := h.le
  have hmax := h.max
  unfold maxLen at hmax
  clear h
  by_cases hn : 1048576 < n
  · go_enter Try.func5, Try.ntmps5
    go_wp2
    go_ret
    exact ⟨rfl, Below.refl _ _⟩
  go_enter Try.func5, Try.ntmps5
  go_wp2_with fail
  refine (dDrawHighJobs_any _ A n c f H.out).mono ?_
  rintro e w1 ⟨At, ct, ts, gj, cj, js, rfl, hl, hst, hjl, hsj, ho, hj, hb⟩
  have HB1 := Lib.hid hb
  have hs1 := HB1.out.size
  have HO1 := Lib.hid ho
  have HT1 := Lib.hid ho.reads.2
  clear ho hst
  have HOJ1 := Lib.hid hj
  have HJ1 := Lib.hid hj.reads.2
  have hjc := hj.le
  clear hj hsj
  clear hb H
  obtain ⟨zs, hzs⟩ : ∃ zs, highV ts js = zs := ⟨_, rfl⟩
  have HZS := Lib.hid hzs
  have hzl : zs.length ≤ 61 := by rw [← hzs]; exact Nat.le_trans highV_len hjl
  obtain ⟨b, hb⟩ : ∃ b, jobsB ts js = b := ⟨_, rfl⟩
  have HPB := Lib.hid hb
  clear hzs hb
  have hgj := HOJ1.out.cells_
  go_wp2_with fail
  refine (iHighJ_is _ At _ ct ts (tks_to6 HT1.out (by repeat (first | with_reducible exact Below.refl _ _ | with_reducible refine Below.drew ?_ | with_reducible refine bl_drewN ?_ _ | with_reducible refine bl_alloc ?_ _))) (by omega) (some ⟨gj, 0, none⟩) _ cj js (jbs_to HJ1.out (by repeat (first | with_reducible exact Below.refl _ _ | with_reducible refine Below.drew ?_ | with_reducible refine bl_drewN ?_ _ | with_reducible refine bl_alloc ?_ _)))).mono ?_
  rintro e w2 ⟨Ah, ch, rfl, hoh, hb⟩
  have HS2 := Lib.hid (show Below w1.heap.size w1 w2 from bl_trans (by repeat (first | with_reducible exact Below.refl _ _ | with_reducible refine Below.drew ?_ | with_reducible refine bl_drewN ?_ _ | with_reducible refine bl_alloc ?_ _)) hb)
  have HB2 := Lib.hid (bl_trans HB1.out HS2.out)
  have hs2 := HB2.out.size
  have hq2 := HS2.out.size
  have HT2 := Lib.hid (tks_to6 HT1.out HS2.out)
  have HJ2 := Lib.hid (jbs_to HJ1.out HS2.out)
  rw [HZS.out] at hoh
  have HZ2 := Lib.hid hoh.reads
  clear hoh
  clear hb
  try rw [HZS.out]
  go_wp2_with fail
  refine (sHighJ_is _ At _ ct ts (tks_to6 HT2.out (by repeat (first | with_reducible exact Below.refl _ _ | with_reducible refine Below.drew ?_ | with_reducible refine bl_drewN ?_ _ | with_reducible refine bl_alloc ?_ _))) (by omega) (some ⟨gj, 0, none⟩) _ cj js (jbs_to HJ2.out (by repeat (first | with_reducible exact Below.refl _ _ | with_reducible refine Below.drew ?_ | with_reducible refine bl_drewN ?_ _ | with_reducible refine bl_alloc ?_ _)))).mono ?_
  rintro e w3 ⟨Ay, cy, rfl, hoh, hb⟩
  have HS3 := Lib.hid (show Below w2.heap.size w2 w3 from bl_trans (by repeat (first | with_reducible exact Below.refl _ _ | with_reducible refine Below.drew ?_ | with_reducible refine bl_drewN ?_ _ | with_reducible refine bl_alloc ?_ _)) hb)
  have HB3 := Lib.hid (bl_trans HB2.out HS3.out)
  have hs3 := HB3.out.size
  have hq3 := HS3.out.size
  have HT3 := Lib.hid (tks_to6 HT2.out HS3.out)
  have HJ3 := Lib.hid (jbs_to HJ2.out HS3.out)
  have HZ3 := Lib.hid (zs_to HZ2.out HS3.out)
  rw [HZS.out] at hoh
  have Hy3 := Lib.hid hoh.reads
  clear hoh
  clear hb
  try rw [HZS.out]
  go_wp2_with fail
  refine (dmInts_any _ Ah Ay zs.length ch cy zs (zs_to HZ3.out (by repeat (first | with_reducible exact Below.refl _ _ | with_reducible refine Below.drew ?_ | with_reducible refine bl_drewN ?_ _ | with_reducible refine bl_alloc ?_ _))) (zs_to Hy3.out (by repeat (first | with_reducible exact Below.refl _ _ | with_reducible refine Below.drew ?_ | with_reducible refine bl_drewN ?_ _ | with_reducible refine bl_alloc ?_ _))) (by omega)).mono ?_
  rintro e w4 ⟨rfl, hb⟩
  have HS4 := Lib.hid (show Below w3.heap.size w3 w4 from bl_trans (by repeat (first | with_reducible exact Below.refl _ _ | with_reducible refine Below.drew ?_ | with_reducible refine bl_drewN ?_ _ | with_reducible refine bl_alloc ?_ _)) hb)
  have HB4 := Lib.hid (bl_trans HB3.out HS4.out)
  have hs4 := HB4.out.size
  have hq4 := HS4.out.size
  have HT4 := Lib.hid (tks_to6 HT3.out HS4.out)
  have HJ4 := Lib.hid (jbs_to HJ3.out HS4.out)
  have HZ4 := Lib.hid (zs_to HZ3.out HS4.out)
  have Hy4 := Lib.hid (zs_to Hy3.out HS4.out)
  clear hb
  go_wp2_with fail
  refine (iJobs_is _ At _ ct ts (tks_to6 HT4.out (by repeat (first | with_reducible exact Below.refl _ _ | with_reducible refine Below.drew ?_ | with_reducible refine bl_drewN ?_ _ | with_reducible refine bl_alloc ?_ _))) (by omega) (some ⟨gj, 0, none⟩) _ cj js (jbs_to HJ4.out (by repeat (first | with_reducible exact Below.refl _ _ | with_reducible refine Below.drew ?_ | with_reducible refine bl_drewN ?_ _ | with_reducible refine bl_alloc ?_ _))) b HPB.out).mono ?_
  rintro e w5 ⟨rfl, hb⟩
  have HS5 := Lib.hid (show Below w4.heap.size w4 w5 from bl_trans (by repeat (first | with_reducible exact Below.refl _ _ | with_reducible refine Below.drew ?_ | with_reducible refine bl_drewN ?_ _ | with_reducible refine bl_alloc ?_ _)) hb)
  have HB5 := Lib.hid (bl_trans HB4.out HS5.out)
  have hs5 := HB5.out.size
  have hq5 := HS5.out.size
  have HT5 := Lib.hid (tks_to6 HT4.out HS5.out)
  have HJ5 := Lib.hid (jbs_to HJ4.out HS5.out)
  have HZ5 := Lib.hid (zs_to HZ4.out HS5.out)
  have Hy5 := Lib.hid (zs_to Hy4.out HS5.out)
  clear hb
  cases b
  · skip
    go_wp2_with fail
    refine (sHighJ_is _ At _ ct ts (tks_to6 HT5.out (by repeat (first | with_reducible exact Below.refl _ _ | with_reducible refine Below.drew ?_ | with_reducible refine bl_drewN ?_ _ | with_reducible refine bl_alloc ?_ _))) (by omega) (some ⟨gj, 0, none⟩) _ cj js (jbs_to HJ5.out (by repeat (first | with_reducible exact Below.refl _ _ | with_reducible refine Below.drew ?_ | with_reducible refine bl_drewN ?_ _ | with_reducible refine bl_alloc ?_ _)))).mono ?_
    rintro e w6 ⟨Ax, cx, rfl, hoh, hb⟩
    have HS6 := Lib.hid (show Below w5.heap.size w5 w6 from bl_trans (by repeat (first | with_reducible exact Below.refl _ _ | with_reducible refine Below.drew ?_ | with_reducible refine bl_drewN ?_ _ | with_reducible refine bl_alloc ?_ _)) hb)
    have HB6 := Lib.hid (bl_trans HB5.out HS6.out)
    have hs6 := HB6.out.size
    have hq6 := HS6.out.size
    have HT6 := Lib.hid (tks_to6 HT5.out HS6.out)
    have HJ6 := Lib.hid (jbs_to HJ5.out HS6.out)
    have HZ6 := Lib.hid (zs_to HZ5.out HS6.out)
    have Hy6 := Lib.hid (zs_to Hy5.out HS6.out)
    rw [HZS.out] at hoh
    have Hx6 := Lib.hid hoh.reads
    clear hoh
    clear hb
    try rw [HZS.out]
    go_wp2_with fail
    refine (dmInts_any _ Ah Ax zs.length ch cx zs (zs_to HZ6.out (by repeat (first | with_reducible exact Below.refl _ _ | with_reducible refine Below.drew ?_ | with_reducible refine bl_drewN ?_ _ | with_reducible refine bl_alloc ?_ _))) (zs_to Hx6.out (by repeat (first | with_reducible exact Below.refl _ _ | with_reducible refine Below.drew ?_ | with_reducible refine bl_drewN ?_ _ | with_reducible refine bl_alloc ?_ _))) (by omega)).mono ?_
    rintro e w7 ⟨rfl, hb⟩
    have HS7 := Lib.hid (show Below w6.heap.size w6 w7 from bl_trans (by repeat (first | with_reducible exact Below.refl _ _ | with_reducible refine Below.drew ?_ | with_reducible refine bl_drewN ?_ _ | with_reducible refine bl_alloc ?_ _)) hb)
    have HB7 := Lib.hid (bl_trans HB6.out HS7.out)
    have hs7 := HB7.out.size
    have hq7 := HS7.out.size
    have HT7 := Lib.hid (tks_to6 HT6.out HS7.out)
    have HJ7 := Lib.hid (jbs_to HJ6.out HS7.out)
    have HZ7 := Lib.hid (zs_to HZ6.out HS7.out)
    have Hy7 := Lib.hid (zs_to Hy6.out HS7.out)
    have Hx7 := Lib.hid (zs_to Hx6.out HS7.out)
    clear hb
    have hz0 : zs.length = 0 := by
      rw [← HZS.out]; unfold highV; rw [HPB.out]; rfl
    have e0 : ((zs.length : Int) == 0) = true := by simp; exact List.eq_nil_of_length_eq_zero hz0
    clear hz0
    go_wp2
    go_ret
    exact ⟨rfl, by repeat (first | with_reducible exact HB7.out | refine bl_drewN ?_ _ | refine Below.drew ?_ | refine bl_alloc ?_ _)⟩
  go_wp2
  go_loopw [6, 7] (fun m i wr => ∃ q : Nat, q ≤ js.length ∧ i = .int .i64 q ∧ m = .int .i64 ((highI ts 0 (js.take q)).length : Int) ∧ Hid (Below w5.heap.size w5 wr)) (fun _ i _ => js.length - (intOf i).toNat)
  case atStart => exact ⟨0, Nat.zero_le _, rfl, rfl, Lib.hid (Below.refl _ _)⟩
  case round =>
    obtain ⟨q, hq, rfl, rfl, HS⟩ := hrel
    obtain ⟨w9, hw9⟩ : ∃ W, W = wr := ⟨_, rfl⟩
    subst hw9
    by_cases hqm : q < js.length
    · skip
      have q1 : (q : Int) < (js.length : Int) := by omega
      have q0 : (0 : Int) ≤ (q : Int) := by omega
      obtain ⟨j, hj⟩ : ∃ j, js[q]? = some j := ⟨js[q], List.getElem?_eq_getElem _⟩
      have hjo := jobs_job HPB.out (List.mem_of_getElem? hj)
      obtain ⟨b1, b2, b3, b4, b5, b6⟩ := jobB_iff.1 hjo
      obtain ⟨x, t, hx, hxk, ht, htk⟩ := tk_get b1 b2
      have HT0 := Lib.hid (high_take (ts := ts) hj)
      rw [htk] at HT0
      have x1 : (x : Int) < (ts.length : Int) := by omega
      have x0 : (0 : Int) ≤ (x : Int) := by omega
      obtain ⟨_, _, eJ, hbj, a0, a1, a2⟩ := (jbs_to HJ5.out HS.out).at_ q j hj
      injection eJ with eJ
      injection eJ with eJ1 eJ2
      subst eJ1 eJ2
      obtain ⟨bt, ot, rfl, hbt, t0, _, _, _, t4⟩ := (tks_to6 HT5.out HS.out).at_ x t ht
      have hle1 : (highI ts 0 (js.take q)).length ≤ q := Nat.le_trans (high_len _ _ _) (List.length_take_le _ _)
      obtain ⟨m, hm⟩ : ∃ m, (highI ts 0 (js.take q)).length = m := ⟨_, rfl⟩
      have HM := Lib.hid hm
      rw [hm] at hle1
      simp only [hm]
      clear hm
      obtain ⟨ta, tm, ne⟩ := j
      obtain ⟨lo, hi', du, ev, cr⟩ := t
      dsimp only at a0 a1 a2 t0 t4 hx HT0
      subst hx
      simp only [Nat.zero_add] at a0 a1 a2
      clear hj hjo b1 b2 b3 b4 b5 b6 ht htk hxk
      by_cases hd : lo < ne
      · have d1 : decide (lo < ne) = true := decide_eq_true hd
        have HN := Lib.hid (show (highI ts 0 (js.take (q + 1))).length = m + 1 by rw [HT0.out, if_pos hd, List.length_append, HM.out]; rfl)
        clear HT0
        go_wp2
        go_quiet (fail)
        go_wp2
        go_roundw
        case rel => exact ⟨q + 1, by omega, by go_num, by rw [HN.out]; go_num, Lib.hid (by repeat (first | with_reducible exact HS.out | refine bl_drewN ?_ _ | refine Below.drew ?_))⟩
        case measure => simp [intOf]; omega
      · have d1 : decide (lo < ne) = false := decide_eq_false hd
        have HN := Lib.hid (show (highI ts 0 (js.take (q + 1))).length = m by rw [HT0.out, if_neg hd, List.append_nil, HM.out])
        clear HT0
        go_wp2
        go_quiet (fail)
        go_wp2
        go_roundw
        case rel => exact ⟨q + 1, by omega, by go_num, by rw [HN.out], Lib.hid (by repeat (first | with_reducible exact HS.out | refine bl_drewN ?_ _ | refine Below.drew ?_))⟩
        case measure => simp [intOf]; omega
    · obtain rfl : q = js.length := by omega
      have hll : (highI ts 0 (js.take js.length)).length = zs.length := by
        rw [List.take_length, ← HZS.out]; unfold highV; rw [HPB.out]; rfl
      have HB9 := Lib.hid (bl_trans HB5.out HS.out)
      rw [hll]
      clear hll
      go_wp2
      go_ret
      exact ⟨by simp, HB9.out⟩

end Go.Proofs.Ythdclaljgimclaa
