/- The walk of the law FnWorstText. -/
import Derived.Test.YthdclaljgimclaaDoorQWo
import Derived.Test.YthdclaljgimclaaDoorSWo
import Derived.Test.YthdclaljgimclaaDoorSDw
import Derived.Test.YthdclaljgimclaaDoorDt
import Derived.Test.YthdclaljgimclaaDoorQPk
import Derived.Test.YthdclaljgimclaaDoorDm
namespace Go.Proofs.YthdclaljgimclaaDoor
open Go.RowKit
set_option linter.unusedVariables false

theorem iParseJ_to (w : World) (l : List UInt8) (hl : l.length ≤ 1000000) (hv : Vars w) (ht : TG w) (js : List Jb) (b : Bool) (hj : jsOf l = js) (hb : okJ l = b) :
    Calls Tryd.prog 13 #[str l] w (JsRes2 js b w) := by
  subst hj hb; exact iParseJ_is w l hl hv ht
theorem sParseJ_to (w : World) (l : List UInt8) (hl : l.length ≤ 1000000) (js : List Jb) (b : Bool) (hj : jsOf l = js) (hb : okJ l = b) :
    Calls Tryd.prog 16 #[str l] w (JsRes2 js b w) := by
  subst hj hb; exact sParseJ_is w l hl
theorem jsOf_len (l : List UInt8) : (jsOf l).length ≤ 60 := by
  cases h : okJ l
  · rw [js_no h]; exact Nat.zero_le _
  · exact (wrsB_iff.1 (text_ok h).1).1


set_option maxRecDepth 100000 in
set_option maxHeartbeats 8000000 in
theorem fnWorstText_walk (w : World) (A : Option Addr) (n c : Nat) (f : Nat → Int) (h : Code w w.heap.size A n c f) (hv : Vars w) (ht : TG w) :
    Calls Tryd.prog 7 #[.slice A n c] w fun e w' => e = .returned (.bool true) ∧ Below w.heap.size w w' := by
  have HTG0 := Lib.hid ht
  clear ht
  have HVS0 := Lib.hid hv
  clear hv
  have H := Lib.hid h
  have hle := h.le
  have hmax := h.max
  unfold maxLen at hmax
  clear h
  by_cases hn : 1048576 < n
  · go_enter Tryd.func7, Tryd.ntmps7
    go_wp2
    go_ret
    exact ⟨rfl, Below.refl _ _⟩
  go_enter Tryd.func7, Tryd.ntmps7
  go_wp2_with fail
  refine (dDrawWorstJobs_any _ A n c f H.out).mono ?_
  rintro e w1 ⟨At, ct, ts, z, hh, rfl, hl, hst, z0, z1, ho, hb⟩
  have HB1 := Lib.hid hb
  have hs1 := HB1.out.size
  have HO1 := Lib.hid ho
  have HT1 := Lib.hid ho.reads.2
  clear ho hst
  clear hb H
  have HTG1 := Lib.hid (HTG0.out.below HB1.out)
  have HVS1 := Lib.hid (HVS0.out.below HB1.out)
  obtain ⟨b, hb⟩ : ∃ b, worstB ts z hh = b := ⟨_, rfl⟩
  have HPB := Lib.hid hb
  clear hb
  obtain ⟨V, hV⟩ : ∃ V, worstV ts z hh = V := ⟨_, rfl⟩
  have HPV := Lib.hid hV
  have hVl : V.length ≤ 60 := by
    rw [← hV]; unfold worstV; split
    · rename_i hwb; unfold worstB at hwb; simp at hwb; exact hwb.2.2.2
    · simp
  clear hV
  go_wp2_with fail
  refine (iWorst_is _ At _ ct ts (tks_to6 HT1.out (by repeat (first | with_reducible exact Below.refl _ _ | with_reducible refine Below.drew ?_ | with_reducible refine bl_drewN ?_ _ | with_reducible refine bl_alloc ?_ _))) (by omega) z hh b HPB.out).mono ?_
  rintro e w2 ⟨Ax, cx, rfl, hox, hb⟩
  have HS2 := Lib.hid (show Below w1.heap.size w1 w2 from bl_trans (by repeat (first | with_reducible exact Below.refl _ _ | with_reducible refine Below.drew ?_ | with_reducible refine bl_drewN ?_ _ | with_reducible refine bl_alloc ?_ _)) hb)
  have HB2 := Lib.hid (bl_trans HB1.out HS2.out)
  have hs2 := HB2.out.size
  have hq2 := HS2.out.size
  have HT2 := Lib.hid (tks_to6 HT1.out HS2.out)
  rw [HPV.out] at hox
  have HXJ2 := Lib.hid hox.reads.2
  clear hox
  clear hb
  have HTG2 := Lib.hid (HTG1.out.below HS2.out)
  have HVS2 := Lib.hid (HVS1.out.below HS2.out)
  try rw [HPV.out]
  go_wp2_with fail
  refine (sWorst_is _ At _ ct ts (tks_to6 HT2.out (by repeat (first | with_reducible exact Below.refl _ _ | with_reducible refine Below.drew ?_ | with_reducible refine bl_drewN ?_ _ | with_reducible refine bl_alloc ?_ _))) (by omega) z hh b HPB.out).mono ?_
  rintro e w3 ⟨gy, cy, rfl, hoy, hb⟩
  have HS3 := Lib.hid (show Below w2.heap.size w2 w3 from bl_trans (by repeat (first | with_reducible exact Below.refl _ _ | with_reducible refine Below.drew ?_ | with_reducible refine bl_drewN ?_ _ | with_reducible refine bl_alloc ?_ _)) hb)
  have HB3 := Lib.hid (bl_trans HB2.out HS3.out)
  have hs3 := HB3.out.size
  have hq3 := HS3.out.size
  have HT3 := Lib.hid (tks_to6 HT2.out HS3.out)
  have HXJ3 := Lib.hid (jbs_to HXJ2.out HS3.out)
  rw [HPV.out] at hoy
  have HYJ3 := Lib.hid hoy.reads.2
  clear hoy
  clear hb
  have HTG3 := Lib.hid (HTG2.out.below HS3.out)
  have HVS3 := Lib.hid (HVS2.out.below HS3.out)
  try rw [HPV.out]
  go_wp2_with fail
  refine (dmJobs_any _ Ax (some ⟨gy, 0, none⟩) V.length cx cy V (jbs_to HXJ3.out (by repeat (first | with_reducible exact Below.refl _ _ | with_reducible refine Below.drew ?_ | with_reducible refine bl_drewN ?_ _ | with_reducible refine bl_alloc ?_ _))) (jbs_to HYJ3.out (by repeat (first | with_reducible exact Below.refl _ _ | with_reducible refine Below.drew ?_ | with_reducible refine bl_drewN ?_ _ | with_reducible refine bl_alloc ?_ _))) (by omega)).mono ?_
  rintro e w4 ⟨rfl, hb⟩
  have HS4 := Lib.hid (show Below w3.heap.size w3 w4 from bl_trans (by repeat (first | with_reducible exact Below.refl _ _ | with_reducible refine Below.drew ?_ | with_reducible refine bl_drewN ?_ _ | with_reducible refine bl_alloc ?_ _)) hb)
  have HB4 := Lib.hid (bl_trans HB3.out HS4.out)
  have hs4 := HB4.out.size
  have hq4 := HS4.out.size
  have HT4 := Lib.hid (tks_to6 HT3.out HS4.out)
  have HXJ4 := Lib.hid (jbs_to HXJ3.out HS4.out)
  have HYJ4 := Lib.hid (jbs_to HYJ3.out HS4.out)
  clear hb
  have HTG4 := Lib.hid (HTG3.out.below HS4.out)
  have HVS4 := Lib.hid (HVS3.out.below HS4.out)
  cases b
  · skip
    go_wp2_with fail
    refine (dmJobs_any _ Ax (some ⟨gy, 0, none⟩) V.length cx cy V (jbs_to HXJ4.out (by repeat (first | with_reducible exact Below.refl _ _ | with_reducible refine Below.drew ?_ | with_reducible refine bl_drewN ?_ _ | with_reducible refine bl_alloc ?_ _))) (jbs_to HYJ4.out (by repeat (first | with_reducible exact Below.refl _ _ | with_reducible refine Below.drew ?_ | with_reducible refine bl_drewN ?_ _ | with_reducible refine bl_alloc ?_ _))) (by omega)).mono ?_
    rintro e w5 ⟨rfl, hb⟩
    have HS5 := Lib.hid (show Below w4.heap.size w4 w5 from bl_trans (by repeat (first | with_reducible exact Below.refl _ _ | with_reducible refine Below.drew ?_ | with_reducible refine bl_drewN ?_ _ | with_reducible refine bl_alloc ?_ _)) hb)
    have HB5 := Lib.hid (bl_trans HB4.out HS5.out)
    have hs5 := HB5.out.size
    have hq5 := HS5.out.size
    have HT5 := Lib.hid (tks_to6 HT4.out HS5.out)
    have HXJ5 := Lib.hid (jbs_to HXJ4.out HS5.out)
    have HYJ5 := Lib.hid (jbs_to HYJ4.out HS5.out)
    clear hb
    have HTG5 := Lib.hid (HTG4.out.below HS5.out)
    have HVS5 := Lib.hid (HVS4.out.below HS5.out)
    go_wp2
    go_ret
    exact ⟨rfl, by repeat (first | with_reducible exact HB5.out | refine bl_drewN ?_ _ | refine Below.drew ?_ | refine bl_alloc ?_ _)⟩
  have hjb : jobsB ts V = true := by
    have h1 := worst_jobs HPB.out
    have e : V = worstL hh ts z.toNat := by rw [← HPV.out]; unfold worstV; rw [HPB.out]; rfl
    rw [e]; exact h1
  have hw := jobs_wrs hjb
  obtain ⟨fl, hfl⟩ : ∃ fl, fmtJ V = fl := ⟨_, rfl⟩
  have HF := Lib.hid hfl
  have hlen : fl.length ≤ 720 := by rw [← hfl]; exact fmt_len V
  have htx : textJs V = fl := by rw [← hfl]; unfold fmtJ; rw [hw]; rfl
  have HO1 := Lib.hid (ok_of hw htx).1
  have HO2 := Lib.hid (ok_of hw htx).2
  clear hw htx hfl hjb
  go_wp2_with fail
  refine (iFmtJ_to _ Ax V.length cx V (jbs_to HXJ4.out (by repeat (first | with_reducible exact Below.refl _ _ | with_reducible refine Below.drew ?_ | with_reducible refine bl_drewN ?_ _ | with_reducible refine bl_alloc ?_ _))) (HTG4.out.below (by repeat (first | with_reducible exact Below.refl _ _ | with_reducible refine Below.drew ?_ | with_reducible refine bl_drewN ?_ _ | with_reducible refine bl_alloc ?_ _))) fl HF.out).mono ?_
  rintro e w5 ⟨rfl, hb⟩
  have HS5 := Lib.hid (show Below w4.heap.size w4 w5 from bl_trans (by repeat (first | with_reducible exact Below.refl _ _ | with_reducible refine Below.drew ?_ | with_reducible refine bl_drewN ?_ _ | with_reducible refine bl_alloc ?_ _)) hb)
  have HB5 := Lib.hid (bl_trans HB4.out HS5.out)
  have hs5 := HB5.out.size
  have hq5 := HS5.out.size
  have HT5 := Lib.hid (tks_to6 HT4.out HS5.out)
  have HXJ5 := Lib.hid (jbs_to HXJ4.out HS5.out)
  have HYJ5 := Lib.hid (jbs_to HYJ4.out HS5.out)
  clear hb
  have HTG5 := Lib.hid (HTG4.out.below HS5.out)
  have HVS5 := Lib.hid (HVS4.out.below HS5.out)
  go_wp2_with fail
  refine (iParseJ_to _ fl (by omega) (HVS5.out.below (by repeat (first | with_reducible exact Below.refl _ _ | with_reducible refine Below.drew ?_ | with_reducible refine bl_drewN ?_ _ | with_reducible refine bl_alloc ?_ _))) (HTG5.out.below (by repeat (first | with_reducible exact Below.refl _ _ | with_reducible refine Below.drew ?_ | with_reducible refine bl_drewN ?_ _ | with_reducible refine bl_alloc ?_ _))) V true HO2.out HO1.out).mono ?_
  rintro e w6 ⟨Az, cz, rfl, hoz, hb⟩
  have HS6 := Lib.hid (show Below w5.heap.size w5 w6 from bl_trans (by repeat (first | with_reducible exact Below.refl _ _ | with_reducible refine Below.drew ?_ | with_reducible refine bl_drewN ?_ _ | with_reducible refine bl_alloc ?_ _)) hb)
  have HB6 := Lib.hid (bl_trans HB5.out HS6.out)
  have hs6 := HB6.out.size
  have hq6 := HS6.out.size
  have HT6 := Lib.hid (tks_to6 HT5.out HS6.out)
  have HXJ6 := Lib.hid (jbs_to HXJ5.out HS6.out)
  have HYJ6 := Lib.hid (jbs_to HYJ5.out HS6.out)
  have HZJ6 := Lib.hid hoz.reads.2
  clear hoz
  clear hb
  have HTG6 := Lib.hid (HTG5.out.below HS6.out)
  have HVS6 := Lib.hid (HVS5.out.below HS6.out)
  go_wp2_with fail
  refine (dmJobs_any _ Az Ax V.length cz cx V (jbs_to HZJ6.out (by repeat (first | with_reducible exact Below.refl _ _ | with_reducible refine Below.drew ?_ | with_reducible refine bl_drewN ?_ _ | with_reducible refine bl_alloc ?_ _))) (jbs_to HXJ6.out (by repeat (first | with_reducible exact Below.refl _ _ | with_reducible refine Below.drew ?_ | with_reducible refine bl_drewN ?_ _ | with_reducible refine bl_alloc ?_ _))) (by omega)).mono ?_
  rintro e w7 ⟨rfl, hb⟩
  have HS7 := Lib.hid (show Below w6.heap.size w6 w7 from bl_trans (by repeat (first | with_reducible exact Below.refl _ _ | with_reducible refine Below.drew ?_ | with_reducible refine bl_drewN ?_ _ | with_reducible refine bl_alloc ?_ _)) hb)
  have HB7 := Lib.hid (bl_trans HB6.out HS7.out)
  have hs7 := HB7.out.size
  have hq7 := HS7.out.size
  have HT7 := Lib.hid (tks_to6 HT6.out HS7.out)
  have HXJ7 := Lib.hid (jbs_to HXJ6.out HS7.out)
  have HYJ7 := Lib.hid (jbs_to HYJ6.out HS7.out)
  have HZJ7 := Lib.hid (jbs_to HZJ6.out HS7.out)
  clear hb
  have HTG7 := Lib.hid (HTG6.out.below HS7.out)
  have HVS7 := Lib.hid (HVS6.out.below HS7.out)
  go_wp2
  go_ret
  exact ⟨rfl, by repeat (first | with_reducible exact HB7.out | refine bl_drewN ?_ _ | refine Below.drew ?_ | refine bl_alloc ?_ _)⟩

end Go.Proofs.YthdclaljgimclaaDoor
