/- The walk of the law FnJobsText. -/
import Derived.Test.YthdclaljgimclaaDoorDt
import Derived.Test.YthdclaljgimclaaDoorSDp
import Derived.Test.YthdclaljgimclaaDoorQPk
import Derived.Test.YthdclaljgimclaaDoorSPk
namespace Go.Proofs.YthdclaljgimclaaDoor
open Go.RowKit
set_option linter.unusedVariables false

theorem iParseJ_to (w : World) (l : List UInt8) (hl : l.length ≤ 1000000) (hv : Vars w) (ht : TG w) (js : List Jb) (b : Bool) (hj : jsOf l = js) (hb : okJ l = b) :
    Calls Tryd.prog 13 #[str l] w (JsRes2 js b w) := by
  subst hj hb; exact iParseJ_is w l hl hv ht
theorem sParseJ_to (w : World) (l : List UInt8) (hl : l.length ≤ 1000000) (js : List Jb) (b : Bool) (hj : jsOf l = js) (hb : okJ l = b) :
    Calls Tryd.prog 16 #[str l] w (JsRes2 js b w) := by
  subst hj hb; exact sParseJ_is w l hl
theorem jsOf_len (l : List UInt8) : (jsOf l).length ≤ 60 := by
  cases h : okJ l
  · rw [js_no h]; exact Nat.zero_le _
  · exact (wrsB_iff.1 (text_ok h).1).1


set_option maxRecDepth 100000 in
set_option maxHeartbeats 8000000 in
theorem fnJobsText_walk (w : World) (A : Option Addr) (n c : Nat) (f : Nat → Int) (h : Code w w.heap.size A n c f) (A9 : Option Addr) (n9 c9 : Nat) (f9 : Nat → Int) (h9 : Code w w.heap.size A9 n9 c9 f9) (hv : Vars w) (ht : TG w) :
    Calls Tryd.prog 3 #[.slice A n c, .slice A9 n9 c9] w fun e w' => e = .returned (.bool true) ∧ Below w.heap.size w w' := by
  have HTG0 := Lib.hid ht
  have HVS0 := Lib.hid hv
  clear ht hv
  have H := Lib.hid h
  have H9 := Lib.hid h9
  have hle := h.le
  have hmax := h.max
  have hle9 := h9.le
  have hmax9 := h9.max
  unfold maxLen at hmax hmax9
  clear h h9
  by_cases hn : 1048576 < n
  · go_enter Tryd.func3, Tryd.ntmps3
    go_wp2
    go_ret
    exact ⟨rfl, Below.refl _ _⟩
  by_cases hn9 : 1048576 < n9
  · go_enter Tryd.func3, Tryd.ntmps3
    go_wp2
    go_ret
    exact ⟨rfl, Below.refl _ _⟩
  go_enter Tryd.func3, Tryd.ntmps3
  go_wp2_with fail
  refine (dDrawFormatJobs_any _ A n c f H.out).mono ?_
  rintro e w1 ⟨gj, cj, js, rfl, hjl, hsj, hj, hb⟩
  have HB1 := Lib.hid hb
  have hs1 := HB1.out.size
  have HOJ1 := Lib.hid hj
  have HJ1 := Lib.hid hj.reads.2
  have hjc := hj.le
  clear hj hsj
  clear hb H
  have HTG1 := Lib.hid (HTG0.out.below HB1.out)
  have HVS1 := Lib.hid (HVS0.out.below HB1.out)
  have HCD1 := Lib.hid (H9.out.bel HB1.out)
  have hgj := HOJ1.out.cells_
  obtain ⟨fl, hfl⟩ : ∃ fl, fmtJ js = fl := ⟨_, rfl⟩
  have HF := Lib.hid hfl
  have hlen : fl.length ≤ 720 := by rw [← hfl]; exact fmt_len js
  clear hfl H9
  go_wp2_with fail
  refine (iFmtJ_to _ (some ⟨gj, 0, none⟩) js.length cj js (jbs_to HJ1.out (by repeat (first | with_reducible exact Below.refl _ _ | with_reducible refine Below.drew ?_ | with_reducible refine bl_drewN ?_ _ | with_reducible refine bl_alloc ?_ _))) (HTG1.out.below (by repeat (first | with_reducible exact Below.refl _ _ | with_reducible refine Below.drew ?_ | with_reducible refine bl_drewN ?_ _ | with_reducible refine bl_alloc ?_ _))) fl HF.out).mono ?_
  rintro e w2 ⟨rfl, hb⟩
  have HS2 := Lib.hid (show Below w1.heap.size w1 w2 from bl_trans (by repeat (first | with_reducible exact Below.refl _ _ | with_reducible refine Below.drew ?_ | with_reducible refine bl_drewN ?_ _ | with_reducible refine bl_alloc ?_ _)) hb)
  have HB2 := Lib.hid (bl_trans HB1.out HS2.out)
  have hs2 := HB2.out.size
  have hq2 := HS2.out.size
  have HJ2 := Lib.hid (jbs_to HJ1.out HS2.out)
  clear hb
  have HTG2 := Lib.hid (HTG1.out.below HS2.out)
  have HVS2 := Lib.hid (HVS1.out.below HS2.out)
  go_wp2_with fail
  refine (sFmtJ_to _ (some ⟨gj, 0, none⟩) js.length cj js (jbs_to HJ2.out (by repeat (first | with_reducible exact Below.refl _ _ | with_reducible refine Below.drew ?_ | with_reducible refine bl_drewN ?_ _ | with_reducible refine bl_alloc ?_ _))) fl HF.out).mono ?_
  rintro e w3 ⟨rfl, hb⟩
  have HS3 := Lib.hid (show Below w2.heap.size w2 w3 from bl_trans (by repeat (first | with_reducible exact Below.refl _ _ | with_reducible refine Below.drew ?_ | with_reducible refine bl_drewN ?_ _ | with_reducible refine bl_alloc ?_ _)) hb)
  have HB3 := Lib.hid (bl_trans HB2.out HS3.out)
  have hs3 := HB3.out.size
  have hq3 := HS3.out.size
  have HJ3 := Lib.hid (jbs_to HJ2.out HS3.out)
  clear hb
  have HTG3 := Lib.hid (HTG2.out.below HS3.out)
  have HVS3 := Lib.hid (HVS2.out.below HS3.out)
  by_cases he : fl = []
  · subst he
    have HX1 := Lib.hid (show Below w1.heap.size w1 w3 from bl_trans HS2.out HS3.out)
    go_wp2_with fail
    refine (dDrawParseJobs_any _ A9 n9 c9 f9 (HCD1.out.bel (bl_trans HX1.out (by repeat (first | with_reducible exact Below.refl _ _ | with_reducible refine Below.drew ?_ | with_reducible refine bl_drewN ?_ _ | with_reducible refine bl_alloc ?_ _))))).mono ?_
    rintro e w4 ⟨l2, rfl, hl2, hb⟩
    have HS4 := Lib.hid (show Below w3.heap.size w3 w4 from bl_trans (by repeat (first | with_reducible exact Below.refl _ _ | with_reducible refine Below.drew ?_ | with_reducible refine bl_drewN ?_ _ | with_reducible refine bl_alloc ?_ _)) hb)
    have HB4 := Lib.hid (bl_trans HB3.out HS4.out)
    have hs4 := HB4.out.size
    have HTG4 := Lib.hid (HTG3.out.below HS4.out)
    have HVS4 := Lib.hid (HVS3.out.below HS4.out)
    clear hb
    obtain ⟨J2, hJ2⟩ : ∃ J2, jsOf l2 = J2 := ⟨_, rfl⟩
    obtain ⟨b2, hb2⟩ : ∃ b2, okJ l2 = b2 := ⟨_, rfl⟩
    have HJ2 := Lib.hid hJ2
    have HBB := Lib.hid hb2
    have hjl2 : J2.length ≤ 60 := by rw [← hJ2]; exact jsOf_len l2
    clear hJ2 hb2
    go_wp2_with fail
    refine (iParseJ_to _ l2 (by omega) (HVS4.out.below (by repeat (first | with_reducible exact Below.refl _ _ | with_reducible refine Below.drew ?_ | with_reducible refine bl_drewN ?_ _ | with_reducible refine bl_alloc ?_ _))) (HTG4.out.below (by repeat (first | with_reducible exact Below.refl _ _ | with_reducible refine Below.drew ?_ | with_reducible refine bl_drewN ?_ _ | with_reducible refine bl_alloc ?_ _))) J2 b2 HJ2.out HBB.out).mono ?_
    rintro e w5 ⟨Ax, cx, rfl, hox, hb⟩
    have HS5 := Lib.hid (show Below w4.heap.size w4 w5 from bl_trans (by repeat (first | with_reducible exact Below.refl _ _ | with_reducible refine Below.drew ?_ | with_reducible refine bl_drewN ?_ _ | with_reducible refine bl_alloc ?_ _)) hb)
    have HB5 := Lib.hid (bl_trans HB4.out HS5.out)
    have hs5 := HB5.out.size
    have hq5 := HS5.out.size
    have HXJ5 := Lib.hid hox.reads.2
    clear hox
    clear hb
    have HTG5 := Lib.hid (HTG4.out.below HS5.out)
    have HVS5 := Lib.hid (HVS4.out.below HS5.out)
    go_wp2_with fail
    refine (sParseJ_to _ l2 (by omega) J2 b2 HJ2.out HBB.out).mono ?_
    rintro e w6 ⟨Ay, cy, rfl, hoy, hb⟩
    have HS6 := Lib.hid (show Below w5.heap.size w5 w6 from bl_trans (by repeat (first | with_reducible exact Below.refl _ _ | with_reducible refine Below.drew ?_ | with_reducible refine bl_drewN ?_ _ | with_reducible refine bl_alloc ?_ _)) hb)
    have HB6 := Lib.hid (bl_trans HB5.out HS6.out)
    have hs6 := HB6.out.size
    have hq6 := HS6.out.size
    have HXJ6 := Lib.hid (jbs_to HXJ5.out HS6.out)
    have HYJ6 := Lib.hid hoy.reads.2
    clear hoy
    clear hb
    have HTG6 := Lib.hid (HTG5.out.below HS6.out)
    have HVS6 := Lib.hid (HVS5.out.below HS6.out)
    go_wp2_with fail
    refine (dmJobs_any _ Ax Ay J2.length cx cy J2 (jbs_to HXJ6.out (by repeat (first | with_reducible exact Below.refl _ _ | with_reducible refine Below.drew ?_ | with_reducible refine bl_drewN ?_ _ | with_reducible refine bl_alloc ?_ _))) (jbs_to HYJ6.out (by repeat (first | with_reducible exact Below.refl _ _ | with_reducible refine Below.drew ?_ | with_reducible refine bl_drewN ?_ _ | with_reducible refine bl_alloc ?_ _))) (by omega)).mono ?_
    rintro e w7 ⟨rfl, hb⟩
    have HS7 := Lib.hid (show Below w6.heap.size w6 w7 from bl_trans (by repeat (first | with_reducible exact Below.refl _ _ | with_reducible refine Below.drew ?_ | with_reducible refine bl_drewN ?_ _ | with_reducible refine bl_alloc ?_ _)) hb)
    have HB7 := Lib.hid (bl_trans HB6.out HS7.out)
    have hs7 := HB7.out.size
    have hq7 := HS7.out.size
    have HXJ7 := Lib.hid (jbs_to HXJ6.out HS7.out)
    have HYJ7 := Lib.hid (jbs_to HYJ6.out HS7.out)
    clear hb
    have HTG7 := Lib.hid (HTG6.out.below HS7.out)
    have HVS7 := Lib.hid (HVS6.out.below HS7.out)
    cases b2
    · skip
      go_wp2
      go_ret
      exact ⟨rfl, by repeat (first | with_reducible exact HB7.out | refine bl_drewN ?_ _ | refine Below.drew ?_ | refine bl_alloc ?_ _)⟩
    have HFM := Lib.hid (show fmtJ J2 = l2 by
      obtain ⟨a1, a2⟩ := text_ok HBB.out
      rw [HJ2.out] at a1 a2
      unfold fmtJ; rw [a1]; exact a2)
    go_wp2_with fail
    refine (iFmtJ_to _ Ax J2.length cx J2 (jbs_to HXJ7.out (by repeat (first | with_reducible exact Below.refl _ _ | with_reducible refine Below.drew ?_ | with_reducible refine bl_drewN ?_ _ | with_reducible refine bl_alloc ?_ _))) (HTG7.out.below (by repeat (first | with_reducible exact Below.refl _ _ | with_reducible refine Below.drew ?_ | with_reducible refine bl_drewN ?_ _ | with_reducible refine bl_alloc ?_ _))) l2 HFM.out).mono ?_
    rintro e w8 ⟨rfl, hb⟩
    have HS8 := Lib.hid (show Below w7.heap.size w7 w8 from bl_trans (by repeat (first | with_reducible exact Below.refl _ _ | with_reducible refine Below.drew ?_ | with_reducible refine bl_drewN ?_ _ | with_reducible refine bl_alloc ?_ _)) hb)
    have HB8 := Lib.hid (bl_trans HB7.out HS8.out)
    have hs8 := HB8.out.size
    have hq8 := HS8.out.size
    have HXJ8 := Lib.hid (jbs_to HXJ7.out HS8.out)
    have HYJ8 := Lib.hid (jbs_to HYJ7.out HS8.out)
    clear hb
    have HTG8 := Lib.hid (HTG7.out.below HS8.out)
    have HVS8 := Lib.hid (HVS7.out.below HS8.out)
    go_wp2
    go_ret
    exact ⟨rfl, by repeat (first | with_reducible exact HB8.out | refine bl_drewN ?_ _ | refine Below.drew ?_ | refine bl_alloc ?_ _)⟩
  have hq : (fl == []) = false := by simpa using he
  obtain ⟨hw, htx⟩ := fmt_some HF.out he
  have HO1 := Lib.hid (ok_of hw htx).1
  have HO2 := Lib.hid (ok_of hw htx).2
  clear hw htx he
  go_wp2_with fail
  refine (iParseJ_to _ fl (by omega) (HVS3.out.below (by repeat (first | with_reducible exact Below.refl _ _ | with_reducible refine Below.drew ?_ | with_reducible refine bl_drewN ?_ _ | with_reducible refine bl_alloc ?_ _))) (HTG3.out.below (by repeat (first | with_reducible exact Below.refl _ _ | with_reducible refine Below.drew ?_ | with_reducible refine bl_drewN ?_ _ | with_reducible refine bl_alloc ?_ _))) js true HO2.out HO1.out).mono ?_
  rintro e w4 ⟨Az, cz, rfl, hoz, hb⟩
  have HS4 := Lib.hid (show Below w3.heap.size w3 w4 from bl_trans (by repeat (first | with_reducible exact Below.refl _ _ | with_reducible refine Below.drew ?_ | with_reducible refine bl_drewN ?_ _ | with_reducible refine bl_alloc ?_ _)) hb)
  have HB4 := Lib.hid (bl_trans HB3.out HS4.out)
  have hs4 := HB4.out.size
  have hq4 := HS4.out.size
  have HJ4 := Lib.hid (jbs_to HJ3.out HS4.out)
  have HZJ4 := Lib.hid hoz.reads.2
  clear hoz
  clear hb
  have HTG4 := Lib.hid (HTG3.out.below HS4.out)
  have HVS4 := Lib.hid (HVS3.out.below HS4.out)
  go_wp2_with fail
  refine (dmJobs_any _ Az (some ⟨gj, 0, none⟩) js.length cz cj js (jbs_to HZJ4.out (by repeat (first | with_reducible exact Below.refl _ _ | with_reducible refine Below.drew ?_ | with_reducible refine bl_drewN ?_ _ | with_reducible refine bl_alloc ?_ _))) (jbs_to HJ4.out (by repeat (first | with_reducible exact Below.refl _ _ | with_reducible refine Below.drew ?_ | with_reducible refine bl_drewN ?_ _ | with_reducible refine bl_alloc ?_ _))) (by omega)).mono ?_
  rintro e w5 ⟨rfl, hb⟩
  have HS5 := Lib.hid (show Below w4.heap.size w4 w5 from bl_trans (by repeat (first | with_reducible exact Below.refl _ _ | with_reducible refine Below.drew ?_ | with_reducible refine bl_drewN ?_ _ | with_reducible refine bl_alloc ?_ _)) hb)
  have HB5 := Lib.hid (bl_trans HB4.out HS5.out)
  have hs5 := HB5.out.size
  have hq5 := HS5.out.size
  have HJ5 := Lib.hid (jbs_to HJ4.out HS5.out)
  have HZJ5 := Lib.hid (jbs_to HZJ4.out HS5.out)
  clear hb
  have HTG5 := Lib.hid (HTG4.out.below HS5.out)
  have HVS5 := Lib.hid (HVS4.out.below HS5.out)
  have HX1 := Lib.hid (show Below w1.heap.size w1 w5 from bl_trans (bl_trans (bl_trans HS2.out HS3.out) HS4.out) HS5.out)
  go_wp2_with fail
  refine (dDrawParseJobs_any _ A9 n9 c9 f9 (HCD1.out.bel (bl_trans HX1.out (by repeat (first | with_reducible exact Below.refl _ _ | with_reducible refine Below.drew ?_ | with_reducible refine bl_drewN ?_ _ | with_reducible refine bl_alloc ?_ _))))).mono ?_
  rintro e w6 ⟨l2, rfl, hl2, hb⟩
  have HS6 := Lib.hid (show Below w5.heap.size w5 w6 from bl_trans (by repeat (first | with_reducible exact Below.refl _ _ | with_reducible refine Below.drew ?_ | with_reducible refine bl_drewN ?_ _ | with_reducible refine bl_alloc ?_ _)) hb)
  have HB6 := Lib.hid (bl_trans HB5.out HS6.out)
  have hs6 := HB6.out.size
  have HTG6 := Lib.hid (HTG5.out.below HS6.out)
  have HVS6 := Lib.hid (HVS5.out.below HS6.out)
  clear hb
  obtain ⟨J2, hJ2⟩ : ∃ J2, jsOf l2 = J2 := ⟨_, rfl⟩
  obtain ⟨b2, hb2⟩ : ∃ b2, okJ l2 = b2 := ⟨_, rfl⟩
  have HJ2 := Lib.hid hJ2
  have HBB := Lib.hid hb2
  have hjl2 : J2.length ≤ 60 := by rw [← hJ2]; exact jsOf_len l2
  clear hJ2 hb2
  go_wp2_with fail
  refine (iParseJ_to _ l2 (by omega) (HVS6.out.below (by repeat (first | with_reducible exact Below.refl _ _ | with_reducible refine Below.drew ?_ | with_reducible refine bl_drewN ?_ _ | with_reducible refine bl_alloc ?_ _))) (HTG6.out.below (by repeat (first | with_reducible exact Below.refl _ _ | with_reducible refine Below.drew ?_ | with_reducible refine bl_drewN ?_ _ | with_reducible refine bl_alloc ?_ _))) J2 b2 HJ2.out HBB.out).mono ?_
  rintro e w7 ⟨Ax, cx, rfl, hox, hb⟩
  have HS7 := Lib.hid (show Below w6.heap.size w6 w7 from bl_trans (by repeat (first | with_reducible exact Below.refl _ _ | with_reducible refine Below.drew ?_ | with_reducible refine bl_drewN ?_ _ | with_reducible refine bl_alloc ?_ _)) hb)
  have HB7 := Lib.hid (bl_trans HB6.out HS7.out)
  have hs7 := HB7.out.size
  have hq7 := HS7.out.size
  have HXJ7 := Lib.hid hox.reads.2
  clear hox
  clear hb
  have HTG7 := Lib.hid (HTG6.out.below HS7.out)
  have HVS7 := Lib.hid (HVS6.out.below HS7.out)
  go_wp2_with fail
  refine (sParseJ_to _ l2 (by omega) J2 b2 HJ2.out HBB.out).mono ?_
  rintro e w8 ⟨Ay, cy, rfl, hoy, hb⟩
  have HS8 := Lib.hid (show Below w7.heap.size w7 w8 from bl_trans (by repeat (first | with_reducible exact Below.refl _ _ | with_reducible refine Below.drew ?_ | with_reducible refine bl_drewN ?_ _ | with_reducible refine bl_alloc ?_ _)) hb)
  have HB8 := Lib.hid (bl_trans HB7.out HS8.out)
  have hs8 := HB8.out.size
  have hq8 := HS8.out.size
  have HXJ8 := Lib.hid (jbs_to HXJ7.out HS8.out)
  have HYJ8 := Lib.hid hoy.reads.2
  clear hoy
  clear hb
  have HTG8 := Lib.hid (HTG7.out.below HS8.out)
  have HVS8 := Lib.hid (HVS7.out.below HS8.out)
  go_wp2_with fail
  refine (dmJobs_any _ Ax Ay J2.length cx cy J2 (jbs_to HXJ8.out (by repeat (first | with_reducible exact Below.refl _ _ | with_reducible refine Below.drew ?_ | with_reducible refine bl_drewN ?_ _ | with_reducible refine bl_alloc ?_ _))) (jbs_to HYJ8.out (by repeat (first | with_reducible exact Below.refl _ _ | with_reducible refine Below.drew ?_ | with_reducible refine bl_drewN ?_ _ | with_reducible refine bl_alloc ?_ _))) (by omega)).mono ?_
  rintro e w9 ⟨rfl, hb⟩
  have HS9 := Lib.hid (show Below w8.heap.size w8 w9 from bl_trans (by repeat (first | with_reducible exact Below.refl _ _ | with_reducible refine Below.drew ?_ | with_reducible refine bl_drewN ?_ _ | with_reducible refine bl_alloc ?_ _)) hb)
  have HB9 := Lib.hid (bl_trans HB8.out HS9.out)
  have hs9 := HB9.out.size
  have hq9 := HS9.out.size
  have HXJ9 := Lib.hid (jbs_to HXJ8.out HS9.out)
  have HYJ9 := Lib.hid (jbs_to HYJ8.out HS9.out)
  clear hb
  have HTG9 := Lib.hid (HTG8.out.below HS9.out)
  have HVS9 := Lib.hid (HVS8.out.below HS9.out)
  cases b2
  · skip
    go_wp2
    go_ret
    exact ⟨rfl, by repeat (first | with_reducible exact HB9.out | refine bl_drewN ?_ _ | refine Below.drew ?_ | refine bl_alloc ?_ _)⟩
  have HFM := Lib.hid (show fmtJ J2 = l2 by
    obtain ⟨a1, a2⟩ := text_ok HBB.out
    rw [HJ2.out] at a1 a2
    unfold fmtJ; rw [a1]; exact a2)
  go_wp2_with fail
  refine (iFmtJ_to _ Ax J2.length cx J2 (jbs_to HXJ9.out (by repeat (first | with_reducible exact Below.refl _ _ | with_reducible refine Below.drew ?_ | with_reducible refine bl_drewN ?_ _ | with_reducible refine bl_alloc ?_ _))) (HTG9.out.below (by repeat (first | with_reducible exact Below.refl _ _ | with_reducible refine Below.drew ?_ | with_reducible refine bl_drewN ?_ _ | with_reducible refine bl_alloc ?_ _))) l2 HFM.out).mono ?_
  rintro e w10 ⟨rfl, hb⟩
  have HS10 := Lib.hid (show Below w9.heap.size w9 w10 from bl_trans (by repeat (first | with_reducible exact Below.refl _ _ | with_reducible refine Below.drew ?_ | with_reducible refine bl_drewN ?_ _ | with_reducible refine bl_alloc ?_ _)) hb)
  have HB10 := Lib.hid (bl_trans HB9.out HS10.out)
  have hs10 := HB10.out.size
  have hq10 := HS10.out.size
  have HXJ10 := Lib.hid (jbs_to HXJ9.out HS10.out)
  have HYJ10 := Lib.hid (jbs_to HYJ9.out HS10.out)
  clear hb
  have HTG10 := Lib.hid (HTG9.out.below HS10.out)
  have HVS10 := Lib.hid (HVS9.out.below HS10.out)
  go_wp2
  go_ret
  exact ⟨rfl, by repeat (first | with_reducible exact HB10.out | refine bl_drewN ?_ _ | refine Below.drew ?_ | refine bl_alloc ?_ _)⟩

end Go.Proofs.YthdclaljgimclaaDoor
