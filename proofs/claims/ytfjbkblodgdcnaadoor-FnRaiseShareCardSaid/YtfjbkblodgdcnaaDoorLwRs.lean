/- The walk of the law FnRaiseShare. -/
import Derived.Test.YtfjbkblodgdcnaaDoorD8
import Derived.Test.YtfjbkblodgdcnaaDoorRi
import Derived.Test.YtfjbkblodgdcnaaDoorRaM
import Derived.Test.YtfjbkblodgdcnaaDoorHbD
import Derived.Test.YtfjbkblodgdcnaaDoorNC
import Derived.Test.YtfjbkblodgdcnaaDoorNB
import Derived.Test.YtfjbkblodgdcnaaDoorNA
namespace Go.Proofs.YtfjbkblodgdcnaaDoor
open Go.RowKit
set_option linter.unusedVariables false

set_option maxRecDepth 100000 in
set_option maxHeartbeats 4000000 in
theorem fnRaiseShare_walk (w : World) (A : Option Addr) (n c : Nat) (f : Nat → Int) (h : Code w w.heap.size A n c f) (e0 : Addr) (he : EG w e0) :
    Calls Tryd.prog 7 #[.slice A n c] w fun e w' => e = .returned (.bool true) ∧ Below w.heap.size w w' := by
  have H := Lib.hid h
  have HE := Lib.hid he
  have hle := h.le
  have hmax := h.max
  unfold maxLen at hmax
  clear h he
  by_cases hn : 1048576 < n
  · go_enter Tryd.func7, Tryd.ntmps7
    go_wp2
    go_ret
    exact ⟨rfl, Below.refl _ _⟩
  go_enter Tryd.func7, Tryd.ntmps7
  go_wp2_with fail
  refine (dDrawRaiseAll_any _ A n c f H.out).mono ?_
  rintro e w1 ⟨At, ct, ts, z, rfl, hl, z0, z1, ho, hb⟩
  have HB1 := Lib.hid hb
  have HO := Lib.hid ho
  have HT := Lib.hid ho.reads.2
  have hct := own_le ho
  clear hb ho H
  have HD1 := Lib.hid (Below.refl w1.heap.size w1)
  have hs1 := HB1.out.size
  obtain ⟨b, hv⟩ : ∃ b, raiseB ts z = b := ⟨_, rfl⟩
  obtain ⟨xs, hxs⟩ : ∃ xs, xs = if b then raiseL ts z else [] := ⟨_, rfl⟩
  have HV := Lib.hid hv
  have HXS : Hid (xs = if b = true then raiseL ts z else []) := hxs
  have hxl : xs.length ≤ 6 := by
    rw [hxs]
    split
    · rw [raiseL_len]; exact hl
    · exact Nat.zero_le _
  clear hv hxs
  go_wp2_with fail
  refine (iRaise_is w1 At _ ct ts z xs b (tks_to HT.out HD1.out) (by omega) HV.out HXS.out).mono ?_
  rintro e w2 ⟨Ax, cx, rfl, ho, hb⟩
  have hs2 := hb.size
  have HB2 := Lib.hid (show Below w.heap.size w w2 from bl_trans HB1.out hb)
  have HD2 := Lib.hid (show Below w1.heap.size w1 w2 from bl_trans HD1.out hb)
  have HX2 := Lib.hid (ho)
  clear hb ho
  go_wp2_with fail
  refine (sRaise_is w2 At _ ct ts z xs b (tks_to HT.out HD2.out) (by omega) HV.out HXS.out).mono ?_
  rintro e w3 ⟨Aw, cw, rfl, ho, hb⟩
  have hs3 := hb.size
  have HB3 := Lib.hid (show Below w.heap.size w w3 from bl_trans HB2.out hb)
  have HD3 := Lib.hid (show Below w1.heap.size w1 w3 from bl_trans HD2.out hb)
  have HX3 := Lib.hid (HX2.out.below hb)
  have HW3 := Lib.hid (ho)
  clear hb ho
  go_wp2_with fail
  refine (dmTasks_any w3 Ax Aw _ cx cw xs HX3.out.reads.2 HW3.out.reads.2 (by omega)).mono ?_
  rintro e w4 ⟨rfl, hb⟩
  have hs4 := hb.size
  have HB4 := Lib.hid (show Below w.heap.size w w4 from bl_trans HB3.out hb)
  have HD4 := Lib.hid (show Below w1.heap.size w1 w4 from bl_trans HD3.out hb)
  have HX4 := Lib.hid (HX3.out.below hb)
  have HW4 := Lib.hid (HW3.out.below hb)
  clear hb
  cases b
  · go_wp2_with fail
    refine (dmTasks_any w4 Ax Aw _ cx cw xs HX4.out.reads.2 HW4.out.reads.2 (by omega)).mono ?_
    rintro e w5 ⟨rfl, hb⟩
    have hs5 := hb.size
    have HB5 := Lib.hid (show Below w.heap.size w w5 from bl_trans HB4.out hb)
    have HD5 := Lib.hid (show Below w1.heap.size w1 w5 from bl_trans HD4.out hb)
    have HX5 := Lib.hid (HX4.out.below hb)
    have HW5 := Lib.hid (HW4.out.below hb)
    clear hb
    go_wp2
    go_ret
    exact ⟨rfl, HB5.out⟩
  · by_cases hneg : z < 0
    · have k1 : decide (z < 0) = true := decide_eq_true hneg
      go_wp2_with fail
      refine (dmTasks_any w4 Ax Aw _ cx cw xs HX4.out.reads.2 HW4.out.reads.2 (by omega)).mono ?_
      rintro e w5 ⟨rfl, hb⟩
      have hs5 := hb.size
      have HB5 := Lib.hid (show Below w.heap.size w w5 from bl_trans HB4.out hb)
      have HD5 := Lib.hid (show Below w1.heap.size w1 w5 from bl_trans HD4.out hb)
      have HX5 := Lib.hid (HX4.out.below hb)
      have HW5 := Lib.hid (HW4.out.below hb)
      clear hb
      go_wp2
      go_ret
      exact ⟨rfl, HB5.out⟩
    have k1 : decide (z < 0) = false := decide_eq_false hneg
    obtain ⟨hs, hz, hr⟩ := raise_parts HV.out
    have hxr : xs = raiseL ts z := HXS.out
    have hsx : setB xs = true := by rw [hxr]; exact hr
    have hh := high_raise (ts := ts) (d := z) (by omega) hs hr
    have hlw := low_raise (ts := ts) (d := z) true (by omega) hs hr
    rw [← hxr] at hh hlw
    obtain ⟨p1, q1, e1⟩ : ∃ p q, highOf ts = (p, q) := ⟨_, _, rfl⟩
    obtain ⟨p2, q2, e2⟩ : ∃ p q, highOf xs = (p, q) := ⟨_, _, rfl⟩
    obtain ⟨p3, q3, e3⟩ : ∃ p q, lowOf ts true = (p, q) := ⟨_, _, rfl⟩
    obtain ⟨p4, q4, e4⟩ : ∃ p q, lowOf xs true = (p, q) := ⟨_, _, rfl⟩
    have s1 := (highOf_sh hs).1
    have s2 := (highOf_sh hsx).1
    have s3 := (lowOf_sh true hs).1
    have s4 := (lowOf_sh true hsx).1
    rw [e1] at s1 hh
    rw [e2] at s2 hh
    rw [e3] at s3 hlw
    rw [e4] at s4 hlw
    dsimp only at s1 s2 s3 s4
    obtain ⟨y1, hy1⟩ : ∃ y, cmpS p1 q1 p2 q2 = y := ⟨_, rfl⟩
    obtain ⟨y2, hy2⟩ : ∃ y, cmpS p3 q3 p4 q4 = y := ⟨_, rfl⟩
    have hd1 : decide (y1 ≤ 0) = true := by
      rw [decide_eq_true_iff, ← hy1, show cmpS (p1 : Int) q1 p2 q2 = cmpN (p1, q1) (p2, q2) from cmp_sh s1 s2]
      exact (cmp_le _ _).2 hh
    have hd2 : decide (y2 ≤ 0) = true := by
      rw [decide_eq_true_iff, ← hy2, show cmpS (p3 : Int) q3 p4 q4 = cmpN (p3, q3) (p4, q4) from cmp_sh s3 s4]
      exact (cmp_le _ _).2 hlw
    have E1 := Lib.hid e1
    have E2 := Lib.hid e2
    have E3 := Lib.hid e3
    have E4 := Lib.hid e4
    have Y1 := Lib.hid hy1
    have Y2 := Lib.hid hy2
    clear hs hr hxr hsx hh hlw e1 e2 e3 e4 s1 s2 s3 s4 hy1 hy2
    go_wp2_with fail
    refine (iHigh_is w4 At _ ct ts (tks_to HT.out HD4.out) (by omega) e0 (HE.out.below HB4.out) p1 q1 E1.out).mono ?_
    rintro e w5 ⟨rfl, hb⟩
    have hs5 := hb.size
    have HB5 := Lib.hid (show Below w.heap.size w w5 from bl_trans HB4.out hb)
    have HD5 := Lib.hid (show Below w1.heap.size w1 w5 from bl_trans HD4.out hb)
    have HX5 := Lib.hid (HX4.out.below hb)
    have HW5 := Lib.hid (HW4.out.below hb)
    clear hb
    go_wp2_with fail
    refine (iHigh_is w5 Ax _ cx xs HX5.out.reads.2 (by omega) e0 (HE.out.below HB5.out) p2 q2 E2.out).mono ?_
    rintro e w6 ⟨rfl, hb⟩
    have hs6 := hb.size
    have HB6 := Lib.hid (show Below w.heap.size w w6 from bl_trans HB5.out hb)
    have HD6 := Lib.hid (show Below w1.heap.size w1 w6 from bl_trans HD5.out hb)
    have HX6 := Lib.hid (HX5.out.below hb)
    have HW6 := Lib.hid (HW5.out.below hb)
    clear hb
    go_wp2_with fail
    refine (iCmp_is w6 p1 q1 p2 q2 y1 Y1.out).mono ?_
    rintro e w7 ⟨rfl, hb⟩
    have hs7 := hb.size
    have HB7 := Lib.hid (show Below w.heap.size w w7 from bl_trans HB6.out hb)
    have HD7 := Lib.hid (show Below w1.heap.size w1 w7 from bl_trans HD6.out hb)
    have HX7 := Lib.hid (HX6.out.below hb)
    have HW7 := Lib.hid (HW6.out.below hb)
    clear hb
    go_wp2_with fail
    refine (iLow_is w7 At _ ct ts true (tks_to HT.out HD7.out) (by omega) e0 (HE.out.below HB7.out) p3 q3 E3.out).mono ?_
    rintro e w8 ⟨rfl, hb⟩
    have hs8 := hb.size
    have HB8 := Lib.hid (show Below w.heap.size w w8 from bl_trans HB7.out hb)
    have HD8 := Lib.hid (show Below w1.heap.size w1 w8 from bl_trans HD7.out hb)
    have HX8 := Lib.hid (HX7.out.below hb)
    have HW8 := Lib.hid (HW7.out.below hb)
    clear hb
    go_wp2_with fail
    refine (iLow_is w8 Ax _ cx xs true HX8.out.reads.2 (by omega) e0 (HE.out.below HB8.out) p4 q4 E4.out).mono ?_
    rintro e w9 ⟨rfl, hb⟩
    have hs9 := hb.size
    have HB9 := Lib.hid (show Below w.heap.size w w9 from bl_trans HB8.out hb)
    have HD9 := Lib.hid (show Below w1.heap.size w1 w9 from bl_trans HD8.out hb)
    have HX9 := Lib.hid (HX8.out.below hb)
    have HW9 := Lib.hid (HW8.out.below hb)
    clear hb
    go_wp2_with fail
    refine (iCmp_is w9 p3 q3 p4 q4 y2 Y2.out).mono ?_
    rintro e w10 ⟨rfl, hb⟩
    have hs10 := hb.size
    have HB10 := Lib.hid (show Below w.heap.size w w10 from bl_trans HB9.out hb)
    have HD10 := Lib.hid (show Below w1.heap.size w1 w10 from bl_trans HD9.out hb)
    have HX10 := Lib.hid (HX9.out.below hb)
    have HW10 := Lib.hid (HW9.out.below hb)
    clear hb
    go_wp2
    go_ret
    exact ⟨rfl, HB10.out⟩

end Go.Proofs.YtfjbkblodgdcnaaDoor
