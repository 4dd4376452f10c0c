/- The walk of the law FnRaiseAll. -/
import Derived.Test.YtgoblabcggbfjaaD8
import Derived.Test.YtgoblabcggbfjaaRi
import Derived.Test.YtgoblabcggbfjaaRaM
import Derived.Test.YtgoblabcggbfjaaMA
namespace Go.Proofs.Ytgoblabcggbfjaa
open Go.RowKit
set_option linter.unusedVariables false

set_option maxRecDepth 100000 in
set_option maxHeartbeats 4000000 in
theorem fnRaiseAll_walk (w : World) (A : Option Addr) (n c : Nat) (f : Nat → Int) (h : Code w w.heap.size A n c f) :
    Calls Try.prog 8 #[.slice A n c] w fun e w' => e = .returned (.bool true) ∧ Below w.heap.size w w' := by
  have H := Lib.hid h
  have hle := h.le
  have hmax := h.max
  unfold maxLen at hmax
  clear h
  by_cases hn : 1048576 < n
  · go_enter Try.func8, Try.ntmps8
    go_wp2
    go_ret
    exact ⟨rfl, Below.refl _ _⟩
  go_enter Try.func8, Try.ntmps8
  go_wp2_with fail
  refine (dDrawRaiseAll_any _ A n c f H.out).mono ?_
  rintro e w1 ⟨At, ct, ts, z, rfl, hl, z0, z1, ho, hb⟩
  have HB1 := Lib.hid hb
  have HO := Lib.hid ho
  have HT := Lib.hid ho.reads.2
  have hct := own_le ho
  clear hb ho H
  have HD1 := Lib.hid (Below.refl w1.heap.size w1)
  have hs1 := HB1.out.size
  obtain ⟨b, hv⟩ : ∃ b, raiseB ts z = b := ⟨_, rfl⟩
  obtain ⟨xs, hxs⟩ : ∃ xs, xs = if b then raiseL ts z else [] := ⟨_, rfl⟩
  have HV := Lib.hid hv
  have HXS : Hid (xs = if b = true then raiseL ts z else []) := hxs
  have hxl : xs.length ≤ 6 := by
    rw [hxs]
    split
    · rw [raiseL_len]; exact hl
    · exact Nat.zero_le _
  clear hv hxs
  go_wp2_with fail
  refine (iRaise_is w1 At _ ct ts z xs b (tks_to HT.out HD1.out) (by omega) HV.out HXS.out).mono ?_
  rintro e w2 ⟨Ax, cx, rfl, ho, hb⟩
  have hs2 := hb.size
  have HB2 := Lib.hid (show Below w.heap.size w w2 from bl_trans HB1.out hb)
  have HD2 := Lib.hid (show Below w1.heap.size w1 w2 from bl_trans HD1.out hb)
  have HX2 := Lib.hid (ho)
  clear hb ho
  go_wp2_with fail
  refine (sRaise_is w2 At _ ct ts z xs b (tks_to HT.out HD2.out) (by omega) HV.out HXS.out).mono ?_
  rintro e w3 ⟨Aw, cw, rfl, ho, hb⟩
  have hs3 := hb.size
  have HB3 := Lib.hid (show Below w.heap.size w w3 from bl_trans HB2.out hb)
  have HD3 := Lib.hid (show Below w1.heap.size w1 w3 from bl_trans HD2.out hb)
  have HX3 := Lib.hid (HX2.out.below hb)
  have HW3 := Lib.hid (ho)
  clear hb ho
  go_wp2_with fail
  refine (dmTasks_any w3 Ax Aw _ cx cw xs HX3.out.reads.2 HW3.out.reads.2 (by omega)).mono ?_
  rintro e w4 ⟨rfl, hb⟩
  have hs4 := hb.size
  have HB4 := Lib.hid (show Below w.heap.size w w4 from bl_trans HB3.out hb)
  have HD4 := Lib.hid (show Below w1.heap.size w1 w4 from bl_trans HD3.out hb)
  have HX4 := Lib.hid (HX3.out.below hb)
  have HW4 := Lib.hid (HW3.out.below hb)
  clear hb
  cases b
  · go_wp2_with fail
    refine (dmTasks_any w4 Ax Aw _ cx cw xs HX4.out.reads.2 HW4.out.reads.2 (by omega)).mono ?_
    rintro e w5 ⟨rfl, hb⟩
    have hs5 := hb.size
    have HB5 := Lib.hid (show Below w.heap.size w w5 from bl_trans HB4.out hb)
    have HD5 := Lib.hid (show Below w1.heap.size w1 w5 from bl_trans HD4.out hb)
    have HX5 := Lib.hid (HX4.out.below hb)
    have HW5 := Lib.hid (HW4.out.below hb)
    clear hb
    go_wp2
    go_ret
    exact ⟨rfl, HB5.out⟩
  · obtain ⟨hs, hz, hr⟩ := raise_parts HV.out
    have hxr : xs = raiseL ts z := HXS.out
    have HS := Lib.hid hs
    have HSX : Hid (setB xs = true) := by show _ = _; rw [hxr]; exact hr
    have HV1 : Hid (raiseB xs (-z) = true) := by show _ = _; rw [hxr]; exact raise_back HV.out
    have HU1 : Hid (ts = if true = true then raiseL xs (-z) else []) := by show _ = _; rw [if_pos rfl, hxr, raiseL_back]
    have HMO : Hid (0 ≤ z → hBoth xs = true → hBoth ts = true) := fun h0 h1 => hBoth_raise h0 HS.out (by rw [hxr] at h1; exact h1)
    have nw : IntKind.i64.wrap (-z) = -z := IntWalk.i64_in _ (by omega)
    clear hs hr hxr
    go_wp2_with fail
    refine (iRaise_is w4 Ax _ cx xs (-z) ts true HX4.out.reads.2 (by omega) HV1.out HU1.out).mono ?_
    rintro e w5 ⟨Ay, cy, rfl, ho, hb⟩
    have hs5 := hb.size
    have HB5 := Lib.hid (show Below w.heap.size w w5 from bl_trans HB4.out hb)
    have HD5 := Lib.hid (show Below w1.heap.size w1 w5 from bl_trans HD4.out hb)
    have HX5 := Lib.hid (HX4.out.below hb)
    have HW5 := Lib.hid (HW4.out.below hb)
    have HY5 := Lib.hid (ho)
    clear hb ho
    go_wp2_with fail
    refine (iSetValid_any w5 Ax _ cx xs HX5.out.reads.2 (by omega)).mono ?_
    rintro e w6 ⟨rfl, hb⟩
    have hs6 := hb.size
    have HB6 := Lib.hid (show Below w.heap.size w w6 from bl_trans HB5.out hb)
    have HD6 := Lib.hid (show Below w1.heap.size w1 w6 from bl_trans HD5.out hb)
    have HX6 := Lib.hid (HX5.out.below hb)
    have HW6 := Lib.hid (HW5.out.below hb)
    have HY6 := Lib.hid (HY5.out.below hb)
    clear hb
    rw [HSX.out]
    go_wp2_with fail
    refine (dmTasks_any w6 Ay At _ cy ct ts HY6.out.reads.2 (tks_to HT.out HD6.out) (by omega)).mono ?_
    rintro e w7 ⟨rfl, hb⟩
    have hs7 := hb.size
    have HB7 := Lib.hid (show Below w.heap.size w w7 from bl_trans HB6.out hb)
    have HD7 := Lib.hid (show Below w1.heap.size w1 w7 from bl_trans HD6.out hb)
    have HX7 := Lib.hid (HX6.out.below hb)
    have HW7 := Lib.hid (HW6.out.below hb)
    have HY7 := Lib.hid (HY6.out.below hb)
    clear hb
    by_cases hneg : z < 0
    · have k1 : decide (z < 0) = true := decide_eq_true hneg
      go_wp2
      go_ret
      exact ⟨rfl, HB7.out⟩
    have k1 : decide (z < 0) = false := decide_eq_false hneg
    obtain ⟨r, hrb⟩ : ∃ r, hBoth xs = r := ⟨_, rfl⟩
    have HR := Lib.hid hrb
    clear hrb
    go_wp2_with fail
    refine (iHBoth_is w7 Ax _ cx xs HX7.out.reads.2 (by omega) (own_le HX7.out) r HR.out).mono ?_
    rintro e w8 ⟨rfl, hb⟩
    have hs8 := hb.size
    have HB8 := Lib.hid (show Below w.heap.size w w8 from bl_trans HB7.out hb)
    have HD8 := Lib.hid (show Below w1.heap.size w1 w8 from bl_trans HD7.out hb)
    have HX8 := Lib.hid (HX7.out.below hb)
    have HW8 := Lib.hid (HW7.out.below hb)
    have HY8 := Lib.hid (HY7.out.below hb)
    clear hb
    cases r
    · go_wp2
      go_ret
      exact ⟨rfl, HB8.out⟩
    have HB1t := Lib.hid (HMO.out (by omega) HR.out)
    go_wp2_with fail
    refine (iHBoth_is w8 At _ ct ts (tks_to HT.out HD8.out) (by omega) hct true HB1t.out).mono ?_
    rintro e w9 ⟨rfl, hb⟩
    have hs9 := hb.size
    have HB9 := Lib.hid (show Below w.heap.size w w9 from bl_trans HB8.out hb)
    have HD9 := Lib.hid (show Below w1.heap.size w1 w9 from bl_trans HD8.out hb)
    have HX9 := Lib.hid (HX8.out.below hb)
    have HW9 := Lib.hid (HW8.out.below hb)
    have HY9 := Lib.hid (HY8.out.below hb)
    clear hb
    go_wp2
    go_ret
    exact ⟨rfl, HB9.out⟩

end Go.Proofs.Ytgoblabcggbfjaa
