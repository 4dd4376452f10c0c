/- The walk of the law FnAdmitLeave. -/
import Derived.Test.YtgfnlfjaekkdfaaGreatDoorD8e
import Derived.Test.YtgfnlfjaekkdfaaGreatDoorSAd
import Derived.Test.YtgfnlfjaekkdfaaGreatDoorPAd
import Derived.Test.YtgfnlfjaekkdfaaGreatDoorLv
import Derived.Test.YtgfnlfjaekkdfaaGreatDoorNB
import Derived.Test.YtgfnlfjaekkdfaaGreatDoorNA
namespace Go.Proofs.YtgfnlfjaekkdfaaGreatDoor
open Go.RowKit
set_option linter.unusedVariables false

theorem has_in {ts : List Tk} {j : Nat} (hs : setB ts = true) (hj : j < ts.length) : hasB ts ts.length (j : Int) = true := by
  unfold hasB
  rw [hs, decide_eq_true (show (0 : Int) ≤ (j : Int) by omega), decide_eq_true (show (j : Int) < (ts.length : Int) by omega)]
  rfl

set_option maxRecDepth 100000 in
set_option maxHeartbeats 4000000 in
theorem fnAdmitLeave_walk (w : World) (A : Option Addr) (n c : Nat) (f : Nat → Int) (h : Code w w.heap.size A n c f) (e0 : Addr) (he : EG w e0) :
    Calls Tryz.prog 4 #[.slice A n c] w fun e w' => e = .returned (.bool true) ∧ Below w.heap.size w w' := by
  have H := Lib.hid h
  have HE := Lib.hid he
  have hle := h.le
  have hmax := h.max
  unfold maxLen at hmax
  clear h he
  by_cases hn : 1048576 < n
  · go_enter Tryz.func4, Tryz.ntmps4
    go_wp2
    go_ret
    exact ⟨rfl, Below.refl _ _⟩
  go_enter Tryz.func4, Tryz.ntmps4
  go_wp2_with fail
  refine (dDrawAdmitTask_any _ A n c f H.out).mono ?_
  rintro e w0 ⟨At, ct, ts, lo, hi', du, ev, cr, z, rfl, hl, ho, hb⟩
  have hct := own_le ho
  obtain ⟨w1, hw1⟩ : ∃ w1, w0.alloc (.cells #[.int .i64 lo, .int .i64 hi', .int .i64 du, .int .i64 ev, .bool cr] 25) = w1 := ⟨_, rfl⟩
  have hb1 : Below w.heap.size w w1 := by rw [← hw1]; exact bl_alloc hb _
  have ho1 : Own w1 w.heap.size (.slice At ts.length ct) ts := by rw [← hw1]; exact ho.alloc _
  have bq : Blk w1 w0.heap.size 25 #[.int .i64 lo, .int .i64 hi', .int .i64 du, .int .i64 ev, .bool cr] := by rw [← hw1]; exact Blk.new w0 _ _
  have HB1 := Lib.hid hb1
  have HO := Lib.hid ho1
  have HT := Lib.hid ho1.reads.2
  have HQ1 := Lib.hid bq
  clear hb ho hb1 ho1 bq H
  have HD1 := Lib.hid (Below.refl w1.heap.size w1)
  have hs1 := HB1.out.size
  obtain ⟨b, hv⟩ : ∃ b, admB ts ⟨lo, hi', du, ev, cr⟩ z = b := ⟨_, rfl⟩
  obtain ⟨xs, hxs⟩ : ∃ xs, xs = admL ts ⟨lo, hi', du, ev, cr⟩ z := ⟨_, rfl⟩
  have HV := Lib.hid hv
  have HXS := Lib.hid hxs
  have hxl : xs.length ≤ 5 := by rw [hxs]; exact adm_len5
  clear hv hxs
  have cT1 := HQ1.out.cell
  go_wp2_with fail
  refine (iAdmit_is w1 At _ ct ts ⟨lo, hi', du, ev, cr⟩ z xs b (tks_to HT.out HD1.out) (by omega) hct e0 (HE.out.below HB1.out) HV.out HXS.out).mono ?_
  rintro e w2 ⟨Ax, cx, rfl, ho, hb⟩
  have hs2 := hb.size
  have HB2 := Lib.hid (show Below w.heap.size w w2 from bl_trans HB1.out hb)
  have HD2 := Lib.hid (show Below w1.heap.size w1 w2 from bl_trans HD1.out hb)
  have HQ2 := Lib.hid (HQ1.out.below hb HQ1.out.lt)
  have HX2 := Lib.hid (ho)
  clear hb ho
  clear cT1
  clear hw1
  have cT2 := HQ2.out.cell
  go_wp2_with fail
  refine (sAdmit_is w2 At _ ct ts ⟨lo, hi', du, ev, cr⟩ z xs b (tks_to HT.out HD2.out) (by omega) HV.out HXS.out).mono ?_
  rintro e w3 ⟨Aw, cw, rfl, ho, hb⟩
  have hs3 := hb.size
  have HB3 := Lib.hid (show Below w.heap.size w w3 from bl_trans HB2.out hb)
  have HD3 := Lib.hid (show Below w1.heap.size w1 w3 from bl_trans HD2.out hb)
  have HQ3 := Lib.hid (HQ2.out.below hb HQ2.out.lt)
  have HX3 := Lib.hid (HX2.out.below hb)
  have HW3 := Lib.hid (ho)
  clear hb ho
  clear cT2
  go_wp2_with fail
  refine (dmTasks_any w3 Ax Aw _ cx cw xs HX3.out.reads.2 HW3.out.reads.2 (by omega)).mono ?_
  rintro e w4 ⟨rfl, hb⟩
  have hs4 := hb.size
  have HB4 := Lib.hid (show Below w.heap.size w w4 from bl_trans HB3.out hb)
  have HD4 := Lib.hid (show Below w1.heap.size w1 w4 from bl_trans HD3.out hb)
  have HQ4 := Lib.hid (HQ3.out.below hb HQ3.out.lt)
  have HX4 := Lib.hid (HX3.out.below hb)
  have HW4 := Lib.hid (HW3.out.below hb)
  clear hb
  cases b
  · go_wp2_with fail
    refine (dmTasks_any w4 Ax Aw _ cx cw xs HX4.out.reads.2 HW4.out.reads.2 (by omega)).mono ?_
    rintro e w5 ⟨rfl, hb⟩
    have hs5 := hb.size
    have HB5 := Lib.hid (show Below w.heap.size w w5 from bl_trans HB4.out hb)
    have HD5 := Lib.hid (show Below w1.heap.size w1 w5 from bl_trans HD4.out hb)
    have HQ5 := Lib.hid (HQ4.out.below hb HQ4.out.lt)
    have HX5 := Lib.hid (HX4.out.below hb)
    have HW5 := Lib.hid (HW4.out.below hb)
    clear hb
    go_wp2
    go_ret
    exact ⟨rfl, HB5.out⟩
  · by_cases hz0 : z = 0
    · subst hz0
      obtain ⟨f1, f2, f3, f4⟩ := adm_facts HV.out
      rw [← HXS.out] at f2 f3
      have HHX : Hid (hBoth xs = true) := f2
      have HSX := Lib.hid (hBy_set f2)
      have hcx := own_le HX4.out
      clear f1 f2 f3 f4
      go_wp2
      go_loopw [10] (fun i wr => ∃ j : Nat, j ≤ xs.length ∧ i = .int .i64 j ∧ Hid (Below w4.heap.size w4 wr)) (fun i _ => xs.length - (intOf i).toNat)
      case atStart => exact ⟨0, Nat.zero_le _, rfl, Lib.hid (Below.refl _ _)⟩
      case round =>
        obtain ⟨j, hj, rfl, HR⟩ := hrel
        by_cases hlt : j < xs.length
        · have hji : (j : Int) < (xs.length : Int) := by omega
          have HHJ : Hid (hasB xs xs.length (j : Int) = true) := has_in HSX.out hlt
          obtain ⟨us, hus⟩ : ∃ us, us = xs.eraseIdx j := ⟨_, rfl⟩
          have HU : Hid (us = if true = true then xs.eraseIdx ((j : Int)).toNat else []) := hus
          have HBU : Hid (hBy us 0 = true) := by show _ = _; rw [hus]; exact hBoth_erase j HHX.out
          have hul : us.length ≤ 5 := by rw [hus]; exact Nat.le_trans (List.length_eraseIdx_le _ _) hxl
          clear hus
          go_wp2_with fail
          refine (iLeave_is wr Ax _ cx xs (j : Int) us true ((HX4.out.below HR.out).reads.2) (by omega) hcx HHJ.out HU.out).mono ?_
          rintro e w8 ⟨Ay, cy, rfl, ho, hb⟩
          have HR8 := Lib.hid (bl_trans HR.out hb)
          have HY8 := Lib.hid ho
          clear ho hb
          go_wp2_with fail
          refine (iHoldsBy_is w8 Ay _ cy us 0 HY8.out.reads.2 (by omega) (own_le HY8.out) e0 (HE.out.below (bl_trans HB4.out HR8.out)) true HBU.out).mono ?_
          rintro e w9 ⟨rfl, hb⟩
          have HR9 := Lib.hid (bl_trans HR8.out hb)
          clear hb
          go_wp2
          go_roundw
          case rel => exact ⟨j + 1, by omega, by go_num, HR9⟩
          case measure => simp [intOf]; omega
        · obtain rfl : j = xs.length := by omega
          go_wp2
          go_ret
          exact ⟨rfl, bl_trans HB4.out HR.out⟩
    · have p0 : (z == 0) = false := by simpa using hz0
      go_wp2_with fail
      refine (dmTasks_any w4 Ax Aw _ cx cw xs HX4.out.reads.2 HW4.out.reads.2 (by omega)).mono ?_
      rintro e w5 ⟨rfl, hb⟩
      have hs5 := hb.size
      have HB5 := Lib.hid (show Below w.heap.size w w5 from bl_trans HB4.out hb)
      have HD5 := Lib.hid (show Below w1.heap.size w1 w5 from bl_trans HD4.out hb)
      have HQ5 := Lib.hid (HQ4.out.below hb HQ4.out.lt)
      have HX5 := Lib.hid (HX4.out.below hb)
      have HW5 := Lib.hid (HW4.out.below hb)
      clear hb
      go_wp2
      go_ret
      exact ⟨rfl, HB5.out⟩

end Go.Proofs.YtgfnlfjaekkdfaaGreatDoor
