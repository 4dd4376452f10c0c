/- The walk of the law FnAdmitAgain. -/
import Derived.Test.YtgfnlfjaekkdfaaGreatDoorD8e
import Derived.Test.YtgfnlfjaekkdfaaGreatDoorSAd
import Derived.Test.YtgfnlfjaekkdfaaGreatDoorPAd
import Derived.Test.YtgfnlfjaekkdfaaGreatDoorNB
import Derived.Test.YtgfnlfjaekkdfaaGreatDoorNA
namespace Go.Proofs.YtgfnlfjaekkdfaaGreatDoor
open Go.RowKit
set_option linter.unusedVariables false

set_option maxRecDepth 100000 in
set_option maxHeartbeats 4000000 in
theorem fnAdmitAgain_walk (w : World) (A : Option Addr) (n c : Nat) (f : Nat → Int) (h : Code w w.heap.size A n c f) (e0 : Addr) (he : EG w e0) :
    Calls Tryz.prog 3 #[.slice A n c] w fun e w' => e = .returned (.bool true) ∧ Below w.heap.size w w' := by
  have H := Lib.hid h
  have HE := Lib.hid he
  have hle := h.le
  have hmax := h.max
  unfold maxLen at hmax
  clear h he
  by_cases hn : 1048576 < n
  · go_enter Tryz.func3, Tryz.ntmps3
    go_wp2
    go_ret
    exact ⟨rfl, Below.refl _ _⟩
  go_enter Tryz.func3, Tryz.ntmps3
  go_wp2_with fail
  refine (dDrawAdmitTask_any _ A n c f H.out).mono ?_
  rintro e w0 ⟨At, ct, ts, lo, hi', du, ev, cr, z, rfl, hl, ho, hb⟩
  have hct := own_le ho
  obtain ⟨w1, hw1⟩ : ∃ w1, w0.alloc (.cells #[.int .i64 lo, .int .i64 hi', .int .i64 du, .int .i64 ev, .bool cr] 25) = w1 := ⟨_, rfl⟩
  have hb1 : Below w.heap.size w w1 := by rw [← hw1]; exact bl_alloc hb _
  have ho1 : Own w1 w.heap.size (.slice At ts.length ct) ts := by rw [← hw1]; exact ho.alloc _
  have bq : Blk w1 w0.heap.size 25 #[.int .i64 lo, .int .i64 hi', .int .i64 du, .int .i64 ev, .bool cr] := by rw [← hw1]; exact Blk.new w0 _ _
  have HB1 := Lib.hid hb1
  have HO := Lib.hid ho1
  have HT := Lib.hid ho1.reads.2
  have HQ1 := Lib.hid bq
  clear hb ho hb1 ho1 bq H
  have HD1 := Lib.hid (Below.refl w1.heap.size w1)
  have hs1 := HB1.out.size
  obtain ⟨b, hv⟩ : ∃ b, admB ts ⟨lo, hi', du, ev, cr⟩ z = b := ⟨_, rfl⟩
  obtain ⟨xs, hxs⟩ : ∃ xs, xs = admL ts ⟨lo, hi', du, ev, cr⟩ z := ⟨_, rfl⟩
  have HV := Lib.hid hv
  have HXS := Lib.hid hxs
  have hxl : xs.length ≤ 5 := by rw [hxs]; exact adm_len5
  clear hv hxs
  have cT1 := HQ1.out.cell
  go_wp2_with fail
  refine (iAdmit_is w1 At _ ct ts ⟨lo, hi', du, ev, cr⟩ z xs b (tks_to HT.out HD1.out) (by omega) hct e0 (HE.out.below HB1.out) HV.out HXS.out).mono ?_
  rintro e w2 ⟨Ax, cx, rfl, ho, hb⟩
  have hs2 := hb.size
  have HB2 := Lib.hid (show Below w.heap.size w w2 from bl_trans HB1.out hb)
  have HD2 := Lib.hid (show Below w1.heap.size w1 w2 from bl_trans HD1.out hb)
  have HQ2 := Lib.hid (HQ1.out.below hb HQ1.out.lt)
  have HX2 := Lib.hid (ho)
  clear hb ho
  clear cT1
  clear hw1
  have cT2 := HQ2.out.cell
  go_wp2_with fail
  refine (sAdmit_is w2 At _ ct ts ⟨lo, hi', du, ev, cr⟩ z xs b (tks_to HT.out HD2.out) (by omega) HV.out HXS.out).mono ?_
  rintro e w3 ⟨Aw, cw, rfl, ho, hb⟩
  have hs3 := hb.size
  have HB3 := Lib.hid (show Below w.heap.size w w3 from bl_trans HB2.out hb)
  have HD3 := Lib.hid (show Below w1.heap.size w1 w3 from bl_trans HD2.out hb)
  have HQ3 := Lib.hid (HQ2.out.below hb HQ2.out.lt)
  have HX3 := Lib.hid (HX2.out.below hb)
  have HW3 := Lib.hid (ho)
  clear hb ho
  clear cT2
  go_wp2_with fail
  refine (dmTasks_any w3 Ax Aw _ cx cw xs HX3.out.reads.2 HW3.out.reads.2 (by omega)).mono ?_
  rintro e w4 ⟨rfl, hb⟩
  have hs4 := hb.size
  have HB4 := Lib.hid (show Below w.heap.size w w4 from bl_trans HB3.out hb)
  have HD4 := Lib.hid (show Below w1.heap.size w1 w4 from bl_trans HD3.out hb)
  have HQ4 := Lib.hid (HQ3.out.below hb HQ3.out.lt)
  have HX4 := Lib.hid (HX3.out.below hb)
  have HW4 := Lib.hid (HW3.out.below hb)
  clear hb
  cases b
  · by_cases hz0 : z = 0
    · subst hz0
      obtain ⟨b2, hv2⟩ : ∃ b, admB ts ⟨1, 1, 20, 20, false⟩ 0 = b := ⟨_, rfl⟩
      obtain ⟨ms, hms⟩ : ∃ ms, ms = admL ts ⟨1, 1, 20, 20, false⟩ 0 := ⟨_, rfl⟩
      have HV2 := Lib.hid hv2
      have HMS := Lib.hid hms
      have hml : ms.length ≤ 5 := by rw [hms]; exact adm_len5
      have HAG : Hid (b2 = true → admB ms ⟨lo, hi', du, ev, cr⟩ 0 = false) := fun h => by rw [HMS.out]; exact adm_again HV.out (HV2.out.trans h)
      clear hv2 hms
      go_wp2_with fail
      refine (iAdmit_is w4 At _ ct ts ⟨1, 1, 20, 20, false⟩ 0 ms b2 (tks_to HT.out HD4.out) (by omega) hct e0 (HE.out.below HB4.out) HV2.out HMS.out).mono ?_
      rintro e w5 ⟨Am, cm, rfl, ho, hb⟩
      have hs5 := hb.size
      have HB5 := Lib.hid (show Below w.heap.size w w5 from bl_trans HB4.out hb)
      have HD5 := Lib.hid (show Below w1.heap.size w1 w5 from bl_trans HD4.out hb)
      have HQ5 := Lib.hid (HQ4.out.below hb HQ4.out.lt)
      have HX5 := Lib.hid (HX4.out.below hb)
      have HW5 := Lib.hid (HW4.out.below hb)
      have HM5 := Lib.hid (ho)
      clear hb ho
      cases b2
      · go_wp2
        go_ret
        exact ⟨rfl, HB5.out⟩
      · have HA2 := Lib.hid (HAG.out rfl)
        have HN2 := Lib.hid (adm_nil HA2.out).symm
        have cT5 := HQ5.out.cell
        go_wp2_with fail
        refine (iAdmit_is w5 Am _ cm ms ⟨lo, hi', du, ev, cr⟩ 0 [] false HM5.out.reads.2 (by omega) (own_le HM5.out) e0 (HE.out.below HB5.out) HA2.out HN2.out).mono ?_
        rintro e w6 ⟨A2, c2, rfl, ho, hb⟩
        have hs6 := hb.size
        have HB6 := Lib.hid (show Below w.heap.size w w6 from bl_trans HB5.out hb)
        have HD6 := Lib.hid (show Below w1.heap.size w1 w6 from bl_trans HD5.out hb)
        have HQ6 := Lib.hid (HQ5.out.below hb HQ5.out.lt)
        have HX6 := Lib.hid (HX5.out.below hb)
        have HW6 := Lib.hid (HW5.out.below hb)
        have HM6 := Lib.hid (HM5.out.below hb)
        clear hb ho
        clear cT5
        go_wp2
        go_ret
        exact ⟨rfl, HB6.out⟩
    · have p0 : (z == 0) = false := by simpa using hz0
      go_wp2_with fail
      refine (dmTasks_any w4 Ax Aw _ cx cw xs HX4.out.reads.2 HW4.out.reads.2 (by omega)).mono ?_
      rintro e w5 ⟨rfl, hb⟩
      have hs5 := hb.size
      have HB5 := Lib.hid (show Below w.heap.size w w5 from bl_trans HB4.out hb)
      have HD5 := Lib.hid (show Below w1.heap.size w1 w5 from bl_trans HD4.out hb)
      have HQ5 := Lib.hid (HQ4.out.below hb HQ4.out.lt)
      have HX5 := Lib.hid (HX4.out.below hb)
      have HW5 := Lib.hid (HW4.out.below hb)
      clear hb
      go_wp2
      go_ret
      exact ⟨rfl, HB5.out⟩
  · go_wp2_with fail
    refine (dmTasks_any w4 Ax Aw _ cx cw xs HX4.out.reads.2 HW4.out.reads.2 (by omega)).mono ?_
    rintro e w5 ⟨rfl, hb⟩
    have hs5 := hb.size
    have HB5 := Lib.hid (show Below w.heap.size w w5 from bl_trans HB4.out hb)
    have HD5 := Lib.hid (show Below w1.heap.size w1 w5 from bl_trans HD4.out hb)
    have HQ5 := Lib.hid (HQ4.out.below hb HQ4.out.lt)
    have HX5 := Lib.hid (HX4.out.below hb)
    have HW5 := Lib.hid (HW4.out.below hb)
    clear hb
    go_wp2
    go_ret
    exact ⟨rfl, HB5.out⟩

end Go.Proofs.YtgfnlfjaekkdfaaGreatDoor
