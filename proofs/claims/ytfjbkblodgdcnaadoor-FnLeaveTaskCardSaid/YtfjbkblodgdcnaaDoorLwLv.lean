/- The walk of the law FnLeaveTask. -/
import Derived.Test.YtfjbkblodgdcnaaDoorD8b
import Derived.Test.YtfjbkblodgdcnaaDoorLv
import Derived.Test.YtfjbkblodgdcnaaDoorHb
import Derived.Test.YtfjbkblodgdcnaaDoorHbD
import Derived.Test.YtfjbkblodgdcnaaDoorNB
import Derived.Test.YtfjbkblodgdcnaaDoorNA
namespace Go.Proofs.YtfjbkblodgdcnaaDoor
open Go.RowKit
set_option linter.unusedVariables false

set_option maxRecDepth 100000 in
set_option maxHeartbeats 4000000 in
theorem fnLeaveTask_walk (w : World) (A : Option Addr) (n c : Nat) (f : Nat → Int) (h : Code w w.heap.size A n c f) (e0 : Addr) (he : EG w e0) :
    Calls Tryd.prog 3 #[.slice A n c] w fun e w' => e = .returned (.bool true) ∧ Below w.heap.size w w' := by
  have H := Lib.hid h
  have HE := Lib.hid he
  have hle := h.le
  have hmax := h.max
  unfold maxLen at hmax
  clear h he
  by_cases hn : 1048576 < n
  · go_enter Tryd.func3, Tryd.ntmps3
    go_wp2
    go_ret
    exact ⟨rfl, Below.refl _ _⟩
  go_enter Tryd.func3, Tryd.ntmps3
  go_wp2_with fail
  refine (dDrawLeaveTask_any _ A n c f H.out).mono ?_
  rintro e w1 ⟨At, ct, ts, z, rfl, hl, z0, z1, ho, hb⟩
  have HB1 := Lib.hid hb
  have HO := Lib.hid ho
  have HT := Lib.hid ho.reads.2
  have hct := own_le ho
  clear hb ho H
  have HD1 := Lib.hid (Below.refl w1.heap.size w1)
  have hs1 := HB1.out.size
  obtain ⟨b, hv⟩ : ∃ b, hasB ts ts.length z = b := ⟨_, rfl⟩
  obtain ⟨xs, hxs⟩ : ∃ xs, xs = if b then ts.eraseIdx z.toNat else [] := ⟨_, rfl⟩
  have HV := Lib.hid hv
  have HXS : Hid (xs = if b = true then ts.eraseIdx z.toNat else []) := hxs
  have hxl : xs.length ≤ 6 := by
    rw [hxs]
    split
    · exact Nat.le_trans (List.length_eraseIdx_le _ _) hl
    · exact Nat.zero_le _
  clear hv hxs
  go_wp2_with fail
  refine (iLeave_is w1 At _ ct ts z xs b (tks_to HT.out HD1.out) (by omega) hct HV.out HXS.out).mono ?_
  rintro e w2 ⟨Ax, cx, rfl, ho, hb⟩
  have hs2 := hb.size
  have HB2 := Lib.hid (show Below w.heap.size w w2 from bl_trans HB1.out hb)
  have HD2 := Lib.hid (show Below w1.heap.size w1 w2 from bl_trans HD1.out hb)
  have HX2 := Lib.hid (ho)
  clear hb ho
  go_wp2_with fail
  refine (sLeave_is w2 At _ ct ts z xs b (tks_to HT.out HD2.out) (by omega) hct HV.out HXS.out).mono ?_
  rintro e w3 ⟨Aw, cw, rfl, ho, hb⟩
  have hs3 := hb.size
  have HB3 := Lib.hid (show Below w.heap.size w w3 from bl_trans HB2.out hb)
  have HD3 := Lib.hid (show Below w1.heap.size w1 w3 from bl_trans HD2.out hb)
  have HX3 := Lib.hid (HX2.out.below hb)
  have HW3 := Lib.hid (ho)
  clear hb ho
  go_wp2_with fail
  refine (dmTasks_any w3 Ax Aw _ cx cw xs HX3.out.reads.2 HW3.out.reads.2 (by omega)).mono ?_
  rintro e w4 ⟨rfl, hb⟩
  have hs4 := hb.size
  have HB4 := Lib.hid (show Below w.heap.size w w4 from bl_trans HB3.out hb)
  have HD4 := Lib.hid (show Below w1.heap.size w1 w4 from bl_trans HD3.out hb)
  have HX4 := Lib.hid (HX3.out.below hb)
  have HW4 := Lib.hid (HW3.out.below hb)
  clear hb
  cases b
  · go_wp2_with fail
    refine (dmTasks_any w4 Ax Aw _ cx cw xs HX4.out.reads.2 HW4.out.reads.2 (by omega)).mono ?_
    rintro e w5 ⟨rfl, hb⟩
    have hs5 := hb.size
    have HB5 := Lib.hid (show Below w.heap.size w w5 from bl_trans HB4.out hb)
    have HD5 := Lib.hid (show Below w1.heap.size w1 w5 from bl_trans HD4.out hb)
    have HX5 := Lib.hid (HX4.out.below hb)
    have HW5 := Lib.hid (HW4.out.below hb)
    clear hb
    go_wp2
    go_ret
    exact ⟨rfl, HB5.out⟩
  · obtain ⟨hs, q, hzq, hq⟩ := has_at HV.out
    have hxe : xs = ts.eraseIdx q := by have h := HXS.out; rw [hzq] at h; simpa using h
    have hxn : xs.length = ts.length - 1 := by rw [hxe, List.length_eraseIdx, if_pos hq]
    have hxi : (xs.length : Int) = (ts.length : Int) - 1 := by omega
    have hw : IntKind.i64.wrap ((ts.length : Int) - 1) = (ts.length : Int) - 1 := IntWalk.i64_in _ (by omega)
    have HXI := Lib.hid hxi
    have HH : Hid (hBoth ts = true → hBoth xs = true) := fun h => by rw [hxe]; exact hBoth_erase q h
    have HP : Hid (plainV ts = true → plainV xs = true) := fun h => by rw [hxe]; exact plain_erase hq h
    obtain ⟨r1, hr1⟩ : ∃ r, hBy ts 0 = r := ⟨_, rfl⟩
    obtain ⟨r2, hr2⟩ : ∃ r, plainV ts = r := ⟨_, rfl⟩
    have HR1 := Lib.hid hr1
    have HR2 := Lib.hid hr2
    clear hs hxe hxn hr1 hr2 hzq hxi
    have hxi0 := HXI.out
    go_wp2_with fail
    refine (iHoldsBy_is w4 At _ ct ts 0 (tks_to HT.out HD4.out) (by omega) hct e0 (HE.out.below HB4.out) r1 HR1.out).mono ?_
    rintro e w5 ⟨rfl, hb⟩
    have hs5 := hb.size
    have HB5 := Lib.hid (show Below w.heap.size w w5 from bl_trans HB4.out hb)
    have HD5 := Lib.hid (show Below w1.heap.size w1 w5 from bl_trans HD4.out hb)
    have HX5 := Lib.hid (HX4.out.below hb)
    have HW5 := Lib.hid (HW4.out.below hb)
    clear hb
    clear hxi0
    cases r1
    · go_wp2_with fail
      refine (iPlain_is w5 At _ ct ts (tks_to HT.out HD5.out) (by omega) e0 (HE.out.below HB5.out) r2 HR2.out).mono ?_
      rintro e w6 ⟨rfl, hb⟩
      have hs6 := hb.size
      have HB6 := Lib.hid (show Below w.heap.size w w6 from bl_trans HB5.out hb)
      have HD6 := Lib.hid (show Below w1.heap.size w1 w6 from bl_trans HD5.out hb)
      have HX6 := Lib.hid (HX5.out.below hb)
      have HW6 := Lib.hid (HW5.out.below hb)
      clear hb
      cases r2
      · have hxi := HXI.out
        go_wp2
        go_ret
        exact ⟨rfl, HB6.out⟩
      · have HP2 := Lib.hid (HP.out HR2.out)
        go_wp2_with fail
        refine (iPlain_is w6 Ax _ cx xs HX6.out.reads.2 (by omega) e0 (HE.out.below HB6.out) true HP2.out).mono ?_
        rintro e w7 ⟨rfl, hb⟩
        have hs7 := hb.size
        have HB7 := Lib.hid (show Below w.heap.size w w7 from bl_trans HB6.out hb)
        have HD7 := Lib.hid (show Below w1.heap.size w1 w7 from bl_trans HD6.out hb)
        have HX7 := Lib.hid (HX6.out.below hb)
        have HW7 := Lib.hid (HW6.out.below hb)
        clear hb
        have hxi := HXI.out
        go_wp2
        go_ret
        exact ⟨rfl, HB7.out⟩
    · have HB2h : Hid (hBy xs 0 = true) := HH.out HR1.out
      go_wp2_with fail
      refine (iHoldsBy_is w5 Ax _ cx xs 0 HX5.out.reads.2 (by omega) (own_le HX5.out) e0 (HE.out.below HB5.out) true HB2h.out).mono ?_
      rintro e w6 ⟨rfl, hb⟩
      have hs6 := hb.size
      have HB6 := Lib.hid (show Below w.heap.size w w6 from bl_trans HB5.out hb)
      have HD6 := Lib.hid (show Below w1.heap.size w1 w6 from bl_trans HD5.out hb)
      have HX6 := Lib.hid (HX5.out.below hb)
      have HW6 := Lib.hid (HW5.out.below hb)
      clear hb
      go_wp2_with fail
      refine (iPlain_is w6 At _ ct ts (tks_to HT.out HD6.out) (by omega) e0 (HE.out.below HB6.out) r2 HR2.out).mono ?_
      rintro e w7 ⟨rfl, hb⟩
      have hs7 := hb.size
      have HB7 := Lib.hid (show Below w.heap.size w w7 from bl_trans HB6.out hb)
      have HD7 := Lib.hid (show Below w1.heap.size w1 w7 from bl_trans HD6.out hb)
      have HX7 := Lib.hid (HX6.out.below hb)
      have HW7 := Lib.hid (HW6.out.below hb)
      clear hb
      cases r2
      · have hxi := HXI.out
        go_wp2
        go_ret
        exact ⟨rfl, HB7.out⟩
      · have HP2 := Lib.hid (HP.out HR2.out)
        go_wp2_with fail
        refine (iPlain_is w7 Ax _ cx xs HX7.out.reads.2 (by omega) e0 (HE.out.below HB7.out) true HP2.out).mono ?_
        rintro e w8 ⟨rfl, hb⟩
        have hs8 := hb.size
        have HB8 := Lib.hid (show Below w.heap.size w w8 from bl_trans HB7.out hb)
        have HD8 := Lib.hid (show Below w1.heap.size w1 w8 from bl_trans HD7.out hb)
        have HX8 := Lib.hid (HX7.out.below hb)
        have HW8 := Lib.hid (HW7.out.below hb)
        clear hb
        have hxi := HXI.out
        go_wp2
        go_ret
        exact ⟨rfl, HB8.out⟩

end Go.Proofs.YtfjbkblodgdcnaaDoor
