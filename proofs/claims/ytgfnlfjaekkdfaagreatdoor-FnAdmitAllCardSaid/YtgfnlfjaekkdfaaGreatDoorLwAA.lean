/- The walk of the law FnAdmitAll. -/
import Derived.Test.YtgfnlfjaekkdfaaGreatDoorD8f
import Derived.Test.YtgfnlfjaekkdfaaGreatDoorPAc
import Derived.Test.YtgfnlfjaekkdfaaGreatDoorAa
import Derived.Test.YtgfnlfjaekkdfaaGreatDoorNB
import Derived.Test.YtgfnlfjaekkdfaaGreatDoorNA
namespace Go.Proofs.YtgfnlfjaekkdfaaGreatDoor
open Go.RowKit
set_option linter.unusedVariables false

set_option maxRecDepth 100000 in
set_option maxHeartbeats 4000000 in
theorem fnAdmitAll_walk (w : World) (A : Option Addr) (n c : Nat) (f : Nat → Int) (h : Code w w.heap.size A n c f) (e0 : Addr) (he : EG w e0) :
    Calls Tryz.prog 5 #[.slice A n c] w fun e w' => e = .returned (.bool true) ∧ Below w.heap.size w w' := by
  have H := Lib.hid h
  have HE := Lib.hid he
  have hle := h.le
  have hmax := h.max
  unfold maxLen at hmax
  clear h he
  by_cases hn : 1048576 < n
  · go_enter Tryz.func5, Tryz.ntmps5
    go_wp2
    go_ret
    exact ⟨rfl, Below.refl _ _⟩
  go_enter Tryz.func5, Tryz.ntmps5
  go_wp2_with fail
  refine (dDrawAdmitAll_any _ A n c f H.out).mono ?_
  rintro e w1 ⟨At, ct, ts, z, rfl, hl, hzz, ho, hb⟩
  have HB1 := Lib.hid hb
  have HO := Lib.hid ho
  have HT := Lib.hid ho.reads.2
  have hct := own_le ho
  clear hb ho H
  have HD1 := Lib.hid (Below.refl w1.heap.size w1)
  have hs1 := HB1.out.size
  obtain ⟨b, hv⟩ : ∃ b, allB ts z = b := ⟨_, rfl⟩
  obtain ⟨xs, hxs⟩ : ∃ xs, xs = if b then (allA ts z ts.length).1 else [] := ⟨_, rfl⟩
  obtain ⟨zr, hzr⟩ : ∃ zr, zr = if b then (allA ts z ts.length).2 else [] := ⟨_, rfl⟩
  have HV := Lib.hid hv
  have HXS : Hid (xs = if b = true then (allA ts z ts.length).1 else []) := hxs
  have HZR : Hid (zr = if b = true then (allA ts z ts.length).2 else []) := hzr
  have hxl : xs.length ≤ 6 := by
    rw [hxs]; split
    · exact Nat.le_trans (all_len _ _ _ (Nat.le_refl _)).1 (by omega)
    · exact Nat.zero_le _
  have hrl : zr.length ≤ 11 := by
    rw [hzr]; split
    · exact Nat.le_trans (all_len _ _ _ (Nat.le_refl _)).2 hl
    · exact Nat.zero_le _
  clear hv hxs hzr
  go_wp2_with fail
  refine (iAll_is w1 At _ ct ts z (tks_to HT.out HD1.out) b HV.out (by omega) xs zr HXS.out HZR.out e0 (HE.out.below HB1.out)).mono ?_
  rintro e w2 ⟨Ax, cx, Ar, cr, rfl, ho, hoz, hb⟩
  have hs2 := hb.size
  have HB2 := Lib.hid (show Below w.heap.size w w2 from bl_trans HB1.out hb)
  have HD2 := Lib.hid (show Below w1.heap.size w1 w2 from bl_trans HD1.out hb)
  have HX2 := Lib.hid (ho)
  have HR2 := Lib.hid (hoz.reads)
  clear hb ho
  clear hoz
  go_wp2_with fail
  refine (sAll_is w2 At _ ct ts z (tks_to HT.out HD2.out) b HV.out (by omega) xs zr HXS.out HZR.out).mono ?_
  rintro e w3 ⟨Aw, cw, As, cs, rfl, ho, hoz, hb⟩
  have hs3 := hb.size
  have HB3 := Lib.hid (show Below w.heap.size w w3 from bl_trans HB2.out hb)
  have HD3 := Lib.hid (show Below w1.heap.size w1 w3 from bl_trans HD2.out hb)
  have HX3 := Lib.hid (HX2.out.below hb)
  have HR3 := Lib.hid ((HR2.out.below hb).more hb.size)
  have HW3 := Lib.hid (ho)
  have HS3 := Lib.hid (hoz.reads)
  clear hb ho
  clear hoz
  go_wp2_with fail
  refine (dmTasks_any w3 Ax Aw _ cx cw xs HX3.out.reads.2 HW3.out.reads.2 (by omega)).mono ?_
  rintro e w4 ⟨rfl, hb⟩
  have hs4 := hb.size
  have HB4 := Lib.hid (show Below w.heap.size w w4 from bl_trans HB3.out hb)
  have HD4 := Lib.hid (show Below w1.heap.size w1 w4 from bl_trans HD3.out hb)
  have HX4 := Lib.hid (HX3.out.below hb)
  have HR4 := Lib.hid ((HR3.out.below hb).more hb.size)
  have HW4 := Lib.hid (HW3.out.below hb)
  have HS4 := Lib.hid ((HS3.out.below hb).more hb.size)
  clear hb
  go_wp2_with fail
  refine (dmInts_any w4 Ar As _ cr cs zr HR4.out HS4.out (by omega)).mono ?_
  rintro e w5 ⟨rfl, hb⟩
  have hs5 := hb.size
  have HB5 := Lib.hid (show Below w.heap.size w w5 from bl_trans HB4.out hb)
  have HD5 := Lib.hid (show Below w1.heap.size w1 w5 from bl_trans HD4.out hb)
  have HX5 := Lib.hid (HX4.out.below hb)
  have HR5 := Lib.hid ((HR4.out.below hb).more hb.size)
  have HW5 := Lib.hid (HW4.out.below hb)
  have HS5 := Lib.hid ((HS4.out.below hb).more hb.size)
  clear hb
  cases b
  · go_wp2_with fail
    refine (dmTasks_any w5 Ax Aw _ cx cw xs HX5.out.reads.2 HW5.out.reads.2 (by omega)).mono ?_
    rintro e w6 ⟨rfl, hb⟩
    have hs6 := hb.size
    have HB6 := Lib.hid (show Below w.heap.size w w6 from bl_trans HB5.out hb)
    have HD6 := Lib.hid (show Below w1.heap.size w1 w6 from bl_trans HD5.out hb)
    have HX6 := Lib.hid (HX5.out.below hb)
    have HR6 := Lib.hid ((HR5.out.below hb).more hb.size)
    have HW6 := Lib.hid (HW5.out.below hb)
    have HS6 := Lib.hid ((HS5.out.below hb).more hb.size)
    clear hb
    go_wp2_with fail
    refine (dmInts_any w6 Ar As _ cr cs zr HR6.out HS6.out (by omega)).mono ?_
    rintro e w7 ⟨rfl, hb⟩
    have hs7 := hb.size
    have HB7 := Lib.hid (show Below w.heap.size w w7 from bl_trans HB6.out hb)
    have HD7 := Lib.hid (show Below w1.heap.size w1 w7 from bl_trans HD6.out hb)
    have HX7 := Lib.hid (HX6.out.below hb)
    have HR7 := Lib.hid ((HR6.out.below hb).more hb.size)
    have HW7 := Lib.hid (HW6.out.below hb)
    have HS7 := Lib.hid ((HS6.out.below hb).more hb.size)
    clear hb
    go_wp2
    go_ret
    exact ⟨rfl, HB7.out⟩
  · obtain ⟨_, hp⟩ := allB_pol HV.out
    obtain ⟨f1, f2, f3, f4⟩ := all_facts (ts := ts) hp ts.length (Nat.le_refl _)
    rw [show (allA ts z ts.length).1 = xs from HXS.out.symm] at f1 f2
    rw [show (allA ts z ts.length).2 = zr from HZR.out.symm] at f2
    have F1 := Lib.hid f1
    have F2 := Lib.hid f2
    clear f1 f2 f3 f4 hp
    go_wp2_with fail
    refine (iHoldsBy_is w5 Ax _ cx xs z HX5.out.reads.2 (by omega) (own_le HX5.out) e0 (HE.out.below HB5.out) true F1.out).mono ?_
    rintro e w6 ⟨rfl, hb⟩
    have hs6 := hb.size
    have HB6 := Lib.hid (show Below w.heap.size w w6 from bl_trans HB5.out hb)
    have HD6 := Lib.hid (show Below w1.heap.size w1 w6 from bl_trans HD5.out hb)
    have HX6 := Lib.hid (HX5.out.below hb)
    have HR6 := Lib.hid ((HR5.out.below hb).more hb.size)
    have HW6 := Lib.hid (HW5.out.below hb)
    have HS6 := Lib.hid ((HS5.out.below hb).more hb.size)
    clear hb
    have hw : IntKind.i64.wrap ((xs.length : Int) + (zr.length : Int)) = (xs.length : Int) + (zr.length : Int) := IntWalk.i64_in _ (by omega)
    have hle : ((xs.length : Int) + (zr.length : Int) == (ts.length : Int)) = true := by have := F2.out; rw [beq_iff_eq]; omega
    go_wp2
    go_ret
    exact ⟨rfl, HB6.out⟩

end Go.Proofs.YtgfnlfjaekkdfaaGreatDoor
