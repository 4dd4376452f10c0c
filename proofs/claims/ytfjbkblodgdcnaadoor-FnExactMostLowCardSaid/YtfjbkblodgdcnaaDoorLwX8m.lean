/- The walks of the exact laws of MostHigh and MostLow. -/
import Derived.Test.YtfjbkblodgdcnaaDoorNA
import Derived.Test.YtfjbkblodgdcnaaDoorNB
import Derived.Test.YtfjbkblodgdcnaaDoorMoS
namespace Go.Proofs.YtfjbkblodgdcnaaDoor
open Go.RowKit
set_option linter.unusedVariables false

set_option maxRecDepth 100000 in
set_option maxHeartbeats 2000000 in
theorem fnExactMostHigh_walk (w : World) (A : Option Addr) (n c : Nat) (ts : List Tk) (h : Tks w w.heap.size A n ts) (hmax : n ≤ 9223372036854775807) (a : Int) (pol : Int) (e0 : Addr) (he : EG w e0) :
    Calls Tryd.prog 10 #[.slice A n c, .int .i64 a, .int .i64 pol] w fun e w' => e = .returned (.bool true) ∧ Below w.heap.size w w' := by
  have H := Lib.hid h
  have HE := Lib.hid he
  have HL := Lib.hid h.len
  clear h he
  by_cases hn : 1048576 < n
  · go_enter Tryd.func10, Tryd.ntmps10
    go_wp2_with fail
    refine (sz_any w A n c hmax).mono ?_
    rintro e w1 ⟨rfl, rfl⟩
    rw [if_pos (by omega)]
    go_wp2
    go_ret
    exact ⟨rfl, Below.refl _ _⟩
  have htl : ts.length ≤ 1048576 := by rw [HL.out]; omega
  obtain ⟨v, b, hv⟩ : ∃ v b, mostHB ts ts.length a pol = b ∧ v = if mostHB ts ts.length a pol then mostV ts a pol true else 0 := ⟨_, _, rfl, rfl⟩
  have HV := Lib.hid hv
  clear hv
  go_enter Tryd.func10, Tryd.ntmps10
  go_wp2_with fail
  refine (sz_any w A n c hmax).mono ?_
  rintro e w1 ⟨rfl, rfl⟩
  rw [if_neg (by omega)]
  have HB0 : Hid (Below w.heap.size w w) := Below.refl _ _
  go_wp2_with fail
  refine (toTaskS_any w A n c ts ((H.out.below HB0.out).more HB0.out.size) (by omega)).mono ?_
  rintro e w2 ⟨Au, cu, rfl, ho, hb⟩
  have HO2 := Lib.hid ho.reads.2
  have HB2 := Lib.hid (bl_trans HB0.out hb)
  clear hb ho
  go_wp2_with fail
  refine (sMostHigh_is w2 Au _ cu ts a pol HO2.out (by omega) v b HV.out.1 (by rw [← HV.out.1]; exact HV.out.2)).mono ?_
  rintro e w3 ⟨rfl, hb⟩
  have HB3 := Lib.hid (bl_trans HB2.out hb)
  clear hb
  go_wp2_with fail
  refine (toTaskS_any w3 A n c ts ((H.out.below HB3.out).more HB3.out.size) (by omega)).mono ?_
  rintro e w4 ⟨Ax, cx, rfl, ho, hb⟩
  have HO4 := Lib.hid ho.reads.2
  have hle4 := own_le ho
  have HB4 := Lib.hid (bl_trans HB3.out hb)
  clear hb ho
  go_wp2_with fail
  refine (iMostHigh_is w4 Ax _ cx ts a pol HO4.out (by omega) hle4 e0 (HE.out.below HB4.out) v b HV.out.1 (by rw [← HV.out.1]; exact HV.out.2)).mono ?_
  rintro e w5 ⟨rfl, hb⟩
  have HO5 := Lib.hid ((HO4.out.below hb).more hb.size)
  have HB5 := Lib.hid (bl_trans HB4.out hb)
  clear hb
  go_wp2_with fail
  refine (toTaskS_any w5 A n c ts ((H.out.below HB5.out).more HB5.out.size) (by omega)).mono ?_
  rintro e w6 ⟨Av, cv, rfl, ho, hb⟩
  have HO6 := Lib.hid ((HO5.out.below hb).more hb.size)
  have HV6 := Lib.hid ho.reads.2
  have HB6 := Lib.hid (bl_trans HB5.out hb)
  clear hb ho
  go_wp2_with fail
  refine (eqTaskS_any w6 Ax Av _ cx cv ts HO6.out HV6.out (by omega)).mono ?_
  rintro e w7 ⟨rfl, hb⟩
  have HB7 := Lib.hid (bl_trans HB6.out hb)
  clear hb
  go_wp2
  go_ret
  exact ⟨rfl, HB7.out⟩

set_option maxRecDepth 100000 in
set_option maxHeartbeats 2000000 in
theorem fnExactMostLow_walk (w : World) (A : Option Addr) (n c : Nat) (ts : List Tk) (h : Tks w w.heap.size A n ts) (hmax : n ≤ 9223372036854775807) (a : Int) (pol : Int) (e0 : Addr) (he : EG w e0) :
    Calls Tryd.prog 11 #[.slice A n c, .int .i64 a, .int .i64 pol] w fun e w' => e = .returned (.bool true) ∧ Below w.heap.size w w' := by
  have H := Lib.hid h
  have HE := Lib.hid he
  have HL := Lib.hid h.len
  clear h he
  by_cases hn : 1048576 < n
  · go_enter Tryd.func11, Tryd.ntmps11
    go_wp2_with fail
    refine (sz_any w A n c hmax).mono ?_
    rintro e w1 ⟨rfl, rfl⟩
    rw [if_pos (by omega)]
    go_wp2
    go_ret
    exact ⟨rfl, Below.refl _ _⟩
  have htl : ts.length ≤ 1048576 := by rw [HL.out]; omega
  obtain ⟨v, b, hv⟩ : ∃ v b, mostB ts ts.length a pol = b ∧ v = if mostB ts ts.length a pol then mostV ts a pol false else 0 := ⟨_, _, rfl, rfl⟩
  have HV := Lib.hid hv
  clear hv
  go_enter Tryd.func11, Tryd.ntmps11
  go_wp2_with fail
  refine (sz_any w A n c hmax).mono ?_
  rintro e w1 ⟨rfl, rfl⟩
  rw [if_neg (by omega)]
  have HB0 : Hid (Below w.heap.size w w) := Below.refl _ _
  go_wp2_with fail
  refine (toTaskS_any w A n c ts ((H.out.below HB0.out).more HB0.out.size) (by omega)).mono ?_
  rintro e w2 ⟨Au, cu, rfl, ho, hb⟩
  have HO2 := Lib.hid ho.reads.2
  have HB2 := Lib.hid (bl_trans HB0.out hb)
  clear hb ho
  go_wp2_with fail
  refine (sMostLow_is w2 Au _ cu ts a pol HO2.out (by omega) v b HV.out.1 (by rw [← HV.out.1]; exact HV.out.2)).mono ?_
  rintro e w3 ⟨rfl, hb⟩
  have HB3 := Lib.hid (bl_trans HB2.out hb)
  clear hb
  go_wp2_with fail
  refine (toTaskS_any w3 A n c ts ((H.out.below HB3.out).more HB3.out.size) (by omega)).mono ?_
  rintro e w4 ⟨Ax, cx, rfl, ho, hb⟩
  have HO4 := Lib.hid ho.reads.2
  have hle4 := own_le ho
  have HB4 := Lib.hid (bl_trans HB3.out hb)
  clear hb ho
  go_wp2_with fail
  refine (iMostLow_is w4 Ax _ cx ts a pol HO4.out (by omega) hle4 e0 (HE.out.below HB4.out) v b HV.out.1 (by rw [← HV.out.1]; exact HV.out.2)).mono ?_
  rintro e w5 ⟨rfl, hb⟩
  have HO5 := Lib.hid ((HO4.out.below hb).more hb.size)
  have HB5 := Lib.hid (bl_trans HB4.out hb)
  clear hb
  go_wp2_with fail
  refine (toTaskS_any w5 A n c ts ((H.out.below HB5.out).more HB5.out.size) (by omega)).mono ?_
  rintro e w6 ⟨Av, cv, rfl, ho, hb⟩
  have HO6 := Lib.hid ((HO5.out.below hb).more hb.size)
  have HV6 := Lib.hid ho.reads.2
  have HB6 := Lib.hid (bl_trans HB5.out hb)
  clear hb ho
  go_wp2_with fail
  refine (eqTaskS_any w6 Ax Av _ cx cv ts HO6.out HV6.out (by omega)).mono ?_
  rintro e w7 ⟨rfl, hb⟩
  have HB7 := Lib.hid (bl_trans HB6.out hb)
  clear hb
  go_wp2
  go_ret
  exact ⟨rfl, HB7.out⟩

end Go.Proofs.YtfjbkblodgdcnaaDoor
