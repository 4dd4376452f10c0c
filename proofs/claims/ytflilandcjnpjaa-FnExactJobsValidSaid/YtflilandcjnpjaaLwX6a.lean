/- The walks of the exact laws of JobsValid, NeedOf and DueAt. -/
import Derived.Test.YtflilandcjnpjaaExMark
import Derived.Test.YtflilandcjnpjaaExJ
import Derived.Test.YtflilandcjnpjaaM4
import Derived.Test.YtflilandcjnpjaaM3
import Derived.Test.YtflilandcjnpjaaM5
namespace Go.Proofs.Ytflilandcjnpjaa
open Go.RowKit
set_option linter.unusedVariables false

set_option maxRecDepth 100000 in
set_option maxHeartbeats 4000000 in
theorem fnExactJobsValid_walk (w : World) (A : Option Addr) (n c : Nat) (ts : List Tk) (h : Tks w w.heap.size A n ts) (hmax : n ≤ 9223372036854775807) (Aj : Option Addr) (nj cj : Nat) (js : List Jb) (hj : Jbs w w.heap.size Aj nj js) (hjmax : nj ≤ 9223372036854775807) :
    Calls Try.prog 11 #[.slice A n c, .slice Aj nj cj] w fun e w' => e = .returned (.bool true) ∧ Below w.heap.size w w' := by
  have HT0 := Lib.hid h
  have HL := Lib.hid h.len
  clear h
  have HJ0 := Lib.hid hj
  have HJL := Lib.hid hj.len
  clear hj
  by_cases hn : 1048576 < n
  · go_enter Try.func11, Try.ntmps11
    go_wp2_with fail
    refine (sz_any _ A n c hmax).mono ?_
    rintro e w1 ⟨rfl, rfl⟩
    rw [if_pos (by omega)]
    go_wp2
    go_ret
    exact ⟨rfl, by repeat (first | with_reducible exact Below.refl _ _ | refine bl_alloc ?_ _)⟩
  by_cases hnj : (1048576 - (n : Int)) < (nj : Int)
  · go_enter Try.func11, Try.ntmps11
    go_wp2_with fail
    refine (sz_any _ A n c hmax).mono ?_
    rintro e w1 ⟨rfl, rfl⟩
    rw [if_neg (by omega)]
    go_wp2_with fail
    refine (szJ_any _ Aj nj cj hjmax (1048576 - (n : Int)) (by omega) (by omega)).mono ?_
    rintro e w1 ⟨rfl, rfl⟩
    rw [if_pos (by omega)]
    go_wp2
    go_ret
    exact ⟨rfl, by repeat (first | with_reducible exact Below.refl _ _ | refine bl_alloc ?_ _)⟩
  have htl : ts.length ≤ 1048576 := by rw [HL.out]; omega
  have hjl : js.length ≤ 1048576 := by rw [HJL.out]; omega
  obtain ⟨r, hr⟩ : ∃ r, jobsB ts js = r := ⟨_, rfl⟩
  go_enter Try.func11, Try.ntmps11
  go_wp2_with fail
  refine (sz_any _ A n c hmax).mono ?_
  rintro e w1 ⟨rfl, rfl⟩
  rw [if_neg (by omega)]
  go_wp2_with fail
  refine (szJ_any _ Aj nj cj hjmax (1048576 - (n : Int)) (by omega) (by omega)).mono ?_
  rintro e w1 ⟨rfl, rfl⟩
  rw [if_neg (by omega)]
  have HB0 : Hid (Below w.heap.size w w) := Below.refl _ _
  have hs0 := HB0.out.size
  go_wp2_with fail
  refine (toTaskS_any _ A n c ts (tks_to6 HT0.out (by repeat (first | with_reducible exact Below.refl _ _ | with_reducible refine Below.drew ?_ | with_reducible refine bl_drewN ?_ _ | with_reducible refine bl_alloc ?_ _))) (by omega)).mono ?_
  rintro e w1 ⟨AU, cU, rfl, ho, hb⟩
  have HS1 := Lib.hid (show Below w.heap.size w w1 from bl_trans (by repeat (first | with_reducible exact Below.refl _ _ | with_reducible refine Below.drew ?_ | with_reducible refine bl_drewN ?_ _ | with_reducible refine bl_alloc ?_ _)) hb)
  have HB1 := Lib.hid (bl_trans HB0.out HS1.out)
  have hs1 := HB1.out.size
  have hq1 := HS1.out.size
  have HT1 := Lib.hid (tks_to6 HT0.out HS1.out)
  have HJ1 := Lib.hid (jbs_to HJ0.out HS1.out)
  have HU1 := Lib.hid ho.reads.2
  clear ho
  clear hb
  go_wp2_with fail
  refine (toJobS_any _ Aj nj cj js (jbs_to HJ1.out (by repeat (first | with_reducible exact Below.refl _ _ | with_reducible refine Below.drew ?_ | with_reducible refine bl_drewN ?_ _ | with_reducible refine bl_alloc ?_ _))) (by omega)).mono ?_
  rintro e w2 ⟨gP, rfl, ho, hb⟩
  have HS2 := Lib.hid (show Below w1.heap.size w1 w2 from bl_trans (by repeat (first | with_reducible exact Below.refl _ _ | with_reducible refine Below.drew ?_ | with_reducible refine bl_drewN ?_ _ | with_reducible refine bl_alloc ?_ _)) hb)
  have HB2 := Lib.hid (bl_trans HB1.out HS2.out)
  have hs2 := HB2.out.size
  have hq2 := HS2.out.size
  have HT2 := Lib.hid (tks_to6 HT1.out HS2.out)
  have HJ2 := Lib.hid (jbs_to HJ1.out HS2.out)
  have HU2 := Lib.hid (tks_to6 HU1.out HS2.out)
  have HP2 := Lib.hid ho.reads.2
  clear ho
  clear hb
  go_wp2_with fail
  refine (sJobs_is _ AU _ cU ts (tks_to6 HU2.out (by repeat (first | with_reducible exact Below.refl _ _ | with_reducible refine Below.drew ?_ | with_reducible refine bl_drewN ?_ _ | with_reducible refine bl_alloc ?_ _))) htl (some ⟨gP, 0, none⟩) _ _ js (jbs_to HP2.out (by repeat (first | with_reducible exact Below.refl _ _ | with_reducible refine Below.drew ?_ | with_reducible refine bl_drewN ?_ _ | with_reducible refine bl_alloc ?_ _))) r hr).mono ?_
  rintro e w3 ⟨rfl, hb⟩
  have HS3 := Lib.hid (show Below w2.heap.size w2 w3 from bl_trans (by repeat (first | with_reducible exact Below.refl _ _ | with_reducible refine Below.drew ?_ | with_reducible refine bl_drewN ?_ _ | with_reducible refine bl_alloc ?_ _)) hb)
  have HB3 := Lib.hid (bl_trans HB2.out HS3.out)
  have hs3 := HB3.out.size
  have hq3 := HS3.out.size
  have HT3 := Lib.hid (tks_to6 HT2.out HS3.out)
  have HJ3 := Lib.hid (jbs_to HJ2.out HS3.out)
  have HU3 := Lib.hid (tks_to6 HU2.out HS3.out)
  have HP3 := Lib.hid (jbs_to HP2.out HS3.out)
  clear hb
  go_wp2_with fail
  refine (toTaskS_any _ A n c ts (tks_to6 HT3.out (by repeat (first | with_reducible exact Below.refl _ _ | with_reducible refine Below.drew ?_ | with_reducible refine bl_drewN ?_ _ | with_reducible refine bl_alloc ?_ _))) (by omega)).mono ?_
  rintro e w4 ⟨AV, cV, rfl, ho, hb⟩
  have HS4 := Lib.hid (show Below w3.heap.size w3 w4 from bl_trans (by repeat (first | with_reducible exact Below.refl _ _ | with_reducible refine Below.drew ?_ | with_reducible refine bl_drewN ?_ _ | with_reducible refine bl_alloc ?_ _)) hb)
  have HB4 := Lib.hid (bl_trans HB3.out HS4.out)
  have hs4 := HB4.out.size
  have hq4 := HS4.out.size
  have HT4 := Lib.hid (tks_to6 HT3.out HS4.out)
  have HJ4 := Lib.hid (jbs_to HJ3.out HS4.out)
  have HV4 := Lib.hid ho.reads.2
  clear ho
  clear hb
  go_wp2_with fail
  refine (toJobS_any _ Aj nj cj js (jbs_to HJ4.out (by repeat (first | with_reducible exact Below.refl _ _ | with_reducible refine Below.drew ?_ | with_reducible refine bl_drewN ?_ _ | with_reducible refine bl_alloc ?_ _))) (by omega)).mono ?_
  rintro e w5 ⟨gX, rfl, ho, hb⟩
  have HS5 := Lib.hid (show Below w4.heap.size w4 w5 from bl_trans (by repeat (first | with_reducible exact Below.refl _ _ | with_reducible refine Below.drew ?_ | with_reducible refine bl_drewN ?_ _ | with_reducible refine bl_alloc ?_ _)) hb)
  have HB5 := Lib.hid (bl_trans HB4.out HS5.out)
  have hs5 := HB5.out.size
  have hq5 := HS5.out.size
  have HT5 := Lib.hid (tks_to6 HT4.out HS5.out)
  have HJ5 := Lib.hid (jbs_to HJ4.out HS5.out)
  have HV5 := Lib.hid (tks_to6 HV4.out HS5.out)
  have HX5 := Lib.hid ho.reads.2
  clear ho
  clear hb
  go_wp2_with fail
  refine (iJobs_is _ AV _ cV ts (tks_to6 HV5.out (by repeat (first | with_reducible exact Below.refl _ _ | with_reducible refine Below.drew ?_ | with_reducible refine bl_drewN ?_ _ | with_reducible refine bl_alloc ?_ _))) htl (some ⟨gX, 0, none⟩) _ _ js (jbs_to HX5.out (by repeat (first | with_reducible exact Below.refl _ _ | with_reducible refine Below.drew ?_ | with_reducible refine bl_drewN ?_ _ | with_reducible refine bl_alloc ?_ _))) r hr).mono ?_
  rintro e w6 ⟨rfl, hb⟩
  have HS6 := Lib.hid (show Below w5.heap.size w5 w6 from bl_trans (by repeat (first | with_reducible exact Below.refl _ _ | with_reducible refine Below.drew ?_ | with_reducible refine bl_drewN ?_ _ | with_reducible refine bl_alloc ?_ _)) hb)
  have HB6 := Lib.hid (bl_trans HB5.out HS6.out)
  have hs6 := HB6.out.size
  have hq6 := HS6.out.size
  have HT6 := Lib.hid (tks_to6 HT5.out HS6.out)
  have HJ6 := Lib.hid (jbs_to HJ5.out HS6.out)
  have HV6 := Lib.hid (tks_to6 HV5.out HS6.out)
  have HX6 := Lib.hid (jbs_to HX5.out HS6.out)
  clear hb
  go_wp2_with fail
  refine (toTaskS_any _ A n c ts (tks_to6 HT6.out (by repeat (first | with_reducible exact Below.refl _ _ | with_reducible refine Below.drew ?_ | with_reducible refine bl_drewN ?_ _ | with_reducible refine bl_alloc ?_ _))) (by omega)).mono ?_
  rintro e w7 ⟨AW, cW, rfl, ho, hb⟩
  have HS7 := Lib.hid (show Below w6.heap.size w6 w7 from bl_trans (by repeat (first | with_reducible exact Below.refl _ _ | with_reducible refine Below.drew ?_ | with_reducible refine bl_drewN ?_ _ | with_reducible refine bl_alloc ?_ _)) hb)
  have HB7 := Lib.hid (bl_trans HB6.out HS7.out)
  have hs7 := HB7.out.size
  have hq7 := HS7.out.size
  have HT7 := Lib.hid (tks_to6 HT6.out HS7.out)
  have HJ7 := Lib.hid (jbs_to HJ6.out HS7.out)
  have HV7 := Lib.hid (tks_to6 HV6.out HS7.out)
  have HX7 := Lib.hid (jbs_to HX6.out HS7.out)
  have HW7 := Lib.hid ho.reads.2
  clear ho
  clear hb
  go_wp2_with fail
  refine (eqTaskS_any _ AV AW _ cV cW ts (tks_to6 HV7.out (by repeat (first | with_reducible exact Below.refl _ _ | with_reducible refine Below.drew ?_ | with_reducible refine bl_drewN ?_ _ | with_reducible refine bl_alloc ?_ _))) (tks_to6 HW7.out (by repeat (first | with_reducible exact Below.refl _ _ | with_reducible refine Below.drew ?_ | with_reducible refine bl_drewN ?_ _ | with_reducible refine bl_alloc ?_ _))) (by omega)).mono ?_
  rintro e w8 ⟨rfl, hb⟩
  have HS8 := Lib.hid (show Below w7.heap.size w7 w8 from bl_trans (by repeat (first | with_reducible exact Below.refl _ _ | with_reducible refine Below.drew ?_ | with_reducible refine bl_drewN ?_ _ | with_reducible refine bl_alloc ?_ _)) hb)
  have HB8 := Lib.hid (bl_trans HB7.out HS8.out)
  have hs8 := HB8.out.size
  have hq8 := HS8.out.size
  have HT8 := Lib.hid (tks_to6 HT7.out HS8.out)
  have HJ8 := Lib.hid (jbs_to HJ7.out HS8.out)
  have HV8 := Lib.hid (tks_to6 HV7.out HS8.out)
  have HX8 := Lib.hid (jbs_to HX7.out HS8.out)
  have HW8 := Lib.hid (tks_to6 HW7.out HS8.out)
  clear hb
  go_wp2_with fail
  refine (toJobS_any _ Aj nj cj js (jbs_to HJ8.out (by repeat (first | with_reducible exact Below.refl _ _ | with_reducible refine Below.drew ?_ | with_reducible refine bl_drewN ?_ _ | with_reducible refine bl_alloc ?_ _))) (by omega)).mono ?_
  rintro e w9 ⟨gY, rfl, ho, hb⟩
  have HS9 := Lib.hid (show Below w8.heap.size w8 w9 from bl_trans (by repeat (first | with_reducible exact Below.refl _ _ | with_reducible refine Below.drew ?_ | with_reducible refine bl_drewN ?_ _ | with_reducible refine bl_alloc ?_ _)) hb)
  have HB9 := Lib.hid (bl_trans HB8.out HS9.out)
  have hs9 := HB9.out.size
  have hq9 := HS9.out.size
  have HT9 := Lib.hid (tks_to6 HT8.out HS9.out)
  have HJ9 := Lib.hid (jbs_to HJ8.out HS9.out)
  have HX9 := Lib.hid (jbs_to HX8.out HS9.out)
  have HY9 := Lib.hid ho.reads.2
  clear ho
  clear hb
  go_wp2_with fail
  refine (eqJobS_any _ (some ⟨gX, 0, none⟩) (some ⟨gY, 0, none⟩) js.length js.length js.length js (jbs_to HX9.out (by repeat (first | with_reducible exact Below.refl _ _ | with_reducible refine Below.drew ?_ | with_reducible refine bl_drewN ?_ _ | with_reducible refine bl_alloc ?_ _))) (jbs_to HY9.out (by repeat (first | with_reducible exact Below.refl _ _ | with_reducible refine Below.drew ?_ | with_reducible refine bl_drewN ?_ _ | with_reducible refine bl_alloc ?_ _))) (by omega)).mono ?_
  rintro e w10 ⟨rfl, hb⟩
  have HS10 := Lib.hid (show Below w9.heap.size w9 w10 from bl_trans (by repeat (first | with_reducible exact Below.refl _ _ | with_reducible refine Below.drew ?_ | with_reducible refine bl_drewN ?_ _ | with_reducible refine bl_alloc ?_ _)) hb)
  have HB10 := Lib.hid (bl_trans HB9.out HS10.out)
  have hs10 := HB10.out.size
  have hq10 := HS10.out.size
  have HT10 := Lib.hid (tks_to6 HT9.out HS10.out)
  have HJ10 := Lib.hid (jbs_to HJ9.out HS10.out)
  have HX10 := Lib.hid (jbs_to HX9.out HS10.out)
  have HY10 := Lib.hid (jbs_to HY9.out HS10.out)
  clear hb
  go_wp2
  go_ret
  exact ⟨rfl, by repeat (first | with_reducible exact HB10.out | refine bl_drewN ?_ _ | refine Below.drew ?_ | refine bl_alloc ?_ _)⟩

end Go.Proofs.Ytflilandcjnpjaa
