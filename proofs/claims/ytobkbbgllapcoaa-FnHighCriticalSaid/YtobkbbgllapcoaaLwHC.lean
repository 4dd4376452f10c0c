/- The walk of the law on critical tasks alone. -/
import Derived.Test.YtobkbbgllapcoaaLwK
import Derived.Test.YtobkbbgllapcoaaDr3
import Derived.Test.YtobkbbgllapcoaaRHigh
import Derived.Test.YtobkbbgllapcoaaRespB
namespace Go.Proofs.Ytobkbbgllapcoaa
open Go.RowKit
set_option linter.unusedVariables false

set_option maxRecDepth 100000 in
set_option maxHeartbeats 4000000 in
theorem fnHighCritical_walk (w : World) (A : Option Addr) (n c : Nat) (f : Nat → Int) (h : Code w w.heap.size A n c f) :
    Calls Try.prog 16 #[.slice A n c] w fun e w' => e = .returned (.bool true) ∧ Below w.heap.size w w' := by
  have H := Lib.hid h
  have hle := h.le
  have hmax := h.max
  unfold maxLen at hmax
  clear h
  by_cases hn : 1048576 < n
  · go_enter Try.func16, Try.ntmps16
    go_wp2
    go_ret
    exact ⟨rfl, Below.refl _ _⟩
  go_enter Try.func16, Try.ntmps16
  go_wp2_with fail
  refine (dDrawResponseHigh_any _ A n c f H.out).mono ?_
  rintro e w1 ⟨At, ct, ts, z, rfl, hl, z0, z1, ho, hb⟩
  have HB1 := Lib.hid hb
  have HO := Lib.hid ho
  have HT := Lib.hid ho.reads.2
  have hct := own_le ho
  clear hb ho H
  have HD1 := Lib.hid (Below.refl w1.heap.size w1)
  have hs1 := HB1.out.size
  obtain ⟨v, b, hv⟩ : ∃ v b, resN (atI (rHigh ts) z) = (v, b) := ⟨_, _, rfl⟩
  have HV := Lib.hid hv
  go_wp2_with fail
  refine (iRHigh_is _ At _ ct ts z ?_ (by omega) hct v b HV.out).mono ?_
  · exact tks_to HT.out (by repeat (first | with_reducible exact HD1.out | with_reducible refine Below.drew ?_ | with_reducible refine bl_drewN ?_ _ | with_reducible refine bl_alloc ?_ _))
  rintro e w2 ⟨rfl, hb⟩
  have hs2 := hb.size
  have HB2 := Lib.hid (show Below w.heap.size w w2 from bl_trans (by repeat (first | with_reducible exact HB1.out | with_reducible refine Below.drew ?_ | with_reducible refine bl_drewN ?_ _ | with_reducible refine bl_alloc ?_ _)) hb)
  have HD2 := Lib.hid (show Below w1.heap.size w1 w2 from bl_trans (by repeat (first | with_reducible exact HD1.out | with_reducible refine Below.drew ?_ | with_reducible refine bl_drewN ?_ _ | with_reducible refine bl_alloc ?_ _)) hb)
  clear hb
  go_wp2_with fail
  refine (sRHigh_is _ At _ ct ts z ?_ (by omega) v b HV.out).mono ?_
  · exact tks_to HT.out (by repeat (first | with_reducible exact HD2.out | with_reducible refine Below.drew ?_ | with_reducible refine bl_drewN ?_ _ | with_reducible refine bl_alloc ?_ _))
  rintro e w3 ⟨rfl, hb⟩
  have hs3 := hb.size
  have HB3 := Lib.hid (show Below w.heap.size w w3 from bl_trans (by repeat (first | with_reducible exact HB2.out | with_reducible refine Below.drew ?_ | with_reducible refine bl_drewN ?_ _ | with_reducible refine bl_alloc ?_ _)) hb)
  have HD3 := Lib.hid (show Below w1.heap.size w1 w3 from bl_trans (by repeat (first | with_reducible exact HD2.out | with_reducible refine Below.drew ?_ | with_reducible refine bl_drewN ?_ _ | with_reducible refine bl_alloc ?_ _)) hb)
  clear hb
  cases b
  · obtain ⟨hno, rfl⟩ := res_false hv
    clear hno hv
    go_wp2
    go_ret
    exact ⟨rfl, by repeat (first | with_reducible exact HB3.out | refine bl_drewN ?_ _ | refine Below.drew ?_ | refine bl_alloc ?_ _)⟩
  obtain ⟨k, rfl, hr⟩ := at_some (res_true hv)
  obtain ⟨hset, t, ht, hcr, hf⟩ := rHigh_some hr
  have HSET := Lib.hid hset
  have h5 := setB_len hset
  obtain ⟨us, hus⟩ : ∃ us, us = critOf ts := ⟨_, rfl⟩
  have hux : us = critL ts := by rw [hus, critOf_set hset]
  have hul : us.length ≤ 5 := by rw [hux]; exact Nat.le_trans (critL_len ts) h5
  have hup : 0 < us.length := by
    have := (List.getElem?_eq_some_iff.1 (crit_at ht hcr)).1
    rw [← hux] at this
    omega
  have HU := Lib.hid hus
  have HX := Lib.hid hux
  clear hv hr hf ht hset hcr hus hux
  go_wp2_with fail
  refine (iCriticalOf_is _ (At) _ ct ts us HU.out ?_ (by omega)).mono ?_
  · exact tks_to HT.out (by repeat (first | with_reducible exact HD3.out | with_reducible refine Below.drew ?_ | with_reducible refine bl_drewN ?_ _ | with_reducible refine bl_alloc ?_ _))
  rintro e w4 ⟨A4, c4, rfl, ho4, hb⟩
  have hs4 := hb.size
  have HB4 := Lib.hid (show Below w.heap.size w w4 from bl_trans (by repeat (first | with_reducible exact HB3.out | with_reducible refine Below.drew ?_ | with_reducible refine bl_drewN ?_ _ | with_reducible refine bl_alloc ?_ _)) hb)
  have HD4 := Lib.hid (show Below w1.heap.size w1 w4 from bl_trans (by repeat (first | with_reducible exact HD3.out | with_reducible refine Below.drew ?_ | with_reducible refine bl_drewN ?_ _ | with_reducible refine bl_alloc ?_ _)) hb)
  clear hb
  have HO4 := Lib.hid ho4.reads.2
  have hle4 := own_le ho4
  clear ho4
  have i0 : (0 : Int) < (us.length : Int) := by omega
  go_wp2
  go_loopw [10] (fun i wr => ∃ j : Nat, j ≤ us.length ∧ i = .int .i64 j ∧ Below w4.heap.size w4 wr) (fun i _ => us.length - (intOf i).toNat)
  case atStart => exact ⟨0, Nat.zero_le _, rfl, Below.refl _ _⟩
  case round =>
    obtain ⟨j, hj, rfl, hb⟩ := hrel
    have HB5 := Lib.hid (bl_trans HB4.out hb)
    have HW := Lib.hid hb
    have hs5 := hb.size
    clear hb
    by_cases hjk : j < us.length
    · have i1 : (j : Int) < (us.length : Int) := by omega
      obtain ⟨x, p, hxp⟩ : ∃ x p, resN (atI (rLow us) (j : Int)) = (x, p) := ⟨_, _, rfl⟩
      have HX1 := Lib.hid hxp
      have HX2 : Hid (resN (atI (rHigh us) (j : Int)) = (x, p)) := by show _ = _; rw [at_nat, HX.out, high_low HSET.out, ← HX.out]; rw [at_nat] at hxp; exact hxp
      clear hxp
      go_wp2_with fail
      refine (iRHigh_is _ A4 _ c4 us (j : Int) ((HO4.out.below HW.out).more hs5) (by omega) hle4 x p HX2.out).mono ?_
      rintro e w6 ⟨rfl, hb⟩
      have HW6 := Lib.hid (bl_trans HW.out hb)
      have hs6 := HW6.out.size
      clear hb
      go_wp2_with fail
      refine (iRLow_is _ A4 _ c4 us (j : Int) ((HO4.out.below HW6.out).more hs6) (by omega) hle4 x p HX1.out).mono ?_
      rintro e w7 ⟨rfl, hb⟩
      have HW7 := Lib.hid (bl_trans HW6.out hb)
      clear hb
      go_wp2
      go_roundw
      case rel => exact ⟨j + 1, by omega, by go_num, HW7.out⟩
      case measure => simp [intOf]; omega
    · have i1 : ¬ (j : Int) < (us.length : Int) := by omega
      go_wp2
      go_ret
      exact ⟨by simp, HB5.out⟩

end Go.Proofs.Ytobkbbgllapcoaa
