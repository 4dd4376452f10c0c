/- The walk of the law that no smaller number is a fixed point. -/
import Derived.Test.YtobkbbgllapcoaaLwK
import Derived.Test.YtobkbbgllapcoaaDr3
import Derived.Test.YtobkbbgllapcoaaRHigh
namespace Go.Proofs.Ytobkbbgllapcoaa
open Go.RowKit
set_option linter.unusedVariables false

set_option maxRecDepth 100000 in
set_option maxHeartbeats 4000000 in
theorem fnResponseLess_walk (w : World) (A : Option Addr) (n c : Nat) (f : Nat → Int) (h : Code w w.heap.size A n c f) :
    Calls Try.prog 14 #[.slice A n c] w fun e w' => e = .returned (.bool true) ∧ Below w.heap.size w w' := by
  have H := Lib.hid h
  have hle := h.le
  have hmax := h.max
  unfold maxLen at hmax
  clear h
  by_cases hn : 1048576 < n
  · go_enter Try.func14, Try.ntmps14
    go_wp2
    go_ret
    exact ⟨rfl, Below.refl _ _⟩
  go_enter Try.func14, Try.ntmps14
  go_wp2_with fail
  refine (dDrawResponseLow_any _ A n c f H.out).mono ?_
  rintro e w1 ⟨At, ct, ts, z, rfl, hl, z0, z1, ho, hb⟩
  have HB1 := Lib.hid hb
  have HO := Lib.hid ho
  have HT := Lib.hid ho.reads.2
  have hct := own_le ho
  clear hb ho H
  have HD1 := Lib.hid (Below.refl w1.heap.size w1)
  have hs1 := HB1.out.size
  obtain ⟨v, b, hv⟩ : ∃ v b, resN (atI (rLow ts) z) = (v, b) := ⟨_, _, rfl⟩
  have HV := Lib.hid hv
  go_wp2_with fail
  refine (iRLow_is _ At _ ct ts z ?_ (by omega) hct v b HV.out).mono ?_
  · exact tks_to HT.out (by repeat (first | with_reducible exact HD1.out | with_reducible refine Below.drew ?_ | with_reducible refine bl_drewN ?_ _ | with_reducible refine bl_alloc ?_ _))
  rintro e w2 ⟨rfl, hb⟩
  have hs2 := hb.size
  have HB2 := Lib.hid (show Below w.heap.size w w2 from bl_trans (by repeat (first | with_reducible exact HB1.out | with_reducible refine Below.drew ?_ | with_reducible refine bl_drewN ?_ _ | with_reducible refine bl_alloc ?_ _)) hb)
  have HD2 := Lib.hid (show Below w1.heap.size w1 w2 from bl_trans (by repeat (first | with_reducible exact HD1.out | with_reducible refine Below.drew ?_ | with_reducible refine bl_drewN ?_ _ | with_reducible refine bl_alloc ?_ _)) hb)
  clear hb
  go_wp2_with fail
  refine (sRLow_is _ At _ ct ts z ?_ (by omega) v b HV.out).mono ?_
  · exact tks_to HT.out (by repeat (first | with_reducible exact HD2.out | with_reducible refine Below.drew ?_ | with_reducible refine bl_drewN ?_ _ | with_reducible refine bl_alloc ?_ _))
  rintro e w3 ⟨rfl, hb⟩
  have hs3 := hb.size
  have HB3 := Lib.hid (show Below w.heap.size w w3 from bl_trans (by repeat (first | with_reducible exact HB2.out | with_reducible refine Below.drew ?_ | with_reducible refine bl_drewN ?_ _ | with_reducible refine bl_alloc ?_ _)) hb)
  have HD3 := Lib.hid (show Below w1.heap.size w1 w3 from bl_trans (by repeat (first | with_reducible exact HD2.out | with_reducible refine Below.drew ?_ | with_reducible refine bl_drewN ?_ _ | with_reducible refine bl_alloc ?_ _)) hb)
  clear hb
  cases b
  · obtain ⟨hno, rfl⟩ := res_false hv
    clear hno hv
    go_wp2
    go_ret
    exact ⟨rfl, by repeat (first | with_reducible exact HB3.out | refine bl_drewN ?_ _ | refine Below.drew ?_ | refine bl_alloc ?_ _)⟩
  obtain ⟨k, rfl, hr⟩ := at_some (res_true hv)
  obtain ⟨hset, t, ht, hf⟩ := rLow_some hr
  obtain ⟨x1, x2, x3, x4⟩ := resp_fix hf
  have hkl : k < ts.length := (List.getElem?_eq_some_iff.1 ht).1
  have h5 := setB_len hset
  have HSET := Lib.hid hset
  have HTA := Lib.hid ht
  have hok := set_ok hset (get_mem ht)
  obtain ⟨gg, oo, rfl, hgl, _⟩ := HT.out.at_ k _ ht
  obtain ⟨lo, hi, du, ev, cr, rfl, p1, p2, p3, p4, p5⟩ := task_nat hok
  have X1 := Lib.hid x1
  have X4 := Lib.hid x4
  have y2 : lo ≤ v := x2
  have y3 : v ≤ du := x3
  have Y1 : Hid (lo + dLow (ts.take k) v = v) := x1
  clear hv hr hf ht hset x1 x4 x2 x3 hok
  have hvb : v ≤ 20 := by omega
  have CC := (Tks.get (tks_to HT.out HD3.out) HTA.out).2
  obtain ⟨c0, c1, c2, c3, c4⟩ := CC
  dsimp only at c0 c1 c2 c3 c4
  have i1 : (k : Int) < (ts.length : Int) := by omega
  go_wp2
  go_loopw [9] (fun i wr => ∃ x : Nat, lo ≤ x ∧ x ≤ v ∧ i = .int .i64 (x : Int) ∧ Below w3.heap.size w3 wr) (fun i _ => v - (intOf i).toNat)
  case atStart => exact ⟨lo, Nat.le_refl _, y2, rfl, Below.refl _ _⟩
  case round =>
    obtain ⟨x, hx1, hx2, rfl, hb⟩ := hrel
    have HD4 := Lib.hid (bl_trans HD3.out hb)
    have HB4 := Lib.hid (bl_trans HB3.out hb)
    have HW := Lib.hid hb
    have hs4 := hb.size
    clear hb
    by_cases hxv : x < v
    · have CC := (Tks.get (tks_to HT.out HD4.out) HTA.out).2
      obtain ⟨c0, c1, c2, c3, c4⟩ := CC
      dsimp only at c0 c1 c2 c3 c4
      have hxi : (x : Int) < (v : Int) := by omega
      go_wp2
      go_loopw [10, 11] (fun s i wr' => ∃ j m : Nat, j ≤ k ∧ i = .int .i64 j ∧ s = .int .i64 (m : Int) ∧ Hid (m = lo + dLow (ts.take j) x) ∧ Below wr.heap.size wr wr') (fun _ i _ => k - (intOf i).toNat)
      case atStart => exact ⟨0, lo, Nat.zero_le _, rfl, rfl, (show lo = _ by simp [dLow]), Below.refl _ _⟩
      case round =>
        obtain ⟨j, m, hj, rfl, rfl, HM, hb⟩ := hrel
        have HD5 := Lib.hid (bl_trans HD4.out hb)
        have HW5 := Lib.hid hb
        have hs5 := hb.size
        clear hb
        by_cases hjk : j < k
        · obtain ⟨u, hu⟩ := get_at (n := ts.length) rfl (show j < ts.length by omega)
          have C3 := (Tks.get (tks_to HT.out HD5.out) hu).2
          have hvu := set_ok HSET.out (get_mem hu)
          have HTu := Lib.hid (dLow_take hu x)
          have hb1 := dLow_bound (set_take HSET.out j) x
          have hb2 := dmd_bound hvu x false
          obtain ⟨d, hd⟩ : ∃ d, dmd u x false = d := ⟨_, rfl⟩
          rw [hd] at hb2
          have HDM := Lib.hid (dm_ok hvu (by omega) hd)
          have hm1 : m ≤ lo + 100 * (x + 20) := by rw [HM.out]; omega
          have HM' : Hid (m + d = lo + dLow (ts.take (j + 1)) x) := by show _ = _; rw [HTu.out, hd, HM.out]; omega
          clear hd hu HTu hb1 hvu
          obtain ⟨lo', hi', du', ev', cr'⟩ := u
          obtain ⟨g0, g1, g2, g3, g4⟩ := C3
          dsimp only at g0 g1 g2 g3 g4
          have i2 : (j : Int) < (ts.length : Int) := by omega
          go_wp2_with (go_at_call 19; refine (iDemandOf_is _ lo' hi' du' ev' cr' (x : Int) false d true HDM.out).mono ?_; rintro e w5 ⟨rfl, hb⟩)
          go_roundw
          case rel => exact ⟨j + 1, m + d, by omega, by go_num, by go_num, HM', bl_trans HW5.out hb⟩
          case measure => simp [intOf]; omega
        · obtain rfl : j = k := by omega
          have hm : x < m := by rw [HM.out]; exact X4.out x hx1 hxv
          have hmi : ¬ (m : Int) ≤ (x : Int) := by omega
          go_wp2
          go_roundw
          case rel => exact ⟨x + 1, by omega, by omega, by go_num, bl_trans HW.out HW5.out⟩
          case measure => simp [intOf]; omega
    · have hxi : ¬ (x : Int) < (v : Int) := by omega
      go_wp2
      go_ret
      exact ⟨rfl, HB4.out⟩

end Go.Proofs.Ytobkbbgllapcoaa
