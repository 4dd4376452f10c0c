/- The walk of the law that switches are fixed points. -/
import Derived.Deep.RegionHeld3
import Derived.Test.YtobkbbgllapcoaaLwK
import Derived.Test.YtobkbbgllapcoaaDr3
import Derived.Test.YtobkbbgllapcoaaHold
import Derived.Test.YtobkbbgllapcoaaRespS
namespace Go.Proofs.Ytobkbbgllapcoaa
open Go.RowKit
set_option linter.unusedVariables false

set_option maxRecDepth 100000 in
set_option maxHeartbeats 4000000 in
theorem fnSwitchFixed_walk (w : World) (A : Option Addr) (n c : Nat) (f : Nat → Int) (h : Code w w.heap.size A n c f) :
    Calls Try.prog 15 #[.slice A n c] w fun e w' => e = .returned (.bool true) ∧ Below w.heap.size w w' := by
  have H := Lib.hid h
  have hle := h.le
  have hmax := h.max
  unfold maxLen at hmax
  clear h
  by_cases hn : 1048576 < n
  · go_enter Try.func15, Try.ntmps15
    go_wp2
    go_ret
    exact ⟨rfl, Below.refl _ _⟩
  go_enter Try.func15, Try.ntmps15
  go_wp2_with fail
  refine (dDrawResponseSwitch_any _ A n c f H.out).mono ?_
  rintro e w1 ⟨At, ct, ts, z, rfl, hl, z0, z1, ho, hb⟩
  have HB1 := Lib.hid hb
  have HO := Lib.hid ho
  have HT := Lib.hid ho.reads.2
  have hct := own_le ho
  clear hb ho H
  have HD1 := Lib.hid (Below.refl w1.heap.size w1)
  have hs1 := HB1.out.size
  obtain ⟨v, b, hv⟩ : ∃ v b, resN (atI (rSwi ts) z) = (v, b) := ⟨_, _, rfl⟩
  have HV := Lib.hid hv
  go_wp2_with fail
  refine (iRSwi_is _ At _ ct ts z ?_ (by omega) hct v b HV.out).mono ?_
  · exact tks_to HT.out (by repeat (first | with_reducible exact HD1.out | with_reducible refine Below.drew ?_ | with_reducible refine bl_drewN ?_ _ | with_reducible refine bl_alloc ?_ _))
  rintro e w2 ⟨rfl, hb⟩
  have hs2 := hb.size
  have HB2 := Lib.hid (show Below w.heap.size w w2 from bl_trans (by repeat (first | with_reducible exact HB1.out | with_reducible refine Below.drew ?_ | with_reducible refine bl_drewN ?_ _ | with_reducible refine bl_alloc ?_ _)) hb)
  have HD2 := Lib.hid (show Below w1.heap.size w1 w2 from bl_trans (by repeat (first | with_reducible exact HD1.out | with_reducible refine Below.drew ?_ | with_reducible refine bl_drewN ?_ _ | with_reducible refine bl_alloc ?_ _)) hb)
  clear hb
  go_wp2_with fail
  refine (sRSwi_is _ At _ ct ts z ?_ (by omega) v b HV.out).mono ?_
  · exact tks_to HT.out (by repeat (first | with_reducible exact HD2.out | with_reducible refine Below.drew ?_ | with_reducible refine bl_drewN ?_ _ | with_reducible refine bl_alloc ?_ _))
  rintro e w3 ⟨rfl, hb⟩
  have hs3 := hb.size
  have HB3 := Lib.hid (show Below w.heap.size w w3 from bl_trans (by repeat (first | with_reducible exact HB2.out | with_reducible refine Below.drew ?_ | with_reducible refine bl_drewN ?_ _ | with_reducible refine bl_alloc ?_ _)) hb)
  have HD3 := Lib.hid (show Below w1.heap.size w1 w3 from bl_trans (by repeat (first | with_reducible exact HD2.out | with_reducible refine Below.drew ?_ | with_reducible refine bl_drewN ?_ _ | with_reducible refine bl_alloc ?_ _)) hb)
  clear hb
  cases b
  · obtain ⟨hno, rfl⟩ := res_false hv
    clear hno hv
    go_wp2
    go_ret
    exact ⟨rfl, by repeat (first | with_reducible exact HB3.out | refine bl_drewN ?_ _ | refine Below.drew ?_ | refine bl_alloc ?_ _)⟩
  obtain ⟨k, rfl, hr⟩ := at_some (res_true hv)
  obtain ⟨hset, t, l, ht, hcr, hlow, hf⟩ := rSwi_some hr
  obtain ⟨x1, x2, x3, x4⟩ := swi_fix hf
  have hkl : k < ts.length := (List.getElem?_eq_some_iff.1 ht).1
  have h5 := setB_len hset
  have HSET := Lib.hid hset
  have HTA := Lib.hid ht
  have hok := set_ok hset (get_mem ht)
  have HLOW : Hid (resN (atI (rLow ts) (k : Int)) = (l, true)) := by show resN (atI _ _) = _; rw [at_nat, hlow]; rfl
  obtain ⟨gg, oo, rfl, hgl, _⟩ := HT.out.at_ k _ ht
  obtain ⟨lo, hi, du, ev, cr, rfl, p1, p2, p3, p4, p5⟩ := task_nat hok
  have y2 : hi ≤ v := x2
  have y3 : v ≤ du := x3
  have Y1 : Hid (hi + dSwi (ts.take k) l v = v) := x1
  have hl20 : l ≤ 20 := by
    obtain ⟨_, t', ht', hf'⟩ := rLow_some hlow
    have := (resp_fix hf').2.2.1
    have := ok_parts (set_ok hset (get_mem ht'))
    omega
  have i1 : (k : Int) < (ts.length : Int) := by omega
  clear hv hr hf ht hset x1 x4 x2 x3 hok hlow hcr
  go_wp2_with fail
  refine (iRLow_is _ _ _ ct ts (k : Int) ?_ (by omega) hct l true HLOW.out).mono ?_
  · exact tks_to HT.out (by repeat (first | with_reducible exact HD3.out | with_reducible refine Below.drew ?_ | with_reducible refine bl_drewN ?_ _ | with_reducible refine bl_alloc ?_ _))
  rintro e w4 ⟨rfl, hb⟩
  have hs4 := hb.size
  have HB4 := Lib.hid (show Below w.heap.size w w4 from bl_trans (by repeat (first | with_reducible exact HB3.out | with_reducible refine Below.drew ?_ | with_reducible refine bl_drewN ?_ _ | with_reducible refine bl_alloc ?_ _)) hb)
  have HD4 := Lib.hid (show Below w1.heap.size w1 w4 from bl_trans (by repeat (first | with_reducible exact HD3.out | with_reducible refine Below.drew ?_ | with_reducible refine bl_drewN ?_ _ | with_reducible refine bl_alloc ?_ _)) hb)
  clear hb
  have CC := (Tks.get (tks_to HT.out HD4.out) HTA.out).2
  obtain ⟨c0, c1, c2, c3, c4⟩ := CC
  dsimp only at c0 c1 c2 c3 c4
  go_wp2
  go_loopw [11, 12] (fun s i wr => ∃ j m : Nat, j ≤ k ∧ i = .int .i64 j ∧ s = .int .i64 (m : Int) ∧ Hid (m = hi + dSwi (ts.take j) l v) ∧ Below w4.heap.size w4 wr) (fun _ i _ => k - (intOf i).toNat)
  case atStart => exact ⟨0, hi, Nat.zero_le _, rfl, rfl, (show hi = _ by simp [dSwi]), Below.refl _ _⟩
  case round =>
    obtain ⟨j, m, hj, rfl, rfl, HM, hb⟩ := hrel
    have HD5 := Lib.hid (bl_trans HD4.out hb)
    have HB5 := Lib.hid (bl_trans HB4.out hb)
    have HW := Lib.hid hb
    have hs5 := hb.size
    clear hb
    by_cases hjk : j < k
    · obtain ⟨u, hu⟩ := get_at (n := ts.length) rfl (show j < ts.length by omega)
      have C3 := (Tks.get (tks_to HT.out HD5.out) hu).2
      have hvu := set_ok HSET.out (get_mem hu)
      have HTu := Lib.hid (dSwi_take hu l v)
      have hb1 := dSwi_bound (set_take HSET.out j) l v
      have hb2 := dmS_bound hvu l v
      obtain ⟨d, hd⟩ : ∃ d, dmS l v u = d := ⟨_, rfl⟩
      rw [hd] at hb2
      have hm1 : m ≤ hi + 100 * (l + v + 20) := by rw [HM.out]; omega
      have HM' : Hid (m + d = hi + dSwi (ts.take (j + 1)) l v) := by show _ = _; rw [HTu.out, hd, HM.out]; omega
      have i2 : (j : Int) < (ts.length : Int) := by omega
      cases hcu : u.cr
      · have HD : Hid (dmd u l false = d) := by show _ = _; rw [← hd]; unfold dmS; rw [hcu]; rfl
        have HDM := Lib.hid (dm_ok hvu (by omega) HD.out)
        clear hd hu HTu hb1 hvu HD
        obtain ⟨lo', hi', du', ev', cr'⟩ := u
        obtain ⟨g0, g1, g2, g3, g4⟩ := C3
        dsimp only at g0 g1 g2 g3 g4 hcu
        subst hcu
        have hS0 : wr.cell? ⟨gg, oo + j * 5, none⟩ = some (.int .i64 lo') ∧ wr.cell? ⟨gg, oo + j * 5 + 1, none⟩ = some (.int .i64 hi') ∧ wr.cell? ⟨gg, oo + j * 5 + 2, none⟩ = some (.int .i64 du') ∧ wr.cell? ⟨gg, oo + j * 5 + 3, none⟩ = some (.int .i64 ev') ∧ wr.cell? ⟨gg, oo + j * 5 + 4, none⟩ = some (.bool false) := ⟨g0, g1, g2, g3, g4⟩
        have hglr : gg < wr.heap.size := by omega
        go_wp2_with fail
        go_region_with ((first
          | (go_at_call 19; refine (iDemandOf_is _ lo' hi' du' ev' false (l : Int) false d true HDM.out).mono ?_; rintro e w5 ⟨rfl, hb⟩)))
        go_wp2
        go_roundw
        case rel => exact ⟨j + 1, m + d, by omega, by go_num, by go_num, HM', bl_trans HW.out (bl_trans (by repeat (first | with_reducible exact Below.refl wr.heap.size wr | with_reducible refine Below.drew ?_ | with_reducible refine bl_drewN ?_ _)) hb)⟩
        case measure => simp [intOf]; omega
        case roundEnd => exact ⟨⟨j + 1, m + d, by omega, by go_num, by go_num, HM', bl_trans HW.out (bl_trans (by repeat (first | with_reducible exact Below.refl wr.heap.size wr | with_reducible refine Below.drew ?_ | with_reducible refine bl_drewN ?_ _)) hb)⟩, by simp [intOf]; omega⟩
      · have HD : Hid (dmd u v true = d) := by show _ = _; rw [← hd]; unfold dmS; rw [hcu]; rfl
        have HDM := Lib.hid (dm_ok hvu (by omega) HD.out)
        clear hd hu HTu hb1 hvu HD
        obtain ⟨lo', hi', du', ev', cr'⟩ := u
        obtain ⟨g0, g1, g2, g3, g4⟩ := C3
        dsimp only at g0 g1 g2 g3 g4 hcu
        subst hcu
        have hS0 : wr.cell? ⟨gg, oo + j * 5, none⟩ = some (.int .i64 lo') ∧ wr.cell? ⟨gg, oo + j * 5 + 1, none⟩ = some (.int .i64 hi') ∧ wr.cell? ⟨gg, oo + j * 5 + 2, none⟩ = some (.int .i64 du') ∧ wr.cell? ⟨gg, oo + j * 5 + 3, none⟩ = some (.int .i64 ev') ∧ wr.cell? ⟨gg, oo + j * 5 + 4, none⟩ = some (.bool true) := ⟨g0, g1, g2, g3, g4⟩
        have hglr : gg < wr.heap.size := by omega
        go_wp2_with fail
        go_region_with ((first
          | (go_at_call 19; refine (iDemandOf_is _ lo' hi' du' ev' true (v : Int) true d true HDM.out).mono ?_; rintro e w5 ⟨rfl, hb⟩)))
        go_wp2
        go_roundw
        case rel => exact ⟨j + 1, m + d, by omega, by go_num, by go_num, HM', bl_trans HW.out (bl_trans (by repeat (first | with_reducible exact Below.refl wr.heap.size wr | with_reducible refine Below.drew ?_ | with_reducible refine bl_drewN ?_ _)) hb)⟩
        case measure => simp [intOf]; omega
        case roundEnd => exact ⟨⟨j + 1, m + d, by omega, by go_num, by go_num, HM', bl_trans HW.out (bl_trans (by repeat (first | with_reducible exact Below.refl wr.heap.size wr | with_reducible refine Below.drew ?_ | with_reducible refine bl_drewN ?_ _)) hb)⟩, by simp [intOf]; omega⟩
    · obtain rfl : j = k := by omega
      have hm : m = v := by rw [HM.out]; exact Y1.out
      have hmi : (m : Int) = (v : Int) := by omega
      go_wp2
      go_ret
      exact ⟨rfl, HB5.out⟩

end Go.Proofs.Ytobkbbgllapcoaa
