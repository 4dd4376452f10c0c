/- The walk of the law FnOrderBack. -/
import Derived.Test.YtgpmghnbibjbnaaLwSe
import Derived.Test.YtgpmghnbibjbnaaLwTw
namespace Go.Proofs.Ytgpmghnbibjbnaa
open Go.RowKit
set_option linter.unusedVariables false

set_option maxRecDepth 100000 in
set_option maxHeartbeats 4000000 in
theorem fnOrderBack_walk (w : World) (A : Option Addr) (n c : Nat) (f : Nat → Int) (h : Code w w.heap.size A n c f) :
    Calls Try.prog 9 #[.slice A n c] w fun e w' => e = .returned (.bool true) ∧ Below w.heap.size w w' := by
  have H := Lib.hid h
  have hle := h.le
  have hmax := h.max
  unfold maxLen at hmax
  clear h
  by_cases hn : 1048576 < n
  · go_enter Try.func9, Try.ntmps9
    go_wp2
    go_ret
    exact ⟨rfl, Below.refl _ _⟩
  go_enter Try.func9, Try.ntmps9
  go_wp2_with fail
  refine (dDrawPutOrder_any _ A n c f H.out).mono ?_
  rintro e w1 ⟨At, ct, ts, Az, cz, zs, rfl, hl, hzl, ho, hoz, hb⟩
  have HB1 := Lib.hid hb
  have HO := Lib.hid ho
  have HT := Lib.hid ho.reads.2
  have hct := own_le ho
  have hcz := hoz.le
  have HZ1 := Lib.hid hoz.reads
  have HOZ1 := Lib.hid hoz
  clear hb ho hoz H
  have HD1 := Lib.hid (Below.refl w1.heap.size w1)
  have hs1 := HB1.out.size
  obtain ⟨b, hv⟩ : ∃ b, (setB ts && ordB zs ts.length) = b := ⟨_, rfl⟩
  obtain ⟨xs, hxs⟩ : ∃ xs, xs = if b then putN ts (zs.map Int.toNat) else [] := ⟨_, rfl⟩
  have HV := Lib.hid hv
  have HXS : Hid (xs = if b = true then putN ts (zs.map Int.toNat) else []) := hxs
  have hxl : xs.length ≤ 7 := by
    rw [hxs]
    split
    · rw [put_len, List.length_map]; exact hzl
    · exact Nat.zero_le _
  clear hv hxs
  go_wp2_with fail
  refine (iPutOrder_is w1 At _ ct ts Az _ cz zs (tks_to HT.out HD1.out) (by omega) HZ1.out xs b HV.out HXS.out).mono ?_
  rintro e w2 ⟨Ax, cx, rfl, ho, hb⟩
  have hs2 := hb.size
  have HB2 := Lib.hid (show Below w.heap.size w w2 from bl_trans HB1.out hb)
  have HD2 := Lib.hid (show Below w1.heap.size w1 w2 from bl_trans HD1.out hb)
  have HZ2 := Lib.hid ((HZ1.out.below hb).more hb.size)
  have HX2 := Lib.hid (ho)
  clear hb ho
  go_wp2_with fail
  refine (sPutOrder_is w2 At _ ct ts Az _ cz zs (tks_to HT.out HD2.out) (by omega) HZ2.out xs b HV.out HXS.out).mono ?_
  rintro e w3 ⟨Aw, cw, rfl, ho, hb⟩
  have hs3 := hb.size
  have HB3 := Lib.hid (show Below w.heap.size w w3 from bl_trans HB2.out hb)
  have HD3 := Lib.hid (show Below w1.heap.size w1 w3 from bl_trans HD2.out hb)
  have HZ3 := Lib.hid ((HZ2.out.below hb).more hb.size)
  have HX3 := Lib.hid (HX2.out.below hb)
  have HW3 := Lib.hid (ho)
  clear hb ho
  go_wp2_with fail
  refine (dmTasks_any w3 Ax Aw _ cx cw xs HX3.out.reads.2 HW3.out.reads.2 (by omega)).mono ?_
  rintro e w4 ⟨rfl, hb⟩
  have hs4 := hb.size
  have HB4 := Lib.hid (show Below w.heap.size w w4 from bl_trans HB3.out hb)
  have HD4 := Lib.hid (show Below w1.heap.size w1 w4 from bl_trans HD3.out hb)
  have HZ4 := Lib.hid ((HZ3.out.below hb).more hb.size)
  have HX4 := Lib.hid (HX3.out.below hb)
  have HW4 := Lib.hid (HW3.out.below hb)
  clear hb
  cases b
  · go_wp2_with fail
    refine (dmTasks_any w4 Ax Aw _ cx cw xs HX4.out.reads.2 HW4.out.reads.2 (by omega)).mono ?_
    rintro e w5 ⟨rfl, hb⟩
    have hs5 := hb.size
    have HB5 := Lib.hid (show Below w.heap.size w w5 from bl_trans HB4.out hb)
    have HD5 := Lib.hid (show Below w1.heap.size w1 w5 from bl_trans HD4.out hb)
    have HZ5 := Lib.hid ((HZ4.out.below hb).more hb.size)
    have HX5 := Lib.hid (HX4.out.below hb)
    have HW5 := Lib.hid (HW4.out.below hb)
    clear hb
    go_wp2
    go_ret
    exact ⟨rfl, HB5.out⟩
  have hsb : setB ts = true ∧ ordB zs ts.length = true := by
    have h := HV.out
    rw [Bool.and_eq_true] at h
    exact h
  obtain ⟨o, hzo, hop⟩ := nat_of_ord hsb.2
  have hol : o.length = zs.length := by rw [hzo, toZ_len]
  have hot : o.length = ts.length := by have := hop.length_eq; simpa using this
  have hxo : xs = putN ts o := by rw [HXS.out, if_pos rfl, hzo, toZ_nat]
  have hbk := back_good hsb.1 hop
  rw [← hxo] at hbk
  have HBK := Lib.hid hbk
  have HOP := Lib.hid hop
  have HZO := Lib.hid hzo
  have HOL := Lib.hid hol
  have HOT := Lib.hid hot
  have hl5 : zs.length ≤ 5 := by have := setB_len hsb.1; omega
  have hzt : zs.length = ts.length := by omega
  have HZT := Lib.hid hzt
  clear hsb hzo hop hol hot hxo hbk hzt
  obtain ⟨i0, hi, hz0, hz1, hz2⟩ := info_parts info_int
  go_wp2_with (at_make; refine wpList_make_full _ rfl _ _ 25 rfl w4.heap.size 3 i0 _ 1 Try.underlying25 hi hz0 hz1 .i64 .i64 _ _ zs.length rfl rfl rfl rfl (by rw [hz2]; omega) (by unfold maxLen; omega) (Nat.le_refl _) ?_; intro w5 hown0 hgrow0; have HOm : Hid (OwnZ w5 w4.heap.size (.slice (some ⟨w4.heap.size, 0, none⟩) zs.length zs.length) (invZ o 0)) := (show w5.ownsRow _ _ _ _ _ _ from by unfold invZ; rw [HOL.out, ← made_int, List.length_replicate]; exact hown0); have HBm := Lib.hid ((Below.refl _ w4).grown hgrow0 (Nat.le_refl _) (fun k e => by cases e)); clear hown0 hgrow0)
  go_loopw [10] (fun i wr => ∃ j : Nat, j ≤ zs.length ∧ i = .int .i64 j ∧ OwnZ wr w4.heap.size (.slice (some ⟨w4.heap.size, 0, none⟩) zs.length zs.length) (invZ o j) ∧ Below w4.heap.size w4 wr) (fun i _ => zs.length - (intOf i).toNat)
  case atStart => exact ⟨0, Nat.zero_le _, rfl, HOm.out, HBm.out⟩
  case round =>
    obtain ⟨j, hj, rfl, ho, hb⟩ := hrel
    have HOs := Lib.hid ho
    have HR := Lib.hid hb
    have hszr : w4.heap.size ≤ wr.heap.size := hb.size
    clear ho hb
    by_cases hlt : j < zs.length
    · have hji : (j : Int) < (zs.length : Int) := by omega
      obtain ⟨x, hx⟩ : ∃ x, o[j]? = some x := ⟨o[j]'(by rw [HOL.out]; exact hlt), List.getElem?_eq_getElem _⟩
      have hzx : zs[j]? = some (x : Int) := by rw [HZO.out]; exact toZ_get hx
      obtain ⟨bz, oz, rfl, hbz, c0⟩ := ((HZ4.out.below HR.out).more hszr).at_ j _ hzx
      have hxn : x < zs.length := by
        have := List.mem_range.1 (HOP.out.mem_iff.1 (List.mem_of_getElem? hx))
        have := HZT.out
        omega
      have hxi : (x : Int) < (zs.length : Int) := by omega
      have HSX : Hid ((invZ o j).set x (j : Int) = invZ o (j + 1)) := by
        show _ = (invZ o j).set (o.getD j 0) (j : Int)
        rw [List.getD_eq_getElem?_getD, hx]; rfl
      have hil : (invZ o j).length = zs.length := by rw [invZ_len, HOL.out]
      obtain ⟨y, hy⟩ : ∃ y, (invZ o j)[x]? = some y := ⟨_, List.getElem?_eq_getElem (by rw [hil]; exact hxn)⟩
      have d0 := ((HOs.out.readsN hil).get hy).2
      rw [Nat.zero_add] at d0
      have hfz := HOs.out.frozen x
      have HST := Lib.hid (HOs.out.put x (j : Int))
      clear hx hzx hil hy
      go_wp2
      go_roundw
      case rel => exact ⟨j + 1, by omega, by go_num, by rw [← HSX.out]; exact HST.out, bl_set HR.out (Nat.le_refl _) _⟩
      case measure => simp [intOf]; omega
    · obtain rfl : j = zs.length := by omega
      have hji : ¬ (zs.length : Int) < (zs.length : Int) := by omega
      have HIL : Hid ((invZ o zs.length).length = zs.length) := by show _ = _; rw [invZ_len, HOL.out]
      obtain ⟨ss, hss⟩ : ∃ ss, ss = invZ o zs.length := ⟨_, rfl⟩
      have hBK := HBK.out
      rw [HOL.out] at hBK
      rw [← hss] at HOs HIL hBK
      have HSV : Hid ((setB xs && ordB ss xs.length) = true) := hBK.1
      have HSP : Hid (putN xs (ss.map Int.toNat) = ts) := hBK.2
      have HSR : Hid (Zs wr wr.heap.size (some ⟨w4.heap.size, 0, none⟩) zs.length ss) := HOs.out.readsN HIL.out
      clear hss hBK
      obtain ⟨ys, hys⟩ : ∃ ys, ys = ts := ⟨_, rfl⟩
      have HYS : Hid (ys = if true = true then putN xs (ss.map Int.toNat) else []) := by show _ = _; rw [hys, HSP.out]; rfl
      have HYT := Lib.hid hys
      have hyl : ys.length = ts.length := by rw [hys]
      have HYL := Lib.hid hyl
      clear hys hyl
      go_wp2_with fail
      refine (iPutOrder_is wr Ax _ cx xs (some ⟨w4.heap.size, 0, none⟩) zs.length zs.length ss ((HX4.out.below HR.out).reads.2) (by omega) HSR.out ys true HSV.out HYS.out).mono ?_
      rintro e w7 ⟨Ay, cy, rfl, ho, hb⟩
      have HB7 := Lib.hid (bl_trans HB4.out (bl_trans HR.out hb))
      have HD7 := Lib.hid (bl_trans HD4.out (bl_trans HR.out hb))
      have HO7 := Lib.hid ho.reads.2
      clear hb ho
      rw [HYT.out] at HO7
      rw [HYL.out]
      go_wp2_with fail
      refine (dmTasks_any w7 Ay At _ cy ct ts HO7.out (tks_to HT.out HD7.out) (by omega)).mono ?_
      rintro e w8 ⟨rfl, hb⟩
      have HB8 := Lib.hid (bl_trans HB7.out hb)
      clear hb
      go_wp2
      go_ret
      exact ⟨rfl, HB8.out⟩

end Go.Proofs.Ytgpmghnbibjbnaa
