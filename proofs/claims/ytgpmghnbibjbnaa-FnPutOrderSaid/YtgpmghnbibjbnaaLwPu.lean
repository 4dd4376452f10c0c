/- The walk of the law FnPutOrder. -/
import Derived.Test.YtgpmghnbibjbnaaLwSe
import Derived.Test.YtgpmghnbibjbnaaSortM
import Derived.Test.YtgpmghnbibjbnaaMA
namespace Go.Proofs.Ytgpmghnbibjbnaa
open Go.RowKit
set_option linter.unusedVariables false

set_option maxRecDepth 100000 in
set_option maxHeartbeats 4000000 in
theorem fnPutOrder_walk (w : World) (A : Option Addr) (n c : Nat) (f : Nat → Int) (h : Code w w.heap.size A n c f) :
    Calls Try.prog 5 #[.slice A n c] w fun e w' => e = .returned (.bool true) ∧ Below w.heap.size w w' := by
  have H := Lib.hid h
  have hle := h.le
  have hmax := h.max
  unfold maxLen at hmax
  clear h
  by_cases hn : 1048576 < n
  · go_enter Try.func5, Try.ntmps5
    go_wp2
    go_ret
    exact ⟨rfl, Below.refl _ _⟩
  go_enter Try.func5, Try.ntmps5
  go_wp2_with fail
  refine (dDrawPutOrder_any _ A n c f H.out).mono ?_
  rintro e w1 ⟨At, ct, ts, Az, cz, zs, rfl, hl, hzl, ho, hoz, hb⟩
  have HB1 := Lib.hid hb
  have HO := Lib.hid ho
  have HT := Lib.hid ho.reads.2
  have hct := own_le ho
  have hcz := hoz.le
  have HZ1 := Lib.hid hoz.reads
  have HOZ1 := Lib.hid hoz
  clear hb ho hoz H
  have HD1 := Lib.hid (Below.refl w1.heap.size w1)
  have hs1 := HB1.out.size
  obtain ⟨b, hv⟩ : ∃ b, (setB ts && ordB zs ts.length) = b := ⟨_, rfl⟩
  obtain ⟨xs, hxs⟩ : ∃ xs, xs = if b then putN ts (zs.map Int.toNat) else [] := ⟨_, rfl⟩
  have HV := Lib.hid hv
  have HXS : Hid (xs = if b = true then putN ts (zs.map Int.toNat) else []) := hxs
  have hxl : xs.length ≤ 7 := by
    rw [hxs]
    split
    · rw [put_len, List.length_map]; exact hzl
    · exact Nat.zero_le _
  clear hv hxs
  go_wp2_with fail
  refine (iPutOrder_is w1 At _ ct ts Az _ cz zs (tks_to HT.out HD1.out) (by omega) HZ1.out xs b HV.out HXS.out).mono ?_
  rintro e w2 ⟨Ax, cx, rfl, ho, hb⟩
  have hs2 := hb.size
  have HB2 := Lib.hid (show Below w.heap.size w w2 from bl_trans HB1.out hb)
  have HD2 := Lib.hid (show Below w1.heap.size w1 w2 from bl_trans HD1.out hb)
  have HZ2 := Lib.hid ((HZ1.out.below hb).more hb.size)
  have HX2 := Lib.hid (ho)
  clear hb ho
  go_wp2_with fail
  refine (sPutOrder_is w2 At _ ct ts Az _ cz zs (tks_to HT.out HD2.out) (by omega) HZ2.out xs b HV.out HXS.out).mono ?_
  rintro e w3 ⟨Aw, cw, rfl, ho, hb⟩
  have hs3 := hb.size
  have HB3 := Lib.hid (show Below w.heap.size w w3 from bl_trans HB2.out hb)
  have HD3 := Lib.hid (show Below w1.heap.size w1 w3 from bl_trans HD2.out hb)
  have HZ3 := Lib.hid ((HZ2.out.below hb).more hb.size)
  have HX3 := Lib.hid (HX2.out.below hb)
  have HW3 := Lib.hid (ho)
  clear hb ho
  go_wp2_with fail
  refine (dmTasks_any w3 Ax Aw _ cx cw xs HX3.out.reads.2 HW3.out.reads.2 (by omega)).mono ?_
  rintro e w4 ⟨rfl, hb⟩
  have hs4 := hb.size
  have HB4 := Lib.hid (show Below w.heap.size w w4 from bl_trans HB3.out hb)
  have HD4 := Lib.hid (show Below w1.heap.size w1 w4 from bl_trans HD3.out hb)
  have HZ4 := Lib.hid ((HZ3.out.below hb).more hb.size)
  have HX4 := Lib.hid (HX3.out.below hb)
  have HW4 := Lib.hid (HW3.out.below hb)
  clear hb
  cases b
  · go_wp2_with fail
    refine (iOrdValid_is w4 At _ ct ts Az _ cz zs (tks_to HT.out HD4.out) (by omega) HZ4.out false HV.out).mono ?_
    rintro e w5 ⟨rfl, hb⟩
    have hs5 := hb.size
    have HB5 := Lib.hid (show Below w.heap.size w w5 from bl_trans HB4.out hb)
    have HD5 := Lib.hid (show Below w1.heap.size w1 w5 from bl_trans HD4.out hb)
    have HZ5 := Lib.hid ((HZ4.out.below hb).more hb.size)
    have HX5 := Lib.hid (HX4.out.below hb)
    have HW5 := Lib.hid (HW4.out.below hb)
    clear hb
    go_wp2_with fail
    refine (sOrdValid_is w5 At _ ct ts Az _ cz zs (tks_to HT.out HD5.out) (by omega) HZ5.out false HV.out).mono ?_
    rintro e w6 ⟨rfl, hb⟩
    have hs6 := hb.size
    have HB6 := Lib.hid (show Below w.heap.size w w6 from bl_trans HB5.out hb)
    have HD6 := Lib.hid (show Below w1.heap.size w1 w6 from bl_trans HD5.out hb)
    have HZ6 := Lib.hid ((HZ5.out.below hb).more hb.size)
    have HX6 := Lib.hid (HX5.out.below hb)
    have HW6 := Lib.hid (HW5.out.below hb)
    clear hb
    go_wp2_with fail
    refine (dmTasks_any w6 Ax Aw _ cx cw xs HX6.out.reads.2 HW6.out.reads.2 (by omega)).mono ?_
    rintro e w7 ⟨rfl, hb⟩
    have hs7 := hb.size
    have HB7 := Lib.hid (show Below w.heap.size w w7 from bl_trans HB6.out hb)
    have HD7 := Lib.hid (show Below w1.heap.size w1 w7 from bl_trans HD6.out hb)
    have HZ7 := Lib.hid ((HZ6.out.below hb).more hb.size)
    have HX7 := Lib.hid (HX6.out.below hb)
    have HW7 := Lib.hid (HW6.out.below hb)
    clear hb
    go_wp2_with fail
    refine (iOrdValid_is w7 At _ ct ts Az _ cz zs (tks_to HT.out HD7.out) (by omega) HZ7.out false HV.out).mono ?_
    rintro e w8 ⟨rfl, hb⟩
    have hs8 := hb.size
    have HB8 := Lib.hid (show Below w.heap.size w w8 from bl_trans HB7.out hb)
    have HD8 := Lib.hid (show Below w1.heap.size w1 w8 from bl_trans HD7.out hb)
    have HZ8 := Lib.hid ((HZ7.out.below hb).more hb.size)
    have HX8 := Lib.hid (HX7.out.below hb)
    have HW8 := Lib.hid (HW7.out.below hb)
    clear hb
    go_wp2_with fail
    refine (sOrdValid_is w8 At _ ct ts Az _ cz zs (tks_to HT.out HD8.out) (by omega) HZ8.out false HV.out).mono ?_
    rintro e w9 ⟨rfl, hb⟩
    have hs9 := hb.size
    have HB9 := Lib.hid (show Below w.heap.size w w9 from bl_trans HB8.out hb)
    have HD9 := Lib.hid (show Below w1.heap.size w1 w9 from bl_trans HD8.out hb)
    have HZ9 := Lib.hid ((HZ8.out.below hb).more hb.size)
    have HX9 := Lib.hid (HX8.out.below hb)
    have HW9 := Lib.hid (HW8.out.below hb)
    clear hb
    go_wp2
    go_ret
    exact ⟨rfl, HB9.out⟩
  go_wp2_with fail
  refine (iOrdValid_is w4 At _ ct ts Az _ cz zs (tks_to HT.out HD4.out) (by omega) HZ4.out true HV.out).mono ?_
  rintro e w5 ⟨rfl, hb⟩
  have hs5 := hb.size
  have HB5 := Lib.hid (show Below w.heap.size w w5 from bl_trans HB4.out hb)
  have HD5 := Lib.hid (show Below w1.heap.size w1 w5 from bl_trans HD4.out hb)
  have HZ5 := Lib.hid ((HZ4.out.below hb).more hb.size)
  have HX5 := Lib.hid (HX4.out.below hb)
  have HW5 := Lib.hid (HW4.out.below hb)
  clear hb
  go_wp2_with fail
  refine (sOrdValid_is w5 At _ ct ts Az _ cz zs (tks_to HT.out HD5.out) (by omega) HZ5.out true HV.out).mono ?_
  rintro e w6 ⟨rfl, hb⟩
  have hs6 := hb.size
  have HB6 := Lib.hid (show Below w.heap.size w w6 from bl_trans HB5.out hb)
  have HD6 := Lib.hid (show Below w1.heap.size w1 w6 from bl_trans HD5.out hb)
  have HZ6 := Lib.hid ((HZ5.out.below hb).more hb.size)
  have HX6 := Lib.hid (HX5.out.below hb)
  have HW6 := Lib.hid (HW5.out.below hb)
  clear hb
  have hsb : setB ts = true ∧ ordB zs ts.length = true := by
    have h := HV.out
    rw [Bool.and_eq_true] at h
    exact h
  obtain ⟨o, hzo, hop⟩ := nat_of_ord hsb.2
  have hol : o.length = zs.length := by rw [hzo, toZ_len]
  have hot : o.length = ts.length := by have := hop.length_eq; simpa using this
  have hxo : xs = putN ts o := by have h := HXS.out; rw [hzo, toZ_nat] at h; simpa using h
  have hpx : xs.Perm ts := by rw [hxo]; exact put_all hop
  have HPX := Lib.hid hpx
  have HXO := Lib.hid hxo
  have HOP := Lib.hid hop
  have HZO := Lib.hid hzo
  have hzt : zs.length = ts.length := by omega
  have HZT := Lib.hid hzt
  have hxt : xs.length = ts.length := hpx.length_eq
  have HXT := Lib.hid hxt
  have HSX : Hid (setB xs = true) := by show _ = _; rw [setB_perm hpx]; exact hsb.1
  have HHX := Lib.hid (hyper_perm hpx)
  clear hsb hzo hop hol hot hxo hpx hzt hxt
  go_wp2
  go_loopw [9] (fun i wr => ∃ j : Nat, j ≤ zs.length ∧ i = .int .i64 j ∧ Below w6.heap.size w6 wr) (fun i _ => zs.length - (intOf i).toNat)
  case atStart => exact ⟨0, Nat.zero_le _, rfl, Below.refl _ _⟩
  case round =>
    obtain ⟨j, hj, rfl, hb⟩ := hrel
    have HR := Lib.hid hb
    clear hb
    by_cases hlt : j < zs.length
    · have hji : (j : Int) < (zs.length : Int) := by omega
      have hjx : (j : Int) < (xs.length : Int) := by have := HXT.out; have := HZT.out; omega
      obtain ⟨y, hy⟩ : ∃ y, zs[j]? = some y := ⟨zs[j], List.getElem?_eq_getElem hlt⟩
      have hjo : j < o.length := by have h := hlt; rw [HZO.out, toZ_len] at h; exact h
      obtain ⟨x, hx⟩ : ∃ x, o[j]? = some x := ⟨o[j], List.getElem?_eq_getElem hjo⟩
      have hzx : zs[j]? = some (x : Int) := by rw [HZO.out]; exact toZ_get hx
      have hxn : x < ts.length := List.mem_range.1 (HOP.out.mem_iff.1 (List.mem_of_getElem? hx))
      have hxi : (x : Int) < (ts.length : Int) := by omega
      obtain ⟨t, ht⟩ := get_at (ts := ts) rfl hxn
      have hxt2 : xs[j]? = some t := by rw [HXO.out]; exact put_get hx ht
      obtain ⟨bz, oz, rfl, hbz, g0⟩ := (HZ6.out.below HR.out).at_ j _ hzx
      obtain ⟨b, of, rfl, hbl, c0, c1, c2', c3, c4⟩ := (tks_to HT.out (bl_trans HD6.out HR.out)).at_ x t ht
      obtain ⟨b2, of2, rfl, hbl2, d0, d1, d2', d3, d4⟩ := ((HX6.out.below HR.out).reads.2).at_ j t hxt2
      obtain ⟨lo, hi', du, ev, cr⟩ := t
      dsimp only at c0 c1 c2' c3 c4 d0 d1 d2' d3 d4
      clear hy hx hzx ht hxt2 hjo
      go_wp2
      go_quiet (fail)
      go_wp2
      go_roundw
      case rel => exact ⟨j + 1, by omega, by go_num, bl_drewN HR.out _⟩
      case measure => simp [intOf]; omega
    · obtain rfl : j = zs.length := by omega
      have hji : ¬ (zs.length : Int) < (zs.length : Int) := by omega
      have hxi : (xs.length : Int) = (ts.length : Int) := by rw [HXT.out]
      obtain ⟨m, hm⟩ : ∃ m, m = hyperOf ts := ⟨_, rfl⟩
      have hmx : m = hyperOf xs := hm.trans HHX.out.symm
      have HM := Lib.hid hm
      have HMX := Lib.hid hmx
      clear hm hmx
      go_wp2_with fail
      refine (iSetValid_any wr Ax _ cx xs ((HX6.out.below HR.out).reads.2) (by omega)).mono ?_
      rintro e w7 ⟨rfl, hb⟩
      rw [HSX.out]
      have HR7 := Lib.hid (bl_trans HR.out hb)
      clear hb
      go_wp2_with fail
      refine (iHyperOf_is w7 Ax _ cx xs m HMX.out ((HX6.out.below HR7.out).reads.2) (by omega)).mono ?_
      rintro e w8 ⟨rfl, hb⟩
      have HR8 := Lib.hid (bl_trans HR7.out hb)
      clear hb
      go_wp2_with fail
      refine (iHyperOf_is w8 At _ ct ts m HM.out (tks_to HT.out (bl_trans HD6.out HR8.out)) (by omega)).mono ?_
      rintro e w9 ⟨rfl, hb⟩
      have HB9 := Lib.hid (bl_trans HB6.out (bl_trans HR8.out hb))
      clear hb
      go_wp2
      go_ret
      exact ⟨rfl, HB9.out⟩

end Go.Proofs.Ytgpmghnbibjbnaa
