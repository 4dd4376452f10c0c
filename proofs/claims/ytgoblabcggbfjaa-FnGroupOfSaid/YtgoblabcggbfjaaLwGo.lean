/- The walk of the law FnGroupOf. -/
import Derived.Test.YtgoblabcggbfjaaDq
import Derived.Test.YtgoblabcggbfjaaGm
import Derived.Test.YtgoblabcggbfjaaMA
namespace Go.Proofs.Ytgoblabcggbfjaa
open Go.RowKit
set_option linter.unusedVariables false

set_option maxRecDepth 100000 in
set_option maxHeartbeats 4000000 in
theorem fnGroupOf_walk (w : World) (A : Option Addr) (n c : Nat) (f : Nat → Int) (h : Code w w.heap.size A n c f) :
    Calls Try.prog 10 #[.slice A n c] w fun e w' => e = .returned (.bool true) ∧ Below w.heap.size w w' := by
  have H := Lib.hid h
  have hle := h.le
  have hmax := h.max
  unfold maxLen at hmax
  clear h
  by_cases hn : 1048576 < n
  · go_enter Try.func10, Try.ntmps10
    go_wp2
    go_ret
    exact ⟨rfl, Below.refl _ _⟩
  go_enter Try.func10, Try.ntmps10
  go_wp2_with fail
  refine (dDrawGroupOf_any _ A n c f H.out).mono ?_
  rintro e w1 ⟨At, ct, ts, Az, cz, zs, z, rfl, hl, hzl, hzz, ho, hoz, hb⟩
  have HB1 := Lib.hid hb
  have HO := Lib.hid ho
  have HT := Lib.hid ho.reads.2
  have hct := own_le ho
  have hcz := hoz.le
  have HZ1 := Lib.hid hoz.reads
  clear hb ho hoz H
  have HD1 := Lib.hid (Below.refl w1.heap.size w1)
  have hs1 := HB1.out.size
  obtain ⟨b, hv⟩ : ∃ b, groupB ts zs z = b := ⟨_, rfl⟩
  obtain ⟨xs, hxs⟩ : ∃ xs, xs = if b then groupL ts zs z else [] := ⟨_, rfl⟩
  have HV := Lib.hid hv
  have HXS : Hid (xs = if b = true then groupL ts zs z else []) := hxs
  have hxl : xs.length ≤ 4 := by
    rw [hxs]
    split
    · exact Nat.le_trans (groupK_len _ _ _ _) hl
    · exact Nat.zero_le _
  clear hv hxs
  go_wp2_with fail
  refine (iGroup_is w1 At _ ct ts Az _ cz zs z xs b (tks_to HT.out HD1.out) (by omega) HZ1.out (by omega) HV.out HXS.out).mono ?_
  rintro e w2 ⟨Ax, cx, rfl, ho, hb⟩
  have hs2 := hb.size
  have HB2 := Lib.hid (show Below w.heap.size w w2 from bl_trans HB1.out hb)
  have HD2 := Lib.hid (show Below w1.heap.size w1 w2 from bl_trans HD1.out hb)
  have HZ2 := Lib.hid ((HZ1.out.below hb).more hb.size)
  have HX2 := Lib.hid (ho)
  clear hb ho
  go_wp2_with fail
  refine (sGroup_is w2 At _ ct ts Az _ cz zs z xs b (tks_to HT.out HD2.out) (by omega) HZ2.out (by omega) HV.out HXS.out).mono ?_
  rintro e w3 ⟨Aw, cw, rfl, ho, hb⟩
  have hs3 := hb.size
  have HB3 := Lib.hid (show Below w.heap.size w w3 from bl_trans HB2.out hb)
  have HD3 := Lib.hid (show Below w1.heap.size w1 w3 from bl_trans HD2.out hb)
  have HZ3 := Lib.hid ((HZ2.out.below hb).more hb.size)
  have HX3 := Lib.hid (HX2.out.below hb)
  have HW3 := Lib.hid (ho)
  clear hb ho
  go_wp2_with fail
  refine (dmTasks_any w3 Ax Aw _ cx cw xs HX3.out.reads.2 HW3.out.reads.2 (by omega)).mono ?_
  rintro e w4 ⟨rfl, hb⟩
  have hs4 := hb.size
  have HB4 := Lib.hid (show Below w.heap.size w w4 from bl_trans HB3.out hb)
  have HD4 := Lib.hid (show Below w1.heap.size w1 w4 from bl_trans HD3.out hb)
  have HZ4 := Lib.hid ((HZ3.out.below hb).more hb.size)
  have HX4 := Lib.hid (HX3.out.below hb)
  have HW4 := Lib.hid (HW3.out.below hb)
  clear hb
  cases b
  · go_wp2_with fail
    refine (dmTasks_any w4 Ax Aw _ cx cw xs HX4.out.reads.2 HW4.out.reads.2 (by omega)).mono ?_
    rintro e w5 ⟨rfl, hb⟩
    have hs5 := hb.size
    have HB5 := Lib.hid (show Below w.heap.size w w5 from bl_trans HB4.out hb)
    have HD5 := Lib.hid (show Below w1.heap.size w1 w5 from bl_trans HD4.out hb)
    have HZ5 := Lib.hid ((HZ4.out.below hb).more hb.size)
    have HX5 := Lib.hid (HX4.out.below hb)
    have HW5 := Lib.hid (HW4.out.below hb)
    clear hb
    go_wp2
    go_ret
    exact ⟨rfl, HB5.out⟩
  · have HP : Hid (packB ts zs 3 = true) := group_pack HV.out
    have HS : Hid (setB ts = true) := (packB_iff.1 HP.out).1
    have HC : Hid (cntG ts zs ts.length 3 = ts.length) := cntG_all (packB_iff.1 HP.out).2.2.1 (packB_iff.1 HP.out).2.2.2 _ (Nat.le_refl _)
    go_wp2
    go_loopw [10, 11] (fun s i wr => ∃ j q : Nat, j ≤ 3 ∧ i = .int .i64 j ∧ s = .int .i64 q ∧ Hid (q = cntG ts zs ts.length j) ∧ Hid (Below w4.heap.size w4 wr)) (fun _ i _ => 3 - (intOf i).toNat)
    case atStart => exact ⟨0, 0, Nat.zero_le _, rfl, rfl, Lib.hid rfl, Lib.hid (Below.refl _ _)⟩
    case round =>
      obtain ⟨j, q, hj, rfl, rfl, HQ, HR⟩ := hrel
      by_cases hlt : j < 3
      · have hji : (j : Int) < 3 := by omega
        have hq12 : q ≤ 12 := by
          have h1 := cntG_le ts zs ts.length j
          have h2 : j * ts.length ≤ 2 * ts.length := Nat.mul_le_mul_right _ (by omega)
          rw [HQ.out]; omega
        have HV2 : Hid (groupB ts zs (j : Int) = true) := group_any HP.out hlt
        have HSG : Hid (setB (groupL ts zs (j : Int)) = true) := group_set _ _ HS.out
        have hgl : (groupL ts zs (j : Int)).length ≤ 4 := Nat.le_trans (groupK_len _ _ _ _) hl
        have HN : Hid (cntG ts zs ts.length (j + 1) = q + (groupL ts zs (j : Int)).length) := by show _ = _; rw [HQ.out]; rfl
        obtain ⟨us, hus⟩ : ∃ us, us = groupL ts zs (j : Int) := ⟨_, rfl⟩
        rw [← hus] at HSG hgl HN
        have HU : Hid (us = if true = true then groupL ts zs (j : Int) else []) := hus
        clear hus
        go_wp2_with fail
        refine (iGroup_is wr At _ ct ts Az _ cz zs (j : Int) us true (tks_to HT.out (bl_trans HD4.out HR.out)) (by omega) ((HZ4.out.below HR.out).more HR.out.size) (by omega) HV2.out HU.out).mono ?_
        rintro e w8 ⟨Ag, cg, rfl, ho, hb⟩
        have HR8 := Lib.hid (show Below w4.heap.size w4 w8 from bl_trans HR.out hb)
        have HG8 := Lib.hid ho.reads.2
        clear ho hb
        go_wp2_with fail
        refine (iSetValid_any w8 Ag _ cg us HG8.out (by omega)).mono ?_
        rintro e w9 ⟨rfl, hb⟩
        rw [HSG.out]
        have HR9 := Lib.hid (show Below w4.heap.size w4 w9 from bl_trans HR8.out hb)
        clear hb
        have hw : IntKind.i64.wrap ((q : Int) + (us.length : Int)) = (q : Int) + (us.length : Int) := IntWalk.i64_in _ (by omega)
        go_wp2
        go_roundw
        case rel => exact ⟨j + 1, q + us.length, by omega, by go_num, by go_num, Lib.hid HN.out.symm, HR9⟩
        case measure => simp [intOf]; omega
      · obtain rfl : j = 3 := by omega
        have hqn : q = ts.length := HQ.out.trans HC.out
        subst hqn
        go_wp2
        go_ret
        exact ⟨rfl, bl_trans HB4.out HR.out⟩

end Go.Proofs.Ytgoblabcggbfjaa
