/- The walk of the law FnAssignOrder. -/
import Derived.Test.YtgoblabcggbfjaaLwPm
import Derived.Test.YtgoblabcggbfjaaLwX4z
import Derived.Test.YtgoblabcggbfjaaMB
import Derived.Test.YtgoblabcggbfjaaMC
namespace Go.Proofs.Ytgoblabcggbfjaa
open Go.RowKit
set_option linter.unusedVariables false

set_option maxRecDepth 100000 in
set_option maxHeartbeats 4000000 in
theorem fnAssignOrder_walk (w : World) (A : Option Addr) (n c : Nat) (f : Nat → Int) (h : Code w w.heap.size A n c f) :
    Calls Try.prog 3 #[.slice A n c] w fun e w' => e = .returned (.bool true) ∧ Below w.heap.size w w' := by
  have H := Lib.hid h
  have hle := h.le
  have hmax := h.max
  unfold maxLen at hmax
  clear h
  by_cases hn : 1048576 < n
  · go_enter Try.func3, Try.ntmps3
    go_wp2
    go_ret
    exact ⟨rfl, Below.refl _ _⟩
  go_enter Try.func3, Try.ntmps3
  go_wp2_with fail
  refine (dDrawAnyOrder_any _ A n c f H.out).mono ?_
  rintro e w1 ⟨At, ct, ts, rfl, hl, ho, hb⟩
  have HB1 := Lib.hid hb
  have HO := Lib.hid ho
  have HT := Lib.hid ho.reads.2
  have hct := own_le ho
  clear hb ho H
  have HD1 := Lib.hid (Below.refl w1.heap.size w1)
  have hs1 := HB1.out.size
  obtain ⟨us, b, hu⟩ : ∃ us b, asgR (assignOf ts) = us ∧ (assignOf ts).isSome = b := ⟨_, _, rfl, rfl⟩
  have hul : us.length ≤ 5 := by rw [← hu.1]; exact assignOf_len ts
  have HU := Lib.hid hu
  clear hu
  obtain ⟨vs, hv⟩ : ∃ vs, asgR (anyOf ts) = vs := ⟨_, rfl⟩
  have hvl : vs.length ≤ 5 := by rw [← hv]; exact anyOf_len ts
  have HV : Hid (asgR (anyOf ts) = vs ∧ (anyOf ts).isSome = b) := ⟨hv, by rw [← assign_any]; exact HU.out.2⟩
  clear hv
  go_wp2_with fail
  refine (iAssign_at w1 At _ ct ts us b (tks_to HT.out HD1.out) (by omega) HU.out).mono ?_
  rintro e w2 ⟨Ao, co, rfl, ho, hb⟩
  have hs2 := hb.size
  have HB2 := Lib.hid (show Below w.heap.size w w2 from bl_trans HB1.out hb)
  have HD2 := Lib.hid (show Below w1.heap.size w1 w2 from bl_trans HD1.out hb)
  have HZo2 := Lib.hid (ho.reads)
  clear hb ho
  go_wp2_with fail
  refine (sAssign_at w2 At _ ct ts us b (tks_to HT.out HD2.out) (by omega) HU.out).mono ?_
  rintro e w3 ⟨Aw, cw, rfl, ho, hb⟩
  have hs3 := hb.size
  have HB3 := Lib.hid (show Below w.heap.size w w3 from bl_trans HB2.out hb)
  have HD3 := Lib.hid (show Below w1.heap.size w1 w3 from bl_trans HD2.out hb)
  have HZo3 := Lib.hid ((HZo2.out.below hb).more hb.size)
  have HZw3 := Lib.hid (ho.reads)
  clear hb ho
  go_wp2_with fail
  refine (dmInts_any w3 Ao Aw _ co cw us HZo3.out HZw3.out (by omega)).mono ?_
  rintro e w4 ⟨rfl, hb⟩
  have hs4 := hb.size
  have HB4 := Lib.hid (show Below w.heap.size w w4 from bl_trans HB3.out hb)
  have HD4 := Lib.hid (show Below w1.heap.size w1 w4 from bl_trans HD3.out hb)
  have HZo4 := Lib.hid ((HZo3.out.below hb).more hb.size)
  have HZw4 := Lib.hid ((HZw3.out.below hb).more hb.size)
  clear hb
  cases b
  · obtain rfl := none_nil HU.out
    obtain rfl := none_nil HV.out
    go_wp2_with fail
    refine (iAny_at w4 At _ ct ts [] false (tks_to HT.out HD4.out) (by omega) HV.out).mono ?_
    rintro e w5 ⟨Af, cf, rfl, ho, hb⟩
    have hs5 := hb.size
    have HB5 := Lib.hid (show Below w.heap.size w w5 from bl_trans HB4.out hb)
    have HD5 := Lib.hid (show Below w1.heap.size w1 w5 from bl_trans HD4.out hb)
    have HZo5 := Lib.hid ((HZo4.out.below hb).more hb.size)
    have HZw5 := Lib.hid ((HZw4.out.below hb).more hb.size)
    clear hb ho
    go_wp2
    go_ret
    exact ⟨rfl, HB5.out⟩
  · have HGu := Lib.hid (assign_good HU.out)
    have HGv := Lib.hid (any_good HV.out)
    have HLu : Hid (us.length = ts.length) := HGu.out.2.2
    have HLv : Hid (vs.length = ts.length) := HGv.out.2.2
    obtain ⟨xs, hxs⟩ : ∃ xs, xs = putN ts (us.map Int.toNat) := ⟨_, rfl⟩
    obtain ⟨ys, hys⟩ : ∃ ys, ys = putN ts (vs.map Int.toNat) := ⟨_, rfl⟩
    have HXB : Hid (hBoth xs = true) := by show _ = _; rw [hxs]; exact HGu.out.2.1
    have HYB : Hid (hBoth ys = true) := by show _ = _; rw [hys]; exact HGv.out.2.1
    have hxl : xs.length ≤ 5 := by rw [hxs, put_len, List.length_map]; exact hul
    have hyl : ys.length ≤ 5 := by rw [hys, put_len, List.length_map]; exact hvl
    have HXS : Hid (xs = if true = true then putN ts (us.map Int.toNat) else []) := by show _ = _; rw [hxs]; rfl
    have HYS : Hid (ys = if true = true then putN ts (vs.map Int.toNat) else []) := by show _ = _; rw [hys]; rfl
    clear hxs hys
    go_wp2_with fail
    refine (iAny_at w4 At _ ct ts vs true (tks_to HT.out HD4.out) (by omega) HV.out).mono ?_
    rintro e w5 ⟨Af, cf, rfl, ho, hb⟩
    have hs5 := hb.size
    have HB5 := Lib.hid (show Below w.heap.size w w5 from bl_trans HB4.out hb)
    have HD5 := Lib.hid (show Below w1.heap.size w1 w5 from bl_trans HD4.out hb)
    have HZo5 := Lib.hid ((HZo4.out.below hb).more hb.size)
    have HZw5 := Lib.hid ((HZw4.out.below hb).more hb.size)
    have HZf5 := Lib.hid (ho.reads)
    clear hb ho
    go_wp2_with fail
    refine (iPutOrder_is w5 At _ ct ts Ao us.length co us (tks_to HT.out HD5.out) (by omega) HZo5.out xs true HGu.out.1 HXS.out).mono ?_
    rintro e w6 ⟨Ax, cx, rfl, ho, hb⟩
    have hs6 := hb.size
    have HB6 := Lib.hid (show Below w.heap.size w w6 from bl_trans HB5.out hb)
    have HD6 := Lib.hid (show Below w1.heap.size w1 w6 from bl_trans HD5.out hb)
    have HZo6 := Lib.hid ((HZo5.out.below hb).more hb.size)
    have HZw6 := Lib.hid ((HZw5.out.below hb).more hb.size)
    have HZf6 := Lib.hid ((HZf5.out.below hb).more hb.size)
    have HX6 := Lib.hid (ho)
    clear hb ho
    go_wp2_with fail
    refine (iPutOrder_is w6 At _ ct ts Af vs.length cf vs (tks_to HT.out HD6.out) (by omega) HZf6.out ys true HGv.out.1 HYS.out).mono ?_
    rintro e w7 ⟨Ay, cy, rfl, ho, hb⟩
    have hs7 := hb.size
    have HB7 := Lib.hid (show Below w.heap.size w w7 from bl_trans HB6.out hb)
    have HD7 := Lib.hid (show Below w1.heap.size w1 w7 from bl_trans HD6.out hb)
    have HZo7 := Lib.hid ((HZo6.out.below hb).more hb.size)
    have HZw7 := Lib.hid ((HZw6.out.below hb).more hb.size)
    have HZf7 := Lib.hid ((HZf6.out.below hb).more hb.size)
    have HX7 := Lib.hid (HX6.out.below hb)
    have HY7 := Lib.hid (ho)
    clear hb ho
    go_wp2_with fail
    refine (iHBoth_is w7 Ax _ cx xs HX7.out.reads.2 (by omega) (own_le HX7.out) true HXB.out).mono ?_
    rintro e w8 ⟨rfl, hb⟩
    have hs8 := hb.size
    have HB8 := Lib.hid (show Below w.heap.size w w8 from bl_trans HB7.out hb)
    have HD8 := Lib.hid (show Below w1.heap.size w1 w8 from bl_trans HD7.out hb)
    have HZo8 := Lib.hid ((HZo7.out.below hb).more hb.size)
    have HZw8 := Lib.hid ((HZw7.out.below hb).more hb.size)
    have HZf8 := Lib.hid ((HZf7.out.below hb).more hb.size)
    have HX8 := Lib.hid (HX7.out.below hb)
    have HY8 := Lib.hid (HY7.out.below hb)
    clear hb
    go_wp2_with fail
    refine (iHBoth_is w8 Ay _ cy ys HY8.out.reads.2 (by omega) (own_le HY8.out) true HYB.out).mono ?_
    rintro e w9 ⟨rfl, hb⟩
    have hs9 := hb.size
    have HB9 := Lib.hid (show Below w.heap.size w w9 from bl_trans HB8.out hb)
    have HD9 := Lib.hid (show Below w1.heap.size w1 w9 from bl_trans HD8.out hb)
    have HZo9 := Lib.hid ((HZo8.out.below hb).more hb.size)
    have HZw9 := Lib.hid ((HZw8.out.below hb).more hb.size)
    have HZf9 := Lib.hid ((HZf8.out.below hb).more hb.size)
    have HX9 := Lib.hid (HX8.out.below hb)
    have HY9 := Lib.hid (HY8.out.below hb)
    clear hb
    go_wp2
    go_ret
    exact ⟨rfl, HB9.out⟩

end Go.Proofs.Ytgoblabcggbfjaa
