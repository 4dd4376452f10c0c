/- The walk of the law FnAnyOrder. -/
import Derived.Test.YtgoblabcggbfjaaLwPm
import Derived.Test.YtgoblabcggbfjaaLwX4z
import Derived.Test.YtgoblabcggbfjaaMB
import Derived.Test.YtgoblabcggbfjaaMC
namespace Go.Proofs.Ytgoblabcggbfjaa
open Go.RowKit
set_option linter.unusedVariables false

set_option maxRecDepth 100000 in
set_option maxHeartbeats 4000000 in
theorem fnAnyOrder_walk (w : World) (A : Option Addr) (n c : Nat) (f : Nat → Int) (h : Code w w.heap.size A n c f) :
    Calls Try.prog 5 #[.slice A n c] w fun e w' => e = .returned (.bool true) ∧ Below w.heap.size w w' := by
  have H := Lib.hid h
  have hle := h.le
  have hmax := h.max
  unfold maxLen at hmax
  clear h
  by_cases hn : 1048576 < n
  · go_enter Try.func5, Try.ntmps5
    go_wp2
    go_ret
    exact ⟨rfl, Below.refl _ _⟩
  go_enter Try.func5, Try.ntmps5
  go_wp2_with fail
  refine (dDrawAnyOrder_any _ A n c f H.out).mono ?_
  rintro e w1 ⟨At, ct, ts, rfl, hl, ho, hb⟩
  have HB1 := Lib.hid hb
  have HO := Lib.hid ho
  have HT := Lib.hid ho.reads.2
  have hct := own_le ho
  clear hb ho H
  have HD1 := Lib.hid (Below.refl w1.heap.size w1)
  have hs1 := HB1.out.size
  obtain ⟨us, b, hu⟩ : ∃ us b, asgR (anyOf ts) = us ∧ (anyOf ts).isSome = b := ⟨_, _, rfl, rfl⟩
  have hul : us.length ≤ 5 := by rw [← hu.1]; exact anyOf_len ts
  have HU := Lib.hid hu
  clear hu
  go_wp2_with fail
  refine (iAny_at w1 At _ ct ts us b (tks_to HT.out HD1.out) (by omega) HU.out).mono ?_
  rintro e w2 ⟨Ao, co, rfl, ho, hb⟩
  have hs2 := hb.size
  have HB2 := Lib.hid (show Below w.heap.size w w2 from bl_trans HB1.out hb)
  have HD2 := Lib.hid (show Below w1.heap.size w1 w2 from bl_trans HD1.out hb)
  have HZo2 := Lib.hid (ho.reads)
  clear hb ho
  go_wp2_with fail
  refine (sAny_at w2 At _ ct ts us b (tks_to HT.out HD2.out) (by omega) HU.out).mono ?_
  rintro e w3 ⟨Aw, cw, rfl, ho, hb⟩
  have hs3 := hb.size
  have HB3 := Lib.hid (show Below w.heap.size w w3 from bl_trans HB2.out hb)
  have HD3 := Lib.hid (show Below w1.heap.size w1 w3 from bl_trans HD2.out hb)
  have HZo3 := Lib.hid ((HZo2.out.below hb).more hb.size)
  have HZw3 := Lib.hid (ho.reads)
  clear hb ho
  go_wp2_with fail
  refine (dmInts_any w3 Ao Aw _ co cw us HZo3.out HZw3.out (by omega)).mono ?_
  rintro e w4 ⟨rfl, hb⟩
  have hs4 := hb.size
  have HB4 := Lib.hid (show Below w.heap.size w w4 from bl_trans HB3.out hb)
  have HD4 := Lib.hid (show Below w1.heap.size w1 w4 from bl_trans HD3.out hb)
  have HZo4 := Lib.hid ((HZo3.out.below hb).more hb.size)
  have HZw4 := Lib.hid ((HZw3.out.below hb).more hb.size)
  clear hb
  cases b
  · go_wp2_with fail
    refine (dmInts_any w4 Ao Aw _ co cw us HZo4.out HZw4.out (by omega)).mono ?_
    rintro e w5 ⟨rfl, hb⟩
    have hs5 := hb.size
    have HB5 := Lib.hid (show Below w.heap.size w w5 from bl_trans HB4.out hb)
    have HD5 := Lib.hid (show Below w1.heap.size w1 w5 from bl_trans HD4.out hb)
    have HZo5 := Lib.hid ((HZo4.out.below hb).more hb.size)
    have HZw5 := Lib.hid ((HZw4.out.below hb).more hb.size)
    clear hb
    go_wp2
    go_ret
    exact ⟨rfl, HB5.out⟩
  have HGu := Lib.hid (any_good HU.out)
  have HLu : Hid (us.length = ts.length) := HGu.out.2.2
  obtain ⟨q, hq⟩ : ∃ q, hBoth ts = q := ⟨_, rfl⟩
  have HQ := Lib.hid hq
  clear hq
  go_wp2_with fail
  refine (iHBoth_is w4 At _ ct ts (tks_to HT.out HD4.out) (by omega) hct q HQ.out).mono ?_
  rintro e w5 ⟨rfl, hb⟩
  have hs5 := hb.size
  have HB5 := Lib.hid (show Below w.heap.size w w5 from bl_trans HB4.out hb)
  have HD5 := Lib.hid (show Below w1.heap.size w1 w5 from bl_trans HD4.out hb)
  have HZo5 := Lib.hid ((HZo4.out.below hb).more hb.size)
  have HZw5 := Lib.hid ((HZw4.out.below hb).more hb.size)
  clear hb
  cases q
  · go_wp2_with fail
    refine (iOrdValid_is w5 At _ ct ts Ao us.length co us (tks_to HT.out HD5.out) (by omega) HZo5.out true HGu.out.1).mono ?_
    rintro e w6 ⟨rfl, hb⟩
    have hs6 := hb.size
    have HB6 := Lib.hid (show Below w.heap.size w w6 from bl_trans HB5.out hb)
    have HD6 := Lib.hid (show Below w1.heap.size w1 w6 from bl_trans HD5.out hb)
    have HZo6 := Lib.hid ((HZo5.out.below hb).more hb.size)
    have HZw6 := Lib.hid ((HZw5.out.below hb).more hb.size)
    clear hb
    go_wp2
    go_ret
    exact ⟨rfl, HB6.out⟩
  have HRG := Lib.hid (any_range HU.out HQ.out)
  go_wp2
  go_loopw [8] (fun x wr => ∃ j : Nat, j ≤ us.length ∧ x = .int .i64 j ∧ Below w5.heap.size w5 wr) (fun x _ => us.length - (intOf x).toNat)
  case atStart => exact ⟨0, Nat.zero_le _, rfl, Below.refl _ _⟩
  case round =>
    obtain ⟨j, hj, rfl, hb⟩ := hrel
    have HR := Lib.hid hb
    clear hb
    by_cases hlt : j < us.length
    · have huz : us[j]? = some (j : Int) := by rw [HRG.out]; exact range_at (by rw [← HLu.out]; exact hlt)
      obtain ⟨b2, o2, rfl, hbl2, c0⟩ := (HZo5.out.below HR.out).at_ _ _ huz
      have hji : (j : Int) < (us.length : Int) := by omega
      clear huz
      go_wp2
      go_roundw
      case rel => exact ⟨j + 1, by omega, by go_num, HR.out⟩
      case measure => simp [intOf]; omega
    · obtain rfl : j = us.length := by omega
      have hji : ¬ (us.length : Int) < (us.length : Int) := by omega
      go_wp2_with fail
      refine (iOrdValid_is wr At _ ct ts Ao us.length co us (tks_to HT.out (bl_trans HD5.out HR.out)) (by omega) ((HZo5.out.below HR.out).more HR.out.size) true HGu.out.1).mono ?_
      rintro e w9 ⟨rfl, hb⟩
      have HB9 := Lib.hid (bl_trans HB5.out (bl_trans HR.out hb))
      clear hb
      go_wp2
      go_ret
      exact ⟨rfl, HB9.out⟩

end Go.Proofs.Ytgoblabcggbfjaa
