/- The walk of the law FnPackValid. -/
import Derived.Test.YtgoblabcggbfjaaDq
import Derived.Test.YtgoblabcggbfjaaPk
import Derived.Test.YtgoblabcggbfjaaGm
import Derived.Test.YtgoblabcggbfjaaMA
namespace Go.Proofs.Ytgoblabcggbfjaa
open Go.RowKit
set_option linter.unusedVariables false

set_option maxRecDepth 100000 in
set_option maxHeartbeats 4000000 in
theorem fnPackValid_walk (w : World) (A : Option Addr) (n c : Nat) (f : Nat → Int) (h : Code w w.heap.size A n c f) :
    Calls Try.prog 11 #[.slice A n c] w fun e w' => e = .returned (.bool true) ∧ Below w.heap.size w w' := by
  have H := Lib.hid h
  have hle := h.le
  have hmax := h.max
  unfold maxLen at hmax
  clear h
  by_cases hn : 1048576 < n
  · go_enter Try.func11, Try.ntmps11
    go_wp2
    go_ret
    exact ⟨rfl, Below.refl _ _⟩
  go_enter Try.func11, Try.ntmps11
  go_wp2_with fail
  refine (dDrawPackValid_any _ A n c f H.out).mono ?_
  rintro e w1 ⟨At, ct, ts, Az, cz, zs, z, rfl, hl, hzl, hzz, ho, hoz, hb⟩
  have HB1 := Lib.hid hb
  have HO := Lib.hid ho
  have HT := Lib.hid ho.reads.2
  have hct := own_le ho
  have hcz := hoz.le
  have HZ1 := Lib.hid hoz.reads
  clear hb ho hoz H
  have HD1 := Lib.hid (Below.refl w1.heap.size w1)
  have hs1 := HB1.out.size
  obtain ⟨b, hv⟩ : ∃ b, packB ts zs z = b := ⟨_, rfl⟩
  have HV := Lib.hid hv
  clear hv
  go_wp2_with fail
  refine (iPack_is w1 At _ ct ts Az _ cz zs z b (tks_to HT.out HD1.out) (by omega) HZ1.out (by omega) HV.out).mono ?_
  rintro e w2 ⟨rfl, hb⟩
  have hs2 := hb.size
  have HB2 := Lib.hid (show Below w.heap.size w w2 from bl_trans HB1.out hb)
  have HD2 := Lib.hid (show Below w1.heap.size w1 w2 from bl_trans HD1.out hb)
  have HZ2 := Lib.hid ((HZ1.out.below hb).more hb.size)
  clear hb
  go_wp2_with fail
  refine (sPack_is w2 At _ ct ts Az _ cz zs z b (tks_to HT.out HD2.out) (by omega) HZ2.out (by omega) HV.out).mono ?_
  rintro e w3 ⟨rfl, hb⟩
  have hs3 := hb.size
  have HB3 := Lib.hid (show Below w.heap.size w w3 from bl_trans HB2.out hb)
  have HD3 := Lib.hid (show Below w1.heap.size w1 w3 from bl_trans HD2.out hb)
  have HZ3 := Lib.hid ((HZ2.out.below hb).more hb.size)
  clear hb
  cases b
  · go_wp2_with fail
    refine (sPack_is w3 At _ ct ts Az _ cz zs z false (tks_to HT.out HD3.out) (by omega) HZ3.out (by omega) HV.out).mono ?_
    rintro e w4 ⟨rfl, hb⟩
    have hs4 := hb.size
    have HB4 := Lib.hid (show Below w.heap.size w w4 from bl_trans HB3.out hb)
    have HD4 := Lib.hid (show Below w1.heap.size w1 w4 from bl_trans HD3.out hb)
    have HZ4 := Lib.hid ((HZ3.out.below hb).more hb.size)
    clear hb
    go_wp2
    go_ret
    exact ⟨rfl, HB4.out⟩
  · have HV3 : Hid (packB ts zs 3 = true) := pack_more HV.out
    have HS : Hid (setB ts = true) := (packB_iff.1 HV.out).1
    have HLZ : Hid (zs.length = ts.length) := (packB_iff.1 HV.out).2.2.1
    go_wp2_with fail
    refine (iPack_is w3 At _ ct ts Az _ cz zs 3 true (tks_to HT.out HD3.out) (by omega) HZ3.out (by omega) HV3.out).mono ?_
    rintro e w4 ⟨rfl, hb⟩
    have hs4 := hb.size
    have HB4 := Lib.hid (show Below w.heap.size w w4 from bl_trans HB3.out hb)
    have HD4 := Lib.hid (show Below w1.heap.size w1 w4 from bl_trans HD3.out hb)
    have HZ4 := Lib.hid ((HZ3.out.below hb).more hb.size)
    clear hb
    go_wp2_with fail
    refine (iSetValid_any w4 At _ ct ts (tks_to HT.out HD4.out) (by omega)).mono ?_
    rintro e w5 ⟨rfl, hb⟩
    have hs5 := hb.size
    have HB5 := Lib.hid (show Below w.heap.size w w5 from bl_trans HB4.out hb)
    have HD5 := Lib.hid (show Below w1.heap.size w1 w5 from bl_trans HD4.out hb)
    have HZ5 := Lib.hid ((HZ4.out.below hb).more hb.size)
    clear hb
    rw [HS.out]
    have hlz := HLZ.out
    go_wp2
    go_ret
    exact ⟨rfl, HB5.out⟩

end Go.Proofs.Ytgoblabcggbfjaa
