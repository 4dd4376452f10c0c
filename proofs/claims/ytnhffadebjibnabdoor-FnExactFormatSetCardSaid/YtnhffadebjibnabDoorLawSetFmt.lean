/- The walks of the laws on the text of a set: FnExactFormatSet and FnSetParts return true, and write nothing that was there. -/
import Derived.Test.YtnhffadebjibnabDoorSetFmt
import Derived.Test.YtnhffadebjibnabDoorExMark
import Derived.Test.YtnhffadebjibnabDoorDrawsB
namespace Go.Proofs.YtnhffadebjibnabDoor
open Go.RowKit

set_option maxRecDepth 100000 in
set_option maxHeartbeats 1000000 in
theorem fnExactFormatSet_walk (w : World) (A : Option Addr) (n c : Nat) (ts : List Tk) (h : Tks w w.heap.size A n ts) (hmax : n ≤ 9223372036854775807) :
    Calls Tryd.prog 10 #[.slice A n c] w fun e w' => e = .returned (.bool true) ∧ Below w.heap.size w w' := by
  have H := Lib.hid h
  have HL := Lib.hid h.len
  clear h
  by_cases hn : 1048576 < n
  · go_enter Tryd.func10, Tryd.ntmps10
    go_wp2_with fail
    refine (sz_any w A n c hmax).mono ?_
    rintro e w1 ⟨rfl, rfl⟩
    rw [if_pos (by omega)]
    go_wp2
    go_ret
    exact ⟨rfl, Below.refl _ _⟩
  go_enter Tryd.func10, Tryd.ntmps10
  go_wp2_with fail
  refine (sz_any w A n c hmax).mono ?_
  rintro e w1 ⟨rfl, rfl⟩
  rw [if_neg (by omega)]
  have HB1 : Hid (Below w.heap.size w w) := Below.refl _ _
  have htl : ts.length ≤ 1048576 := by rw [HL.out]; omega
  go_wp2_with fail
  refine (toTaskS_any w A n c ts  ((H.out.below HB1.out).more HB1.out.size) (by omega)).mono ?_
  rintro e w2 ⟨Au, cu, rfl, ho, hb⟩
  have HOu2 := Lib.hid ho
  have HB2 := Lib.hid (bl_trans HB1.out hb)
  clear ho hb
  go_wp2_with fail
  refine (sFormatSet_any w2 Au _ cu ts HOu2.out.reads.2 (by omega)).mono ?_
  rintro e w3 ⟨rfl, hb⟩
  have HB3 := Lib.hid (bl_trans HB2.out hb)
  clear hb HOu2
  go_wp2_with fail
  refine (toTaskS_any w3 A n c ts  ((H.out.below HB3.out).more HB3.out.size) (by omega)).mono ?_
  rintro e w4 ⟨Ax, cx, rfl, ho, hb⟩
  have HOx4 := Lib.hid ho
  have HB4 := Lib.hid (bl_trans HB3.out hb)
  clear ho hb
  go_wp2_with fail
  refine (iFormatSet_any w4 Ax _ cx ts HOx4.out.reads.2 (by omega)).mono ?_
  rintro e w5 ⟨rfl, hb⟩
  have HB5 := Lib.hid (bl_trans HB4.out hb)
  have HOx5 := Lib.hid (HOx4.out.below hb)
  clear hb HOx4
  go_wp2_with fail
  refine (toTaskS_any w5 A n c ts  ((H.out.below HB5.out).more HB5.out.size) (by omega)).mono ?_
  rintro e w6 ⟨Av, cv, rfl, ho, hb⟩
  have HOv6 := Lib.hid ho
  have HB6 := Lib.hid (bl_trans HB5.out hb)
  have HOx6 := Lib.hid (HOx5.out.below hb)
  clear ho hb HOx5
  go_wp2_with fail
  refine (eqTaskS_any w6 Ax Av _ cx cv ts HOx6.out.reads.2 HOv6.out.reads.2 (by omega)).mono ?_
  rintro e w7 ⟨rfl, hb⟩
  have HB7 := Lib.hid (bl_trans HB6.out hb)
  clear hb HOx6 HOv6
  go_wp2
  go_ret
  exact ⟨rfl, HB7.out⟩

end Go.Proofs.YtnhffadebjibnabDoor
