/- The walks of the exact laws over lists of tasks. -/
import Derived.Test.YtbaecbibkmdbiaaExMark
import Derived.Test.YtbaecbibkmdbiaaMarkOwn
import Derived.Test.YtbaecbibkmdbiaaLawHyper
namespace Go.Proofs.Ytbaecbibkmdbiaa
open Go.RowKit

set_option maxHeartbeats 2000000 in
theorem fnExactHyperOf_walk (w : World) (A : Option Addr) (n c : Nat) (ts : List Tk) (h : Tks w w.heap.size A n ts) (hmax : n ≤ 9223372036854775807) :
    Calls Try.prog 7 #[.slice A n c] w fun e w' => e = .returned (.bool true) ∧ Below w.heap.size w w' := by
  have H := Lib.hid h
  have HL := Lib.hid h.len
  clear h
  by_cases hn : 1048576 < n
  · go_enter Try.func7, Try.ntmps7
    go_wp2_with fail
    refine (sz_any w A n c hmax).mono ?_
    rintro e w1 ⟨rfl, rfl⟩
    rw [if_pos (by omega)]
    go_wp2
    go_ret
    exact ⟨rfl, Below.refl _ _⟩
  go_enter Try.func7, Try.ntmps7
  go_wp2_with fail
  refine (sz_any w A n c hmax).mono ?_
  rintro e w1 ⟨rfl, rfl⟩
  rw [if_neg (by omega)]
  have HB1 : Hid (Below w.heap.size w w) := Below.refl _ _
  have htl : ts.length ≤ 1048576 := by rw [HL.out]; omega
  obtain ⟨m, hm⟩ : ∃ m, m = hyperOf ts := ⟨_, rfl⟩
  have HM := Lib.hid hm
  clear hm
  go_wp2_with fail
  refine (toTaskS_any w A n c ts  ((H.out.below HB1.out).more HB1.out.size) (by omega)).mono ?_
  rintro e w2 ⟨Au, cu, rfl, ho, hb⟩
  have HOu2 := Lib.hid ho
  have HMu := Lib.hid (World.ownsRow.lt ho)
  have hs2 : w.heap.size ≤ w2.heap.size := hb.size
  clear ho
  have HB2 := Lib.hid (bl_trans HB1.out hb)
  clear hb 
  go_wp2_with fail
  refine (sHyperOf_is w2 Au _ cu ts m HM.out HOu2.out.reads.2 (by omega)).mono ?_
  rintro e w3 ⟨rfl, hb⟩
  have hs3 : w2.heap.size ≤ w3.heap.size := hb.size
  have HB3 := Lib.hid (bl_trans HB2.out hb)
  have HOu3 := Lib.hid (HOu2.out.below hb)
  clear hb HOu2
  go_wp2_with fail
  refine (toTaskS_any w3 A n c ts  ((H.out.below HB3.out).more HB3.out.size) (by omega)).mono ?_
  rintro e w4 ⟨Ax, cx, rfl, ho, hb⟩
  have HOx4 := Lib.hid ho
  have HMx := Lib.hid (World.ownsRow.lt ho)
  have hs4 : w3.heap.size ≤ w4.heap.size := hb.size
  clear ho
  have HB4 := Lib.hid (bl_trans HB3.out hb)
  have HOu4 := Lib.hid (HOu3.out.below hb)
  clear hb HOu3
  go_wp2_with fail
  refine (iHyperOf_is w4 Ax _ cx ts m HM.out HOx4.out.reads.2 (by omega)).mono ?_
  rintro e w5 ⟨rfl, hb⟩
  have hs5 : w4.heap.size ≤ w5.heap.size := hb.size
  have HB5 := Lib.hid (bl_trans HB4.out hb)
  have HOu5 := Lib.hid (HOu4.out.below hb)
  have HOx5 := Lib.hid (HOx4.out.below hb)
  clear hb HOu4 HOx4
  go_wp2_with fail
  refine (toTaskS_any w5 A n c ts  ((H.out.below HB5.out).more HB5.out.size) (by omega)).mono ?_
  rintro e w6 ⟨Av, cv, rfl, ho, hb⟩
  have HOv6 := Lib.hid ho
  have HMv := Lib.hid (World.ownsRow.lt ho)
  have hs6 : w5.heap.size ≤ w6.heap.size := hb.size
  clear ho
  have HB6 := Lib.hid (bl_trans HB5.out hb)
  have HOu6 := Lib.hid (HOu5.out.below hb)
  have HOx6 := Lib.hid (HOx5.out.below hb)
  clear hb HOu5 HOx5
  go_wp2_with fail
  refine (eqTaskS_any w6 Ax Av _ cx cv ts HOx6.out.reads.2 HOv6.out.reads.2 (by omega)).mono ?_
  rintro e w7 ⟨rfl, hb⟩
  have hs7 : w6.heap.size ≤ w7.heap.size := hb.size
  have HB7 := Lib.hid (bl_trans HB6.out hb)
  have HOu7 := Lib.hid (HOu6.out.below hb)
  have HOx7 := Lib.hid (HOx6.out.below hb)
  have HOv7 := Lib.hid (HOv6.out.below hb)
  clear hb HOu6 HOx6 HOv6
  go_wp2
  go_ret
  exact ⟨rfl, HB7.out⟩

end Go.Proofs.Ytbaecbibkmdbiaa
