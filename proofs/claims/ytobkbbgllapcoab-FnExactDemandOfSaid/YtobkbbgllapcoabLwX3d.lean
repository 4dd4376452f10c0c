/- The walk of the exact law of DemandOf. -/
import Derived.Test.YtobkbbgllapcoabToTask
import Derived.Test.YtobkbbgllapcoabDem
namespace Go.Proofs.Ytobkbbgllapcoab
open Go.RowKit
set_option linter.unusedVariables false

set_option maxHeartbeats 1000000 in
theorem fnExactDemandOf_walk (w : World) (lo hi du ev : Int) (cr : Bool) (z : Int) (hb : Bool) :
    Calls Try.prog 6 #[.agg #[.int .i64 lo, .int .i64 hi, .int .i64 du, .int .i64 ev, .bool cr], .int .i64 z, .bool hb] w fun e w' => e = .returned (.bool true) ∧ Below w.heap.size w w' := by
  obtain ⟨m, b, hm⟩ : ∃ m b, dmOf ⟨lo, hi, du, ev, cr⟩ z hb = (m, b) := ⟨_, _, rfl⟩
  have HM := Lib.hid hm
  clear hm
  go_enter Try.func6, Try.ntmps6
  go_wp2_with fail
  refine (toTask_any _ _ _ _ _ _).mono ?_
  rintro e w1 ⟨rfl, hb1⟩
  have HB1 := Lib.hid (bl_trans (bl_alloc (Below.refl _ w) _) hb1)
  have bA1 := Lib.hid ((Blk.new w 30 #[.int .i64 lo, .int .i64 hi, .int .i64 du, .int .i64 ev, .bool cr]).below hb1 (by simp))
  clear hb1
  go_wp2_with fail
  refine (sDemandOf_is _ lo hi du ev cr z hb m b HM.out).mono ?_
  rintro e w2 ⟨rfl, hb2⟩
  have HB2 := Lib.hid (bl_trans HB1.out hb2)
  have bA2 := Lib.hid (bA1.out.below hb2 bA1.out.lt)
  have cA := bA2.out.cell
  clear hb2
  go_wp2_with fail
  refine (toTask_any _ _ _ _ _ _).mono ?_
  rintro e w3 ⟨rfl, hb3⟩
  have HB3 := Lib.hid (bl_trans HB2.out hb3)
  clear hb3 cA
  go_wp2_with fail
  refine (iDemandOf_is _ lo hi du ev cr z hb m b HM.out).mono ?_
  rintro e w4 ⟨rfl, hb4⟩
  have HB4 := Lib.hid (bl_trans HB3.out hb4)
  clear hb4
  go_wp2
  go_ret
  exact ⟨rfl, HB4.out⟩

end Go.Proofs.Ytobkbbgllapcoab
