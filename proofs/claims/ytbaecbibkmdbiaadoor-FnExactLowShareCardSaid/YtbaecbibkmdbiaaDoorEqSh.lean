/- The comparison of shares that the exact laws make. -/
import Derived.Test.YtbaecbibkmdbiaaDoorMk
namespace Go.Proofs.YtbaecbibkmdbiaaDoor
open Go.RowKit
set_option linter.unusedVariables false

set_option maxHeartbeats 400000 in
theorem eqShare_any (w : World) (n d : Int) :
    Calls Tryd.prog 28 #[.agg #[.int .i64 n, .int .i64 d], .agg #[.int .i64 n, .int .i64 d]] w (BoolRes true w) := by
  have HB := Lib.hid (Below.refl w.heap.size w)
  go_enter Tryd.func28, Tryd.ntmps28
  go_wp2
  (try (go_quiet (fail); go_wp2))
  go_ret
  exact ⟨rfl, by repeat (first | exact HB.out | refine bl_drewN ?_ _ | refine Below.drew ?_ | refine bl_alloc ?_ _)⟩

end Go.Proofs.YtbaecbibkmdbiaaDoor
