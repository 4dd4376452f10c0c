/- Contract of the copy of one task that the exact laws make. -/
import Derived.Test.YtflilandcjnpjaaM1
namespace Go.Proofs.Ytflilandcjnpjaa
open Go.RowKit

set_option maxHeartbeats 1000000 in
theorem toTask_any (lo hi du ev : Int) (c : Bool) (w : World) :
    Calls Try.prog 58 #[.agg #[.int .i64 lo, .int .i64 hi, .int .i64 du, .int .i64 ev, .bool c]] w fun e w' =>
      e = .returned (.agg #[.int .i64 lo, .int .i64 hi, .int .i64 du, .int .i64 ev, .bool c]) ∧ Below w.heap.size w w' := by
  go_enter Try.func58, Try.ntmps58
  go_wp2
  refine bodyPost_ret (v := .agg #[.int .i64 lo, .int .i64 hi, .int .i64 du, .int .i64 ev, .bool c]) (by simp [results, Try.results58, go_sem]) rfl ⟨rfl, ?_⟩
  repeat (first | exact Below.refl _ _ | refine bl_alloc ?_ _ | refine bl_set ?_ (by dsimp only; omega) _)

end Go.Proofs.Ytflilandcjnpjaa
