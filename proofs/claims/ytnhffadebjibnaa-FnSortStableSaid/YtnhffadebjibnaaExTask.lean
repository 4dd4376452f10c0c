/- The walk of the exact law of TaskValid: whatever the task, it returns true, and writes nothing that was there. -/
import Derived.Test.YtnhffadebjibnaaBase
import Derived.Test.YtnhffadebjibnaaNum
namespace Go.Proofs.Ytnhffadebjibnaa
open Go.RowKit

set_option maxHeartbeats 1000000 in
theorem toTask_any (lo hi du ev : Int) (c : Bool) (w : World) :
    Calls Try.prog 35 #[.agg #[.int .i64 lo, .int .i64 hi, .int .i64 du, .int .i64 ev, .bool c]] w fun e w' =>
      e = .returned (.agg #[.int .i64 lo, .int .i64 hi, .int .i64 du, .int .i64 ev, .bool c]) ∧ Below w.heap.size w w' := by
  go_enter Try.func35, Try.ntmps35
  go_wp2
  refine bodyPost_ret (v := .agg #[.int .i64 lo, .int .i64 hi, .int .i64 du, .int .i64 ev, .bool c]) (by simp [results, Try.results35, go_sem]) rfl ⟨rfl, ?_⟩
  repeat (first | exact Below.refl _ _ | refine bl_alloc ?_ _ | refine bl_set ?_ (by dsimp only; omega) _)

def True1 (w : World) (e : Ending) (w' : World) : Prop := e = .returned (.bool true) ∧ Below w.heap.size w w'

set_option maxHeartbeats 1000000 in
theorem fnExactTaskValid_walk (lo hi du ev : Int) (c : Bool) (w : World) :
    Calls Try.prog 14 #[.agg #[.int .i64 lo, .int .i64 hi, .int .i64 du, .int .i64 ev, .bool c]] w (True1 w) := by
  go_enter Try.func14, Try.ntmps14
  go_wp2_with fail
  refine (toTask_any _ _ _ _ _ _).mono ?_
  rintro e w1 ⟨rfl, hb⟩
  have hb1 := Lib.hid (bl_trans (bl_alloc (Below.refl _ w) _) hb)
  have bA : Blk w1 w.heap.size 34 _ := (Blk.new w 34 _).below hb (by simp)
  have cA := bA.cell
  have hsz : w.heap.size < w1.heap.size := bA.lt
  clear hb
  go_wp2_with fail
  refine (sTaskValid_any _ _ _ _ _ _).mono ?_
  rintro e w2 ⟨rfl, rfl⟩
  go_wp2_with fail
  refine (toTask_any _ _ _ _ _ _).mono ?_
  rintro e w3 ⟨rfl, hb⟩
  have hb3 := Lib.hid (bl_trans (bl_alloc hb1.out _) hb)
  clear hb
  go_wp2_with (go_at_call 31; refine (iTaskValid_any _ _ _ _ _ _).mono ?_; rintro e w' ⟨rfl, rfl⟩)
  go_ret
  exact ⟨rfl, bl_alloc hb3.out _⟩

end Go.Proofs.Ytnhffadebjibnaa
