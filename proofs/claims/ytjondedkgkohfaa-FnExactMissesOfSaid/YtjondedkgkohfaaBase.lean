/- Contracts of TaskValid, in the program and in the reference: both return whether the bounds of a task hold, and write nothing that was there. -/
import Derived.Test.YtjondedkgkohfaaProg
import Derived.WalkKit
import Derived.WalkSpells
import Derived.WalkLawsBesides
import Derived.Lib.Hide
import Derived.Deep.QuietTactic
import Derived.BigQuiet
namespace Go.Proofs.Ytjondedkgkohfaa
open Go.RowKit

/-- The five cells of a task. -/
def tkCells (lo hi du ev : Int) (c : Bool) : Array Value := #[.int .i64 lo, .int .i64 hi, .int .i64 du, .int .i64 ev, .bool c]

/-- Whether the bounds of a task hold. -/
def validB (lo hi du ev : Int) (c : Bool) : Bool :=
  decide (1 ≤ lo) && (decide (lo ≤ hi) && (decide (hi ≤ du) && (decide (du ≤ ev) && (decide (ev ≤ 20) && (c || lo == hi)))))

set_option maxHeartbeats 400000 in
theorem iTaskValid_any (lo hi du ev : Int) (c : Bool) (w : World) :
    Calls Try.prog 89 #[.agg #[.int .i64 lo, .int .i64 hi, .int .i64 du, .int .i64 ev, .bool c]] w fun e w' =>
      e = .returned (.bool (validB lo hi du ev c)) ∧ w.alloc (.cells #[.int .i64 lo, .int .i64 hi, .int .i64 du, .int .i64 ev, .bool c] 73) = w' := by
  go_enter Try.func89, Try.ntmps89
  go_wp2
  all_goals go_ret
  all_goals exact ⟨by simp [validB, *] <;> (intros; exfalso; omega), by simp [*]⟩

set_option maxHeartbeats 400000 in
theorem sTaskValid_any (lo hi du ev : Int) (c : Bool) (w : World) :
    Calls Try.prog 92 #[.agg #[.int .i64 lo, .int .i64 hi, .int .i64 du, .int .i64 ev, .bool c]] w fun e w' =>
      e = .returned (.bool (validB lo hi du ev c)) ∧ w.alloc (.cells #[.int .i64 lo, .int .i64 hi, .int .i64 du, .int .i64 ev, .bool c] 73) = w' := by
  go_enter Try.func92, Try.ntmps92
  go_wp2
  all_goals go_ret
  all_goals exact ⟨by simp [validB, *] <;> (intros; exfalso; omega), by simp [*]⟩

end Go.Proofs.Ytjondedkgkohfaa
