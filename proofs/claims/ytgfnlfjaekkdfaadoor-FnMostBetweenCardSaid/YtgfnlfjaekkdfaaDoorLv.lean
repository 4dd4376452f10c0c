/- Contracts of LeaveTask, the reference's and the program's. Nothing that was there is written. -/
import Derived.Test.YtgfnlfjaekkdfaaDoorNB
namespace Go.Proofs.YtgfnlfjaekkdfaaDoor
open Go.RowKit
set_option linter.unusedVariables false

/-- Whether a list is valid and has a place. -/
def hasB (ts : List Tk) (n : Nat) (a : Int) : Bool := setB ts && (decide (0 ≤ a) && decide (a < (n : Int)))
theorem has_at {ts : List Tk} {n : Nat} {a : Int} (h : hasB ts n a = true) : setB ts = true ∧ ∃ k : Nat, a = k ∧ k < n := by
  unfold hasB at h
  rw [Bool.and_eq_true, Bool.and_eq_true, decide_eq_true_iff, decide_eq_true_iff] at h
  exact ⟨h.1, a.toNat, by omega, by omega⟩

end Go.Proofs.YtgfnlfjaekkdfaaDoor
