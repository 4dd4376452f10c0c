/- Contract of what the reference draws as arguments of WorstJobs; nothing that was there is written. -/
import Derived.Test.YtjondedkgkohfaaSDj
namespace Go.Proofs.Ytjondedkgkohfaa
open Go.RowKit
set_option linter.unusedVariables false

def DrewLIB (m : Nat) (w : World) (e : Ending) (w' : World) : Prop :=
  ∃ (A : Option Addr) (c : Nat) (ts : List Tk) (z : Int) (b : Bool), e = .returned (.tuple #[.slice A ts.length c, .int .i64 z, .bool b]) ∧ ts.length ≤ m ∧ (∀ t ∈ ts, smallTk t) ∧ -1 ≤ z ∧ z ≤ 201 ∧ Own w' w.heap.size (.slice A ts.length c) ts ∧ Below w.heap.size w w'
end Go.Proofs.Ytjondedkgkohfaa
