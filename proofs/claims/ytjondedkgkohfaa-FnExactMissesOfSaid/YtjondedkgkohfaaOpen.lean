/- Contracts of the reference's readers: a reader is opened over the bytes of the input; what is drawn from it as a task has small numbers; nothing that was there is written. -/
import Derived.Test.YtjondedkgkohfaaTask
import Derived.Test.YtjondedkgkohfaaOpenB
namespace Go.Proofs.Ytjondedkgkohfaa
open Go.RowKit

def DrewTask (good : Int → Int → Int → Int → Bool → Prop) (w : World) (e : Ending) (w' : World) : Prop :=
  ∃ (lo hi du ev : Int) (cr : Bool), e = .returned (.agg #[.int .i64 lo, .int .i64 hi, .int .i64 du, .int .i64 ev, .bool cr]) ∧ good lo hi du ev cr ∧ Below w.heap.size w w'

end Go.Proofs.Ytjondedkgkohfaa
