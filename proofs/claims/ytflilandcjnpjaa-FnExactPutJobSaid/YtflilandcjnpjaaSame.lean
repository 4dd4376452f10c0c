/- Contract of dmTasks: two lists of the same tasks are equal. -/
import Derived.Test.YtflilandcjnpjaaM1
import Derived.Deep.QuietTactic
import Derived.BigQuiet
namespace Go.Proofs.Ytflilandcjnpjaa
open Go.RowKit

def Same (w : World) (e : Ending) (w' : World) : Prop := e = .returned (.bool true) ∧ Below w.heap.size w w'

end Go.Proofs.Ytflilandcjnpjaa
