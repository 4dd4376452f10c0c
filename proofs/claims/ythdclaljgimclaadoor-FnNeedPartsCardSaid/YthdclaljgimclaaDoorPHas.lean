/- Contract of the program's hasTask. Nothing that was there is written. -/
import Derived.Test.YthdclaljgimclaaDoorSet
import Derived.RegionTactic
import Derived.ChangeAlike
namespace Go.Proofs.YthdclaljgimclaaDoor
open Go.RowKit
set_option linter.unusedVariables false

end Go.Proofs.YthdclaljgimclaaDoor
