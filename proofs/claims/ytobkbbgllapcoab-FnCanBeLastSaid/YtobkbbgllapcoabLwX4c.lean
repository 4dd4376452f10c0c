/- The walk of the exact law of CanBeLast. -/
import Derived.Test.YtobkbbgllapcoabMA
import Derived.Test.YtobkbbgllapcoabMC
namespace Go.Proofs.Ytobkbbgllapcoab
open Go.RowKit
set_option linter.unusedVariables false

end Go.Proofs.Ytobkbbgllapcoab
