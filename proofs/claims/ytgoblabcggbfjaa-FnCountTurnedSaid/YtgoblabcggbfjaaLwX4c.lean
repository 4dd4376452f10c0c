/- The walk of the exact law of CanBeLast. -/
import Derived.Test.YtgoblabcggbfjaaMA
import Derived.Test.YtgoblabcggbfjaaMC
namespace Go.Proofs.Ytgoblabcggbfjaa
open Go.RowKit
set_option linter.unusedVariables false

end Go.Proofs.Ytgoblabcggbfjaa
