/- Contract of the reference's AddShares. Nothing that was there is written. -/
import Derived.Test.YtbaecbibkmdbiaaDoorL2
namespace Go.Proofs.YtbaecbibkmdbiaaDoor
open Go.RowKit
set_option linter.unusedVariables false

end Go.Proofs.YtbaecbibkmdbiaaDoor
