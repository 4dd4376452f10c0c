/- Contract of the reference's AddShares. Nothing that was there is written. -/
import Derived.Test.YtncgchlnaobalabDoorL2
namespace Go.Proofs.YtncgchlnaobalabDoor
open Go.RowKit
set_option linter.unusedVariables false

end Go.Proofs.YtncgchlnaobalabDoor
