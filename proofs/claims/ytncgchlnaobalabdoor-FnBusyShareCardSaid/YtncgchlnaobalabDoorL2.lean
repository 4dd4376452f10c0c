/- Contract of the reference's sum of two shares. Nothing that was there is written. -/
import Derived.Test.YtncgchlnaobalabDoorAdd
import Derived.RegionTactic
import Derived.ChangeAlike
import Derived.Deep.RegionWith
namespace Go.Proofs.YtncgchlnaobalabDoor
open Go.RowKit
set_option linter.unusedVariables false

end Go.Proofs.YtncgchlnaobalabDoor
