/- Contract of the copy of one task that the exact laws make. -/
import Derived.Test.YtpalcnhceffcmaaNA
namespace Go.Proofs.Ytpalcnhceffcmaa
open Go.RowKit

end Go.Proofs.Ytpalcnhceffcmaa
