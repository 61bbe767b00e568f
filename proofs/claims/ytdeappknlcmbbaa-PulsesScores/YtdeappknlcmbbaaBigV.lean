/- The contract of Rsh of a number that isn't below 0, by any number of places. -/
import Derived.Test.YtdeappknlcmbbaaBigT
import Derived.Test.YtdeappknlcmbbaaLshN
namespace Go.Proofs.Ytdeappknlcmbbaa
open Go.RowKit
set_option linter.unusedVariables false
set_option linter.unusedSimpArgs false
set_option maxHeartbeats 1000000

end Go.Proofs.Ytdeappknlcmbbaa
