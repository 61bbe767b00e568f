/- The contract of voxsatbig's right. -/
import Derived.Test.YtdeappknlcmbbaaBigH
import Derived.Test.YtdeappknlcmbbaaBigS
namespace Go.Proofs.Ytdeappknlcmbbaa
open Go.RowKit
set_option linter.unusedVariables false
set_option maxHeartbeats 1000000

end Go.Proofs.Ytdeappknlcmbbaa
