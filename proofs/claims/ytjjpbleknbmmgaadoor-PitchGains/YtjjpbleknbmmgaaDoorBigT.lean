/- The contract of voxsatbig's right. -/
import Derived.Test.YtjjpbleknbmmgaaDoorBigH
import Derived.Test.YtjjpbleknbmmgaaDoorBigS
namespace Go.Proofs.YtjjpbleknbmmgaaDoor
open Go.RowKit
set_option linter.unusedVariables false
set_option maxHeartbeats 1000000

end Go.Proofs.YtjjpbleknbmmgaaDoor
