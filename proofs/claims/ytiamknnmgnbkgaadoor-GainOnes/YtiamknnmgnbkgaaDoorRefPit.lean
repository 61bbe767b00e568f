/- Contracts of the reference's dot and Past. -/
import Derived.Test.YtiamknnmgnbkgaaDoorRefDown
import Derived.Test.YtiamknnmgnbkgaaDoorBigN
import Derived.Test.YtiamknnmgnbkgaaDoorPitchMath
import Derived.Test.YtiamknnmgnbkgaaDoorSynW
import Derived.BigQuiet
import Derived.Deep.QuietTactic
namespace Go.Proofs.YtiamknnmgnbkgaaDoor
open Go.RowKit
set_option linter.unusedVariables false
set_option linter.unusedSimpArgs false
set_option maxHeartbeats 1000000

end Go.Proofs.YtiamknnmgnbkgaaDoor
