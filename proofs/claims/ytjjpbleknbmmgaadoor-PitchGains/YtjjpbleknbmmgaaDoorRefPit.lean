/- Contracts of the reference's dot and Past. -/
import Derived.Test.YtjjpbleknbmmgaaDoorRefDown
import Derived.Test.YtjjpbleknbmmgaaDoorBigN
import Derived.Test.YtjjpbleknbmmgaaDoorPitchMath
import Derived.Test.YtjjpbleknbmmgaaDoorSynW
import Derived.BigQuiet
import Derived.Deep.QuietTactic
namespace Go.Proofs.YtjjpbleknbmmgaaDoor
open Go.RowKit
set_option linter.unusedVariables false
set_option linter.unusedSimpArgs false
set_option maxHeartbeats 1000000

end Go.Proofs.YtjjpbleknbmmgaaDoor
