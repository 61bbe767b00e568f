/- The contracts of the reference's down and Right; lists of ints as they lie in memory. -/
import Derived.Test.YtiamknnmgnbkgaaDoorBigY
import Derived.Test.YtiamknnmgnbkgaaDoorRefWt
import Derived.Test.YtiamknnmgnbkgaaDoorInts
import Derived.Shelf.Small.Bits
namespace Go.Proofs.YtiamknnmgnbkgaaDoor
open Go.RowKit
set_option linter.unusedVariables false
set_option linter.unusedSimpArgs false
set_option maxHeartbeats 1000000

end Go.Proofs.YtiamknnmgnbkgaaDoor
