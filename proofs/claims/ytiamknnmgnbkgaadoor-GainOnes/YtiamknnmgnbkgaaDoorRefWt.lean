/- The contract of the reference's Weight. -/
import Derived.Test.YtiamknnmgnbkgaaDoorGrow
namespace Go.Proofs.YtiamknnmgnbkgaaDoor
open Go.RowKit
set_option linter.unusedVariables false
set_option linter.unusedSimpArgs false
set_option maxHeartbeats 1000000

def weightN (i : Int) : Int := if i < 0 ∨ 119 < i then 0 else 32767 * (2 * (if 59 < i then 119 - i else i) + 1) / 119
end Go.Proofs.YtiamknnmgnbkgaaDoor
