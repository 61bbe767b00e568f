/- Contracts of package voxsatbig: the methods Neg, Abs, Set, Lsh, Cmp, Sign, Uint64, Int64. -/
import Derived.Test.YtiamknnmgnbkgaaDoorBigE
namespace Go.Proofs.YtiamknnmgnbkgaaDoor
open Go.RowKit
set_option linter.unusedVariables false
set_option linter.unusedSimpArgs false
set_option maxHeartbeats 1000000




end Go.Proofs.YtiamknnmgnbkgaaDoor
