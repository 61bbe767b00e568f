/- Tables of ints that the program's text lays: what a row's hypothesis on listed variables gives for the walk. -/
import Derived.Test.YtiamknnmgnbkgabDoorTabF
import Derived.ProofKit
import Derived.OpenShut
import Derived.LaidMore
import Derived.Stop.Joined
import Derived.Lib.LaidTab
namespace Go.Proofs.YtiamknnmgnbkgabDoor
open Go.ChangeShapes Go.WideShapes Go.ChangeAt Go.RowKit
set_option linter.unusedVariables false

end Go.Proofs.YtiamknnmgnbkgabDoor
