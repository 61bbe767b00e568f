/- Contracts of the reference's newest and rightFilter. -/
import Derived.Test.YtjjpbleknbmmgaaRefDown
import Derived.Test.YtjjpbleknbmmgaaSynthMath
import Derived.BigQuiet
import Derived.Deep.QuietTactic
namespace Go.Proofs.Ytjjpbleknbmmgaa
open Go.RowKit
set_option linter.unusedVariables false
set_option linter.unusedSimpArgs false
set_option maxHeartbeats 1000000

end Go.Proofs.Ytjjpbleknbmmgaa
