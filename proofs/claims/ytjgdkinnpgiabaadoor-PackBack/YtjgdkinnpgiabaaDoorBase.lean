/- The contracts of package basic: what each operation answers, for all numbers; the world stays as it was. -/
import Derived.Test.YtjgdkinnpgiabaaDoorProg
import Derived.Test.YtjgdkinnpgiabaaDoorMath
import Derived.WalkKit
import Derived.WalkSpells
import Derived.WalkLawsBesides
namespace Go.Proofs.YtjgdkinnpgiabaaDoor
open Go.RowKit
set_option maxHeartbeats 400000

theorem ret2 {k : IntKind} {a b : Int} {p q : Bool} (h : a = b) (h' : p = q) : Ending.returned (.tuple #[.int k a, .bool p]) = .returned (.tuple #[.int k b, .bool q]) := by rw [h, h']

end Go.Proofs.YtjgdkinnpgiabaaDoor
