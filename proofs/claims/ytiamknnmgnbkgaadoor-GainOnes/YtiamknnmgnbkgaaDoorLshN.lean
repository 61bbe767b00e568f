/- The contract of Lsh, by any number of places. -/
import Derived.Test.YtiamknnmgnbkgaaDoorClip
namespace Go.Proofs.YtiamknnmgnbkgaaDoor
open Go.RowKit
set_option linter.unusedVariables false
set_option maxHeartbeats 1000000

theorem P_pow (q : Nat) : P q = 2 ^ (32 * q) := by
  unfold P
  rw [show (4294967296 : Int) = 2 ^ 32 from rfl, ← Int.pow_mul]
end Go.Proofs.YtiamknnmgnbkgaaDoor
