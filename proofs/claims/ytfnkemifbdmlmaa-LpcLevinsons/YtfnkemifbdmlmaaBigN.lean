/- The contract of voxsatbig's method Mul. -/
import Derived.Test.YtfnkemifbdmlmaaBigM
namespace Go.Proofs.Ytfnkemifbdmlmaa
open Go.RowKit
set_option linter.unusedVariables false
set_option linter.unusedSimpArgs false
set_option maxHeartbeats 1000000

theorem sgn_mul (nx ny : Bool) (a b : Int) : sgn (nx != ny) (a * b) = sgn nx a * sgn ny b := by
  cases nx <;> cases ny <;> simp [sgn, Int.neg_mul, Int.mul_neg]
end Go.Proofs.Ytfnkemifbdmlmaa
