/- The contract of Rsh of any number, by any number of places. -/
import Derived.Test.YtdeappknlcmbbaaBigV
namespace Go.Proofs.Ytdeappknlcmbbaa
open Go.RowKit
set_option linter.unusedVariables false
set_option linter.unusedSimpArgs false
set_option maxHeartbeats 1000000

theorem neg_shift (x p : Int) (hp : 0 < p) (hx : x < 0) : x / p = -((-x - 1) / p + 1) := by
  have h1 := Int.ediv_mul_le (-x - 1) (Int.ne_of_gt hp)
  have h2 := Int.lt_ediv_add_one_mul_self (-x - 1) hp
  generalize (-x - 1) / p = q at *
  have e : x / p = -(q + 1) := by
    apply Int.le_antisymm
    · have : x / p < -(q + 1) + 1 := Int.ediv_lt_of_lt_mul hp (by rw [Int.add_mul, Int.neg_mul, Int.add_mul]; omega)
      omega
    · exact (Int.le_ediv_iff_mul_le hp).2 (by rw [Int.neg_mul, Int.add_mul] at *; omega)
  exact e
end Go.Proofs.Ytdeappknlcmbbaa
