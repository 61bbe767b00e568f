/- The walk of FrontWeights out of the contracts. -/
import Derived.Test.YtmmlppmlkmlgpaaFrontA
namespace Go.Proofs.Ytmmlppmlkmlgpaa
open Go.RowKit
set_option maxHeartbeats 1000000

theorem law_weights (i : Int) (w : World) :
    Calls Try.prog 4 #[.int .i64 i] w fun e w' => e = .returned (.bool true) ∧ Grown w w' := by
  have A := hide (fweight_any i)
  have R := hide (refWeight_any i)
  have B := hide (fweight_any 59)
  rw [show weightN 59 = 32767 by decide] at B
  generalize weightN i = z at *
  go_enter Try.func4, Try.ntmps4
  go_wp2_with fail
  refine (A.out _).mono ?_
  rintro e w1 ⟨rfl, rfl⟩
  go_wp2_with fail
  refine (R.out _).mono ?_
  rintro e w1 ⟨rfl, rfl⟩
  go_wp2_with fail
  refine (B.out _).mono ?_
  rintro e w1 ⟨rfl, rfl⟩
  go_wp2_with fail
  go_ret
  exact ⟨rfl, Grown.refl _⟩
end Go.Proofs.Ytmmlppmlkmlgpaa
