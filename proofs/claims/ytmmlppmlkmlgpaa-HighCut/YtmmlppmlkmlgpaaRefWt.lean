/- The contract of the reference's Weight. -/
import Derived.Test.YtmmlppmlkmlgpaaGrow
namespace Go.Proofs.Ytmmlppmlkmlgpaa
open Go.RowKit
set_option linter.unusedVariables false
set_option linter.unusedSimpArgs false
set_option maxHeartbeats 1000000

def weightN (i : Int) : Int := if i < 0 ∨ 119 < i then 0 else 32767 * (2 * (if 59 < i then 119 - i else i) + 1) / 119
theorem weight_low (i : Int) (h0 : 0 ≤ i) (h1 : i ≤ 59) (w : World) : Calls Try.prog 14 #[.int .i64 i] w fun e w' => e = .returned (.int .i64 (32767 * (2 * i + 1) / 119)) ∧ w' = w := by
  have e : (32767 * (2 * i + 1)).tdiv 119 = 32767 * (2 * i + 1) / 119 := Int.tdiv_eq_ediv_of_nonneg (by omega)
  go_enter Try.func14, Try.ntmps14
  go_wp2_with fail
  go_ret
  exact ⟨by first | rfl | (rw [← e]), rfl⟩
theorem refWeight_any (i : Int) (w : World) : Calls Try.prog 14 #[.int .i64 i] w fun e w' => e = .returned (.int .i64 (weightN i)) ∧ w' = w := by
  unfold weightN
  by_cases h1 : i < 0
  · rw [if_pos (.inl h1)]
    go_enter Try.func14, Try.ntmps14
    go_wp2_with fail
    go_ret
    exact ⟨rfl, rfl⟩
  · by_cases h2 : 119 < i
    · rw [if_pos (.inr h2)]
      go_enter Try.func14, Try.ntmps14
      go_wp2_with fail
      go_ret
      exact ⟨rfl, rfl⟩
    · rw [if_neg (by omega)]
      by_cases h3 : 59 < i
      · rw [if_pos h3]
        have L := hide (weight_low (119 - i) (by omega) (by omega) w)
        generalize 32767 * (2 * (119 - i) + 1) / 119 = z at *
        go_enter Try.func14, Try.ntmps14
        go_wp2_with fail
        refine L.out.mono ?_
        rintro e w1 ⟨rfl, rfl⟩
        go_wp2_with fail
        go_ret
        exact ⟨rfl, rfl⟩
      · rw [if_neg h3]
        exact weight_low i (by omega) (by omega) w
end Go.Proofs.Ytmmlppmlkmlgpaa
