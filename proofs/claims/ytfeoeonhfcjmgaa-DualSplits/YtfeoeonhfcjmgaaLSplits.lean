/- The walk of DualSplits out of the contracts. -/
import Derived.Test.YtfeoeonhfcjmgaaRefDual
namespace Go.Proofs.Ytfeoeonhfcjmgaa
open Go.RowKit
set_option linter.unusedVariables false
set_option maxHeartbeats 1000000

/-- What Join answers, the program's and the reference's. -/
theorem joins (h l : Int) (h0 : -9223372036854775808 ≤ h) (h1 : h ≤ 9223372036854775807) : ∃ x e : Int,
    (∀ w, Calls Try.prog 8 #[.agg #[.int .i64 h, .int .i64 l]] w fun r w' => r = .returned (.tuple #[.int .i64 x, .int .i64 e]) ∧ w.grownBy w' none) ∧
    (∀ w, Calls Try.prog 9 #[.agg #[.int .i64 h, .int .i64 l]] w fun r w' => r = .returned (.tuple #[.int .i64 x, .int .i64 e]) ∧ w.grownBy w' none) := by
  by_cases g : soundB h l = true
  · have g' : -32768 ≤ h ∧ h ≤ 32767 ∧ 0 ≤ l ∧ l ≤ 32767 := of_decide_eq_true g
    obtain ⟨g1, g2, g3, g4⟩ := g'
    exact ⟨_, _, join_yes h l g1 g2 g3 g4, refJoin_yes h l g1 g2 g3 g4⟩
  · have g' : soundB h l = false := by simpa using g
    exact ⟨_, _, join_no h l g', refJoin_no h l h0 h1 g'⟩
theorem law_splits (a h l : Int) (a0 : -9223372036854775808 ≤ a) (a1 : a ≤ 9223372036854775807) (h0 : -9223372036854775808 ≤ h) (h1 : h ≤ 9223372036854775807) (w : World) :
    Calls Try.prog 3 #[.int .i64 a, .agg #[.int .i64 h, .int .i64 l]] w fun e w' => e = .returned (.bool true) ∧ Below w.heap.size w w' := by
  obtain ⟨x, e, J1, J2⟩ := joins h l h0 h1
  have JA := hide J1
  have JB := hide J2
  have SA := hide (split_any a)
  have SB := hide (refSplit_any a · a0 a1)
  have SC := hide (split_any 65536)
  rw [show splitH 65536 = 1 by decide, show splitL 65536 = 0 by decide] at SC
  clear J1 J2
  generalize splitH a = H at *
  generalize splitL a = L at *
  go_enter Try.func3, Try.ntmps3
  go_wp2_with fail
  refine (JA.out _).mono ?_
  rintro e w1 ⟨rfl, g1⟩
  have k0 := kept_cell g1 0
  have k1 := kept_cell g1 1
  have G1 := hide (grown_none (grown_alloc _ _ none) g1)
  clear g1
  go_wp2_with fail
  refine (JB.out _).mono ?_
  rintro e w2 ⟨rfl, g2⟩
  have G2 := hide (grown_none G1.out g2)
  clear g2 G1 k0 k1 JA JB
  go_wp2_with fail
  refine (SA.out _).mono ?_
  rintro e w3 ⟨rfl, g3⟩
  have G3 := hide (grown_none G2.out g3)
  clear g3 G2
  go_wp2_with fail
  refine (SB.out _).mono ?_
  rintro e w4 ⟨rfl, g4⟩
  have G4 := hide (grown_none G3.out g4)
  clear g4 G3
  go_wp2_with fail
  refine (SC.out _).mono ?_
  rintro e w5 ⟨rfl, g5⟩
  have G5 := hide (below_of_grown (grown_none G4.out g5))
  clear g5 G4 SA SB SC
  have FH := field_hi 1 0
  go_wp2_with fail
  go_ret
  exact ⟨rfl, G5.out⟩
end Go.Proofs.Ytfeoeonhfcjmgaa
