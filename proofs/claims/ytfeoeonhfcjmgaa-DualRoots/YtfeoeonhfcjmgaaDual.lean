/- The contracts of package dual: what each function answers; the world stays as it was. -/
import Derived.Test.YtfeoeonhfcjmgaaProg
import Derived.Test.YtfeoeonhfcjmgaaDualMath
import Derived.Test.YtfeoeonhfcjmgaaMath
import Derived.WalkKit
import Derived.WalkSpells
import Derived.WalkLawsBesides
import Derived.RowKit3
namespace Go.Proofs.Ytfeoeonhfcjmgaa
open Go.RowKit
set_option maxHeartbeats 400000

theorem within_yes (x l m : Int) (h1 : l ≤ x) (h2 : x ≤ m) (w : World) :
    Calls Try.prog 32 #[.int .i64 x, .int .i64 l, .int .i64 m] w fun e w' => e = .returned (.bool true) ∧ w' = w := by
  go_enter Try.func32, Try.ntmps32
  go_wp2
  go_ret
  exact ⟨rfl, rfl⟩
theorem within_no (x l m : Int) (h : x < l ∨ m < x) (w : World) :
    Calls Try.prog 32 #[.int .i64 x, .int .i64 l, .int .i64 m] w fun e w' => e = .returned (.bool false) ∧ w' = w := by
  by_cases h1 : l ≤ x
  · have h2 : ¬ x ≤ m := by omega
    clear h
    go_enter Try.func32, Try.ntmps32
    go_wp2
    go_ret
    exact ⟨rfl, rfl⟩
  · clear h
    go_enter Try.func32, Try.ntmps32
    go_wp2
    go_ret
    exact ⟨rfl, rfl⟩

def divN (a b : Int) : Int := if b < 1 ∨ 32767 < b then 0 else if a < 0 ∨ b < a then 0 else min (a * 32768 / b) 32767
def divE (a b : Int) : Int := if b < 1 ∨ 32767 < b then 8 else if a < 0 ∨ b < a then 2 else 0
theorem div_in (a b : Int) (h1 : 1 ≤ b) (h2 : b ≤ 32767) (h3 : 0 ≤ a) (h4 : a ≤ b) : 0 ≤ a * 32768 / b ∧ a * 32768 / b ≤ 32768 ∧ (a * 32768).tdiv b = a * 32768 / b := by
  refine ⟨Int.ediv_nonneg (by omega) (by omega), ?_, Int.tdiv_eq_ediv_of_nonneg (by omega)⟩
  exact Int.ediv_le_of_le_mul (by omega) (by omega)
theorem dual_div_any (a b : Int) (w : World) :
    Calls Try.prog 14 #[.int .i64 a, .int .i64 b] w fun e w' => e = .returned (.tuple #[.int .i64 (divN a b), .int .i64 (divE a b)]) ∧ w' = w := by
  by_cases h1 : b < 1 ∨ 32767 < b
  · have e : divN a b = 0 := by unfold divN; rw [if_pos h1]
    have e' : divE a b = 8 := by unfold divE; rw [if_pos h1]
    rw [e, e']; clear e e'
    go_enter Try.func14, Try.ntmps14
    go_wp2_with fail
    refine (within_no _ _ _ h1 _).mono ?_
    rintro e w1 ⟨rfl, rfl⟩
    go_wp2_with fail
    go_ret2
    exact ⟨rfl, rfl⟩
  · by_cases h2 : a < 0 ∨ b < a
    · have e : divN a b = 0 := by unfold divN; rw [if_neg h1, if_pos h2]
      have e' : divE a b = 2 := by unfold divE; rw [if_neg h1, if_pos h2]
      rw [e, e']; clear e e'
      go_enter Try.func14, Try.ntmps14
      go_wp2_with fail
      refine (within_yes _ _ _ (by omega) (by omega) _).mono ?_
      rintro e w1 ⟨rfl, rfl⟩
      go_wp2_with fail
      refine (within_no _ _ _ h2 _).mono ?_
      rintro e w1 ⟨rfl, rfl⟩
      go_wp2_with fail
      go_ret2
      exact ⟨rfl, rfl⟩
    · have e : divN a b = min (a * 32768 / b) 32767 := by unfold divN; rw [if_neg h1, if_neg h2]
      have e' : divE a b = 0 := by unfold divE; rw [if_neg h1, if_neg h2]
      obtain ⟨d1, d2, d3⟩ := div_in a b (by omega) (by omega) (by omega) (by omega)
      have b1 : 1 ≤ b := by omega
      have b2 : b ≤ 32767 := by omega
      have a1 : 0 ≤ a := by omega
      have a2 : a ≤ b := by omega
      rw [e, e', ← d3]; rw [← d3] at d1 d2; clear e e' d3 h1 h2
      by_cases hm : 32767 < (a * 32768).tdiv b
      · rw [show min ((a * 32768).tdiv b) 32767 = 32767 by omega]
        go_enter Try.func14, Try.ntmps14
        go_wp2_with fail
        refine (within_yes _ _ _ b1 b2 _).mono ?_
        rintro e w1 ⟨rfl, rfl⟩
        go_wp2_with fail
        refine (within_yes _ _ _ a1 a2 _).mono ?_
        rintro e w1 ⟨rfl, rfl⟩
        go_wp2_with fail
        go_ret2
        exact ⟨rfl, rfl⟩
      · rw [show min ((a * 32768).tdiv b) 32767 = (a * 32768).tdiv b by omega]
        go_enter Try.func14, Try.ntmps14
        go_wp2_with fail
        refine (within_yes _ _ _ b1 b2 _).mono ?_
        rintro e w1 ⟨rfl, rfl⟩
        go_wp2_with fail
        refine (within_yes _ _ _ a1 a2 _).mono ?_
        rintro e w1 ⟨rfl, rfl⟩
        go_wp2_with fail
        go_ret2
        exact ⟨rfl, rfl⟩
end Go.Proofs.Ytfeoeonhfcjmgaa
