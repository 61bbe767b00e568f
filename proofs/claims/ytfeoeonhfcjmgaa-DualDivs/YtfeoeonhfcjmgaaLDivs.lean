/- The contract of the reference's Div, and the walk of DualDivs. -/
import Derived.Test.YtfeoeonhfcjmgaaDual
namespace Go.Proofs.Ytfeoeonhfcjmgaa
open Go.RowKit
set_option maxHeartbeats 1000000

theorem refDiv_any (a b : Int) (w : World) :
    Calls Try.prog 15 #[.int .i64 a, .int .i64 b] w fun e w' => e = .returned (.tuple #[.int .i64 (divN a b), .int .i64 (divE a b)]) ∧ w' = w := by
  by_cases h1 : b < 1 ∨ 32767 < b
  · have e : divN a b = 0 := by unfold divN; rw [if_pos h1]
    have e' : divE a b = 8 := by unfold divE; rw [if_pos h1]
    rw [e, e']; clear e e'
    by_cases h2 : b < 1
    · clear h1
      go_enter Try.func15, Try.ntmps15
      go_wp2_with fail
      go_ret2
      exact ⟨rfl, rfl⟩
    · have h3 : 32767 < b := by omega
      clear h1
      go_enter Try.func15, Try.ntmps15
      go_wp2_with fail
      go_ret2
      exact ⟨rfl, rfl⟩
  · have b1 : 1 ≤ b := by omega
    have b2 : b ≤ 32767 := by omega
    by_cases h2 : a < 0 ∨ b < a
    · have e : divN a b = 0 := by unfold divN; rw [if_neg h1, if_pos h2]
      have e' : divE a b = 2 := by unfold divE; rw [if_neg h1, if_pos h2]
      rw [e, e']; clear e e' h1
      by_cases h3 : a < 0
      · clear h2
        go_enter Try.func15, Try.ntmps15
        go_wp2_with fail
        go_ret2
        exact ⟨rfl, rfl⟩
      · have h4 : b < a := by omega
        clear h2
        go_enter Try.func15, Try.ntmps15
        go_wp2_with fail
        go_ret2
        exact ⟨rfl, rfl⟩
    · have e : divN a b = min (a * 32768 / b) 32767 := by unfold divN; rw [if_neg h1, if_neg h2]
      have e' : divE a b = 0 := by unfold divE; rw [if_neg h1, if_neg h2]
      have a1 : 0 ≤ a := by omega
      have a2 : a ≤ b := by omega
      obtain ⟨d1, d2, d3⟩ := div_in a b b1 b2 a1 a2
      rw [e, e', ← d3]; rw [← d3] at d1 d2; clear e e' d3 h1 h2
      by_cases hm : 32767 < (a * 32768).tdiv b
      · rw [show min ((a * 32768).tdiv b) 32767 = 32767 by omega]
        go_enter Try.func15, Try.ntmps15
        go_wp2_with fail
        go_ret2
        exact ⟨rfl, rfl⟩
      · rw [show min ((a * 32768).tdiv b) 32767 = (a * 32768).tdiv b by omega]
        go_enter Try.func15, Try.ntmps15
        go_wp2_with fail
        go_ret2
        exact ⟨rfl, rfl⟩
theorem law_divs (a b : Int) (w : World) :
    Calls Try.prog 5 #[.int .i64 a, .int .i64 b] w fun e w' => e = .returned (.bool true) ∧ Grown w w' := by
  go_enter Try.func5, Try.ntmps5
  go_wp2_with fail
  refine (dual_div_any _ _ _).mono ?_
  rintro e w1 ⟨rfl, rfl⟩
  go_wp2_with fail
  refine (refDiv_any _ _ _).mono ?_
  rintro e w1 ⟨rfl, rfl⟩
  generalize divN a b = x
  generalize divE a b = y
  go_wp2_with fail
  refine (dual_div_any _ _ _).mono ?_
  rintro e w1 ⟨rfl, rfl⟩
  rw [show divN 1 2 = 16384 by decide, show divE 1 2 = 0 by decide]
  go_wp2_with fail
  go_ret
  exact ⟨rfl, Grown.refl _⟩
end Go.Proofs.Ytfeoeonhfcjmgaa
