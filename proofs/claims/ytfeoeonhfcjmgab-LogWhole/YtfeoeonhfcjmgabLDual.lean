/- The walks of DivNear, RootNear and LogRises out of the contracts. -/
import Derived.Test.YtfeoeonhfcjmgabBaseB
import Derived.Test.YtfeoeonhfcjmgabDualC
namespace Go.Proofs.Ytfeoeonhfcjmgab
open Go.RowKit
set_option maxHeartbeats 1000000

theorem law_div (a b : Int) (w : World) :
    Calls Try.prog 4 #[.int .i64 a, .int .i64 b] w fun e w' => e = .returned (.bool true) ∧ Grown w w' := by
  have s1 : 0 ≤ spotN b 32767 := by unfold spotN; omega
  have s2 : spotN b 32767 < 32767 := by unfold spotN; omega
  go_enter Try.func4, Try.ntmps4
  go_wp2_with fail
  refine (spot_any _ _ (by omega) (by omega) _).mono ?_
  rintro e w1 ⟨rfl, rfl⟩
  obtain ⟨B, hB⟩ : ∃ B, B = spotN b 32767 + 1 := ⟨_, rfl⟩
  have b1 : 1 ≤ B := by omega
  have b2 : B ≤ 32767 := by omega
  have SP := hide (spot_any a B (by omega) (by omega))
  have a1 : 0 ≤ spotN a B := by unfold spotN; exact Int.emod_nonneg _ (by omega)
  have a2 : spotN a B < B := by unfold spotN; exact Int.emod_lt_of_pos _ (by omega)
  have HB := hide hB
  clear hB
  go_wp2_with fail
  rw [← HB.out]
  refine (SP.out _).mono ?_
  rintro e w1 ⟨rfl, rfl⟩
  clear SP HB s1 s2
  generalize spotN a B = A at *
  obtain ⟨d1, d2, d3⟩ := div_in A B b1 b2 a1 (by omega)
  have q1 : A * 32768 / B * B ≤ A * 32768 := Int.ediv_mul_le _ (by omega)
  have q2 : A * 32768 < (A * 32768 / B + 1) * B := Int.lt_ediv_add_one_mul_self _ (by omega)
  obtain ⟨q3, q4⟩ : divN A B = A * 32768 / B ∧ A * 32768 / B ≤ 32767 := by
    have : A * 32768 / B < 32768 := Int.ediv_lt_of_lt_mul (by omega) (by omega)
    unfold divN
    rw [if_neg (by omega), if_neg (by omega)]
    omega
  have q5 : divE A B = 0 := by unfold divE; rw [if_neg (by omega), if_neg (by omega)]
  clear d2 d3
  go_wp2_with fail
  refine (dual_div_any A B _).mono ?_
  rintro e w1 ⟨rfl, rfl⟩
  rw [q3, q5]
  generalize A * 32768 / B = Q at *
  clear q3 q5
  have q6 : 0 ≤ Q * B := Int.mul_nonneg (by omega) (by omega)
  have q7 : (Q + 1) * B = Q * B + B := by rw [Int.add_mul]; omega
  go_wp2_with fail
  refine (half_any _).mono ?_
  rintro e w1 ⟨rfl, rfl⟩
  go_wp2_with fail
  go_ret
  exact ⟨rfl, Grown.refl _⟩
theorem law_root (a : Int) (w : World) :
    Calls Try.prog 5 #[.int .i64 a] w fun e w' => e = .returned (.bool true) ∧ Grown w w' := by
  have s1 : 0 ≤ spotN a 2147483648 := by unfold spotN; omega
  have s2 : spotN a 2147483648 < 2147483648 := by unfold spotN; omega
  go_enter Try.func5, Try.ntmps5
  go_wp2_with fail
  refine (spot_any _ _ (by omega) (by omega) _).mono ?_
  rintro e w1 ⟨rfl, rfl⟩
  generalize spotN a 2147483648 = A at *
  go_wp2_with fail
  refine (root_yes A s1 (by omega) _).mono ?_
  rintro e w1 ⟨r, ⟨r1, r2, r3⟩, rfl, rfl⟩
  have r4 := root_bd A r r2 (by omega)
  go_wp2_with fail
  refine (half_any _).mono ?_
  rintro e w1 ⟨rfl, rfl⟩
  have r5 := sq_le 0 r (by omega) r1
  have r6 := sq_le (r + 1) 46341 (by omega) (by omega)
  go_wp2_with fail
  go_ret
  exact ⟨rfl, Grown.refl _⟩
/-- A number from 1 on: how many bits it has, and what is behind the point. -/
theorem log_some (A : Int) (h1 : 1 ≤ A) (h2 : A ≤ 2147483647) : ∃ (n : Nat) (X : Int), n ≤ 30 ∧ (2 : Int) ^ n ≤ A ∧ A < 2 ^ (n + 1) ∧ X = A * 2 ^ (30 - n) ∧ 1073741824 ≤ X ∧ X ≤ 2147483647 ∧ 0 ≤ logF X 15 ∧ logF X 15 ≤ 32767 ∧
    ∀ w, Calls Try.prog 15 #[.int .i64 A] w fun e w' => e = .returned (.tuple #[.int .i64 n, .int .i64 (logF X 15), .int .i64 0]) ∧ w' = w := by
  obtain ⟨n, hn, n1, n2⟩ := top_bit 31 A.toNat (by omega) (by omega)
  have q1 := pow_nat n
  have q2 := pow_nat (n + 1)
  have g1 : (2 : Int) ^ n ≤ A := by omega
  have g2 : A < 2 ^ (n + 1) := by omega
  obtain ⟨x1, x2⟩ := lift_bd A n (by omega) g1 g2
  obtain ⟨_, _, f1, f2⟩ := log_bd _ x1 x2 15
  exact ⟨n, _, by omega, g1, g2, rfl, x1, x2, f1, by omega, log_yes A n (by omega) g1 g2⟩
theorem law_rises (a b : Int) (w : World) :
    Calls Try.prog 6 #[.int .i64 a, .int .i64 b] w fun e w' => e = .returned (.bool true) ∧ Grown w w' := by
  have s1 : 0 ≤ spotN a 2147483647 := by unfold spotN; omega
  have s2 : spotN a 2147483647 < 2147483647 := by unfold spotN; omega
  have t1 : 0 ≤ spotN b 2147483647 := by unfold spotN; omega
  have t2 : spotN b 2147483647 < 2147483647 := by unfold spotN; omega
  go_enter Try.func6, Try.ntmps6
  go_wp2_with fail
  refine (spot_any _ _ (by omega) (by omega) _).mono ?_
  rintro e w1 ⟨rfl, rfl⟩
  go_wp2_with fail
  refine (spot_any _ _ (by omega) (by omega) _).mono ?_
  rintro e w1 ⟨rfl, rfl⟩
  obtain ⟨A, hA⟩ : ∃ A, A = 1 + spotN a 2147483647 := ⟨_, rfl⟩
  obtain ⟨B, hB⟩ : ∃ B, B = 1 + spotN b 2147483647 := ⟨_, rfl⟩
  obtain ⟨n, X, n1, n2, n3, hX, x1, x2, f1, f2, HL⟩ := log_some A (by omega) (by omega)
  obtain ⟨m, Y, m1, m2, m3, hY, y1, y2, g1, g2, HM⟩ := log_some B (by omega) (by omega)
  have LG := hide HL
  have LH := hide HM
  have FIN : ¬ B < A → (n < m ∨ (n = m ∧ logF X 15 ≤ logF Y 15)) := fun h => by
    rcases Nat.lt_or_ge n m with q | q
    · exact .inl q
    · rcases Nat.lt_or_ge m n with q' | q'
      · have := (pow_le (m + 1) n (by omega)).2
        omega
      · have e : n = m := by omega
        subst e
        have := lift_mono A B (30 - n) (by omega)
        have := log_rises X Y x1 y2 (by omega) 15
        right; omega
  have HF := hide FIN
  have HA := hide hA
  have HB := hide hB
  clear hA hX HL x1 x2 hB hY HM y1 y2 FIN n2 n3 m2 m3
  go_wp2_with fail
  rw [← HA.out]
  refine (LG.out _).mono ?_
  rintro e w1 ⟨rfl, rfl⟩
  go_wp2_with fail
  rw [← HB.out]
  refine (LH.out _).mono ?_
  rintro e w1 ⟨rfl, rfl⟩
  clear LG LH HA HB s1 s2 t1 t2
  generalize logF X 15 = f at *
  generalize logF Y 15 = g at *
  go_wp2_with fail
  refine (half_any _).mono ?_
  rintro e w1 ⟨rfl, rfl⟩
  by_cases hE : B < A
  · go_wp2_with fail
    go_ret
    exact ⟨rfl, Grown.refl _⟩
  · rcases HF.out (by omega) with q | ⟨q, q'⟩
    · go_wp2_with fail
      go_ret
      exact ⟨rfl, Grown.refl _⟩
    · subst q
      go_wp2_with fail
      go_ret
      exact ⟨rfl, Grown.refl _⟩
end Go.Proofs.Ytfeoeonhfcjmgab
