/- The walks of BasicExact and BasicShifts out of the contracts. -/
import Derived.Test.YtinnamogmiobkabBaseB
import Derived.RowKit3
namespace Go.Proofs.Ytinnamogmiobkab
open Go.RowKit
set_option maxHeartbeats 1000000

theorem add_cases (A B : Int) (h1 : -32768 ≤ A) (h2 : A ≤ 32767) (h3 : -32768 ≤ B) (h4 : B ≤ 32767) :
    (c16 (c16 A + c16 B) = A + B ∧ o16 (c16 A + c16 B) = false) ∨ (c16 (c16 A + c16 B) = 32767 ∧ o16 (c16 A + c16 B) = true ∧ 32767 < A + B) ∨ (c16 (c16 A + c16 B) = -32768 ∧ o16 (c16 A + c16 B) = true ∧ A + B < -32768) := by
  rw [c16_id A h1 h2, c16_id B h3 h4]
  unfold o16 c16
  by_cases g1 : A + B < -32768
  · right; right; simp [g1]; omega
  · by_cases g2 : 32767 < A + B
    · right; left; simp [g1, g2]; omega
    · left; simp [g1, g2]
theorem sub_cases (A B : Int) (h1 : -32768 ≤ A) (h2 : A ≤ 32767) (h3 : -32768 ≤ B) (h4 : B ≤ 32767) :
    (c16 (c16 A - c16 B) = A - B ∧ o16 (c16 A - c16 B) = false) ∨ (c16 (c16 A - c16 B) = 32767 ∧ o16 (c16 A - c16 B) = true ∧ 32767 < A - B) ∨ (c16 (c16 A - c16 B) = -32768 ∧ o16 (c16 A - c16 B) = true ∧ A - B < -32768) := by
  rw [c16_id A h1 h2, c16_id B h3 h4]
  unfold o16 c16
  by_cases g1 : A - B < -32768
  · right; right; simp [g1]; omega
  · by_cases g2 : 32767 < A - B
    · right; left; simp [g1, g2]; omega
    · left; simp [g1, g2]
theorem mul_top (a b : Int) (h1 : -32768 ≤ a) (h2 : a ≤ 32767) (h3 : -32768 ≤ b) (h4 : b ≤ 32767) (h : a * b = 1073741824) : a = -32768 ∧ b = -32768 := by
  have e1 : 0 ≤ (32767 - a) * (b + 32768) := Int.mul_nonneg (by omega) (by omega)
  have e2 : 0 ≤ (a + 32768) * (32767 - b) := Int.mul_nonneg (by omega) (by omega)
  have e3 : 0 ≤ (a + 32768) * (b + 32768) := Int.mul_nonneg (by omega) (by omega)
  have e4 : 0 ≤ (32767 - a) * (32767 - b) := Int.mul_nonneg (by omega) (by omega)
  simp only [Int.sub_mul, Int.add_mul, Int.mul_add, Int.mul_sub] at e1 e2 e3 e4
  omega
theorem mul_cases (A B : Int) (h1 : -32768 ≤ A) (h2 : A ≤ 32767) (h3 : -32768 ≤ B) (h4 : B ≤ 32767) :
    (c32 (2 * c16 A * c16 B) = 2 * A * B ∧ o32 (2 * c16 A * c16 B) = false ∧ ¬ (A = -32768 ∧ B = -32768)) ∨ (o32 (2 * c16 A * c16 B) = true ∧ A = -32768 ∧ B = -32768) := by
  rw [c16_id A h1 h2, c16_id B h3 h4]
  obtain ⟨m1, m2⟩ := mul16_bd A B h1 h2 h3 h4
  by_cases g : A = -32768 ∧ B = -32768
  · right; obtain ⟨rfl, rfl⟩ := g; exact ⟨by decide, rfl, rfl⟩
  · left
    have : A * B ≠ 1073741824 := fun h => g (mul_top A B h1 h2 h3 h4 h)
    have e : c32 (2 * A * B) = 2 * A * B := by rw [Int.mul_assoc]; exact c32_id _ (by omega) (by omega)
    exact ⟨e, by unfold o32; rw [e]; simp, g⟩

theorem s16_some (v : Int) (w : World) :
    Calls Try.prog 14 #[.int .i64 v] w fun e w' => ∃ A : Int, -32768 ≤ A ∧ A ≤ 32767 ∧ e = .returned (.int .i64 A) ∧ w' = w :=
  (s16_any v w).mono fun e w' h => ⟨_, by unfold spotN; omega, by unfold spotN; omega, h.1, h.2⟩
theorem s32_some (v : Int) (w : World) :
    Calls Try.prog 16 #[.int .i64 v] w fun e w' => ∃ A : Int, -2147483648 ≤ A ∧ A ≤ 2147483647 ∧ e = .returned (.int .i64 A) ∧ w' = w :=
  (s32_any v w).mono fun e w' h => ⟨_, by unfold spotN; omega, by unfold spotN; omega, h.1, h.2⟩

theorem law_exact (a b : Int) (w : World) :
    Calls Try.prog 4 #[.int .i64 a, .int .i64 b] w fun e w' => e = .returned (.bool true) ∧ Grown w w' := by
  go_enter Try.func4, Try.ntmps4
  go_wp2_with fail
  refine (s16_some _ _).mono ?_
  rintro e w1 ⟨A, A1, A2, rfl, rfl⟩
  go_wp2_with fail
  refine (s16_some _ _).mono ?_
  rintro e w2 ⟨B, B1, B2, rfl, rfl⟩
  go_wp2_with fail
  refine (add_any _ _ _).mono ?_
  rintro e w3 ⟨rfl, rfl⟩
  rcases add_cases A B A1 A2 B1 B2 with ⟨f1, f2⟩ | ⟨f1, f2, f3⟩ | ⟨f1, f2, f3⟩
  all_goals
    rw [f1, f2]
    clear f1 f2
    go_wp2_with fail
    refine (sub_any _ _ _).mono ?_
    rintro e w4 ⟨rfl, rfl⟩
    rcases sub_cases A B A1 A2 B1 B2 with ⟨g1, g2⟩ | ⟨g1, g2, g3⟩ | ⟨g1, g2, g3⟩
    all_goals
      rw [g1, g2]
      clear g1 g2
      go_wp2_with fail
      refine (lmult_any _ _ _).mono ?_
      rintro e w5 ⟨rfl, rfl⟩
      rcases mul_cases A B A1 A2 B1 B2 with ⟨m1, m2, m3⟩ | ⟨m2, rfl, rfl⟩
      · rw [m1, m2]
        clear m1 m2
        obtain ⟨t1, t2⟩ := mul16_bd A B A1 A2 B1 B2
        have t3 : -9223372036854775808 ≤ 2 * A * B := by rw [Int.mul_assoc]; omega
        have t4 : 2 * A * B ≤ 9223372036854775807 := by rw [Int.mul_assoc]; omega
        clear t1 t2
        by_cases hA : A = -32768
        · have hB : (B == -32768) = false := by simp; intro h; exact m3 ⟨hA, h⟩
          have hA' : (A == -32768) = true := by simp [hA]
          clear hA m3
          go_wp2_with (go_at_call 13; refine (awake_any _).mono ?_; rintro e w' ⟨rfl, rfl⟩)
          go_ret
          exact ⟨rfl, Grown.refl _⟩
        · have hA' : (A == -32768) = false := by simp [hA]
          clear hA m3
          go_wp2_with (go_at_call 13; refine (awake_any _).mono ?_; rintro e w' ⟨rfl, rfl⟩)
          go_ret
          exact ⟨rfl, Grown.refl _⟩
      · rw [m2]
        clear m2
        first
          | omega
          | (go_wp2_with (go_at_call 13; refine (awake_any _).mono ?_; rintro e w' ⟨rfl, rfl⟩)
             go_ret
             exact ⟨rfl, Grown.refl _⟩)
end Go.Proofs.Ytinnamogmiobkab
