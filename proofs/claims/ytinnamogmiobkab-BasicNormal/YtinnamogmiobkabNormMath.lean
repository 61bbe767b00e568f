/- Plain arithmetic of Norm: how far a number can be moved within 32 bits. -/
import Derived.Test.YtinnamogmiobkabNorm
namespace Go.Proofs.Ytinnamogmiobkab
open Go.RowKit
set_option maxHeartbeats 1000000

theorem pow_int (n : Nat) : ((2 ^ n : Nat) : Int) = (2 : Int) ^ n := by simp
/-- A number of 32 bits moved by Norm's places stays within, by one more it doesn't. -/
theorem normal_math (B : Int) (h1 : -2147483648 ≤ B) (h2 : B ≤ 2147483647) (h0 : B ≠ 0) :
    ∃ n : Nat, n ≤ 31 ∧ normN B = n ∧ -2147483648 ≤ B * 2 ^ n ∧ B * 2 ^ n ≤ 2147483647 ∧ (1073741824 ≤ B * 2 ^ n ∨ B * 2 ^ n < -1073741824) := by
  have hc := c32_id B h1 h2
  obtain ⟨m1, m2⟩ := mag_bd B h1 h2
  have hl := len_bd _ m1 m2
  obtain ⟨s1, s2⟩ := bitLen_spec (mag B).toNat (by omega)
  have hz : (mag B).toNat = 0 → 2 ^ Lib.bitLen (mag B).toNat = 1 := by intro h; rw [h]; decide +kernel
  refine ⟨31 - Lib.bitLen (mag B).toNat, by omega, ?_, ?_⟩
  · unfold normN; rw [if_neg h0, hc]; omega
  · generalize Lib.bitLen (mag B).toNat = L at *
    have hs : (2 : Nat) ^ L * 2 ^ (31 - L) = 2147483648 := by
      rw [← Nat.pow_add, show L + (31 - L) = 31 by omega]
    have hp : 1 ≤ (2 : Nat) ^ (31 - L) := Nat.one_le_two_pow
    have e := pow_int (31 - L)
    rw [← e]
    generalize (2 : Nat) ^ (31 - L) = p at *
    generalize (2 : Nat) ^ L = q at *
    by_cases hn : B < 0
    · have em : mag B = -B - 1 := by unfold mag; rw [if_pos hn]
      rw [em] at s1 s2 hz
      obtain ⟨b, hb⟩ : ∃ b : Nat, B = -(b : Int) := ⟨(-B).toNat, by omega⟩
      subst hb
      have t1 : b ≤ q := by omega
      have t2 : b * p ≤ q * p := Nat.mul_le_mul_right p t1
      have e2 : -(b : Int) * (p : Int) = -((b * p : Nat) : Int) := by simp [Int.neg_mul]
      rw [e2]
      refine ⟨by omega, by omega, Or.inr ?_⟩
      by_cases hb1 : b = 1
      · subst hb1
        have t3 : (- -(((1 : Nat)) : Int) - 1).toNat = 0 := by decide
        have hq := hz t3
        subst hq
        omega
      · have t4 := s2 (by omega)
        have t5 : q + 2 ≤ 2 * b := by omega
        have t6 : (q + 2) * p ≤ 2 * b * p := Nat.mul_le_mul_right p t5
        rw [Nat.add_mul, Nat.mul_assoc] at t6
        omega
    · have em : mag B = B := by unfold mag; rw [if_neg hn]
      rw [em] at s1 s2 hz
      obtain ⟨b, hb⟩ : ∃ b : Nat, B = (b : Int) := ⟨B.toNat, by omega⟩
      subst hb
      have t1 : b + 1 ≤ q := by omega
      have t2 : (b + 1) * p ≤ q * p := Nat.mul_le_mul_right p t1
      have t4 := s2 (by omega)
      have t6 : q * p ≤ 2 * b * p := Nat.mul_le_mul_right p (by omega)
      rw [Nat.add_mul] at t2
      rw [Nat.mul_assoc] at t6
      have e2 : (b : Int) * (p : Int) = ((b * p : Nat) : Int) := by simp
      rw [e2]
      generalize b * p = z at *
      refine ⟨by omega, by omega, Or.inl (by omega)⟩

end Go.Proofs.Ytinnamogmiobkab
