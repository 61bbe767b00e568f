/- Plain arithmetic for package basic: numbers stopped at 16 and 32 bits, no Go in sight. -/
import Derived.WalkKit
namespace Go.Proofs.YtjgdkinnpgiabaaDoor
open Go.RowKit

def c16 (x : Int) : Int := if x < -32768 then -32768 else if 32767 < x then 32767 else x
def c32 (x : Int) : Int := if x < -2147483648 then -2147483648 else if 2147483647 < x then 2147483647 else x
def o16 (x : Int) : Bool := c16 x != x
def o32 (x : Int) : Bool := c32 x != x
def nearN (n : Int) : Int := if n < -32 then -32 else if 32 < n then 32 else n
def spotN (v n : Int) : Int := v % n
theorem c16_bd (x : Int) : -32768 ≤ c16 x ∧ c16 x ≤ 32767 := by unfold c16; split <;> (try split) <;> omega
theorem c32_bd (x : Int) : -2147483648 ≤ c32 x ∧ c32 x ≤ 2147483647 := by unfold c32; split <;> (try split) <;> omega
theorem nearN_bd (x : Int) : -32 ≤ nearN x ∧ nearN x ≤ 32 := by unfold nearN; split <;> (try split) <;> omega
theorem c16_id (x : Int) (h : -32768 ≤ x) (h' : x ≤ 32767) : c16 x = x := by unfold c16; split <;> (try split) <;> omega
theorem c32_id (x : Int) (h : -2147483648 ≤ x) (h' : x ≤ 2147483647) : c32 x = x := by unfold c32; split <;> (try split) <;> omega
theorem c16_c16 (x : Int) : c16 (c16 x) = c16 x := c16_id _ (c16_bd x).1 (c16_bd x).2
theorem c32_c32 (x : Int) : c32 (c32 x) = c32 x := c32_id _ (c32_bd x).1 (c32_bd x).2
theorem c16_mono (x y : Int) (h : x ≤ y) : c16 x ≤ c16 y := by unfold c16; split <;> split <;> (try split) <;> (try split) <;> omega
theorem c32_mono (x y : Int) (h : x ≤ y) : c32 x ≤ c32 y := by unfold c32; split <;> split <;> (try split) <;> (try split) <;> omega
theorem stop16 (x : Int) : (if 32767 < (if x < -32768 then -32768 else x) then 32767 else (if x < -32768 then -32768 else x)) = c16 x := by
  unfold c16; split <;> split <;> (try split) <;> omega
theorem stop32 (x : Int) : (if 2147483647 < (if x < -2147483648 then -2147483648 else x) then 2147483647 else (if x < -2147483648 then -2147483648 else x)) = c32 x := by
  unfold c32; split <;> split <;> (try split) <;> omega
/-- A product of two numbers of 16 bits. -/
theorem mul16_bd (a b : Int) (h1 : -32768 ≤ a) (h2 : a ≤ 32767) (h3 : -32768 ≤ b) (h4 : b ≤ 32767) : -1073709056 ≤ a * b ∧ a * b ≤ 1073741824 := by
  have e1 : 0 ≤ (32767 - a) * (b + 32768) := Int.mul_nonneg (by omega) (by omega)
  have e2 : 0 ≤ (a + 32768) * (32767 - b) := Int.mul_nonneg (by omega) (by omega)
  have e3 : 0 ≤ (a + 32768) * (b + 32768) := Int.mul_nonneg (by omega) (by omega)
  have e4 : 0 ≤ (32767 - a) * (32767 - b) := Int.mul_nonneg (by omega) (by omega)
  simp only [Int.sub_mul, Int.add_mul, Int.mul_add, Int.mul_sub] at e1 e2 e3 e4
  omega
theorem wrap_in (n : Int) (h : -9223372036854775808 ≤ n) (h' : n ≤ 9223372036854775807) : wrap64 n = n := by unfold wrap64; omega
theorem pow_bd (n : Nat) (h : n ≤ 32) : 1 ≤ (2 : Int) ^ n ∧ (2 : Int) ^ n ≤ 4294967296 := by
  have h1 : (2 : Nat) ^ n ≤ 2 ^ 32 := Nat.pow_le_pow_right (by omega) h
  have h2 : 1 ≤ (2 : Nat) ^ n := Nat.one_le_two_pow
  have e : ((2 ^ n : Nat) : Int) = (2 : Int) ^ n := by simp
  omega
theorem shl_bd (a : Int) (n : Nat) (h : n ≤ 32) (h1 : -2147483648 ≤ a) (h2 : a ≤ 2147483647) : -9223372036854775808 ≤ a * 2 ^ n ∧ a * 2 ^ n ≤ 9223372036854775807 := by
  obtain ⟨p1, p2⟩ := pow_bd n h
  generalize (2 : Int) ^ n = p at *
  have e1 : 0 ≤ (a + 2147483648) * p := Int.mul_nonneg (by omega) (by omega)
  have e2 : 0 ≤ (2147483647 - a) * p := Int.mul_nonneg (by omega) (by omega)
  simp only [Int.sub_mul, Int.add_mul] at e1 e2
  omega
theorem div_bd (a : Int) (n : Nat) (lo hi : Int) (hlo : lo ≤ 0) (hhi : 0 ≤ hi) (h1 : lo ≤ a) (h2 : a ≤ hi) : lo ≤ a / 2 ^ n ∧ a / 2 ^ n ≤ hi := by
  have hp : (0 : Int) < 2 ^ n := Int.pow_pos (by decide)
  refine ⟨?_, ?_⟩
  · rw [Int.le_ediv_iff_mul_le hp]
    have hq : (1 : Int) ≤ 2 ^ n := hp
    have e : 0 ≤ (0 - lo) * (2 ^ n - 1) := Int.mul_nonneg (by omega) (by omega)
    simp only [Int.sub_mul, Int.mul_sub] at e
    omega
  · exact Int.le_trans (Int.ediv_le_ediv hp h2) (Int.ediv_le_self _ hhi)
end Go.Proofs.YtjgdkinnpgiabaaDoor
