/- Plain arithmetic for package dual: roots and logarithms, bit by bit; no Go in sight. -/
import Derived.WalkKit
namespace Go.Proofs.YtiamknnmgnbkgaaDoor
open Go.RowKit

/-- Between two roots: how a root is found. 'Rooted a k r': the root is r, or above it by less than 2^k. -/
def Rooted (a : Int) (k : Nat) (r : Int) : Prop := 0 ≤ r ∧ r * r ≤ a ∧ a < (r + 2 ^ k) * (r + 2 ^ k)
def half2 (k : Nat) : Int := 2 ^ k / 2
theorem half2_zero : half2 0 = 0 := by decide
theorem half2_succ (k : Nat) : half2 (k + 1) = 2 ^ k := by unfold half2; rw [Int.pow_succ]; omega
theorem half2_half (k : Nat) : half2 (k + 1) / 2 = half2 k := by rw [half2_succ]; rfl
theorem pow_nat (k : Nat) : ((2 ^ k : Nat) : Int) = (2 : Int) ^ k := by simp
theorem pow_le (k n : Nat) (h : k ≤ n) : 1 ≤ (2 : Int) ^ k ∧ (2 : Int) ^ k ≤ 2 ^ n := by
  have h1 : (2 : Nat) ^ k ≤ 2 ^ n := Nat.pow_le_pow_right (by omega) h
  have h2 : 1 ≤ (2 : Nat) ^ k := Nat.one_le_two_pow
  have := pow_nat k
  have := pow_nat n
  omega
theorem sq_le (r s : Int) (h0 : 0 ≤ r) (h : r ≤ s) : r * r ≤ s * s := by
  have e1 : 0 ≤ (s - r) * (s + r) := Int.mul_nonneg (by omega) (by omega)
  simp only [Int.sub_mul, Int.mul_add] at e1
  have := Int.mul_comm r s
  omega
theorem root_bd (a : Int) (r : Int) (h : r * r ≤ a) (ha : a ≤ 2147483647) : r ≤ 46340 := by
  rcases Int.lt_or_le 46340 r with g | g
  · have := sq_le 46341 r (by omega) (by omega)
    omega
  · exact g
theorem rooted_up (a : Int) (k : Nat) (r : Int) (h : Rooted a (k + 1) r) (g : (r + 2 ^ k) * (r + 2 ^ k) ≤ a) : Rooted a k (r + 2 ^ k) := by
  obtain ⟨h0, h1, h2⟩ := h
  have := (pow_le k k (by omega)).1
  refine ⟨by omega, g, ?_⟩
  rw [Int.pow_succ] at h2
  rw [show r + 2 ^ k + 2 ^ k = r + 2 ^ k * 2 by omega]
  exact h2
theorem rooted_stay (a : Int) (k : Nat) (r : Int) (h : Rooted a (k + 1) r) (g : ¬ (r + 2 ^ k) * (r + 2 ^ k) ≤ a) : Rooted a k r := ⟨h.1, h.2.1, by omega⟩
theorem rooted_start (a : Int) (h0 : 0 ≤ a) (h1 : a ≤ 2147483647) : Rooted a 16 0 := ⟨by omega, by simpa using h0, by simp; omega⟩
theorem root_only (a r s : Int) (h0 : 0 ≤ r) (h1 : r * r ≤ a) (h2 : a < (r + 1) * (r + 1)) (g0 : 0 ≤ s) (g1 : s * s ≤ a) (g2 : a < (s + 1) * (s + 1)) : r = s := by
  rcases Int.lt_or_le r s with g | g
  · have := sq_le (r + 1) s (by omega) (by omega); omega
  · rcases Int.lt_or_le s r with g' | g'
    · have := sq_le (s + 1) r (by omega) (by omega); omega
    · omega

/-- Logarithms: k bits behind the point of a number x of 31 bits. -/
def logS (p : Int × Int) : Int × Int := if 2147483648 ≤ p.1 * p.1 / 1073741824 then (p.1 * p.1 / 1073741824 / 2, p.2 * 2 + 1) else (p.1 * p.1 / 1073741824, p.2 * 2)
def logN : Nat → Int × Int → Int × Int
  | 0, p => p
  | k + 1, p => logS (logN k p)
def logX (x : Int) (k : Nat) : Int := (logN k (x, 0)).1
def logF (x : Int) (k : Nat) : Int := (logN k (x, 0)).2
theorem log_zero (x : Int) : logX x 0 = x ∧ logF x 0 = 0 := ⟨rfl, rfl⟩
theorem log_up (x : Int) (k : Nat) (h : 2147483648 ≤ logX x k * logX x k / 1073741824) : logX x (k + 1) = logX x k * logX x k / 1073741824 / 2 ∧ logF x (k + 1) = logF x k * 2 + 1 := by
  unfold logX logF at *; rw [logN, logS, if_pos h]; exact ⟨rfl, rfl⟩
theorem log_stay (x : Int) (k : Nat) (h : ¬ 2147483648 ≤ logX x k * logX x k / 1073741824) : logX x (k + 1) = logX x k * logX x k / 1073741824 ∧ logF x (k + 1) = logF x k * 2 := by
  unfold logX logF at *; rw [logN, logS, if_neg h]; exact ⟨rfl, rfl⟩
theorem sq_bd (x : Int) (h1 : 1073741824 ≤ x) (h2 : x ≤ 2147483647) : 1152921504606846976 ≤ x * x ∧ x * x ≤ 4611686014132420609 := by
  have := sq_le 1073741824 x (by omega) h1
  have := sq_le x 2147483647 (by omega) h2
  omega
theorem log_bd (x : Int) (h1 : 1073741824 ≤ x) (h2 : x ≤ 2147483647) : ∀ k, 1073741824 ≤ logX x k ∧ logX x k ≤ 2147483647 ∧ 0 ≤ logF x k ∧ logF x k < 2 ^ k
  | 0 => ⟨h1, h2, by rw [(log_zero x).2]; omega, by rw [(log_zero x).2]; decide⟩
  | k + 1 => by
    obtain ⟨a, b, c, d⟩ := log_bd x h1 h2 k
    obtain ⟨s, t⟩ := sq_bd _ a b
    rw [Int.pow_succ]
    by_cases h : 2147483648 ≤ logX x k * logX x k / 1073741824
    · rw [(log_up x k h).1, (log_up x k h).2]; omega
    · rw [(log_stay x k h).1, (log_stay x k h).2]; omega
theorem log_rises (x y : Int) (h1 : 1073741824 ≤ x) (h2 : y ≤ 2147483647) (hxy : x ≤ y) : ∀ k, logF x k < logF y k ∨ (logF x k = logF y k ∧ logX x k ≤ logX y k)
  | 0 => .inr ⟨rfl, hxy⟩
  | k + 1 => by
    obtain ⟨a, b, c, d⟩ := log_bd x h1 (by omega) k
    obtain ⟨a', b', c', d'⟩ := log_bd y (by omega) h2 k
    have ih := log_rises x y h1 h2 hxy k
    by_cases h : 2147483648 ≤ logX x k * logX x k / 1073741824
    · by_cases h' : 2147483648 ≤ logX y k * logX y k / 1073741824
      · rw [(log_up x k h).1, (log_up x k h).2, (log_up y k h').1, (log_up y k h').2]
        rcases ih with ih | ⟨i1, i2⟩
        · left; omega
        · right; have := sq_le _ _ (by omega) i2; omega
      · rw [(log_up x k h).1, (log_up x k h).2, (log_stay y k h').1, (log_stay y k h').2]
        rcases ih with ih | ⟨i1, i2⟩
        · left; omega
        · have := sq_le _ _ (by omega) i2; omega
    · by_cases h' : 2147483648 ≤ logX y k * logX y k / 1073741824
      · rw [(log_stay x k h).1, (log_stay x k h).2, (log_up y k h').1, (log_up y k h').2]
        rcases ih with ih | ⟨i1, i2⟩
        · left; omega
        · left; omega
      · rw [(log_stay x k h).1, (log_stay x k h).2, (log_stay y k h').1, (log_stay y k h').2]
        rcases ih with ih | ⟨i1, i2⟩
        · left; omega
        · right; have := sq_le _ _ (by omega) i2; omega
theorem log_pow : ∀ k, logX 1073741824 k = 1073741824 ∧ logF 1073741824 k = 0
  | 0 => ⟨rfl, rfl⟩
  | k + 1 => by
    obtain ⟨a, b⟩ := log_pow k
    have h : ¬ 2147483648 ≤ logX 1073741824 k * logX 1073741824 k / 1073741824 := by rw [a]; decide
    rw [(log_stay _ k h).1, (log_stay _ k h).2, a, b]; decide
/-- A number of n + 1 bits, moved to the left to 31. -/
theorem lift_bd (a : Int) (n : Nat) (hn : n ≤ 30) (h1 : 2 ^ n ≤ a) (h2 : a < 2 ^ (n + 1)) : 1073741824 ≤ a * 2 ^ (30 - n) ∧ a * 2 ^ (30 - n) ≤ 2147483647 := by
  have e : (2 : Int) ^ n * 2 ^ (30 - n) = 1073741824 := by rw [← Int.pow_add, show n + (30 - n) = 30 by omega]; decide
  have p := (pow_le (30 - n) (30 - n) (by omega)).1
  rw [Int.pow_succ] at h2
  have e1 : 0 ≤ (a - 2 ^ n) * 2 ^ (30 - n) := Int.mul_nonneg (by omega) (by omega)
  have e2 : 0 ≤ (2 ^ n * 2 - 1 - a) * 2 ^ (30 - n) := Int.mul_nonneg (by omega) (by omega)
  simp only [Int.sub_mul] at e1 e2
  have e3 : (2 : Int) ^ n * 2 * 2 ^ (30 - n) = 2147483648 := by rw [Int.mul_right_comm, e]; decide
  omega
theorem lift_mono (a b : Int) (n : Nat) (h : a ≤ b) : a * 2 ^ n ≤ b * 2 ^ n := Int.mul_le_mul_of_nonneg_right h (Int.le_of_lt (Int.pow_pos (by decide)))
end Go.Proofs.YtiamknnmgnbkgaaDoor
