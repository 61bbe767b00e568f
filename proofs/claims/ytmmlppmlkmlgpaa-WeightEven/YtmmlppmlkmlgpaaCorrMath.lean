/- Plain arithmetic for Correlate: windowed samples, sums of products, and why the first sum is the greatest; no Go in sight. -/
import Derived.Test.YtmmlppmlkmlgpaaRefWt
import Derived.Test.YtmmlppmlkmlgpaaInts
namespace Go.Proofs.Ytmmlppmlkmlgpaa
open Go.RowKit

def wN (l : List Int) (i : Nat) : Int := (nth l i * weightN i + 16384) / 32768
/-- Sum of f m * f (m + k), m below n. -/
def sumTo (f : Nat → Int) (k : Nat) : Nat → Int
  | 0 => 0
  | m + 1 => sumTo f k m + f m * f (m + k)
def sumN (f : Nat → Int) (k : Nat) : Int := sumTo f k (120 - k)
theorem weightN_bd (i : Nat) : 0 ≤ weightN i ∧ weightN i ≤ 32767 := by
  unfold weightN
  split
  · omega
  · split <;> omega
theorem mulw_bd (a b : Int) (h1 : -32768 ≤ a) (h2 : a ≤ 32767) (h3 : 0 ≤ b) (h4 : b ≤ 32767) : -1073709056 ≤ a * b ∧ a * b ≤ 1073676289 := by
  have e1 : 0 ≤ (a + 32768) * b := Int.mul_nonneg (by omega) h3
  have e2 : 0 ≤ (32767 - a) * b := Int.mul_nonneg (by omega) h3
  simp only [Int.add_mul, Int.sub_mul] at e1 e2
  omega
theorem wN_bd (l : List Int) (i : Nat) (h1 : -32768 ≤ nth l i) (h2 : nth l i ≤ 32767) : -32768 ≤ wN l i ∧ wN l i ≤ 32768 := by
  obtain ⟨a, b⟩ := weightN_bd i
  obtain ⟨c, d⟩ := mulw_bd _ _ h1 h2 a b
  unfold wN
  generalize nth l i * weightN i = z at *
  omega
theorem prod_bd (a b : Int) (h1 : -32768 ≤ a) (h2 : a ≤ 32768) (h3 : -32768 ≤ b) (h4 : b ≤ 32768) : -1073741824 ≤ a * b ∧ a * b ≤ 1073741824 := by
  have e1 : 0 ≤ (32768 - a) * (b + 32768) := Int.mul_nonneg (by omega) (by omega)
  have e2 : 0 ≤ (a + 32768) * (32768 - b) := Int.mul_nonneg (by omega) (by omega)
  have e3 : 0 ≤ (a + 32768) * (b + 32768) := Int.mul_nonneg (by omega) (by omega)
  have e4 : 0 ≤ (32768 - a) * (32768 - b) := Int.mul_nonneg (by omega) (by omega)
  simp only [Int.sub_mul, Int.add_mul, Int.mul_add, Int.mul_sub] at e1 e2 e3 e4
  omega
theorem sumTo_bd (f : Nat → Int) (k : Nat) (h : ∀ i, -32768 ≤ f i ∧ f i ≤ 32768) : ∀ m : Nat, -1073741824 * (m : Int) ≤ sumTo f k m ∧ sumTo f k m ≤ 1073741824 * (m : Int)
  | 0 => by simp [sumTo]
  | m + 1 => by
    obtain ⟨a, b⟩ := sumTo_bd f k h m
    obtain ⟨c, d⟩ := prod_bd _ _ (h m).1 (h m).2 (h (m + k)).1 (h (m + k)).2
    unfold sumTo
    generalize f m * f (m + k) = z at *
    omega
theorem sq_nn (a : Int) : 0 ≤ a * a := by
  rcases Int.le_total 0 a with h | h
  · exact Int.mul_nonneg h h
  · have := Int.mul_nonneg (a := -a) (b := -a) (by omega) (by omega)
    rwa [Int.neg_mul_neg] at this
theorem two_mul_le (a b : Int) : -(a * a + b * b) ≤ 2 * (a * b) ∧ 2 * (a * b) ≤ a * a + b * b := by
  have e1 : 0 ≤ (a - b) * (a - b) := sq_nn _
  have e2 : 0 ≤ (a + b) * (a + b) := sq_nn _
  simp only [Int.sub_mul, Int.add_mul, Int.mul_add, Int.mul_sub] at e1 e2
  rw [Int.mul_comm b a] at e1 e2
  omega
theorem sq_sum_mono (f : Nat → Int) : ∀ m d, sumTo f 0 m ≤ sumTo f 0 (m + d)
  | m, 0 => Int.le_refl _
  | m, d + 1 => by
    have := sq_sum_mono f m d
    have e : 0 ≤ f (m + d) * f (m + d) := sq_nn _
    show _ ≤ sumTo f 0 (m + d) + f (m + d) * f (m + d + 0)
    rw [Nat.add_zero]
    omega
/-- The squares from k on, m of them. -/
theorem sq_tail (f : Nat → Int) (k : Nat) : ∀ m, sumTo f 0 (k + m) = sumTo f 0 k + sumTo (fun i => f (i + k)) 0 m
  | 0 => by simp [sumTo]
  | m + 1 => by
    have := sq_tail f k m
    show sumTo f 0 (k + m) + f (k + m) * f (k + m + 0) = sumTo f 0 k + (sumTo (fun i => f (i + k)) 0 m + f (m + k) * f (m + 0 + k))
    rw [this, Nat.add_zero, Nat.add_zero, Nat.add_comm k m]
    omega
theorem sq_nonneg (f : Nat → Int) : ∀ m, 0 ≤ sumTo f 0 m
  | 0 => Int.le_refl _
  | m + 1 => by
    have := sq_nonneg f m
    have e : 0 ≤ f m * f m := sq_nn _
    show 0 ≤ sumTo f 0 m + f m * f (m + 0)
    rw [Nat.add_zero]
    omega
theorem cross_le (f : Nat → Int) (k : Nat) : ∀ m, -(sumTo f 0 m + sumTo (fun i => f (i + k)) 0 m) ≤ 2 * sumTo f k m ∧ 2 * sumTo f k m ≤ sumTo f 0 m + sumTo (fun i => f (i + k)) 0 m
  | 0 => by simp [sumTo]
  | m + 1 => by
    obtain ⟨a, b⟩ := cross_le f k m
    obtain ⟨c, d⟩ := two_mul_le (f m) (f (m + k))
    show -(sumTo f 0 m + f m * f (m + 0) + (sumTo (fun i => f (i + k)) 0 m + f (m + k) * f (m + 0 + k))) ≤ 2 * (sumTo f k m + f m * f (m + k)) ∧ _ ≤ sumTo f 0 m + f m * f (m + 0) + (sumTo (fun i => f (i + k)) 0 m + f (m + k) * f (m + 0 + k))
    rw [Nat.add_zero]
    show _ ∧ 2 * (sumTo f k m + f m * f (m + k)) ≤ _
    omega
/-- No sum is greater in size than the first. -/
theorem sum_le (f : Nat → Int) (k : Nat) (hk : k ≤ 120) : -sumN f 0 ≤ sumN f k ∧ sumN f k ≤ sumN f 0 := by
  obtain ⟨a, b⟩ := cross_le f k (120 - k)
  have h1 := sq_sum_mono f (120 - k) k
  have h2 := sq_tail f k (120 - k)
  have h3 := sq_nonneg f k
  rw [show 120 - k + k = 120 by omega] at h1
  rw [show k + (120 - k) = 120 by omega] at h2
  unfold sumN
  rw [Nat.sub_zero]
  omega
end Go.Proofs.Ytmmlppmlkmlgpaa
