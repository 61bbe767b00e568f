/- Plain arithmetic for Correlate: windowed samples, sums of products, and why the first sum is the greatest; no Go in sight. -/
import Derived.Test.YtjjpbleknbmmgabRefWt
import Derived.Test.YtjjpbleknbmmgabInts
namespace Go.Proofs.Ytjjpbleknbmmgab
open Go.RowKit

def wN (l : List Int) (i : Nat) : Int := (nth l i * weightN i + 16384) / 32768
/-- Sum of f m * f (m + k), m below n. -/
def sumTo (f : Nat → Int) (k : Nat) : Nat → Int
  | 0 => 0
  | m + 1 => sumTo f k m + f m * f (m + k)
def sumN (f : Nat → Int) (k : Nat) : Int := sumTo f k (120 - k)
theorem weightN_bd (i : Nat) : 0 ≤ weightN i ∧ weightN i ≤ 32767 := by
  unfold weightN
  split
  · omega
  · split <;> omega
theorem mulw_bd (a b : Int) (h1 : -32768 ≤ a) (h2 : a ≤ 32767) (h3 : 0 ≤ b) (h4 : b ≤ 32767) : -1073709056 ≤ a * b ∧ a * b ≤ 1073676289 := by
  have e1 : 0 ≤ (a + 32768) * b := Int.mul_nonneg (by omega) h3
  have e2 : 0 ≤ (32767 - a) * b := Int.mul_nonneg (by omega) h3
  simp only [Int.add_mul, Int.sub_mul] at e1 e2
  omega
theorem wN_bd (l : List Int) (i : Nat) (h1 : -32768 ≤ nth l i) (h2 : nth l i ≤ 32767) : -32768 ≤ wN l i ∧ wN l i ≤ 32768 := by
  obtain ⟨a, b⟩ := weightN_bd i
  obtain ⟨c, d⟩ := mulw_bd _ _ h1 h2 a b
  unfold wN
  generalize nth l i * weightN i = z at *
  omega
theorem prod_bd (a b : Int) (h1 : -32768 ≤ a) (h2 : a ≤ 32768) (h3 : -32768 ≤ b) (h4 : b ≤ 32768) : -1073741824 ≤ a * b ∧ a * b ≤ 1073741824 := by
  have e1 : 0 ≤ (32768 - a) * (b + 32768) := Int.mul_nonneg (by omega) (by omega)
  have e2 : 0 ≤ (a + 32768) * (32768 - b) := Int.mul_nonneg (by omega) (by omega)
  have e3 : 0 ≤ (a + 32768) * (b + 32768) := Int.mul_nonneg (by omega) (by omega)
  have e4 : 0 ≤ (32768 - a) * (32768 - b) := Int.mul_nonneg (by omega) (by omega)
  simp only [Int.sub_mul, Int.add_mul, Int.mul_add, Int.mul_sub] at e1 e2 e3 e4
  omega
theorem sumTo_bd (f : Nat → Int) (k : Nat) (h : ∀ i, -32768 ≤ f i ∧ f i ≤ 32768) : ∀ m : Nat, -1073741824 * (m : Int) ≤ sumTo f k m ∧ sumTo f k m ≤ 1073741824 * (m : Int)
  | 0 => by simp [sumTo]
  | m + 1 => by
    obtain ⟨a, b⟩ := sumTo_bd f k h m
    obtain ⟨c, d⟩ := prod_bd _ _ (h m).1 (h m).2 (h (m + k)).1 (h (m + k)).2
    unfold sumTo
    generalize f m * f (m + k) = z at *
    omega
theorem sq_nn (a : Int) : 0 ≤ a * a := by
  rcases Int.le_total 0 a with h | h
  · exact Int.mul_nonneg h h
  · have := Int.mul_nonneg (a := -a) (b := -a) (by omega) (by omega)
    rwa [Int.neg_mul_neg] at this
theorem two_mul_le (a b : Int) : -(a * a + b * b) ≤ 2 * (a * b) ∧ 2 * (a * b) ≤ a * a + b * b := by
  have e1 : 0 ≤ (a - b) * (a - b) := sq_nn _
  have e2 : 0 ≤ (a + b) * (a + b) := sq_nn _
  simp only [Int.sub_mul, Int.add_mul, Int.mul_add, Int.mul_sub] at e1 e2
  rw [Int.mul_comm b a] at e1 e2
  omega
theorem sq_sum_mono (f : Nat → Int) : ∀ m d, sumTo f 0 m ≤ sumTo f 0 (m + d)
  | m, 0 => Int.le_refl _
  | m, d + 1 => by
    have := sq_sum_mono f m d
    have e : 0 ≤ f (m + d) * f (m + d) := sq_nn _
    show _ ≤ sumTo f 0 (m + d) + f (m + d) * f (m + d + 0)
    rw [Nat.add_zero]
    omega
/-- The squares from k on, m of them. -/
theorem sq_tail (f : Nat → Int) (k : Nat) : ∀ m, sumTo f 0 (k + m) = sumTo f 0 k + sumTo (fun i => f (i + k)) 0 m
  | 0 => by simp [sumTo]
  | m + 1 => by
    have := sq_tail f k m
    show sumTo f 0 (k + m) + f (k + m) * f (k + m + 0) = sumTo f 0 k + (sumTo (fun i => f (i + k)) 0 m + f (m + k) * f (m + 0 + k))
    rw [this, Nat.add_zero, Nat.add_zero, Nat.add_comm k m]
    omega
theorem sq_nonneg (f : Nat → Int) : ∀ m, 0 ≤ sumTo f 0 m
  | 0 => Int.le_refl _
  | m + 1 => by
    have := sq_nonneg f m
    have e : 0 ≤ f m * f m := sq_nn _
    show 0 ≤ sumTo f 0 m + f m * f (m + 0)
    rw [Nat.add_zero]
    omega
theorem cross_le (f : Nat → Int) (k : Nat) : ∀ m, -(sumTo f 0 m + sumTo (fun i => f (i + k)) 0 m) ≤ 2 * sumTo f k m ∧ 2 * sumTo f k m ≤ sumTo f 0 m + sumTo (fun i => f (i + k)) 0 m
  | 0 => by simp [sumTo]
  | m + 1 => by
    obtain ⟨a, b⟩ := cross_le f k m
    obtain ⟨c, d⟩ := two_mul_le (f m) (f (m + k))
    show -(sumTo f 0 m + f m * f (m + 0) + (sumTo (fun i => f (i + k)) 0 m + f (m + k) * f (m + 0 + k))) ≤ 2 * (sumTo f k m + f m * f (m + k)) ∧ _ ≤ sumTo f 0 m + f m * f (m + 0) + (sumTo (fun i => f (i + k)) 0 m + f (m + k) * f (m + 0 + k))
    rw [Nat.add_zero]
    show _ ∧ 2 * (sumTo f k m + f m * f (m + k)) ≤ _
    omega
/-- No sum is greater in size than the first. -/
theorem sum_le (f : Nat → Int) (k : Nat) (hk : k ≤ 120) : -sumN f 0 ≤ sumN f k ∧ sumN f k ≤ sumN f 0 := by
  obtain ⟨a, b⟩ := cross_le f k (120 - k)
  have h1 := sq_sum_mono f (120 - k) k
  have h2 := sq_tail f k (120 - k)
  have h3 := sq_nonneg f k
  rw [show 120 - k + k = 120 by omega] at h1
  rw [show k + (120 - k) = 120 by omega] at h2
  unfold sumN
  rw [Nat.sub_zero]
  omega
/-- The sums as they go into the last loop. -/
def firstV (f : Nat → Int) (j : Nat) : Int := if j = 0 then sumN f 0 + 1 else sumN f j
def mvN (n : Nat) (z : Int) : Int := if 31 < n then z / 2 ^ (n - 31) else z * 2 ^ (31 - n)
def corrN (f : Nat → Int) (n j : Nat) : Int := mvN n (firstV f j) - mvN n (firstV f j) * j * j / 8192
def corrAgg (f : Nat → Int) (n : Nat) : Value := .agg #[.int .i64 (corrN f n 0), .int .i64 (corrN f n 1), .int .i64 (corrN f n 2), .int .i64 (corrN f n 3), .int .i64 (corrN f n 4), .int .i64 (corrN f n 5), .int .i64 (corrN f n 6), .int .i64 (corrN f n 7), .int .i64 (corrN f n 8)]
def FillC (l : List Int) (k : Nat) (rs : List Int) : Prop := rs.length = 120 ∧ ∀ j, j < k → nth rs j = wN l j
theorem wN_all (l : List Int) (hl : l.length = 120) (hr : rightB l = true) (i : Nat) : -32768 ≤ wN l i ∧ wN l i ≤ 32768 := by
  by_cases h : i < 120
  · have := (rightB_iff l).1 hr i (by omega)
    exact wN_bd l i this.1 this.2
  · have e : nth l i = 0 := getD_out l i (by omega)
    exact wN_bd l i (by omega) (by omega)
theorem fill_step (l rs : List Int) (k : Nat) (h : FillC l k rs) (hk : k < 120) : FillC l (k + 1) (rs.set k (wN l k)) := by
  obtain ⟨h1, h2⟩ := h
  refine ⟨by simpa using h1, fun j hj => ?_⟩
  by_cases e : j = k
  · subst e
    simp [nth, List.getD, h1, hk]
  · have := h2 j (by omega)
    simpa [nth, List.getD, List.getElem?_set, Ne.symm e] using this
theorem first_pos {f : Nat → Int} : 1 ≤ firstV f 0 := by
  have := sq_nonneg f 120
  show 1 ≤ sumTo f 0 120 + 1
  omega
theorem firstV_bd {f : Nat → Int} (hB : ∀ i, -32768 ≤ f i ∧ f i ≤ 32768) (j : Nat) (hj : j < 9) : -128849018880 ≤ firstV f j ∧ firstV f j ≤ 128849018881 := by
  have h := sumTo_bd f j hB (120 - j)
  have h0 := sumTo_bd f 0 hB 120
  have e0 : sumN f 0 = sumTo f 0 120 := rfl
  have e1 : sumN f j = sumTo f j (120 - j) := rfl
  unfold firstV
  split <;> omega
/-- How many bits the first sum has. -/
theorem first_bits {f : Nat → Int} (hB : ∀ i, -32768 ≤ f i ∧ f i ≤ 32768) {n : Nat} (h : Bits (firstV f 0) n) : 1 ≤ n ∧ n ≤ 37 := by
  obtain ⟨b1, b2, b3⟩ := h
  have p := first_pos (f := f)
  obtain ⟨c1, c2⟩ := b3 (by omega)
  refine ⟨c1, ?_⟩
  rcases Nat.lt_or_ge n 38 with g | g
  · omega
  · have q := (firstV_bd hB 0 (by omega)).2
    have h1 : (2 : Nat) ^ 37 ≤ 2 ^ (n - 1) := Nat.pow_le_pow_right (by omega) (by omega)
    have e : ((2 ^ (n - 1) : Nat) : Int) = (2 : Int) ^ (n - 1) := by simp
    omega
def DoneC (f : Nat → Int) (n k : Nat) (ys : List Int) : Prop := ys.length = 9 ∧ ∀ j, j < k → nth ys j = corrN f n j
theorem done_step {f : Nat → Int} {n k : Nat} {ys : List Int} (h : DoneC f n k ys) (hk : k < 9) : DoneC f n (k + 1) (ys.set k (corrN f n k)) := by
  obtain ⟨h1, h2⟩ := h
  refine ⟨by simpa using h1, fun j hj => ?_⟩
  by_cases e : j = k
  · subst e
    simp [nth, List.getD, h1, hk]
  · have := h2 j (by omega)
    simpa [nth, List.getD, List.getElem?_set, Ne.symm e] using this
theorem firstV_le {f : Nat → Int} (j : Nat) (hj : j < 9) : -firstV f 0 ≤ firstV f j ∧ firstV f j ≤ firstV f 0 := by
  have h := sum_le f j (by omega)
  have p := sq_nonneg f 120
  have e0 : sumN f 0 = sumTo f 0 120 := rfl
  unfold firstV
  rw [if_pos rfl]
  split <;> omega
theorem mv_bd {f : Nat → Int} {n : Nat} (h : Bits (firstV f 0) n) (j : Nat) (hj : j < 9) : -2147483648 ≤ mvN n (firstV f j) ∧ mvN n (firstV f j) ≤ 2147483648 := by
  obtain ⟨a, b⟩ := firstV_le (f := f) j hj
  have h1 := h.1
  generalize firstV f j = z at *
  generalize firstV f 0 = y at *
  unfold mvN
  split
  · rename_i hn
    have hp : (0 : Int) < 2 ^ (n - 31) := Int.pow_pos (by decide)
    have e : (2 : Int) ^ n = 2147483648 * 2 ^ (n - 31) := by
      rw [show (2147483648 : Int) = 2 ^ 31 by decide, ← Int.pow_add, show 31 + (n - 31) = n by omega]
    rw [e] at h1
    exact ⟨(Int.le_ediv_iff_mul_le hp).2 (by rw [Int.neg_mul]; omega), by
      have := Int.ediv_lt_of_lt_mul (a := z) (b := 2147483648) hp (by omega)
      omega⟩
  · rename_i hn
    have hp : (0 : Int) < 2 ^ (31 - n) := Int.pow_pos (by decide)
    have e : (2 : Int) ^ n * 2 ^ (31 - n) = 2147483648 := by
      rw [← Int.pow_add, show n + (31 - n) = 31 by omega]; decide
    have e1 : 0 ≤ (2 ^ n - z) * 2 ^ (31 - n) := Int.mul_nonneg (by omega) (by omega)
    have e2 : 0 ≤ (2 ^ n + z) * 2 ^ (31 - n) := Int.mul_nonneg (by omega) (by omega)
    rw [Int.sub_mul, e] at e1
    rw [Int.add_mul, e] at e2
    omega
def zeroAgg : Value := .agg #[.int .i64 0, .int .i64 0, .int .i64 0, .int .i64 0, .int .i64 0, .int .i64 0, .int .i64 0, .int .i64 0, .int .i64 0]
theorem bits_le {z : Int} {n m : Nat} (hz : 0 < z) (h : Bits z n) (k : Bits z m) : n ≤ m := by
  obtain ⟨_, _, h3⟩ := h
  obtain ⟨k1, _, _⟩ := k
  obtain ⟨a, b⟩ := h3 hz
  rcases Nat.lt_or_ge m n with g | g
  · have h1 : (2 : Nat) ^ m ≤ 2 ^ (n - 1) := Nat.pow_le_pow_right (by omega) (by omega)
    have e1 : ((2 ^ (n - 1) : Nat) : Int) = (2 : Int) ^ (n - 1) := by simp
    have e2 : ((2 ^ m : Nat) : Int) = (2 : Int) ^ m := by simp
    omega
  · exact g
theorem bits_unique {z : Int} {n m : Nat} (hz : 0 < z) (h : Bits z n) (k : Bits z m) : n = m := by
  have := bits_le hz h k
  have := bits_le hz k h
  omega
/-- The first sum as it was moved has just 31 bits. -/
theorem top_bd {f : Nat → Int} {n : Nat} (h : Bits (firstV f 0) n) (h1 : 1 ≤ n) : 1073741824 ≤ mvN n (firstV f 0) ∧ mvN n (firstV f 0) ≤ 2147483647 := by
  have p := first_pos (f := f)
  obtain ⟨b1, _, b3⟩ := h
  obtain ⟨_, b4⟩ := b3 (by omega)
  generalize firstV f 0 = z at *
  unfold mvN
  split
  · rename_i g
    obtain ⟨s, rfl⟩ : ∃ s, n = 31 + s := ⟨n - 31, by omega⟩
    rw [Nat.add_sub_cancel_left]
    have hp : (0 : Int) < 2 ^ s := Int.pow_pos (by decide)
    rw [show 31 + s - 1 = 30 + s by omega, Int.pow_add] at b4
    rw [Int.pow_add] at b1
    refine ⟨(Int.le_ediv_iff_mul_le hp).2 (by simpa using b4), ?_⟩
    have := Int.ediv_lt_of_lt_mul (a := z) (b := 2147483648) hp (by simpa using b1)
    omega
  · rename_i g
    obtain ⟨s, hs⟩ : ∃ s, 31 = n + s := ⟨31 - n, by omega⟩
    have e : 31 - n = s := by omega
    rw [e]
    have hp : (0 : Int) < 2 ^ s := Int.pow_pos (by decide)
    have e1 : (2 : Int) ^ n * 2 ^ s = 2147483648 := by rw [← Int.pow_add, ← hs]; rfl
    have e2 : (2 : Int) ^ (n - 1) * 2 ^ s = 1073741824 := by rw [← Int.pow_add, show n - 1 + s = 30 by omega]; rfl
    have q1 := Int.mul_le_mul_of_nonneg_right b4 (Int.le_of_lt hp)
    have q2 := Int.mul_lt_mul_of_pos_right b1 hp
    omega
theorem corrN_zero (f : Nat → Int) (n : Nat) : corrN f n 0 = mvN n (firstV f 0) := by simp [corrN]
end Go.Proofs.Ytjjpbleknbmmgab
