/- Plain arithmetic for package quant: widths, levels, the nearest level; no Go in sight. -/
import Derived.Test.YtilomkjjflcdjaaDoorMath
namespace Go.Proofs.YtilomkjjflcdjaaDoor
open Go.RowKit
set_option maxRecDepth 100000

def wids : List Int := [6, 6, 5, 5, 4, 4, 3, 3]
/-- How many bits the reflection i has. -/
def wid (i : Nat) : Nat := if i < 2 then 6 else if i < 4 then 5 else if i < 6 then 4 else 3
/-- How many numbers it has. -/
def many (b : Nat) : Nat := 2 ^ b
theorem wid_in (i : Nat) : wid i = 6 ∨ wid i = 5 ∨ wid i = 4 ∨ wid i = 3 := by unfold wid; split <;> (try split) <;> (try split) <;> simp
theorem wids_at (i : Nat) (h : i < 8) : wids.getD i 0 = (wid i : Int) := by
  have : ∀ i : Fin 8, wids.getD i.val 0 = (wid i.val : Int) := by decide
  exact this ⟨i, h⟩
/-- A level of the upper half. -/
def upL (M n : Int) : Int := 31000 - 31000 * (2 * (M - n) - 1) * (2 * (M - n) - 1) / (M * M)
def lvl (b : Nat) (n : Int) : Int := if 2 * n < (many b : Int) then -upL (many b) ((many b : Int) - 1 - n) else upL (many b) n
def okB (b : Nat) : Prop := b = 6 ∨ b = 5 ∨ b = 4 ∨ b = 3
theorem many_bd (b : Nat) (h : okB b) : 8 ≤ many b ∧ many b ≤ 64 := by rcases h with rfl | rfl | rfl | rfl <;> decide
theorem many_even (b : Nat) (h : okB b) : ∃ q : Nat, many b = 2 * q := ⟨many b / 2, by rcases h with rfl | rfl | rfl | rfl <;> decide⟩
theorem sq_bd (M r : Int) (h0 : 1 ≤ r) (h1 : r ≤ M) (h2 : 8 ≤ M) (h3 : M ≤ 64) : 0 ≤ 31000 * r * r / (M * M) ∧ 31000 * r * r / (M * M) ≤ 31000 ∧ 0 ≤ 31000 * r * r ∧ 31000 * r * r ≤ 126976000 ∧ 0 < M * M ∧ M * M ≤ 4096 := by
  have e1 : r * r ≤ M * M := Int.mul_le_mul h1 h1 (by omega) (by omega)
  have e2 : 0 ≤ r * r := Int.mul_nonneg (by omega) (by omega)
  have e3 : M * M ≤ 64 * 64 := Int.mul_le_mul h3 h3 (by omega) (by omega)
  have e4 : 8 * 8 ≤ M * M := Int.mul_le_mul h2 h2 (by omega) (by omega)
  rw [Int.mul_assoc]
  generalize r * r = x at *
  generalize M * M = y at *
  have d1 : 0 ≤ 31000 * x / y := Int.ediv_nonneg (by omega) (by omega)
  have d2 : 31000 * x / y ≤ 31000 := Int.ediv_le_of_le_mul (by omega) (by omega)
  omega
theorem upL_bd (b : Nat) (n : Int) (h : okB b) (h1 : (many b : Int) ≤ 2 * n) (h2 : n < many b) : 0 ≤ upL (many b) n ∧ upL (many b) n ≤ 31000 := by
  obtain ⟨m1, m2⟩ := many_bd b h
  obtain ⟨q, hq⟩ := many_even b h
  have := sq_bd (many b) (2 * ((many b : Int) - n) - 1) (by omega) (by omega) (by omega) (by omega)
  unfold upL
  omega
theorem lvl_bd (b : Nat) (n : Int) (h : okB b) (h1 : 0 ≤ n) (h2 : n < many b) : -31000 ≤ lvl b n ∧ lvl b n ≤ 31000 := by
  obtain ⟨q, hq⟩ := many_even b h
  unfold lvl
  split
  · have := upL_bd b ((many b : Int) - 1 - n) h (by omega) (by omega)
    omega
  · have := upL_bd b n h (by omega) (by omega)
    omega
theorem lvl_low (b : Nat) (n : Int) (h : 2 * n < many b) : lvl b n = -upL (many b) ((many b : Int) - 1 - n) := if_pos h
theorem lvl_high (b : Nat) (n : Int) (h : ¬2 * n < many b) : lvl b n = upL (many b) n := if_neg h
/-- Levels are even around nought. -/
theorem lvl_even (b : Nat) (n : Int) (h : okB b) : lvl b ((many b : Int) - 1 - n) = -lvl b n := by
  obtain ⟨q, hq⟩ := many_even b h
  by_cases hn : 2 * n < many b
  · rw [lvl_low b n hn, lvl_high b _ (by omega)]; omega
  · rw [lvl_high b n hn, lvl_low b _ (by omega), show (many b : Int) - 1 - ((many b : Int) - 1 - n) = n by omega]
theorem lvl_step6 : ∀ n : Fin 63, lvl 6 n.val < lvl 6 ((n.val : Int) + 1) := by decide
theorem lvl_step5 : ∀ n : Fin 31, lvl 5 n.val < lvl 5 ((n.val : Int) + 1) := by decide
theorem lvl_step4 : ∀ n : Fin 15, lvl 4 n.val < lvl 4 ((n.val : Int) + 1) := by decide
theorem lvl_step3 : ∀ n : Fin 7, lvl 3 n.val < lvl 3 ((n.val : Int) + 1) := by decide
/-- Levels rise. -/
theorem lvl_step (b n : Nat) (h : okB b) (hn : n + 1 < many b) : lvl b n < lvl b ((n : Int) + 1) := by
  rcases h with rfl | rfl | rfl | rfl
  · exact lvl_step6 ⟨n, by have : many 6 = 64 := rfl; omega⟩
  · exact lvl_step5 ⟨n, by have : many 5 = 32 := rfl; omega⟩
  · exact lvl_step4 ⟨n, by have : many 4 = 16 := rfl; omega⟩
  · exact lvl_step3 ⟨n, by have : many 3 = 8 := rfl; omega⟩
theorem lvl_rises (b n : Nat) (h : okB b) : ∀ d, n + d + 1 < many b → lvl b n < lvl b ((n + d + 1 : Nat) : Int)
  | 0, hd => lvl_step b n h hd
  | d + 1, hd => by
    have h1 := lvl_rises b n h d (by omega)
    have h2 := lvl_step b (n + d + 1) h (by omega)
    have e : ((n + (d + 1) + 1 : Nat) : Int) = ((n + d + 1 : Nat) : Int) + 1 := by omega
    rw [e]
    omega
theorem lvl_inj (b m n : Nat) (h : okB b) (hm : m < many b) (hn : n < many b) (he : lvl b m = lvl b n) : m = n := by
  rcases Nat.lt_trichotomy m n with hl | hl | hl
  · have := lvl_rises b m h (n - m - 1) (by omega)
    rw [show m + (n - m - 1) + 1 = n by omega] at this
    omega
  · exact hl
  · have := lvl_rises b n h (m - n - 1) (by omega)
    rw [show n + (m - n - 1) + 1 = m by omega] at this
    omega
/-- How far two numbers are apart. -/
def far (x y : Int) : Int := if x < y then y - x else x - y
def gap (b : Nat) (k : Int) (n : Nat) : Int := far (lvl b n) k
/-- The nearest of the first n levels; the smaller one of two. -/
def best (b : Nat) (k : Int) : Nat → Nat
  | 0 => 0
  | n + 1 => if gap b k n < gap b k (best b k n) then n else best b k n
theorem best_yes (b : Nat) (k : Int) (n : Nat) (h : gap b k n < gap b k (best b k n)) : best b k (n + 1) = n := if_pos h
theorem best_no (b : Nat) (k : Int) (n : Nat) (h : ¬gap b k n < gap b k (best b k n)) : best b k (n + 1) = best b k n := if_neg h
theorem best_one (b : Nat) (k : Int) : best b k 1 = 0 := by
  show (if gap b k 0 < gap b k 0 then 0 else 0) = 0
  split <;> rfl
theorem best_lt (b : Nat) (k : Int) : ∀ n, best b k (n + 1) ≤ n
  | 0 => by rw [best_one]; omega
  | n + 1 => by
    have := best_lt b k n
    show (if gap b k (n + 1) < gap b k (best b k (n + 1)) then n + 1 else best b k (n + 1)) ≤ n + 1
    split <;> omega
theorem best_in (b : Nat) (k : Int) (n m : Nat) (h : n ≤ m) (hm : 0 < m) : best b k n < m := by
  match n with
  | 0 => exact hm
  | n + 1 => have := best_lt b k n; omega
theorem best_near (b : Nat) (k : Int) : ∀ n m, m < n → gap b k (best b k n) ≤ gap b k m
  | 0, m, h => by omega
  | n + 1, m, h => by
    by_cases hg : gap b k n < gap b k (best b k n)
    · rw [best_yes b k n hg]
      by_cases hm : m = n
      · subst hm; omega
      · have := best_near b k n m (by omega); omega
    · rw [best_no b k n hg]
      by_cases hm : m = n
      · subst hm; omega
      · exact best_near b k n m (by omega)
def one (b : Nat) (k : Int) : Nat := best b k (many b)
theorem one_lt (b : Nat) (k : Int) (h : okB b) : one b k < many b := best_in b k _ _ (Nat.le_refl _) (by have := many_bd b h; omega)
theorem far_self (x : Int) : far x x = 0 := by unfold far; split <;> omega
theorem far_nn (x y : Int) : 0 ≤ far x y := by unfold far; split <;> omega
theorem far_zero (x y : Int) (h : far x y = 0) : x = y := by unfold far at h; split at h <;> omega
/-- A level's nearest number is its own. -/
theorem one_back (b n : Nat) (h : okB b) (hn : n < many b) : one b (lvl b n) = n := by
  have h1 := best_near b (lvl b n) (many b) n hn
  have h2 : gap b (lvl b n) n = 0 := far_self _
  have h3 := far_nn (lvl b (one b (lvl b n))) (lvl b n)
  have h4 : far (lvl b (one b (lvl b n))) (lvl b n) ≤ 0 := by rw [h2] at h1; exact h1
  exact lvl_inj b _ _ h (one_lt b _ h) hn (far_zero _ _ (by omega))
theorem far_sq (x y k : Int) (h : far x k ≤ far y k) : (x - k) * (x - k) ≤ (y - k) * (y - k) := by
  have e : ∀ z, (z - k) * (z - k) = far z k * far z k := by
    intro z
    unfold far
    split
    · rw [show z - k = -(k - z) by omega, Int.neg_mul_neg]
    · rfl
  rw [e, e]
  exact Int.mul_le_mul h h (far_nn _ _) (far_nn _ _)
/-- No level is nearer. -/
theorem one_near (b n : Nat) (k : Int) (hn : n < many b) : (lvl b (one b k) - k) * (lvl b (one b k) - k) ≤ (lvl b n - k) * (lvl b n - k) :=
  far_sq _ _ _ (best_near b k (many b) n hn)
theorem one_top : one 6 32000 = 63 := by decide
end Go.Proofs.YtilomkjjflcdjaaDoor
