/- Plain arithmetic for the program's package pack: bits laid one behind the other into bytes and taken out of them, bits that are set in a word; no Go in sight but for its words' bits. -/
import Derived.Test.YtjgdkinnpgiabaaDoorPackMath
import Derived.Test.YtjgdkinnpgiabaaDoorArrs
import Derived.Laws.BitsAllLaws
namespace Go.Proofs.YtjgdkinnpgiabaaDoor
open Go.RowKit
set_option linter.unusedVariables false
set_option linter.unusedSimpArgs false

theorem and256 (x m h l : Nat) (hl : l < 256) (hm : m = 256 * h + l) : x &&& m = 256 * (x / 256 &&& h) + (x % 256 &&& l) := by
  have e1 : (x &&& m) / 256 = (x / 256 &&& h) := by
    have := Nat.and_div_two_pow (a := x) (b := m) (n := 8)
    rw [show (2:Nat)^8 = 256 from rfl] at this
    rw [this, hm, show (256 * h + l) / 256 = h by omega]
  have e2 : (x &&& m) % 256 = (x % 256 &&& l) := by
    have := Nat.and_mod_two_pow (a := x) (b := m) (n := 8)
    rw [show (2:Nat)^8 = 256 from rfl] at this
    rw [this, hm, show (256 * h + l) % 256 = l by omega]
  omega
/-- Masks of k bytes. -/
def mkB (c : Nat) : Nat → Nat
  | 0 => 0
  | k + 1 => 256 * mkB c k + c
def stA (k x : Nat) : Nat := (x / 2 &&& mkB 85 k) + (x &&& mkB 85 k)
def stB (k x : Nat) : Nat := (x / 4 &&& mkB 51 k) + (x &&& mkB 51 k)
def stC (k x : Nat) : Nat := x / 16 + x &&& mkB 15 k
def a8 (l : Nat) : Nat := (l / 2 &&& 85) + (l &&& 85)
def b8 (l : Nat) : Nat := (l / 4 &&& 51) + (l &&& 51)
def c8 (l : Nat) : Nat := l / 16 + l &&& 15
def pc8 (l : Nat) : Nat := l % 2 + l / 2 % 2 + l / 4 % 2 + l / 8 % 2 + l / 16 % 2 + l / 32 % 2 + l / 64 % 2 + l / 128 % 2
theorem a8_bd (l : Nat) (h : l < 256) : a8 l < 256 := by
  have : ∀ l : Fin 256, a8 l.val < 256 := by decide +kernel
  exact this ⟨l, h⟩
theorem b8_bd (l : Nat) (h : l < 256) : b8 l < 112 ∧ b8 l % 16 ≤ 6 := by
  have : ∀ l : Fin 256, b8 l.val < 112 ∧ b8 l.val % 16 ≤ 6 := by decide +kernel
  exact this ⟨l, h⟩
theorem c8_of (l : Nat) (h : l < 256) : c8 (b8 (a8 l)) = pc8 l ∧ pc8 l ≤ 8 := by
  have : ∀ l : Fin 256, c8 (b8 (a8 l.val)) = pc8 l.val ∧ pc8 l.val ≤ 8 := by decide +kernel
  exact this ⟨l, h⟩
theorem and85 (l : Nat) (h : l < 256) : l &&& 85 = l % 128 &&& 85 := by
  have : ∀ l : Fin 256, l.val &&& 85 = l.val % 128 &&& 85 := by decide +kernel
  exact this ⟨l, h⟩
theorem and51 (l : Nat) (h : l < 256) : l &&& 51 = l % 64 &&& 51 := by
  have : ∀ l : Fin 256, l.val &&& 51 = l.val % 64 &&& 51 := by decide +kernel
  exact this ⟨l, h⟩
theorem and15 (l : Nat) (h : l < 256) : l &&& 15 = l % 16 := by
  have : ∀ l : Fin 256, l.val &&& 15 = l.val % 16 := by decide +kernel
  exact this ⟨l, h⟩
theorem stA_step (k x : Nat) : stA (k + 1) x = 256 * stA k (x / 256) + a8 (x % 256) := by
  unfold stA a8
  rw [and256 (x / 2) (mkB 85 (k + 1)) (mkB 85 k) 85 (by decide) rfl, and256 x (mkB 85 (k + 1)) (mkB 85 k) 85 (by decide) rfl]
  rw [show x / 2 / 256 = x / 256 / 2 by omega, and85 (x / 2 % 256) (by omega), show x / 2 % 256 % 128 = x % 256 / 2 by omega]
  omega
theorem stB_step (k x : Nat) : stB (k + 1) x = 256 * stB k (x / 256) + b8 (x % 256) := by
  unfold stB b8
  rw [and256 (x / 4) (mkB 51 (k + 1)) (mkB 51 k) 51 (by decide) rfl, and256 x (mkB 51 (k + 1)) (mkB 51 k) 51 (by decide) rfl]
  rw [show x / 4 / 256 = x / 256 / 4 by omega, and51 (x / 4 % 256) (by omega), show x / 4 % 256 % 64 = x % 256 / 4 by omega]
  omega
theorem stC_step (k h l : Nat) (hl : l < 112) (h6 : l % 16 ≤ 6) (hh : h % 16 ≤ 6) : stC (k + 1) (256 * h + l) = 256 * stC k h + c8 l := by
  unfold stC c8
  rw [and256 _ (mkB 15 (k + 1)) (mkB 15 k) 15 (by decide) rfl]
  have e1 : ((256 * h + l) / 16 + (256 * h + l)) / 256 = h / 16 + h := by omega
  rw [e1, and15 _ (by omega), and15 (l / 16 + l) (by omega)]
  have e2 : ((256 * h + l) / 16 + (256 * h + l)) % 256 % 16 = (l / 16 + l) % 16 := by omega
  omega
def onF : Nat → Nat → Nat
  | 0, _ => 0
  | k + 1, x => 256 * onF k (x / 256) + pc8 (x % 256)
theorem stB6 (k x : Nat) : stB k x % 16 ≤ 6 := by
  cases k with
  | zero => show ((x / 4 &&& 0) + (x &&& 0)) % 16 ≤ 6; simp
  | succ k =>
    rw [stB_step]
    have := b8_bd (x % 256) (by omega)
    omega
theorem onF_of : ∀ k x, stC k (stB k (stA k x)) = onF k x
  | 0, x => by show _ &&& 0 = 0; simp
  | k + 1, x => by
    have ha := a8_bd (x % 256) (by omega)
    have hb := b8_bd (a8 (x % 256)) ha
    have hc := c8_of (x % 256) (by omega)
    rw [stA_step, stB_step]
    rw [show (256 * stA k (x / 256) + a8 (x % 256)) / 256 = stA k (x / 256) by omega, show (256 * stA k (x / 256) + a8 (x % 256)) % 256 = a8 (x % 256) by omega]
    rw [stC_step k _ _ hb.1 hb.2 (stB6 k _), onF_of k, hc.1]
    rfl
/-- Bits that are set below 2^(8k). -/
def onS : Nat → Nat → Nat
  | 0, _ => 0
  | k + 1, x => onS k (x / 256) + pc8 (x % 256)
theorem on_sum (x : Nat) : ∃ z u v, onF 8 x + onF 8 x / 256 = z ∧ z + z / 65536 = u ∧ u + u / 4294967296 = v ∧ onF 8 x < 2 ^ 62 ∧ z < 2 ^ 62 ∧ u < 2 ^ 62 ∧ v < 2 ^ 62 ∧ v % 128 = onS 8 x := by
  have b0 := (c8_of (x % 256) (by omega)).2
  have b1 := (c8_of (x / 256 % 256) (by omega)).2
  have b2 := (c8_of (x / 256 / 256 % 256) (by omega)).2
  have b3 := (c8_of (x / 256 / 256 / 256 % 256) (by omega)).2
  have b4 := (c8_of (x / 256 / 256 / 256 / 256 % 256) (by omega)).2
  have b5 := (c8_of (x / 256 / 256 / 256 / 256 / 256 % 256) (by omega)).2
  have b6 := (c8_of (x / 256 / 256 / 256 / 256 / 256 / 256 % 256) (by omega)).2
  have b7 := (c8_of (x / 256 / 256 / 256 / 256 / 256 / 256 / 256 % 256) (by omega)).2
  simp only [onF, onS]
  generalize pc8 (x % 256) = c0 at *
  generalize pc8 (x / 256 % 256) = c1 at *
  generalize pc8 (x / 256 / 256 % 256) = c2 at *
  generalize pc8 (x / 256 / 256 / 256 % 256) = c3 at *
  generalize pc8 (x / 256 / 256 / 256 / 256 % 256) = c4 at *
  generalize pc8 (x / 256 / 256 / 256 / 256 / 256 % 256) = c5 at *
  generalize pc8 (x / 256 / 256 / 256 / 256 / 256 / 256 % 256) = c6 at *
  generalize pc8 (x / 256 / 256 / 256 / 256 / 256 / 256 / 256 % 256) = c7 at *
  refine ⟨_, _, _, rfl, rfl, rfl, ?_⟩
  rw [show (256 * (256 * (256 * (256 * (256 * (256 * (256 * (256 * 0 + c7) + c6) + c5) + c4) + c3) + c2) + c1) + c0) / 256 = 256 * (256 * (256 * (256 * (256 * (256 * c7 + c6) + c5) + c4) + c3) + c2) + c1 by omega]
  rw [show (256 * (256 * (256 * (256 * (256 * (256 * (256 * (256 * 0 + c7) + c6) + c5) + c4) + c3) + c2) + c1) + c0 + (256 * (256 * (256 * (256 * (256 * (256 * c7 + c6) + c5) + c4) + c3) + c2) + c1)) / 65536 = 256 * (256 * (256 * (256 * (256 * c7 + (c6 + c7)) + (c5 + c6)) + (c4 + c5)) + (c3 + c4)) + (c2 + c3) by omega]
  rw [show (256 * (256 * (256 * (256 * (256 * (256 * (256 * (256 * 0 + c7) + c6) + c5) + c4) + c3) + c2) + c1) + c0 + (256 * (256 * (256 * (256 * (256 * (256 * c7 + c6) + c5) + c4) + c3) + c2) + c1) + (256 * (256 * (256 * (256 * (256 * c7 + (c6 + c7)) + (c5 + c6)) + (c4 + c5)) + (c3 + c4)) + (c2 + c3))) / 4294967296 = 256 * (256 * (256 * c7 + (c6 + c7)) + (c5 + c6 + c7)) + (c4 + c5 + c6 + c7) by omega]
  refine ⟨by omega, by omega, by omega, by omega, ?_⟩
  omega
theorem bitS8 (x : Nat) : bitS (x : Int) 8 = (pc8 (x % 256) : Int) := by
  show 0 + (x : Int) / 1 % 2 + (x : Int) / 2 % 2 + (x : Int) / 4 % 2 + (x : Int) / 8 % 2 + (x : Int) / 16 % 2 + (x : Int) / 32 % 2 + (x : Int) / 64 % 2 + (x : Int) / 128 % 2 = _
  unfold pc8
  omega
theorem bitS_low (x : Nat) : ∀ n : Nat, bitS (x : Int) (n + 8) = (pc8 (x % 256) : Int) + bitS ((x / 256 : Nat) : Int) n
  | 0 => by rw [Nat.zero_add, bitS8]; show _ = _ + (0 : Int); omega
  | n + 1 => by
    show bitS (x : Int) (n + 8) + (x : Int) / 2 ^ (n + 8) % 2 = _ + (bitS ((x / 256 : Nat) : Int) n + ((x / 256 : Nat) : Int) / 2 ^ n % 2)
    rw [bitS_low x n, Nat.add_comm n 8, Int.pow_add, ← Int.ediv_ediv_of_nonneg (by decide)]
    rw [show (x : Int) / 2 ^ 8 = ((x / 256 : Nat) : Int) by rw [show (2 : Int) ^ 8 = 256 by decide]; omega]
    omega
theorem bitS_on (x : Nat) : bitS (x : Int) 64 = (onS 8 x : Int) := by
  rw [show 64 = 56 + 8 from rfl, bitS_low, show 56 = 48 + 8 from rfl, bitS_low, show 48 = 40 + 8 from rfl, bitS_low, show 40 = 32 + 8 from rfl, bitS_low, show 32 = 24 + 8 from rfl, bitS_low, show 24 = 16 + 8 from rfl, bitS_low, show 16 = 8 + 8 from rfl, bitS_low, bitS8]
  simp only [onS]
  omega
theorem bitS_63 (x : Int) (h0 : 0 ≤ x) (h1 : x < 9223372036854775808) : bitS x 64 = bitS x 63 := by
  show bitS x 63 + x / 2 ^ 63 % 2 = bitS x 63
  rw [show (2 : Int) ^ 63 = 9223372036854775808 by decide]
  omega
/-- What byte k holds when n bits, the number N, are laid. -/
def layB (n : Nat) (N : Int) (k : Nat) : Int := if 8 * (k + 1) ≤ n then N / 2 ^ (n - 8 * (k + 1)) % 256 else if 8 * k ≤ n then N % 2 ^ (n - 8 * k) * 2 ^ (8 - (n - 8 * k)) else 0
def Lay (n : Nat) (N : Int) (B : List Int) : Prop := B.length = 15 ∧ ∀ k, k < 15 → nth B k = layB n N k
theorem Lay_zero : Lay 0 0 (zeros 15) := ⟨zeros_len 15, fun k hk => by
  rw [zeros_nth]
  unfold layB
  rw [if_neg (by omega)]
  split
  · simp
  · rfl⟩
theorem hlf_pow (N c : Int) (c0 : 0 ≤ c) (c1 : c < 2) (m : Nat) : (2 * N + c) / 2 ^ (m + 1) = N / 2 ^ m := by
  rw [Int.pow_succ, Int.mul_comm (2 ^ m) 2, ← Int.ediv_ediv_of_nonneg (by decide), show (2 * N + c) / 2 = N by omega]
theorem mod_pow (N c : Int) (c0 : 0 ≤ c) (c1 : c < 2) (m : Nat) : (2 * N + c) % 2 ^ (m + 1) = 2 * (N % 2 ^ m) + c := by
  have hp := p2_pos m
  have e := Int.mul_ediv_add_emod N (2 ^ m)
  have b0 := Int.emod_nonneg N (Int.ne_of_gt hp)
  have b1 := Int.emod_lt_of_pos N hp
  rw [Int.pow_succ]
  generalize (2 : Int) ^ m = P at *
  generalize N % P = r at *
  generalize N / P = q at *
  rw [show 2 * N + c = 2 * r + c + (P * 2) * q by rw [← e, Int.mul_add, Int.mul_comm P 2, Int.mul_assoc]; omega]
  rw [Int.add_mul_emod_self_left]
  exact Int.emod_eq_of_lt (by omega) (by omega)
/-- A byte that is not full: what stands in it ends in noughts. -/
theorem lay_or (n : Nat) (N : Int) (hn : n < 120) : ∃ y, layB n N (n / 8) = y * 2 ^ (8 - n % 8) ∧ 0 ≤ y ∧ y < 2 ^ (n % 8) := by
  unfold layB
  rw [if_neg (by omega), if_pos (by omega), show n - 8 * (n / 8) = n % 8 by omega]
  exact ⟨_, rfl, Int.emod_nonneg _ (Int.ne_of_gt (p2_pos _)), Int.emod_lt_of_pos _ (p2_pos _)⟩
theorem lay_step {n : Nat} {N : Int} {B : List Int} (h : Lay n N B) (hn : n < 120) (c : Int) (c0 : 0 ≤ c) (c1 : c < 2) : Lay (n + 1) (2 * N + c) (B.set (n / 8) (nth B (n / 8) + c * 2 ^ (7 - n % 8))) := by
  obtain ⟨hl, hb⟩ := h
  refine ⟨by rw [List.length_set, hl], fun k hk => ?_⟩
  rw [nth_set _ _ _ (by omega)]
  by_cases e : k = n / 8
  · subst e
    rw [if_pos rfl, hb _ hk]
    unfold layB
    rw [if_neg (by omega), if_pos (by omega), show n - 8 * (n / 8) = n % 8 by omega]
    by_cases e7 : n % 8 = 7
    · rw [if_pos (by omega), e7, show n + 1 - 8 * (n / 8 + 1) = 0 by omega]
      rw [show (2 : Int) ^ 0 = 1 from rfl, Int.ediv_one, show (256 : Int) = 2 ^ (7 + 1) from rfl, mod_pow N c c0 c1]
      rw [show (2 : Int) ^ (8 - 7) = 2 from rfl]
      omega
    · rw [if_neg (by omega), if_pos (by omega), show n + 1 - 8 * (n / 8) = n % 8 + 1 by omega, mod_pow N c c0 c1]
      rw [show 8 - n % 8 = (7 - n % 8) + 1 by omega, show 8 - (n % 8 + 1) = 7 - n % 8 by omega, Int.pow_succ, Int.add_mul]
      rw [Int.mul_comm (2 ^ (7 - n % 8)) 2, ← Int.mul_assoc, Int.mul_comm (N % 2 ^ (n % 8)) 2]
  · rw [if_neg e, hb _ hk]
    unfold layB
    by_cases e1 : 8 * (k + 1) ≤ n
    · rw [if_pos e1, if_pos (by omega), show n + 1 - 8 * (k + 1) = n - 8 * (k + 1) + 1 by omega, hlf_pow N c c0 c1]
    · rw [if_neg e1, if_neg (by omega), if_neg (by omega)]
      by_cases e2 : 8 * (k + 1) ≤ n + 1
      · omega
      · by_cases e3 : 8 * k ≤ n + 1
        · rw [if_pos e3, show n + 1 - 8 * k = 0 by omega, show (2 : Int) ^ 0 = 1 from rfl, Int.emod_one, Int.zero_mul]
        · rw [if_neg e3]
/-- The bits of a number, the highest first. -/
def putN (N : Int) (w : Nat) (x : Int) (j : Nat) : Int := N * 2 ^ j + x / 2 ^ (w - j)
theorem putN_zero (N : Int) (w : Nat) (x : Int) (h0 : 0 ≤ x) (h1 : x < 2 ^ w) : putN N w x 0 = N := by
  unfold putN
  rw [show (2 : Int) ^ 0 = 1 from rfl, Nat.sub_zero, Int.ediv_eq_zero_of_lt h0 h1]
  omega
theorem putN_step (N : Int) (w : Nat) (x : Int) (j : Nat) (hj : j < w) : putN N w x (j + 1) = 2 * putN N w x j + x / 2 ^ (w - 1 - j) % 2 := by
  unfold putN
  rw [Int.pow_succ, show w - j = (w - 1 - j) + 1 by omega, show w - (j + 1) = w - 1 - j by omega, Int.pow_succ, ← Int.ediv_ediv_of_nonneg (Int.le_of_lt (p2_pos _)), Int.mul_add]
  rw [← Int.mul_assoc, Int.mul_comm (N * 2 ^ j) 2, ← Int.mul_assoc]
  generalize x / 2 ^ (w - 1 - j) = y
  omega
theorem putN_end (N : Int) (w : Nat) (x : Int) : putN N w x w = N * 2 ^ w + x := by
  unfold putN
  rw [Nat.sub_self, show (2 : Int) ^ 0 = 1 from rfl, Int.ediv_one]
/-- Bit n of a number of 112 bits, and the bits behind it. -/
def takN (X : Int) (n j : Nat) : Int := X / 2 ^ (112 - n - j) % 2 ^ j
theorem takN_zero (X : Int) (n : Nat) : takN X n 0 = 0 := by
  unfold takN
  rw [show (2 : Int) ^ 0 = 1 from rfl, Int.emod_one]
theorem takN_bd (X : Int) (n j : Nat) : 0 ≤ takN X n j ∧ takN X n j < 2 ^ j := ⟨Int.emod_nonneg _ (Int.ne_of_gt (p2_pos _)), Int.emod_lt_of_pos _ (p2_pos _)⟩
theorem takN_step (X : Int) (n j : Nat) (h : n + j < 112) : takN X n (j + 1) = 2 * takN X n j + X / 2 ^ (111 - (n + j)) % 2 := by
  unfold takN
  rw [show 112 - n - (j + 1) = 111 - (n + j) by omega, show 112 - n - j = 111 - (n + j) + 1 by omega, Int.pow_succ 2 (111 - (n + j)), ← Int.ediv_ediv_of_nonneg (Int.le_of_lt (p2_pos _))]
  generalize X / 2 ^ (111 - (n + j)) = Y
  have := mod_pow (Y / 2) (Y % 2) (by omega) (by omega) j
  rw [show 2 * (Y / 2) + Y % 2 = Y by omega] at this
  exact this
theorem bit_of (Z : Int) (r : Nat) (hr : r < 8) : Z % 256 / 2 ^ r % 2 = Z / 2 ^ r % 2 := by
  match r, hr with
  | 0, _ => show Z % 256 / 1 % 2 = Z / 1 % 2; omega
  | 1, _ => show Z % 256 / 2 % 2 = Z / 2 % 2; omega
  | 2, _ => show Z % 256 / 4 % 2 = Z / 4 % 2; omega
  | 3, _ => show Z % 256 / 8 % 2 = Z / 8 % 2; omega
  | 4, _ => show Z % 256 / 16 % 2 = Z / 16 % 2; omega
  | 5, _ => show Z % 256 / 32 % 2 = Z / 32 % 2; omega
  | 6, _ => show Z % 256 / 64 % 2 = Z / 64 % 2; omega
  | 7, _ => show Z % 256 / 128 % 2 = Z / 128 % 2; omega
theorem byte_bit (X : Int) (n : Nat) (hn : n < 112) : X / 256 ^ (13 - n / 8) % 256 / 2 ^ (7 - n % 8) % 2 = X / 2 ^ (111 - n) % 2 := by
  rw [bit_of _ _ (by omega), show (256 : Int) = 2 ^ 8 from rfl, ← Int.pow_mul, Int.ediv_ediv_of_nonneg (Int.le_of_lt (p2_pos _)), ← Int.pow_add, show 8 * (13 - n / 8) + (7 - n % 8) = 111 - n by omega]

theorem layB_bd (n : Nat) (N : Int) (k : Nat) : 0 ≤ layB n N k ∧ layB n N k < 256 := by
  unfold layB
  split
  · omega
  · split
    · next h1 h2 =>
      have hp := p2_pos (n - 8 * k)
      have b0 := Int.emod_nonneg N (Int.ne_of_gt hp)
      have b1 := Int.emod_lt_of_pos N hp
      have hq := p2_pos (8 - (n - 8 * k))
      have e : (2 : Int) ^ (n - 8 * k) * 2 ^ (8 - (n - 8 * k)) = 256 := by
        rw [← Int.pow_add, show n - 8 * k + (8 - (n - 8 * k)) = 8 by omega]; rfl
      refine ⟨Int.mul_nonneg b0 (Int.le_of_lt hq), ?_⟩
      rw [← e]
      exact Int.mul_lt_mul_of_pos_right b1 hq
    · omega
theorem Lay.bd {n : Nat} {N : Int} {B : List Int} (h : Lay n N B) (k : Nat) : 0 ≤ nth B k ∧ nth B k < 256 := by
  by_cases hk : k < 15
  · rw [h.2 k hk]; exact layB_bd n N k
  · rw [getD_out _ k (by rw [h.1]; omega)]; omega
theorem orF : ∀ r : Fin 8, ∀ x : Fin 256, ∀ c : Fin 2, (x.val : Int) % 2 ^ (8 - r.val) = 0 → bits BinOp.or IntKind.u8 (x.val : Int) ((c.val : Int) * 2 ^ (7 - r.val)) = (x.val : Int) + (c.val : Int) * 2 ^ (7 - r.val) := by decide +kernel
theorem lay_bits {n : Nat} {N : Int} {B : List Int} (h : Lay n N B) (hn : n < 120) (c : Int) (c0 : 0 ≤ c) (c1 : c < 2) : bits BinOp.or IntKind.u8 (nth B (n / 8)) (c * 2 ^ (7 - n % 8)) = nth B (n / 8) + c * 2 ^ (7 - n % 8) := by
  have hb := h.bd (n / 8)
  have hy : nth B (n / 8) % 2 ^ (8 - n % 8) = 0 := by
    rw [h.2 _ (by omega)]
    obtain ⟨y, e, _, _⟩ := lay_or n N hn
    rw [e, Int.mul_emod_left]
  have := orF ⟨n % 8, by omega⟩ ⟨(nth B (n / 8)).toNat, by omega⟩ ⟨c.toNat, by omega⟩
  simp only [Int.toNat_of_nonneg hb.1, Int.toNat_of_nonneg c0] at this
  exact this hy
theorem shlF : ∀ r : Fin 8, ∀ c : Fin 2, (c.val : Int) * 2 ^ r.val % 256 = (c.val : Int) * 2 ^ r.val ∧ (c.val : Int) * 2 ^ r.val ≤ 128 := by decide +kernel
theorem shl_bit (r : Nat) (hr : r < 8) (c : Int) (c0 : 0 ≤ c) (c1 : c < 2) : c * 2 ^ r % 256 = c * 2 ^ r ∧ 0 ≤ c * 2 ^ r ∧ c * 2 ^ r ≤ 128 := by
  have := shlF ⟨r, hr⟩ ⟨c.toNat, by omega⟩
  simp only [Int.toNat_of_nonneg c0] at this
  exact ⟨this.1, Int.mul_nonneg c0 (Int.le_of_lt (p2_pos r)), this.2⟩
theorem and1I : ∀ q : Fin 256, bits BinOp.and IntKind.i64 (q.val : Int) 1 = (q.val : Int) % 2 := by decide +kernel
theorem and1B : ∀ q : Fin 256, bits BinOp.and IntKind.u8 (q.val : Int) 1 = (q.val : Int) % 2 := by decide +kernel
theorem and255F : ∀ h : Fin 16, ∀ q : Fin 256, bits BinOp.and IntKind.i64 (256 * (h.val : Int) + (q.val : Int)) 255 = (q.val : Int) := by decide +kernel
theorem or1F : ∀ x : Fin 64, ∀ c : Fin 2, bits BinOp.or IntKind.i64 (2 * (x.val : Int)) (c.val : Int) = 2 * (x.val : Int) + (c.val : Int) := by decide +kernel
theorem and_i (x : Int) (h0 : 0 ≤ x) (h1 : x < 256) : bits BinOp.and IntKind.i64 x 1 = x % 2 := by
  have := and1I ⟨x.toNat, by omega⟩
  simpa only [Int.toNat_of_nonneg h0] using this
theorem and_b (x : Int) (h0 : 0 ≤ x) (h1 : x < 256) : bits BinOp.and IntKind.u8 x 1 = x % 2 := by
  have := and1B ⟨x.toNat, by omega⟩
  simpa only [Int.toNat_of_nonneg h0] using this
theorem and_255 (x : Int) (h0 : 0 ≤ x) (h1 : x < 4096) : bits BinOp.and IntKind.i64 x 255 = x % 256 := by
  have := and255F ⟨(x / 256).toNat, by omega⟩ ⟨(x % 256).toNat, by omega⟩
  simp only [Int.toNat_of_nonneg (show 0 ≤ x / 256 by omega), Int.toNat_of_nonneg (show 0 ≤ x % 256 by omega)] at this
  rw [show 256 * (x / 256) + x % 256 = x by omega] at this
  exact this
theorem or_i (x c : Int) (h0 : 0 ≤ x) (h1 : x < 64) (c0 : 0 ≤ c) (c1 : c < 2) : bits BinOp.or IntKind.i64 (2 * x) c = 2 * x + c := by
  have := or1F ⟨x.toNat, by omega⟩ ⟨c.toNat, by omega⟩
  simpa only [Int.toNat_of_nonneg h0, Int.toNat_of_nonneg c0] using this
theorem dvb_bd (x : Int) (h0 : 0 ≤ x) (h1 : x < 256) (m : Nat) : 0 ≤ x / 2 ^ m ∧ x / 2 ^ m < 256 := by
  have hp := p2_pos m
  refine ⟨Int.ediv_nonneg h0 (Int.le_of_lt hp), ?_⟩
  have := Int.ediv_le_self (2 ^ m) h0
  omega
/-- The bytes when all is laid. -/
theorem lay_lo {N : Int} {B : List Int} (h : Lay 112 N B) (k : Nat) (hk : k < 14) : nth B k = byN N k := by
  rw [h.2 k (by omega)]
  unfold layB byN
  rw [if_pos (by omega), show (256 : Int) = 2 ^ 8 from rfl, ← Int.pow_mul, show 112 - 8 * (k + 1) = 8 * (13 - k) by omega]
theorem lay_sum {N : Int} {B : List Int} (h : Lay 112 N B) : chN B 14 = chN (pkL N) 14 := by
  unfold chN
  rw [sumB_congr B (pkL N) 14 (fun i hi => by rw [lay_lo h i hi, pkL_nth _ _ hi])]
theorem lay_end {l : List Int} {B : List Int} (h : Lay 120 (numP l * 2 ^ 8 + chN (pkL (numP l)) 14) B) : B = pkA l := by
  have s0 : 0 ≤ chN (pkL (numP l)) 14 ∧ chN (pkL (numP l)) 14 < 256 := by unfold chN; omega
  have t1 := tab_ext (p := nth (pkA l)) h.1 (fun k hk => by
    rw [h.2 k hk]
    unfold layB
    rw [if_pos (by omega)]
    by_cases e : k = 14
    · subst e
      rw [show 120 - 8 * (14 + 1) = 0 from rfl, show (2 : Int) ^ 0 = 1 from rfl, Int.ediv_one, show (2 : Int) ^ 8 = 256 from rfl, pkA_hi]
      have e2 : chN (pkA l) 14 = chN (pkL (numP l)) 14 := by
        unfold chN
        rw [sumB_congr (pkA l) (pkL (numP l)) 14 (fun i hi => by rw [pkA_lo l i hi, pkL_nth _ _ hi])]
      rw [e2]
      omega
    · rw [pkA_lo l k (by omega), show 120 - 8 * (k + 1) = 8 + 8 * (13 - k) by omega, Int.pow_add, ← Int.ediv_ediv_of_nonneg (by decide), show (2 : Int) ^ 8 = 256 from rfl, show (numP l * 256 + chN (pkL (numP l)) 14) / 256 = numP l by omega]
      unfold byN
      rw [show (256 : Int) = 2 ^ 8 from rfl, ← Int.pow_mul])
  have t2 := tab_ext (p := nth (pkA l)) (pkA_len l) (fun i _ => rfl)
  rw [t1, ← t2]
theorem nF_next (l : List Int) (i : Nat) : nF l (i + 1) = nF l i * 2 ^ wdN i + nth l i := rfl
theorem sW_next (i : Nat) : sW (i + 1) = sW i + wdN i := rfl
theorem tak_field (X : Int) (i : Nat) : takN X (sW i) (wdN i) = fI X i := by
  unfold takN fI
  rw [sW_next, Nat.sub_sub]
theorem tak_par (X : Int) : takN X 106 1 = pB X := by
  show X / 2 ^ 5 % 2 ^ 1 = X / 32 % 2
  rw [show (2 : Int) ^ 5 = 32 from rfl, show (2 : Int) ^ 1 = 2 from rfl]
theorem tak_spare (X : Int) : takN X 107 5 = X % 32 := by
  show X / 2 ^ 0 % 2 ^ 5 = X % 32
  rw [show (2 : Int) ^ 5 = 32 from rfl, show (2 : Int) ^ 0 = 1 from rfl, Int.ediv_one]
theorem bit_at (b : List Int) (hb : byB b) (n : Nat) (hn : n < 112) : nth b (n / 8) / 2 ^ (7 - n % 8) % 2 = xB b 14 / 2 ^ (111 - n) % 2 := by
  rw [← byte_bit (xB b 14) n hn, ← byN_xB b hb (n / 8) (by omega)]
  rfl
/-- Bits that are set in a word, as the library counts them. -/
theorem pc_word (x : Int) (h0 : 0 ≤ x) (h1 : x < 9223372036854775808) : ∃ a b y z u v : Int,
    bits BinOp.and IntKind.u64 (x / 2) 6148914691236517205 + bits BinOp.and IntKind.u64 x 6148914691236517205 = a ∧ 0 ≤ a ∧ a < 18446744073709551616 ∧
    bits BinOp.and IntKind.u64 (a / 4) 3689348814741910323 + bits BinOp.and IntKind.u64 a 3689348814741910323 = b ∧ 0 ≤ b ∧ b < 18446744073709551616 ∧
    b / 16 + b < 18446744073709551616 ∧ bits BinOp.and IntKind.u64 (b / 16 + b) 1085102592571150095 = y ∧ y + y / 256 = z ∧ z + z / 65536 = u ∧ u + u / 4294967296 = v ∧ 0 ≤ y ∧ y < 4611686018427387904 ∧ 0 ≤ z ∧ z < 4611686018427387904 ∧ 0 ≤ u ∧ u < 4611686018427387904 ∧ 0 ≤ v ∧ v < 4611686018427387904 ∧ v % 128 = bitS x 63 := by
  obtain ⟨X, rfl⟩ := Int.eq_ofNat_of_zero_le h0
  have m0 : mkB 85 8 = 6148914691236517205 := by decide
  have m1 : mkB 51 8 = 3689348814741910323 := by decide
  have m2 : mkB 15 8 = 1085102592571150095 := by decide
  have A1 : (X / 2 &&& 6148914691236517205) ≤ 6148914691236517205 := Nat.and_le_right
  have A2 : (X &&& 6148914691236517205) ≤ 6148914691236517205 := Nat.and_le_right
  have eA : stA 8 X = (X / 2 &&& 6148914691236517205) + (X &&& 6148914691236517205) := by unfold stA; rw [m0]
  have B1 : (stA 8 X / 4 &&& 3689348814741910323) ≤ 3689348814741910323 := Nat.and_le_right
  have B2 : (stA 8 X &&& 3689348814741910323) ≤ 3689348814741910323 := Nat.and_le_right
  have eB : stB 8 (stA 8 X) = (stA 8 X / 4 &&& 3689348814741910323) + (stA 8 X &&& 3689348814741910323) := by unfold stB; rw [m1]
  have eC : stC 8 (stB 8 (stA 8 X)) = (stB 8 (stA 8 X) / 16 + stB 8 (stA 8 X) &&& 1085102592571150095) := by unfold stC; rw [m2]
  obtain ⟨z, u, v, e1, e2, e3, b0, b1, b2, b3, e4⟩ := on_sum X
  rw [← bitS_63 _ h0 h1, bitS_on, ← e4]
  rw [← onF_of] at e1 b0
  refine ⟨(stA 8 X : Int), (stB 8 (stA 8 X) : Int), (stC 8 (stB 8 (stA 8 X)) : Int), (z : Int), (u : Int), (v : Int), ?_, by omega, by omega, ?_, by omega, by omega, by omega, ?_, by omega, by omega, by omega, by omega, by omega, by omega, by omega, by omega, by omega, by omega, by omega, by omega⟩
  · have p := u64_and_nat (X / 2) 6148914691236517205 (by omega) (by decide)
    have q := u64_and_nat X 6148914691236517205 (by omega) (by decide)
    rw [eA]
    rw [show ((X / 2 : Nat) : Int) = (X : Int) / 2 by omega] at p
    show bits BinOp.and IntKind.u64 ((X : Int) / 2) ((6148914691236517205 : Nat) : Int) + bits BinOp.and IntKind.u64 (X : Int) ((6148914691236517205 : Nat) : Int) = _
    rw [p, q]
    omega
  · have p := u64_and_nat (stA 8 X / 4) 3689348814741910323 (by omega) (by decide)
    have q := u64_and_nat (stA 8 X) 3689348814741910323 (by omega) (by decide)
    rw [eB]
    rw [show ((stA 8 X / 4 : Nat) : Int) = (stA 8 X : Int) / 4 by omega] at p
    show bits BinOp.and IntKind.u64 ((stA 8 X : Int) / 4) ((3689348814741910323 : Nat) : Int) + bits BinOp.and IntKind.u64 (stA 8 X : Int) ((3689348814741910323 : Nat) : Int) = _
    rw [p, q]
    omega
  · have p := u64_and_nat (stB 8 (stA 8 X) / 16 + stB 8 (stA 8 X)) 1085102592571150095 (by omega) (by decide)
    rw [eC]
    rw [show ((stB 8 (stA 8 X) / 16 + stB 8 (stA 8 X) : Nat) : Int) = (stB 8 (stA 8 X) : Int) / 16 + (stB 8 (stA 8 X) : Int) by omega] at p
    exact p
end Go.Proofs.YtjgdkinnpgiabaaDoor
