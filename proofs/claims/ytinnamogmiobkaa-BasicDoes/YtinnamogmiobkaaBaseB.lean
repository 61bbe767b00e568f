/- The contracts of package basic, second part: shifts, sums of products, rounding; and the statements' own small functions. -/
import Derived.Test.YtinnamogmiobkaaBase
namespace Go.Proofs.Ytinnamogmiobkaa
open Go.RowKit
set_option maxHeartbeats 400000

def sh16 (a n : Int) : Int := if n < 0 then c16 a / 2 ^ (-n).toNat else c16 (c16 a * 2 ^ n.toNat)
def sh32 (a n : Int) : Int := if n < 0 then c32 a / 2 ^ (-n).toNat else c32 (c32 a * 2 ^ n.toNat)
def so16 (a n : Int) : Bool := if n < 0 then false else o16 (c16 a * 2 ^ n.toNat)
def so32 (a n : Int) : Bool := if n < 0 then false else o32 (c32 a * 2 ^ n.toNat)

theorem near_any (n : Int) (w : World) :
    Calls Try.prog 61 #[.int .i64 n] w fun e w' => e = .returned (.int .i64 (nearN n)) ∧ w' = w := by
  by_cases h1 : n < -32
  · have e : nearN n = -32 := by unfold nearN; simp [h1]
    rw [e]; clear e
    go_enter Try.func61, Try.ntmps61
    go_wp2
    go_ret
    exact ⟨rfl, rfl⟩
  · by_cases h2 : 32 < n
    · have e : nearN n = 32 := by unfold nearN; simp [h1, h2]
      rw [e]; clear e
      go_enter Try.func61, Try.ntmps61
      go_wp2
      go_ret
      exact ⟨rfl, rfl⟩
    · have e : nearN n = n := by unfold nearN; simp [h1, h2]
      rw [e]; clear e
      go_enter Try.func61, Try.ntmps61
      go_wp2
      go_ret
      exact ⟨rfl, rfl⟩
theorem shift32_any (a n : Int) (h1 : -32 ≤ n) (h2 : n ≤ 32) (w : World) :
    Calls Try.prog 60 #[.func (.func 11) #[] #[], .int .i64 a, .int .i64 n] w fun e w' => e = .returned (.tuple #[.int .i64 (sh32 a n), .bool (so32 a n)]) ∧ w' = w := by
  obtain ⟨a1, a2⟩ := c32_bd a
  by_cases hn : n < 0
  · have e1 : sh32 a n = c32 a / 2 ^ (-n).toNat := by unfold sh32; simp [hn]
    have e2 : so32 a n = false := by unfold so32; simp [hn]
    rw [e1, e2]; clear e1 e2
    go_enter Try.func60, Try.ntmps60
    go_wp2_with (first | (go_at_call 11; refine (sat32_any _ _).mono ?_; rintro e w' ⟨rfl, rfl⟩))
    go_ret2
    exact ⟨rfl, rfl⟩
  · have e1 : sh32 a n = c32 (c32 a * 2 ^ n.toNat) := by unfold sh32; simp [hn]
    have e2 : so32 a n = o32 (c32 a * 2 ^ n.toNat) := by unfold so32; simp [hn]
    obtain ⟨b1, b2⟩ := shl_bd (c32 a) n.toNat (by omega) a1 a2
    rw [e1, e2]; clear e1 e2
    go_enter Try.func60, Try.ntmps60
    go_wp2_with (first | (go_at_call 11; refine (sat32_any _ _).mono ?_; rintro e w' ⟨rfl, rfl⟩))
    go_ret2
    exact ⟨rfl, rfl⟩
theorem lshl_any (a n : Int) (w : World) :
    Calls Try.prog 27 #[.int .i64 a, .int .i64 n] w fun e w' => e = .returned (.tuple #[.int .i64 (sh32 a (nearN n)), .bool (so32 a (nearN n))]) ∧ w' = w := by
  obtain ⟨a1, a2⟩ := nearN_bd n
  go_enter Try.func27, Try.ntmps27
  go_wp2_with (first | (go_at_call 61; refine (near_any _ _).mono ?_; rintro e w' ⟨rfl, rfl⟩) | (go_at_call 60; refine (shift32_any _ _ (by omega) (by omega) _).mono ?_; rintro e w' ⟨rfl, rfl⟩))
  go_ret2
  exact ⟨rfl, rfl⟩
theorem lshr_any (a n : Int) (w : World) :
    Calls Try.prog 28 #[.int .i64 a, .int .i64 n] w fun e w' => e = .returned (.tuple #[.int .i64 (sh32 a (-nearN n)), .bool (so32 a (-nearN n))]) ∧ w' = w := by
  obtain ⟨a1, a2⟩ := nearN_bd n
  go_enter Try.func28, Try.ntmps28
  go_wp2_with (first | (go_at_call 61; refine (near_any _ _).mono ?_; rintro e w' ⟨rfl, rfl⟩) | (go_at_call 60; refine (shift32_any _ _ (by omega) (by omega) _).mono ?_; rintro e w' ⟨rfl, rfl⟩))
  go_ret2
  exact ⟨rfl, rfl⟩
theorem shift16_any (a n : Int) (h1 : -32 ≤ n) (h2 : n ≤ 32) (w : World) :
    Calls Try.prog 60 #[.func (.func 9) #[] #[], .int .i64 a, .int .i64 n] w fun e w' => e = .returned (.tuple #[.int .i64 (sh16 a n), .bool (so16 a n)]) ∧ w' = w := by
  obtain ⟨a1, a2⟩ := c16_bd a
  by_cases hn : n < 0
  · have e1 : sh16 a n = c16 a / 2 ^ (-n).toNat := by unfold sh16; simp [hn]
    have e2 : so16 a n = false := by unfold so16; simp [hn]
    rw [e1, e2]; clear e1 e2
    go_enter Try.func60, Try.ntmps60
    go_wp2_with (first | (go_at_call 9; refine (sat16_any _ _).mono ?_; rintro e w' ⟨rfl, rfl⟩))
    go_ret2
    exact ⟨rfl, rfl⟩
  · have e1 : sh16 a n = c16 (c16 a * 2 ^ n.toNat) := by unfold sh16; simp [hn]
    have e2 : so16 a n = o16 (c16 a * 2 ^ n.toNat) := by unfold so16; simp [hn]
    obtain ⟨b1, b2⟩ := shl_bd (c16 a) n.toNat (by omega) (by omega) (by omega)
    rw [e1, e2]; clear e1 e2
    go_enter Try.func60, Try.ntmps60
    go_wp2_with (first | (go_at_call 9; refine (sat16_any _ _).mono ?_; rintro e w' ⟨rfl, rfl⟩))
    go_ret2
    exact ⟨rfl, rfl⟩
theorem shl_any (a n : Int) (w : World) :
    Calls Try.prog 22 #[.int .i64 a, .int .i64 n] w fun e w' => e = .returned (.tuple #[.int .i64 (sh16 a (nearN n)), .bool (so16 a (nearN n))]) ∧ w' = w := by
  obtain ⟨a1, a2⟩ := nearN_bd n
  go_enter Try.func22, Try.ntmps22
  go_wp2_with (first | (go_at_call 61; refine (near_any _ _).mono ?_; rintro e w' ⟨rfl, rfl⟩) | (go_at_call 60; refine (shift16_any _ _ (by omega) (by omega) _).mono ?_; rintro e w' ⟨rfl, rfl⟩))
  go_ret2
  exact ⟨rfl, rfl⟩
theorem shr_any (a n : Int) (w : World) :
    Calls Try.prog 23 #[.int .i64 a, .int .i64 n] w fun e w' => e = .returned (.tuple #[.int .i64 (sh16 a (-nearN n)), .bool (so16 a (-nearN n))]) ∧ w' = w := by
  obtain ⟨a1, a2⟩ := nearN_bd n
  go_enter Try.func23, Try.ntmps23
  go_wp2_with (first | (go_at_call 61; refine (near_any _ _).mono ?_; rintro e w' ⟨rfl, rfl⟩) | (go_at_call 60; refine (shift16_any _ _ (by omega) (by omega) _).mono ?_; rintro e w' ⟨rfl, rfl⟩))
  go_ret2
  exact ⟨rfl, rfl⟩
theorem lmac_any (c a b : Int) (w : World) :
    Calls Try.prog 29 #[.int .i64 c, .int .i64 a, .int .i64 b] w fun e w' => e = .returned (.tuple #[.int .i64 (c32 (c32 c + c32 (c32 (2 * c16 a * c16 b)))), .bool (o32 (2 * c16 a * c16 b) || o32 (c32 c + c32 (c32 (2 * c16 a * c16 b))))]) ∧ w' = w := by
  go_enter Try.func29, Try.ntmps29
  go_wp2_with (first | (go_at_call 26; refine (lmult_any _ _ _).mono ?_; rintro e w' ⟨rfl, rfl⟩) | (go_at_call 24; refine (ladd_any _ _ _).mono ?_; rintro e w' ⟨rfl, rfl⟩) | go_in)
  all_goals go_ret2
  all_goals exact ⟨ret2 rfl (by simp [*]), rfl⟩
theorem lmsu_any (c a b : Int) (w : World) :
    Calls Try.prog 30 #[.int .i64 c, .int .i64 a, .int .i64 b] w fun e w' => e = .returned (.tuple #[.int .i64 (c32 (c32 c - c32 (c32 (2 * c16 a * c16 b)))), .bool (o32 (2 * c16 a * c16 b) || o32 (c32 c - c32 (c32 (2 * c16 a * c16 b))))]) ∧ w' = w := by
  go_enter Try.func30, Try.ntmps30
  go_wp2_with (first | (go_at_call 26; refine (lmult_any _ _ _).mono ?_; rintro e w' ⟨rfl, rfl⟩) | (go_at_call 25; refine (lsub_any _ _ _).mono ?_; rintro e w' ⟨rfl, rfl⟩) | go_in)
  all_goals go_ret2
  all_goals exact ⟨ret2 rfl (by simp [*]), rfl⟩
theorem round_any (a : Int) (w : World) :
    Calls Try.prog 31 #[.int .i64 a] w fun e w' => e = .returned (.tuple #[.int .i64 (c32 (c32 a + c32 32768) / 65536), .bool (o32 (c32 a + c32 32768))]) ∧ w' = w := by
  obtain ⟨a1, a2⟩ := c32_bd (c32 a + c32 32768)
  go_enter Try.func31, Try.ntmps31
  go_wp2_with (first | (go_at_call 24; refine (ladd_any _ _ _).mono ?_; rintro e w' ⟨rfl, rfl⟩))
  go_ret2
  exact ⟨rfl, rfl⟩
theorem spot_any (v n : Int) (hn : 0 < n) (hn' : n ≤ 4611686018427387904) (w : World) :
    Calls Try.prog 33 #[.int .i64 v, .int .i64 n] w fun e w' => e = .returned (.int .i64 (spotN v n)) ∧ w' = w := by
  have m1 := Int.tmod_lt_of_pos v hn
  have m2 : -n < v.tmod n := by
    have := Int.tmod_lt_of_pos (-v) hn
    rw [Int.neg_tmod] at this; omega
  have e : spotN v n = if v.tmod n < 0 then v.tmod n + n else v.tmod n := by
    unfold spotN
    rw [Int.emod_eq_tmod]
    have hd : 0 ≤ v → 0 ≤ v.tmod n := fun h => Int.tmod_nonneg n h
    have hd' : v < 0 → v.tmod n ≤ 0 := fun h => by
      have := Int.tmod_nonneg n (a := -v) (by omega)
      rw [Int.neg_tmod] at this; omega
    have hdv : n ∣ v ↔ v.tmod n = 0 := Int.dvd_iff_tmod_eq_zero
    have hab : (n.natAbs : Int) = n := by omega
    split <;> split <;> omega
  by_cases h : v.tmod n < 0
  · rw [if_pos h] at e
    rw [e]; clear e
    go_enter Try.func33, Try.ntmps33
    go_wp2
    go_ret
    exact ⟨rfl, rfl⟩
  · rw [if_neg h] at e
    rw [e]; clear e
    go_enter Try.func33, Try.ntmps33
    go_wp2
    go_ret
    exact ⟨rfl, rfl⟩
theorem awake_any (w : World) :
    Calls Try.prog 32 #[] w fun e w' => e = .returned (.bool true) ∧ w' = w := by
  have f1 : c16 (c16 32767 + c16 1) = 32767 := by decide
  have f2 : o16 (c16 32767 + c16 1) = true := by decide
  have f3 : c16 (c16 16384 * c16 2 / 32768) = 1 := by decide
  have f4 : o16 (c16 16384 * c16 2 / 32768) = false := by decide
  have f5 : c32 (c32 5 + c32 (c32 (2 * c16 3 * c16 4))) = 29 := by decide
  have f6 : (o32 (2 * c16 3 * c16 4) || o32 (c32 5 + c32 (c32 (2 * c16 3 * c16 4)))) = false := by decide
  go_enter Try.func32, Try.ntmps32
  go_wp2_with fail
  refine (add_any _ _ _).mono ?_
  rintro e w' ⟨rfl, rfl⟩
  rw [f1, f2]
  clear f1 f2
  go_wp2_with fail
  refine (mult_any _ _ _).mono ?_
  rintro e w' ⟨rfl, rfl⟩
  rw [f3, f4]
  clear f3 f4
  go_wp2_with fail
  refine (lmac_any _ _ _ _).mono ?_
  rintro e w' ⟨rfl, rfl⟩
  rw [f5, f6]
  clear f5 f6
  go_wp2_with fail
  go_ret
  exact ⟨rfl, rfl⟩
end Go.Proofs.Ytinnamogmiobkaa
