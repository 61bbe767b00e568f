/- The walk of BasicShifts out of the contracts. -/
import Derived.Test.YtinnamogmiobkabLExact
namespace Go.Proofs.Ytinnamogmiobkab
open Go.RowKit
set_option maxHeartbeats 1000000

theorem shl_back (A : Int) (n : Nat) : A * 2 ^ n / 2 ^ n = A := by
  have hp : (2 : Int) ^ n ≠ 0 := by have : (0 : Int) < 2 ^ n := Int.pow_pos (by decide); omega
  exact Int.mul_ediv_cancel A hp
theorem o32_false (x : Int) (h : o32 x = false) : c32 x = x := by unfold o32 at h; simpa using h
/-- What LShl and LShr say of a number of 32 bits and n places, 0 to 30. -/
theorem shifts_facts (A n : Int) (h1 : -2147483648 ≤ A) (h2 : A ≤ 2147483647) (n1 : 0 ≤ n) (n2 : n ≤ 30) :
    so32 (sh32 A (nearN n)) (-nearN n) = false ∧ so32 A (nearN (-n)) = false ∧ so32 A (-nearN n) = false ∧ sh32 A (nearN (-n)) = sh32 A (-nearN n) ∧
    (so32 A (nearN n) = false → sh32 (sh32 A (nearN n)) (-nearN n) = A) := by
  have e1 : nearN n = n := by unfold nearN; split <;> (try split) <;> omega
  have e2 : nearN (-n) = -n := by unfold nearN; split <;> (try split) <;> omega
  rw [e1, e2]
  have ca : c32 A = A := c32_id A h1 h2
  have z : ∀ x : Int, -2147483648 ≤ x → x ≤ 2147483647 → so32 x (-n) = false := by
    intro x x1 x2
    unfold so32
    by_cases hn : -n < 0
    · rw [if_pos hn]
    · have : n = 0 := by omega
      subst this
      simp [o32, c32_id x x1 x2]
  have zb : -2147483648 ≤ sh32 A n ∧ sh32 A n ≤ 2147483647 := by
    unfold sh32; rw [if_neg (by omega)]; exact c32_bd _
  refine ⟨z _ zb.1 zb.2, z A h1 h2, z A h1 h2, rfl, ?_⟩
  intro h
  unfold so32 at h
  rw [if_neg (by omega)] at h
  have e3 := o32_false _ h
  rw [ca] at e3
  have e4 : sh32 A n = A * 2 ^ n.toNat := by unfold sh32; rw [if_neg (by omega), ca, e3]
  rw [e4]
  rw [e4] at zb
  unfold sh32
  rw [c32_id _ zb.1 zb.2]
  by_cases hn : -n < 0
  · rw [if_pos hn]
    have e5 : (- -n).toNat = n.toNat := by omega
    rw [e5, shl_back]
  · have : n = 0 := by omega
    subst this
    simp [ca]

theorem spot31_some (v : Int) (w : World) :
    Calls Try.prog 17 #[.int .i64 v, .int .i64 31] w fun e w' => ∃ A : Int, 0 ≤ A ∧ A ≤ 30 ∧ e = .returned (.int .i64 A) ∧ w' = w :=
  (spot_any v 31 (by decide) (by decide) w).mono fun e w' h => ⟨_, by unfold spotN; omega, by unfold spotN; omega, h.1, h.2⟩

theorem law_shifts (a b : Int) (w : World) :
    Calls Try.prog 5 #[.int .i64 a, .int .i64 b] w fun e w' => e = .returned (.bool true) ∧ Grown w w' := by
  go_enter Try.func5, Try.ntmps5
  go_wp2_with fail
  refine (s32_some _ _).mono ?_
  rintro e w1 ⟨A, A1, A2, rfl, rfl⟩
  go_wp2_with fail
  refine (spot31_some _ _).mono ?_
  rintro e w2 ⟨n, n1, n2, rfl, rfl⟩
  obtain ⟨f1, f2, f3, f4, f5⟩ := shifts_facts A n A1 A2 n1 n2
  have F4 : Hid (sh32 A (nearN (-n)) = sh32 A (-nearN n)) := f4
  have F5 : Hid (so32 A (nearN n) = false → sh32 (sh32 A (nearN n)) (-nearN n) = A) := f5
  clear f4 f5
  go_wp2_with fail
  refine (lshl_any _ _ _).mono ?_
  rintro e w3 ⟨rfl, rfl⟩
  go_wp2_with fail
  refine (lshr_any _ _ _).mono ?_
  rintro e w4 ⟨rfl, rfl⟩
  go_wp2_with fail
  refine (lshl_any _ _ _).mono ?_
  rintro e w5 ⟨rfl, rfl⟩
  rw [F4.out]
  go_wp2_with fail
  refine (lshr_any _ _ _).mono ?_
  rintro e w6 ⟨rfl, rfl⟩
  cases hp : so32 A (nearN n)
  · have f6 := F5.out hp
    go_wp2_with (go_at_call 13; refine (awake_any _).mono ?_; rintro e w' ⟨rfl, rfl⟩)
    go_ret
    exact ⟨rfl, Grown.refl _⟩
  · go_wp2_with (go_at_call 13; refine (awake_any _).mono ?_; rintro e w' ⟨rfl, rfl⟩)
    go_ret
    exact ⟨rfl, Grown.refl _⟩
end Go.Proofs.Ytinnamogmiobkab
