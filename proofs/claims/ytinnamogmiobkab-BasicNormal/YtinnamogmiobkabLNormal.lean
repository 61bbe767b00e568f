/- The walk of BasicNormal out of the contracts. -/
import Derived.Test.YtinnamogmiobkabNormMath
import Derived.Test.YtinnamogmiobkabLShifts
namespace Go.Proofs.Ytinnamogmiobkab
open Go.RowKit
set_option maxHeartbeats 1000000

theorem normal_facts (B : Int) (h1 : -2147483648 ≤ B) (h2 : B ≤ 2147483647) :
    so32 B (nearN (normN B)) = false ∧ (B = 0 → sh32 B (nearN (normN B)) = 0) ∧ (B ≠ 0 → so32 B (nearN (normN B + 1)) = true ∧ (1073741824 ≤ sh32 B (nearN (normN B)) ∨ sh32 B (nearN (normN B)) < -1073741824)) := by
  by_cases h0 : B = 0
  · subst h0; exact ⟨by decide +kernel, fun _ => by decide +kernel, fun h => absurd rfl h⟩
  · obtain ⟨n, n1, n2, n3, n4, n5⟩ := normal_math B h1 h2 h0
    have e1 : nearN (normN B) = n := by rw [n2]; unfold nearN; split <;> (try split) <;> omega
    have e2 : nearN (normN B + 1) = (n : Int) + 1 := by rw [n2]; unfold nearN; split <;> (try split) <;> omega
    rw [e1, e2]
    have hc := c32_id B h1 h2
    have e3 : sh32 B n = B * 2 ^ n := by
      unfold sh32; rw [if_neg (by omega), hc]; simp only [Int.toNat_natCast]; exact c32_id _ n3 n4
    rw [e3]
    refine ⟨?_, fun h => absurd h h0, fun _ => ⟨?_, n5⟩⟩
    · unfold so32 o32; rw [if_neg (by omega), hc]; simp only [Int.toNat_natCast]; rw [c32_id _ n3 n4]; simp
    · unfold so32 o32
      rw [if_neg (by omega), hc, show ((n : Int) + 1).toNat = n + 1 by omega, Int.pow_succ, ← Int.mul_assoc]
      generalize B * 2 ^ n = z at *
      unfold c32
      simp only [bne_iff_ne, ne_eq]
      split <;> (try split) <;> omega

theorem law_normal (a : Int) (w : World) :
    Calls Try.prog 6 #[.int .i64 a] w fun e w' => e = .returned (.bool true) ∧ Grown w w' := by
  obtain ⟨na, nb⟩ := normN_bd a
  go_enter Try.func6, Try.ntmps6
  go_wp2_with fail
  refine (norm_any _ _).mono ?_
  rintro e w1 ⟨rfl, rfl⟩
  go_wp2_with fail
  refine (s32_some _ _).mono ?_
  rintro e w2 ⟨B, B1, B2, rfl, rfl⟩
  obtain ⟨f1, f2, f3⟩ := normal_facts B B1 B2
  obtain ⟨ma, mb⟩ := normN_bd B
  have F2 : Hid _ := f2
  have F3 : Hid _ := f3
  clear f2 f3
  go_wp2_with fail
  refine (norm_any _ _).mono ?_
  rintro e w3 ⟨rfl, rfl⟩
  go_wp2_with fail
  refine (lshl_any _ _ _).mono ?_
  rintro e w4 ⟨rfl, rfl⟩
  go_wp2_with fail
  refine (norm_any _ _).mono ?_
  rintro e w5 ⟨rfl, rfl⟩
  go_wp2_with fail
  refine (lshl_any _ _ _).mono ?_
  rintro e w6 ⟨rfl, rfl⟩
  by_cases h0 : B = 0
  · have hx : (sh32 B (nearN (normN B)) == 0) = true := by rw [F2.out h0]; rfl
    have hb : (B == 0) = true := by simp [h0]
    clear F2 F3 h0
    go_wp2_with (go_at_call 13; refine (awake_any _).mono ?_; rintro e w' ⟨rfl, rfl⟩)
    go_ret
    exact ⟨rfl, Grown.refl _⟩
  · obtain ⟨g1, g2⟩ := F3.out h0
    have hb : (B == 0) = false := by simp [h0]
    have hb' : (B != 0) = true := by simp [h0]
    clear F2 F3 h0
    rcases g2 with g2 | g2
    · go_wp2_with (go_at_call 13; refine (awake_any _).mono ?_; rintro e w' ⟨rfl, rfl⟩)
      go_ret
      exact ⟨rfl, Grown.refl _⟩
    · go_wp2_with (go_at_call 13; refine (awake_any _).mono ?_; rintro e w' ⟨rfl, rfl⟩)
      go_ret
      exact ⟨rfl, Grown.refl _⟩
end Go.Proofs.Ytinnamogmiobkab
