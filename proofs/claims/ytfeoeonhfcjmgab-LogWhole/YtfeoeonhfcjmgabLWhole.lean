/- The walk of LogWhole out of the contracts. -/
import Derived.Test.YtfeoeonhfcjmgabBaseB
import Derived.Test.YtfeoeonhfcjmgabLDual
namespace Go.Proofs.Ytfeoeonhfcjmgab
open Go.RowKit
set_option maxHeartbeats 1000000

theorem whole_zero (A X : Int) (n : Nat) (hn : n ≤ 30) (hX : X = A * 2 ^ (30 - n)) (e : A = 2 ^ n) : logF X 15 = 0 := by
  have : X = 1073741824 := by
    rw [hX, e, ← Int.pow_add, show n + (30 - n) = 30 by omega]; decide
  rw [this]
  have h := log_pow 15
  generalize logF 1073741824 15 = z at *
  exact h.2
theorem law_whole (a : Int) (w : World) :
    Calls Try.prog 7 #[.int .i64 a] w fun e w' => e = .returned (.bool true) ∧ Grown w w' := by
  have s1 : 0 ≤ spotN a 2147483647 := by unfold spotN; omega
  have s2 : spotN a 2147483647 < 2147483647 := by unfold spotN; omega
  go_enter Try.func7, Try.ntmps7
  go_wp2_with fail
  refine (spot_any _ _ (by omega) (by omega) _).mono ?_
  rintro e w1 ⟨rfl, rfl⟩
  obtain ⟨A, hA⟩ : ∃ A, A = 1 + spotN a 2147483647 := ⟨_, rfl⟩
  obtain ⟨n, X, n1, n2, n3, hX, x1, x2, f1, f2, HL⟩ := log_some A (by omega) (by omega)
  have LG := hide HL
  obtain ⟨p1, p2⟩ := pow_le n 30 n1
  have p3 : (2 : Int) ^ n ≤ 1073741824 := p2
  clear p2
  have HF := hide (whole_zero A X n n1 hX)
  have a1 : 1 ≤ A := by omega
  have a2 : A ≤ 2147483647 := by omega
  rw [Int.pow_succ] at n3
  have HA := hide hA
  clear hA hX HL x1 x2
  go_wp2_with fail
  rw [← HA.out]
  refine (LG.out _).mono ?_
  rintro e w1 ⟨rfl, rfl⟩
  clear LG HA
  generalize logF X 15 = f at *
  clear s1 s2
  have hs1 : wrap64 ((2 : Int) ^ n) = 2 ^ n := wrap_in _ (by omega) (by omega)
  have hs2 : wrap64 (2 * (2 : Int) ^ n) = 2 * 2 ^ n := wrap_in _ (by omega) (by omega)
  by_cases hE : A = 2 ^ n
  · have f0 := HF.out hE
    subst f0
    go_wp2_with fail
    refine (half_any _).mono ?_
    rintro e w1 ⟨rfl, rfl⟩
    go_wp2_with fail
    go_ret
    exact ⟨rfl, Grown.refl _⟩
  · go_wp2_with fail
    refine (half_any _).mono ?_
    rintro e w1 ⟨rfl, rfl⟩
    go_wp2_with fail
    go_ret
    exact ⟨rfl, Grown.refl _⟩
end Go.Proofs.Ytfeoeonhfcjmgab
