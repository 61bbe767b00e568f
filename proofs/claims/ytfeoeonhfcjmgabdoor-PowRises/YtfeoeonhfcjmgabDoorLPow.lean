/- The walk of PowRises out of the contracts. -/
import Derived.Test.YtfeoeonhfcjmgabDoorBaseB
import Derived.Test.YtfeoeonhfcjmgabDoorPow
namespace Go.Proofs.YtfeoeonhfcjmgabDoor
open Go.RowKit
set_option maxHeartbeats 1000000

theorem law_powrises (n f m g : Int) (w : World) (hG : Grows w) :
    Calls Tryd.prog 3 #[.int .i64 n, .int .i64 f, .int .i64 m, .int .i64 g] w fun e w' => e = .returned (.bool true) ∧ Grown w w' := by
  have n1 : 0 ≤ spotN n 31 := by unfold spotN; omega
  have n2 : spotN n 31 < 31 := by unfold spotN; omega
  have m1 : 0 ≤ spotN m 31 := by unfold spotN; omega
  have m2 : spotN m 31 < 31 := by unfold spotN; omega
  have f1 : 0 ≤ spotN f 32768 := by unfold spotN; omega
  have f2 : spotN f 32768 < 32768 := by unfold spotN; omega
  have g1 : 0 ≤ spotN g 32768 := by unfold spotN; omega
  have g2 : spotN g 32768 < 32768 := by unfold spotN; omega
  go_enter Tryd.func3, Tryd.ntmps3
  go_wp2_with fail
  refine (spot_any _ _ (by omega) (by omega) _).mono ?_
  rintro e w1 ⟨rfl, rfl⟩
  go_wp2_with fail
  refine (spot_any _ _ (by omega) (by omega) _).mono ?_
  rintro e w1 ⟨rfl, rfl⟩
  go_wp2_with fail
  refine (spot_any _ _ (by omega) (by omega) _).mono ?_
  rintro e w1 ⟨rfl, rfl⟩
  go_wp2_with fail
  refine (spot_any _ _ (by omega) (by omega) _).mono ?_
  rintro e w1 ⟨rfl, rfl⟩
  obtain ⟨N, hN⟩ : ∃ N : Nat, spotN n 31 = (N : Int) := ⟨(spotN n 31).toNat, by omega⟩
  obtain ⟨M, hM⟩ : ∃ M : Nat, spotN m 31 = (M : Int) := ⟨(spotN m 31).toNat, by omega⟩
  rw [hN] at n2
  rw [hM] at m2
  rw [hN, hM]
  generalize spotN f 32768 = F at *
  generalize spotN g 32768 = G at *
  clear n1 m1
  have P1 := hide (pow_yes N F (by omega) f1 (by omega) w1 hG)
  have P2 := hide (pow_yes M G (by omega) g1 (by omega) w1 hG)
  obtain ⟨p1, p2, p3⟩ := powN_ge N F (by omega)
  obtain ⟨q1, q2, q3⟩ := powN_ge M G (by omega)
  have R := hide (powN_rises N M F G (by omega) (by omega) f1 g2)
  obtain ⟨t1, t2⟩ := pow_le N 30 (by omega)
  have t3 : (2 : Int) ^ N ≤ 1073741824 := t2
  have hs1 : wrap64 ((2 : Int) ^ N) = 2 ^ N := wrap_in _ (by omega) (by omega)
  clear t2 p2 q2 q1 hG hN hM
  go_wp2_with fail
  refine P1.out.mono ?_
  rintro e w2 ⟨rfl, rfl⟩
  go_wp2_with fail
  refine P2.out.mono ?_
  rintro e w2 ⟨rfl, rfl⟩
  clear P1 P2
  generalize powN N F = x at *
  generalize powN M G = y at *
  go_wp2_with fail
  refine (half_any _).mono ?_
  rintro e w1 ⟨rfl, rfl⟩
  by_cases hE : M < N
  · go_wp2_with fail
    go_ret
    exact ⟨rfl, Grown.refl _⟩
  · by_cases hE' : N = M
    · subst hE'
      by_cases hF : G < F
      · go_wp2_with fail
        go_ret
        exact ⟨rfl, Grown.refl _⟩
      · have r := R.out (.inr ⟨rfl, by omega⟩)
        go_wp2_with fail
        go_ret
        exact ⟨rfl, Grown.refl _⟩
    · have r := R.out (.inl (by omega))
      go_wp2_with fail
      go_ret
      exact ⟨rfl, Grown.refl _⟩
end Go.Proofs.YtfeoeonhfcjmgabDoor
