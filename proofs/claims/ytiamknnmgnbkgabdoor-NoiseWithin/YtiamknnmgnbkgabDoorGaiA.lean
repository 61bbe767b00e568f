/- Contracts of package gain: Level, One, where the list of dual's growths reads as the program's text lays it. -/
import Derived.Test.YtiamknnmgnbkgabDoorGainMath
import Derived.Test.YtiamknnmgnbkgabDoorGrow
import Derived.Test.YtiamknnmgnbkgabDoorPow
import Derived.WalkKit
import Derived.WalkSpells
import Derived.WalkLawsBesides
namespace Go.Proofs.YtiamknnmgnbkgabDoor
open Go.RowKit
set_option linter.unusedVariables false
set_option linter.unusedSimpArgs false
set_option maxHeartbeats 1000000

theorem gaiLevel_any (n : Int) (w : World) (hG : Grows w) : Calls Tryd.prog 9 #[.int .i64 n] w fun e w' => e = .returned (.tuple #[.int .i64 (glV n), .int .i64 (glE n)]) ∧ w' = w := by
  by_cases h : 0 ≤ n ∧ n ≤ 31
  · obtain ⟨k, rfl⟩ : ∃ k : Nat, n = (k : Int) := ⟨n.toNat, by omega⟩
    have hk : k ≤ 31 := by omega
    rw [(glV_nat k hk).1, (glV_nat k hk).2]
    have P := hide (pow_yes (3 + 3 * k / 8) ((3 * k % 8 * 4096 : Nat) : Int) (by omega) (by omega) (by omega) w hG)
    rw [gsz_pow k (by omega)] at P
    have e1 : (3 * (k : Int)).tdiv 8 = ((3 * k / 8 : Nat) : Int) := by rw [Int.tdiv_eq_ediv_of_nonneg (by omega)]; omega
    have e2 : (3 * (k : Int)) / 8 = ((3 * k / 8 : Nat) : Int) := by omega
    have e3 : (3 * (k : Int)).tmod 8 = ((3 * k % 8 : Nat) : Int) := by rw [Int.tmod_eq_emod_of_nonneg (by omega)]; omega
    have e4 : (3 * (k : Int)) % 8 = ((3 * k % 8 : Nat) : Int) := by omega
    rw [show ((3 + 3 * k / 8 : Nat) : Int) = 3 + ((3 * k / 8 : Nat) : Int) by omega, show ((3 * k % 8 * 4096 : Nat) : Int) = ((3 * k % 8 : Nat) : Int) * 4096 by omega] at P
    have b1 : 3 * k / 8 ≤ 11 := by omega
    have b2 : 3 * k % 8 ≤ 7 := by omega
    generalize 3 * k / 8 = q at *
    generalize 3 * k % 8 = r at *
    generalize gszN k = z at *
    have c1 : (q : Int) ≤ 11 := by omega
    have c2 : (r : Int) ≤ 7 := by omega
    have c3 : (k : Int) ≤ 31 := by omega
    clear hG h b1 b2
    go_enter Tryd.func9, Tryd.ntmps9
    go_wp2_with fail
    refine P.out.mono ?_
    rintro e w1 ⟨rfl, rfl⟩
    clear P
    go_wp2_with fail
    go_ret2
    exact ⟨rfl, rfl⟩
  · rw [show glV n = 0 from if_neg h, show glE n = 2 from if_neg h]
    clear hG
    by_cases h1 : n < 0
    · clear h
      go_enter Tryd.func9, Tryd.ntmps9
      go_wp2_with fail
      go_ret2
      exact ⟨rfl, rfl⟩
    · have h2 : 32 ≤ n := by omega
      clear h
      go_enter Tryd.func9, Tryd.ntmps9
      go_wp2_with fail
      go_ret2
      exact ⟨rfl, rfl⟩
end Go.Proofs.YtiamknnmgnbkgabDoor
