/- The walks of GainRises, GainNear, FadeFalls and NoiseWithin, where the list of dual's growths reads as the program's text lays it. -/
import Derived.Test.YtiamknnmgnbkgaaDoorGaiA
import Derived.Test.YtiamknnmgnbkgaaDoorGaiF
import Derived.Test.YtiamknnmgnbkgaaDoorBaseB
import Derived.Test.YtiamknnmgnbkgaaDoorTabF
namespace Go.Proofs.YtiamknnmgnbkgaaDoor
open Go.RowKit
set_option linter.unusedVariables false
set_option linter.unusedSimpArgs false
set_option maxHeartbeats 1000000

theorem loud_any (w : World) (hG : Grows w) : Calls Tryd.prog 12 #[] w fun e w' => e = .returned (.bool true) ∧ w' = w := by
  have A := hide (gaiLevel_any 8 w hG)
  rw [glV8.1, glV8.2] at A
  have B := hide (gaiFade_any 9 0 w)
  rw [fdV90] at B
  clear hG
  go_enter Tryd.func12, Tryd.ntmps12
  go_wp2_with fail
  refine A.out.mono ?_
  rintro e w1 ⟨rfl, rfl⟩
  clear A
  go_wp2_with fail
  refine B.out.mono ?_
  rintro e w1 ⟨rfl, rfl⟩
  clear B
  go_wp2_with fail
  go_ret
  exact ⟨rfl, rfl⟩
theorem law_gainRises (w : World) (t : TabA w 0 gro 15) (n : Int) (wn : (Lit.int .i64 n).wf = true) :
    Calls Tryd.prog 5 #[.int .i64 n] w fun e w' => e = .returned (.bool true) ∧ Below w.heap.size w w' := by
  have hG : Grows w := t
  have HL := hide (loud_any w hG)
  have S1 := hide (spot_any n 31 (by omega) (by omega) w)
  have b1 : 0 ≤ spotN n 31 ∧ spotN n 31 < 31 := by unfold spotN; omega
  obtain ⟨N, hN⟩ : ∃ N : Nat, spotN n 31 = (N : Int) := ⟨(spotN n 31).toNat, by omega⟩
  rw [hN] at S1 b1
  have A := hide (gaiLevel_any (N : Int) w hG)
  rw [(glV_nat N (by omega)).1, (glV_nat N (by omega)).2] at A
  have B := hide (gaiLevel_any ((N : Int) + 1) w hG)
  rw [show (N : Int) + 1 = ((N + 1 : Nat) : Int) by omega, (glV_nat (N + 1) (by omega)).1, (glV_nat (N + 1) (by omega)).2, show ((N + 1 : Nat) : Int) = (N : Int) + 1 by omega] at B
  obtain ⟨r1, r2, r3⟩ := gszN_rises N (by omega)
  obtain ⟨b1, b2⟩ := b1
  clear hG t hN
  generalize gszN (N + 1) = y at *
  generalize gszN N = x at *
  have x3 : x ≤ 32767 := by omega
  go_enter Tryd.func5, Tryd.ntmps5
  go_wp2_with fail
  refine S1.out.mono ?_
  rintro e w1 ⟨rfl, rfl⟩
  clear S1
  go_wp2_with fail
  refine A.out.mono ?_
  rintro e w1 ⟨rfl, rfl⟩
  clear A
  go_wp2_with fail
  refine B.out.mono ?_
  rintro e w1 ⟨rfl, rfl⟩
  clear B
  go_wp2_with fail
  refine HL.out.mono ?_
  rintro e w1 ⟨rfl, rfl⟩
  clear HL
  go_wp2_with fail
  go_ret
  exact ⟨rfl, below_of_grown (grown_refl _ _)⟩
theorem max_absG (x y : Int) (h1 : x ≤ y ∨ x ≤ -y) (h2 : -x ≤ y ∨ -x ≤ -y) : max x (-x) ≤ max y (-y) := by omega
theorem law_gainNear (w : World) (t : TabA w 0 gro 15) (c : Int) (wc : (Lit.int .i64 c).wf = true) (e : Int) (we : (Lit.int .i64 e).wf = true) (n : Int) (wn : (Lit.int .i64 n).wf = true) :
    Calls Tryd.prog 6 #[.int .i64 c, .int .i64 e, .int .i64 n] w fun e w' => e = .returned (.bool true) ∧ Below w.heap.size w w' := by
  have hG : Grows w := t
  have HL := hide (loud_any w hG)
  have S1 := hide (spot_any c 1099511627776 (by omega) (by omega) w)
  have S2 := hide (spot_any e 1073741824 (by omega) (by omega) w)
  have S3 := hide (spot_any n 32 (by omega) (by omega) w)
  have b1 : 0 ≤ spotN c 1099511627776 ∧ spotN c 1099511627776 < 1099511627776 := by unfold spotN; omega
  have b2 : 0 ≤ spotN e 1073741824 ∧ spotN e 1073741824 < 1073741824 := by unfold spotN; omega
  have b3 : 0 ≤ spotN n 32 ∧ spotN n 32 < 32 := by unfold spotN; omega
  generalize spotN c 1099511627776 = C at *
  generalize spotN e 1073741824 = E at *
  obtain ⟨N, hN⟩ : ∃ N : Nat, spotN n 32 = (N : Int) := ⟨(spotN n 32).toNat, by omega⟩
  rw [hN] at S3 b3
  clear hN
  have PN := hide (gaiOne_any (1 + C) (1 + E) w hG (by omega) (by omega))
  rw [goV_in (1 + C) (1 + E) (by omega) (by omega) (by omega) (by omega)] at PN
  have hk := goN_le (1 + C) (1 + E) 31
  have P1 := hide (gaiLevel_any (goN (1 + C) (1 + E) 31 : Int) w hG)
  rw [(glV_nat _ hk).1, (glV_nat _ hk).2] at P1
  have P2 := hide (gaiLevel_any (N : Int) w hG)
  rw [(glV_nat N (by omega)).1, (glV_nat N (by omega)).2] at P2
  obtain ⟨X, Y, hX, hY, m1, m2⟩ := go_best (1 + C) (1 + E) (by omega) N (by omega)
  have g1 := gszN_bd (goN (1 + C) (1 + E) 31)
  have g2 := gszN_bd N
  have hmx := max_absG X Y m1 m2
  clear hG t hk m1 m2
  generalize gszN (goN (1 + C) (1 + E) 31) = g at *
  generalize gszN N = h at *
  generalize goN (1 + C) (1 + E) 31 = K at *
  obtain ⟨q1, q2⟩ : 0 ≤ g * (1 + E) ∧ g * (1 + E) ≤ 25267 * 1073741824 := ⟨Int.mul_nonneg (by omega) (by omega), Int.mul_le_mul (by omega) (by omega) (by omega) (by omega)⟩
  obtain ⟨q3, q4⟩ : 0 ≤ h * (1 + E) ∧ h * (1 + E) ≤ 25267 * 1073741824 := ⟨Int.mul_nonneg (by omega) (by omega), Int.mul_le_mul (by omega) (by omega) (by omega) (by omega)⟩
  have X1 : -36028797018963968 ≤ X ∧ X ≤ 36028797018963968 := by omega
  have Y1 : -36028797018963968 ≤ Y ∧ Y ≤ 36028797018963968 := by omega
  obtain ⟨x1, x2⟩ := X1
  obtain ⟨y1, y2⟩ := Y1
  obtain ⟨c1, c2⟩ := b1
  obtain ⟨e1, e2⟩ := b2
  go_enter Tryd.func6, Tryd.ntmps6
  go_wp2_with fail
  refine S1.out.mono ?_
  rintro ee wa ⟨rfl, rfl⟩
  clear S1
  go_wp2_with fail
  refine S2.out.mono ?_
  rintro ee wb ⟨rfl, rfl⟩
  clear S2
  go_wp2_with fail
  refine PN.out.mono ?_
  rintro ee w1 ⟨rfl, rfl⟩
  clear PN
  go_wp2_with fail
  refine P1.out.mono ?_
  rintro ee w2 ⟨rfl, rfl⟩
  clear P1
  go_wp2_with fail
  refine S3.out.mono ?_
  rintro ee w3 ⟨rfl, rfl⟩
  clear S3
  go_wp2_with fail
  refine P2.out.mono ?_
  rintro ee w4 ⟨rfl, rfl⟩
  clear P2
  go_wp2_with fail
  refine HL.out.mono ?_
  rintro ee w5 ⟨rfl, rfl⟩
  clear HL
  go_wp2_with fail
  all_goals
    go_ret
    refine ⟨?_, below_of_grown (grown_refl _ _)⟩
    first | rfl | (show Ending.returned (Value.bool (decide _)) = _; rw [decide_eq_true (by omega)])
end Go.Proofs.YtiamknnmgnbkgaaDoor
