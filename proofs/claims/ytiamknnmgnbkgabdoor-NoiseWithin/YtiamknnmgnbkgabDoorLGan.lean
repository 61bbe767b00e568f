/- The walks of GainRises, GainNear, FadeFalls and NoiseWithin, where the list of dual's growths reads as the program's text lays it. -/
import Derived.Test.YtiamknnmgnbkgabDoorGaiA
import Derived.Test.YtiamknnmgnbkgabDoorGaiF
import Derived.Test.YtiamknnmgnbkgabDoorBaseB
import Derived.Test.YtiamknnmgnbkgabDoorTabF
namespace Go.Proofs.YtiamknnmgnbkgabDoor
open Go.RowKit
set_option linter.unusedVariables false
set_option linter.unusedSimpArgs false
set_option maxHeartbeats 1000000

theorem loud_any (w : World) (hG : Grows w) : Calls Tryd.prog 7 #[] w fun e w' => e = .returned (.bool true) ∧ w' = w := by
  have A := hide (gaiLevel_any 8 w hG)
  rw [glV8.1, glV8.2] at A
  have B := hide (gaiFade_any 9 0 w)
  rw [fdV90] at B
  clear hG
  go_enter Tryd.func7, Tryd.ntmps7
  go_wp2_with fail
  refine A.out.mono ?_
  rintro e w1 ⟨rfl, rfl⟩
  clear A
  go_wp2_with fail
  refine B.out.mono ?_
  rintro e w1 ⟨rfl, rfl⟩
  clear B
  go_wp2_with fail
  go_ret
  exact ⟨rfl, rfl⟩
theorem law_fadeFalls (w : World) (t : TabA w 0 gro 15) (g : Int) (wg : (Lit.int .i64 g).wf = true) (n : Int) (wn : (Lit.int .i64 n).wf = true) :
    Calls Tryd.prog 3 #[.int .i64 g, .int .i64 n] w fun e w' => e = .returned (.bool true) ∧ Below w.heap.size w w' := by
  have hG : Grows w := t
  have HL := hide (loud_any w hG)
  have S1 := hide (spot_any g 32768 (by omega) (by omega) w)
  have S2 := hide (spot_any n 9 (by omega) (by omega) w)
  have b1 : 0 ≤ spotN g 32768 ∧ spotN g 32768 < 32768 := by unfold spotN; omega
  have b2 : 0 ≤ spotN n 9 ∧ spotN n 9 < 9 := by unfold spotN; omega
  generalize spotN g 32768 = G at *
  obtain ⟨N, hN⟩ : ∃ N : Nat, spotN n 9 = (N : Int) := ⟨(spotN n 9).toNat, by omega⟩
  rw [hN] at S2 b2
  clear hN
  have F1 := hide (gaiFade_any G (N : Int) w)
  have F2 := hide (gaiFade_any G ((N : Int) + 1) w)
  have F3 := hide (gaiFade_any G 6 w)
  rw [fdV6] at F3
  obtain ⟨r1, r2, r3, r4⟩ := fdV_falls G N b1.1
  obtain ⟨z1, z2⟩ := fdV_bd G (N : Int)
  obtain ⟨b1, b1'⟩ := b1
  obtain ⟨b2, b2'⟩ := b2
  clear hG t
  generalize fdV G (N : Int) = x at *
  generalize fdV G ((N : Int) + 1) = y at *
  by_cases hg0 : G = 0
  · have hgb : (G == 0) = true := beq_iff_eq.2 hg0
    have HG := hide hg0
    clear hg0 r4
    go_enter Tryd.func3, Tryd.ntmps3
    go_wp2_with fail
    refine S1.out.mono ?_
    rintro ee wa ⟨rfl, rfl⟩
    go_wp2_with fail
    refine S2.out.mono ?_
    rintro ee wb ⟨rfl, rfl⟩
    clear S1 S2
    go_wp2_with fail
    refine F1.out.mono ?_
    rintro ee wb ⟨rfl, rfl⟩
    go_wp2_with fail
    refine F2.out.mono ?_
    rintro ee wb ⟨rfl, rfl⟩
    clear F1 F2
    go_wp2_with fail
    refine HL.out.mono ?_
    rintro ee wb ⟨rfl, rfl⟩
    clear HL
    go_wp2_with fail
    refine F3.out.mono ?_
    rintro ee wb ⟨rfl, rfl⟩
    clear F3
    go_wp2_with fail
    go_ret
    exact ⟨rfl, below_of_grown (grown_refl _ _)⟩
  · have hgb : (G == 0) = false := beq_eq_false_iff_ne.2 hg0
    by_cases hx0 : x = 0
    · have hxb : (x == 0) = true := beq_iff_eq.2 hx0
      clear hg0 hx0 r4
      go_enter Tryd.func3, Tryd.ntmps3
      go_wp2_with fail
      refine S1.out.mono ?_
      rintro ee wa ⟨rfl, rfl⟩
      go_wp2_with fail
      refine S2.out.mono ?_
      rintro ee wb ⟨rfl, rfl⟩
      clear S1 S2
      go_wp2_with fail
      refine F1.out.mono ?_
      rintro ee wb ⟨rfl, rfl⟩
      go_wp2_with fail
      refine F2.out.mono ?_
      rintro ee wb ⟨rfl, rfl⟩
      clear F1 F2
      go_wp2_with fail
      refine HL.out.mono ?_
      rintro ee wb ⟨rfl, rfl⟩
      clear HL
      go_wp2_with fail
      refine F3.out.mono ?_
      rintro ee wb ⟨rfl, rfl⟩
      clear F3
      go_wp2_with fail
      go_ret
      exact ⟨rfl, below_of_grown (grown_refl _ _)⟩
    · have hxb : (x == 0) = false := beq_eq_false_iff_ne.2 hx0
      have r5 : y < x := by omega
      clear hg0 hx0 r4
      go_enter Tryd.func3, Tryd.ntmps3
      go_wp2_with fail
      refine S1.out.mono ?_
      rintro ee wa ⟨rfl, rfl⟩
      go_wp2_with fail
      refine S2.out.mono ?_
      rintro ee wb ⟨rfl, rfl⟩
      clear S1 S2
      go_wp2_with fail
      refine F1.out.mono ?_
      rintro ee wb ⟨rfl, rfl⟩
      go_wp2_with fail
      refine F2.out.mono ?_
      rintro ee wb ⟨rfl, rfl⟩
      clear F1 F2
      go_wp2_with fail
      refine HL.out.mono ?_
      rintro ee wb ⟨rfl, rfl⟩
      clear HL
      go_wp2_with fail
      refine F3.out.mono ?_
      rintro ee wb ⟨rfl, rfl⟩
      clear F3
      go_wp2_with fail
      go_ret
      exact ⟨rfl, below_of_grown (grown_refl _ _)⟩
theorem law_noiseWithin (w : World) (t : TabA w 0 gro 15) (s : Int) (ws : (Lit.int .i64 s).wf = true) (x : Int) (wx : (Lit.int .i64 x).wf = true) :
    Calls Tryd.prog 4 #[.int .i64 s, .int .i64 x] w fun e w' => e = .returned (.bool true) ∧ Below w.heap.size w w' := by
  have hG : Grows w := t
  have HL := hide (loud_any w hG)
  have S1 := hide (spot_any s 65536 (by omega) (by omega) w)
  have A := hide (gaiNoise_any s x w)
  have B := hide (gaiNoise_any (spotN s 65536) x w)
  rw [show spotN s 65536 = s % 65536 from rfl] at S1 B
  rw [noS_low, noX_low] at B
  obtain ⟨a1, a2⟩ := noS_bd s
  obtain ⟨n1, n2⟩ := noX_bd s x
  obtain ⟨z1, z2⟩ := noZ_bd x
  clear hG t
  have fin : ∀ z, noZ x = z → z = 0 ∧ x < 0 ∨ z = 32767 ∧ 32767 < x ∨ z = x ∧ 0 ≤ x ∧ x ≤ 32767 := by
    intro z h; unfold noZ at h; split at h <;> (try split at h) <;> omega
  obtain hz := fin _ rfl
  clear fin
  generalize noX s x = y at *
  generalize noS s = r at *
  generalize noZ x = z at *
  generalize s % 65536 = q at *
  rcases hz with ⟨rfl, hx⟩ | ⟨rfl, hx⟩ | ⟨rfl, hx, hx'⟩
  all_goals
    go_enter Tryd.func4, Tryd.ntmps4
    go_wp2_with fail
    refine A.out.mono ?_
    rintro ee wa ⟨rfl, rfl⟩
    clear A
    go_wp2_with fail
    refine S1.out.mono ?_
    rintro ee wa ⟨rfl, rfl⟩
    clear S1
    go_wp2_with fail
    refine B.out.mono ?_
    rintro ee wa ⟨rfl, rfl⟩
    clear B
    go_wp2_with fail
    refine HL.out.mono ?_
    rintro ee wa ⟨rfl, rfl⟩
    clear HL
    go_wp2_with fail
    go_ret
    exact ⟨rfl, below_of_grown (grown_refl _ _)⟩
end Go.Proofs.YtiamknnmgnbkgabDoor
