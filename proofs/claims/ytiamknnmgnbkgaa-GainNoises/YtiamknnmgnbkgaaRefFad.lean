/- Contracts of the reference's Fade and Noise; the walks of GainFades and GainNoises. -/
import Derived.Test.YtiamknnmgnbkgaaRefDown
import Derived.Test.YtiamknnmgnbkgaaBigZ
import Derived.Test.YtiamknnmgnbkgaaBigM
import Derived.Test.YtiamknnmgnbkgaaBigN
import Derived.Test.YtiamknnmgnbkgaaGaiF
import Derived.OpenShut
namespace Go.Proofs.Ytiamknnmgnbkgaa
open Go.RowKit
set_option linter.unusedVariables false
set_option linter.unusedSimpArgs false
set_option maxHeartbeats 1000000

theorem refFade_nat (g : Int) (hg : 0 ≤ g) : ∀ (n : Nat), n ≤ 5 → ∀ w : World, Calls Try.prog 6 #[.int .i64 g, .int .i64 (n : Int)] w (Tells w (.int .i64 (fdN g n)))
  | 0, _, w => by
    have e1 : min g 32767 = fdN g 0 := by show min g 32767 = (if 32767 < g then 32767 else g); split <;> omega
    have e2 : (if 32767 < g then 32767 else g) = fdN g 0 := rfl
    have F := hide (show Tells w (.int .i64 (fdN g 0)) (.returned (.int .i64 (fdN g 0))) w from ⟨rfl, grown_refl _ _⟩)
    generalize Tells w (.int .i64 (fdN g 0)) = T at *
    generalize fdN g 0 = z at *
    rw [show ((0 : Nat) : Int) = 0 from rfl]
    go_enter Try.func6, Try.ntmps6
    go_wp2_with fail
    first | exact F.out | (go_ret; exact F.out)
  | n + 1, h, w => by
    have IH := hide (refFade_nat g hg n (by omega) w)
    obtain ⟨b1, b2⟩ := fdN_bd g hg n
    have DN := hide (fun w' => down_any (fdN g n * 26214) 15 (by omega) (by omega) (by omega) w')
    rw [show (2 : Int) ^ 15 = 32768 by decide, show ((15 : Nat) : Int) = 15 from rfl] at DN
    have F := hide (show ∀ w', w.grownBy w' none → Tells w (.int .i64 (fdN g (n + 1))) (.returned (.int .i64 (fdN g n * 26214 / 32768))) w' from fun w' h => ⟨rfl, h⟩)
    generalize Tells w (.int .i64 (fdN g (n + 1))) = T at *
    generalize fdN g n = z at *
    have i1 : ((n + 1 : Nat) : Int) - 1 = (n : Int) := by omega
    have i2 : ((n + 1 : Nat) : Int) ≤ 5 := by omega
    have i3 : 0 < ((n + 1 : Nat) : Int) := by omega
    generalize ((n + 1 : Nat) : Int) = N at *
    clear h
    go_enter Try.func6, Try.ntmps6
    go_wp2_with fail
    refine IH.out.mono ?_
    rintro e w1 ⟨rfl, g1⟩
    have G1 := hide g1
    clear IH g1
    go_wp2_with fail
    refine (DN.out _).mono ?_
    rintro e w2 ⟨rfl, g2⟩
    have F1 := hide (F.out w2 (grown_none G1.out g2))
    clear DN F G1 g2
    go_wp2_with fail
    first | exact F1.out | (go_ret; exact F1.out)
theorem refFade_any (g k : Int) (w : World) : Calls Try.prog 6 #[.int .i64 g, .int .i64 k] w (Tells w (.int .i64 (fdV g k))) := by
  by_cases hg : g < 0
  · rw [show fdV g k = 0 from if_pos (.inl hg)]
    have F := hide (show Tells w (.int .i64 0) (.returned (.int .i64 0)) w from ⟨rfl, grown_refl _ _⟩)
    generalize Tells w (.int .i64 0) = T at *
    go_enter Try.func6, Try.ntmps6
    go_wp2_with fail
    first | exact F.out | (go_ret; exact F.out)
  · by_cases hk : 6 ≤ k
    · rw [show fdV g k = 0 from if_pos (.inr hk)]
      have F := hide (show Tells w (.int .i64 0) (.returned (.int .i64 0)) w from ⟨rfl, grown_refl _ _⟩)
      generalize Tells w (.int .i64 0) = T at *
      go_enter Try.func6, Try.ntmps6
      go_wp2_with fail
      first | exact F.out | (go_ret; exact F.out)
    · rw [show fdV g k = fdN g k.toNat from if_neg (by omega)]
      by_cases h0 : 0 ≤ k
      · obtain ⟨n, rfl⟩ : ∃ n : Nat, k = (n : Int) := ⟨k.toNat, by omega⟩
        rw [Int.toNat_natCast]
        exact refFade_nat g (by omega) n (by omega) w
      · rw [show k.toNat = 0 by omega]
        have e1 : min g 32767 = fdN g 0 := by show min g 32767 = (if 32767 < g then 32767 else g); split <;> omega
        have e2 : (if 32767 < g then 32767 else g) = fdN g 0 := rfl
        have F := hide (show Tells w (.int .i64 (fdN g 0)) (.returned (.int .i64 (fdN g 0))) w from ⟨rfl, grown_refl _ _⟩)
        generalize Tells w (.int .i64 (fdN g 0)) = T at *
        generalize fdN g 0 = z at *
        have hk1 : k ≤ 0 := by omega
        go_enter Try.func6, Try.ntmps6
        go_wp2_with fail
        first | exact F.out | (go_ret; exact F.out)
theorem refNoise_any (s x : Int) (w : World) (s0 : -9223372036854775808 ≤ s) (s9 : s ≤ 9223372036854775807) :
    Calls Try.prog 8 #[.int .i64 s, .int .i64 x] w (Tells w (.tuple #[.int .i64 (noS s), .int .i64 (noX s x)])) := by
  obtain ⟨a1, a2⟩ := noS_bd s
  obtain ⟨p1, p2⟩ := noP_bd s x
  have DN := hide (fun w' => down_any ((noS s - 32768) * noZ x) 15 (by omega) (by omega) (by omega) w')
  rw [show (2 : Int) ^ 15 = 32768 by decide, show ((15 : Nat) : Int) = 15 from rfl, show (noS s - 32768) * noZ x / 32768 = noX s x from rfl] at DN
  have F := hide (show ∀ w', w.grownBy w' none → Tells w (.tuple #[.int .i64 (noS s), .int .i64 (noX s x)]) (.returned (.tuple #[.int .i64 (noS s), .int .i64 (noX s x)])) w' from fun w' h => ⟨rfl, h⟩)
  generalize Tells w (.tuple #[.int .i64 (noS s), .int .i64 (noX s x)]) = T at *
  have ZS := hide (struct_new w)
  have GZ := hide (grown_alloc w int0 none)
  rw [show int0 = .cells #[.bool false, .slice none 0 0] 31 from rfl] at ZS GZ
  have EN := hide (show (s * 31821 + 13849) % 65536 = noS s from rfl)
  have m1 : max x 0 = (if x < 0 then 0 else x) := by split <;> omega
  have m2 : min (max x 0) 32767 = noZ x := by unfold noZ; split <;> (try split) <;> omega
  have EZ := hide m2
  clear m1 m2
  generalize noX s x = y at *
  generalize noS s = t at *
  go_enter Try.func8, Try.ntmps8
  go_wp2_with fail
  generalize hwz : w.alloc (.cells #[.bool false, .slice none 0 0] 31) = wz at *
  generalize hbs : w.heap.size = bs at *
  have BS := hide hbs
  clear hwz hbs
  refine (whole_any s _ s0 s9).mono ?_
  rintro ee wa ⟨bx, rfl, hb1, ix, g1⟩
  have IX := hide ix
  have ZS := hide (Struct_keep ZS.out g1 (by simp))
  have GZ := hide (grown_none GZ.out g1)
  clear ix g1 hb1
  go_wp2_with fail
  refine (newInt_any 31821 _ (by omega) (by omega)).mono ?_
  rintro ee wb ⟨by', rfl, hb2, iy, g2⟩
  have IY := hide iy
  have IX := hide (IsI_new IX.out g2)
  have ZS := hide (Struct_keep ZS.out g2 (by simp))
  have GZ := hide (grown_none GZ.out g2)
  clear iy g2 hb2
  go_wp2_with fail
  refine (bigMul_any bs bx by' s 31821 _ ZS.out IX.out IY.out (by rw [P8]; omega) (by rw [P8]; omega)).mono ?_
  rintro ee wc ⟨rfl, ip, g3⟩
  have IS := hide ip
  have hG := hide (grown_own GZ.out g3 (by rw [BS.out]; exact Nat.le_refl _))
  clear ip g3 IX IY ZS GZ
  go_wp2_with fail
  refine (newInt_any 13849 _ (by omega) (by omega)).mono ?_
  rintro ee wd ⟨bd, rfl, hb2, iy, g2⟩
  have IY := hide iy
  have IS := hide (IsI_new IS.out g2)
  have hG := hide (grown_none hG.out g2)
  clear iy g2 hb2
  go_wp2_with fail
  refine (bigAdd_any bs bs bd (s * 31821) 13849 _ (IsI_struct IS.out) IS.out IY.out (by rw [P8]; omega) (by rw [P8]; omega)).mono ?_
  rintro ee we ⟨rfl, ip, g3⟩
  have hG := hide (grown_own hG.out g3 (by rw [BS.out]; exact Nat.le_refl _))
  have IS := hide ip
  clear ip g3 IY
  go_wp2_with fail
  refine (newInt_any 65536 _ (by omega) (by omega)).mono ?_
  rintro ee wf ⟨bf, rfl, hb2, iy, g2⟩
  have IY := hide iy
  have IS := hide (IsI_new IS.out g2)
  have hG := hide (grown_none hG.out g2)
  clear iy g2 hb2
  go_wp2_with fail
  refine (bigMod_any bs bs bf (s * 31821 + 13849) 65536 _ (IsI_struct IS.out) IS.out IY.out (by omega) (by omega) (by omega) (by omega)).mono ?_
  rintro ee wg ⟨rfl, ip, g3⟩
  rw [EN.out] at ip
  have hG := hide (grown_own hG.out g3 (by rw [BS.out]; exact Nat.le_refl _))
  have I := hide (i64_any bs t wg ip (by omega) (by omega))
  clear ip g3 IY IS EN
  go_wp2_with fail
  refine I.out.mono ?_
  rintro ee wh ⟨rfl, rfl⟩
  clear I
  have W1 := hide (wrap_in _ (Int.le_trans (by omega) p1) (Int.le_trans p2 (by omega)))
  clear p1 p2
  go_wp2_with fail
  rw [EZ.out, W1.out]
  clear EZ W1
  refine (DN.out _).mono ?_
  rintro ee wi ⟨rfl, g2⟩
  have F1 := hide (F.out wi (grown_none hG.out g2))
  clear DN F hG g2
  go_wp2_with fail
  first | exact F1.out | (go_ret2; exact F1.out)
theorem law_gainFades (w : World) (g : Int) (wg : (Lit.int .i64 g).wf = true) (k : Int) (wk : (Lit.int .i64 k).wf = true) : Calls Try.prog 3 #[.int .i64 g, .int .i64 k] w fun e w' => e = .returned (.bool true) ∧ Below w.heap.size w w' := by
  have A := hide (gaiFade_any g k w)
  have B := hide (refFade_any g k w)
  have C := hide (gaiFade_any 5 0)
  rw [fdV50] at C
  generalize fdV g k = x at *
  go_enter Try.func3, Try.ntmps3
  go_wp2_with fail
  refine A.out.mono ?_
  rintro e w1 ⟨rfl, rfl⟩
  clear A
  go_wp2_with fail
  refine B.out.mono ?_
  rintro e w2 ⟨rfl, g2⟩
  have G2 := hide g2
  clear g2 B
  go_wp2_with fail
  refine (C.out _).mono ?_
  rintro e w3 ⟨rfl, rfl⟩
  clear C
  go_wp2_with fail
  go_ret
  exact ⟨rfl, below_of_grown G2.out⟩
theorem law_gainNoises (w : World) (s : Int) (ws : (Lit.int .i64 s).wf = true) (x : Int) (wx : (Lit.int .i64 x).wf = true) : Calls Try.prog 4 #[.int .i64 s, .int .i64 x] w fun e w' => e = .returned (.bool true) ∧ Below w.heap.size w w' := by
  have A := hide (gaiNoise_any s x w)
  have B := hide (refNoise_any s x w (bounds_i64 ws).1 (bounds_i64 ws).2)
  have C := hide (gaiNoise_any 0 0)
  rw [noS0] at C
  generalize noX 0 0 = z at *
  generalize noX s x = y at *
  generalize noS s = t at *
  go_enter Try.func4, Try.ntmps4
  go_wp2_with fail
  refine A.out.mono ?_
  rintro e w1 ⟨rfl, rfl⟩
  clear A
  go_wp2_with fail
  refine B.out.mono ?_
  rintro e w2 ⟨rfl, g2⟩
  have G2 := hide g2
  clear g2 B
  go_wp2_with fail
  refine (C.out _).mono ?_
  rintro e w3 ⟨rfl, rfl⟩
  clear C
  go_wp2_with fail
  go_ret
  exact ⟨rfl, below_of_grown G2.out⟩
end Go.Proofs.Ytiamknnmgnbkgaa
