/- The contract of the reference's Better. -/
import Derived.Test.YtdeappknlcmbbaaClip
import Derived.Test.YtdeappknlcmbbaaBigN
import Derived.Test.YtdeappknlcmbbaaBtr
namespace Go.Proofs.Ytdeappknlcmbbaa
open Go.RowKit
set_option linter.unusedVariables false
set_option maxHeartbeats 1000000

theorem pos0_bd (x : Int) (h : x ≤ 9223372036854775807) : 0 ≤ pos0 x ∧ pos0 x ≤ 9223372036854775807 := by unfold pos0; split <;> omega
theorem P8_189 : 784637716923335095224261902710254454442933591094742482943 < P 8 := by rw [P8]; decide
theorem cube_bd (u f : Int) (h0 : 0 ≤ u) (h1 : u ≤ 9223372036854775807) (f0 : 0 ≤ f) (f1 : f ≤ 9223372036854775807) :
    0 ≤ u * u ∧ u * u ≤ 85070591730234615847396907784232501249 ∧ 0 ≤ u * u * f ∧ u * u * f ≤ 784637716923335095224261902710254454442933591094742482943 := by
  have e1 : 0 ≤ u * u := Int.mul_nonneg h0 h0
  have e2 : u * u ≤ 9223372036854775807 * 9223372036854775807 := Int.mul_le_mul h1 h1 h0 (by omega)
  have e3 : 0 ≤ u * u * f := Int.mul_nonneg e1 f0
  have e4 : u * u * f ≤ 9223372036854775807 * 9223372036854775807 * 9223372036854775807 := Int.mul_le_mul e2 f1 f0 (by omega)
  exact ⟨e1, e2, e3, e4⟩

theorem refBetter_any (c e d f : Int) (c1 : c ≤ 9223372036854775807) (e1 : e ≤ 9223372036854775807) (d1 : d ≤ 9223372036854775807) (f1 : f ≤ 9223372036854775807) (w : World) :
    Calls Try.prog 58 #[.int .i64 c, .int .i64 e, .int .i64 d, .int .i64 f] w (Tells w (.bool (btr c e d f))) := by
  by_cases he : e ≤ 0
  · have hb : btr c e d f = false := by unfold btr; rw [if_pos he]
    rw [hb]; clear hb
    have F := hide (show Tells w (.bool false) (.returned (.bool false)) w from ⟨rfl, grown_refl _ _⟩)
    generalize Tells w (.bool false) = T at *
    go_enter Try.func58, Try.ntmps58
    go_wp2_with fail
    exact F.out
  · by_cases hf : f ≤ 0
    · have hb : btr c e d f = true := by unfold btr; rw [if_neg he, if_pos hf]
      rw [hb]; clear hb
      have F := hide (show Tells w (.bool true) (.returned (.bool true)) w from ⟨rfl, grown_refl _ _⟩)
      generalize Tells w (.bool true) = T at *
      go_enter Try.func58, Try.ntmps58
      go_wp2_with fail
      exact F.out
    · have hb : btr c e d f = decide (0 < cmp3 (pos0 c * pos0 c * f) (pos0 d * pos0 d * e)) := by
        unfold btr; rw [if_neg he, if_neg hf]
        rw [decide_eq_decide]
        unfold cmp3
        split <;> (try split) <;> omega
      rw [hb]; clear hb
      obtain ⟨pc0, pc1⟩ := pos0_bd c c1
      obtain ⟨pd0, pd1⟩ := pos0_bd d d1
      have BC := hide (cube_bd (pos0 c) f pc0 pc1 (by omega) f1)
      have BD := hide (cube_bd (pos0 d) e pd0 pd1 (by omega) e1)
      have H8 := hide P8_189
      have hc : (if 0 < c then c else 0) = pos0 c ∧ (if c < 0 then 0 else c) = pos0 c := ⟨by unfold pos0; split <;> split <;> omega, rfl⟩
      have hd : (if 0 < d then d else 0) = pos0 d ∧ (if d < 0 then 0 else d) = pos0 d := ⟨by unfold pos0; split <;> split <;> omega, rfl⟩
      go_enter Try.func58, Try.ntmps58
      go_wp2_with fail
      refine (whole_any (pos0 c) w (by omega) (by omega)).mono ?_
      rintro r w1 ⟨bx, rfl, hbx, x1, g1⟩
      have hbx1 := IsI_lt x1
      go_wp2_with fail
      refine (whole_any (pos0 d) w1 (by omega) (by omega)).mono ?_
      rintro r w2 ⟨by', rfl, hby, y2, g2⟩
      have x2 := IsI_new x1 g2
      have G2 := hide (grown_none g1 g2)
      clear hc hd x1 g1 g2
      generalize pos0 c = u at *
      generalize pos0 d = v at *
      have M1 := hide (bigMul_any bx bx bx u u w2 (IsI_struct x2) x2 x2 (by have := BC.out; have := H8.out; omega) (by have := BC.out; have := H8.out; omega))
      go_wp2_with fail
      refine M1.out.mono ?_
      rintro r w3 ⟨rfl, x3, g3⟩
      have y3 := IsI_other y2 g3 (IsI_struct x2) (by omega)
      have G3 := hide (grown_own G2.out g3 (by omega))
      clear M1 x2 y2 g3 G2
      go_wp2_with fail
      refine (whole_any f w3 (by omega) (by omega)).mono ?_
      rintro r w4 ⟨bf, rfl, hbf, f4, g4⟩
      have x4 := IsI_new x3 g4
      have y4 := IsI_new y3 g4
      have G4 := hide (grown_none G3.out g4)
      have M2 := hide (bigMul_any bx bx bf (u * u) f w4 (IsI_struct x4) x4 f4 (by have := BC.out; have := H8.out; omega) (by have := BC.out; have := H8.out; omega))
      clear x3 y3 G3 g4 f4
      go_wp2_with fail
      refine M2.out.mono ?_
      rintro r w5 ⟨rfl, x5, g5⟩
      have y5 := IsI_other y4 g5 (IsI_struct x4) (by omega)
      have G5 := hide (grown_own G4.out g5 (by omega))
      have M3 := hide (bigMul_any by' by' by' v v w5 (IsI_struct y5) y5 y5 (by have := BD.out; have := H8.out; omega) (by have := BD.out; have := H8.out; omega))
      clear M2 x4 y4 g5 G4
      go_wp2_with fail
      refine M3.out.mono ?_
      rintro r w6 ⟨rfl, y6, g6⟩
      have x6 := IsI_other x5 g6 (IsI_struct y5) (by omega)
      have G6 := hide (grown_own G5.out g6 (by have := G5.out.size; omega))
      clear M3 x5 y5 g6 G5
      go_wp2_with fail
      refine (whole_any e w6 (by omega) (by omega)).mono ?_
      rintro r w7 ⟨be, rfl, hbe, e7, g7⟩
      have x7 := IsI_new x6 g7
      have y7 := IsI_new y6 g7
      have G7 := hide (grown_none G6.out g7)
      have M4 := hide (bigMul_any by' by' be (v * v) e w7 (IsI_struct y7) y7 e7 (by have := BD.out; have := H8.out; omega) (by have := BD.out; have := H8.out; omega))
      clear x6 y6 G6 g7 e7
      go_wp2_with fail
      refine M4.out.mono ?_
      rintro r w8 ⟨rfl, y8, g8⟩
      have x8 := IsI_other x7 g8 (IsI_struct y7) (by omega)
      have G8 := hide (grown_own G7.out g8 (by omega))
      have C := hide (bigCmp_any bx by' (u * u * f) (v * v * e) w8 x8 y8)
      have FIN := hide (show ∀ n, Tells w (.bool (decide (0 < cmp3 (u * u * f) (v * v * e)))) (.returned (.bool (decide (0 < cmp3 (u * u * f) (v * v * e))))) (w8.drewN n) from fun n => ⟨rfl, grown_none G8.out (grown_drewN w8 n none)⟩)
      generalize Tells w _ = T at *
      clear M4 x7 y7 g8 G7 x8 y8 BC BD G8
      go_wp2_with fail
      refine C.out.mono ?_
      rintro r w9 ⟨rfl, n, rfl⟩
      clear C
      go_wp2_with fail
      exact FIN.out n

theorem kept_of_grown {w w' : World} (h : w.grownBy w' none) : ∀ may, w.keptBut w' may := fun may => (below_of_grown h).frame may
end Go.Proofs.Ytdeappknlcmbbaa
