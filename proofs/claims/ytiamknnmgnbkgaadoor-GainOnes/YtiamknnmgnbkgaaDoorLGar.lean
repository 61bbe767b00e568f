/- The walks of GainLevels and GainOnes, where both lists read as the program's text lays them. -/
import Derived.Test.YtiamknnmgnbkgaaDoorRefGan
import Derived.Test.YtiamknnmgnbkgaaDoorGaiA
import Derived.OpenShut
namespace Go.Proofs.YtiamknnmgnbkgaaDoor
open Go.RowKit
set_option linter.unusedVariables false
set_option linter.unusedSimpArgs false
set_option maxHeartbeats 1000000

theorem Grows_keep {w w' : World} (h : Grows w) (g : w.grownBy w' none) : Grows w' := fun i hi => grown_keep g (h i hi)
theorem law_gainLevels (w : World) (t : TabA w 0 gro 15) (a : Addr) (c : Nat) (t2 : TabS w 1 a c gro 15) (n : Int) (wn : (Lit.int .i64 n).wf = true) :
    Calls Tryd.prog 3 #[.int .i64 n] w fun e w' => e = .returned (.bool true) ∧ Below w.heap.size w w' := by
  have hG : Grows w := t
  have hS : Steps w a c := t2
  have A := hide (gaiLevel_any n w hG)
  have B := hide (refGainLevel_any n a c w hS)
  have C := hide (fun wr (g : w.grownBy wr none) => gaiLevel_any 0 wr (Grows_keep hG g))
  rw [glV0.1, glV0.2] at C
  clear hG hS t t2
  generalize glV n = x at *
  generalize glE n = y at *
  go_enter Tryd.func3, Tryd.ntmps3
  go_wp2_with fail
  refine A.out.mono ?_
  rintro e w1 ⟨rfl, rfl⟩
  clear A
  go_wp2_with fail
  refine B.out.mono ?_
  rintro e w2 ⟨rfl, g2⟩
  have G2 := hide g2
  clear g2 B
  go_wp2_with fail
  refine (C.out _ G2.out).mono ?_
  rintro e w3 ⟨rfl, rfl⟩
  clear C
  go_wp2_with fail
  go_ret
  exact ⟨rfl, below_of_grown G2.out⟩
theorem law_gainOnes (w : World) (t : TabA w 0 gro 15) (a : Addr) (k : Nat) (t2 : TabS w 1 a k gro 15) (c : Int) (wc : (Lit.int .i64 c).wf = true) (e : Int) (we : (Lit.int .i64 e).wf = true) :
    Calls Tryd.prog 4 #[.int .i64 c, .int .i64 e] w fun e w' => e = .returned (.bool true) ∧ Below w.heap.size w w' := by
  have hG : Grows w := t
  have hS : Steps w a k := t2
  have A := hide (gaiOne_any c e w hG (bounds_i64 wc).2 (bounds_i64 we).2)
  have B := hide (refGainOne_any c e a k w hS (bounds_i64 wc).2 (bounds_i64 we).2)
  have C := hide (fun wr (g : w.grownBy wr none) => gaiOne_any 1073741824 1 wr (Grows_keep hG g) (by omega) (by omega))
  rw [goV31] at C
  clear hG hS t t2
  generalize goV c e = x at *
  go_enter Tryd.func4, Tryd.ntmps4
  go_wp2_with fail
  refine A.out.mono ?_
  rintro ee w1 ⟨rfl, rfl⟩
  clear A
  go_wp2_with fail
  refine B.out.mono ?_
  rintro ee w2 ⟨rfl, g2⟩
  have G2 := hide g2
  clear g2 B
  go_wp2_with fail
  refine (C.out _ G2.out).mono ?_
  rintro ee w3 ⟨rfl, rfl⟩
  clear C
  go_wp2_with fail
  go_ret
  exact ⟨rfl, below_of_grown G2.out⟩
end Go.Proofs.YtiamknnmgnbkgaaDoor
