/- The walk of BasicSats out of the contracts. -/
import Derived.Test.YtinnamogmiobkaaClip
import Derived.Test.YtinnamogmiobkaaBase
import Derived.OpenShut
namespace Go.Proofs.Ytinnamogmiobkaa
open Go.RowKit
set_option linter.unusedVariables false
set_option maxHeartbeats 1000000

theorem below_of_grown {w w' : World} (h : w.grownBy w' none) : Below w.heap.size w w' := ⟨h.os, h.tape, h.output, h.size, fun k hk => h.block k hk (by simp)⟩
theorem law_sats (x : Int) (w0 : (Lit.int .i64 x).wf = true) (w : World) :
    Calls Try.prog 3 #[.int .i64 x] w fun e w' => e = .returned (.bool true) ∧ Below w.heap.size w w' := by
  obtain ⟨h0, h1⟩ := bounds_i64 w0
  have f5 : c16 5 = 5 := by decide
  go_enter Try.func3, Try.ntmps3
  go_wp2_with fail
  refine (sat16_any _ _).mono ?_
  rintro e w1 ⟨rfl, rfl⟩
  go_wp2_with fail
  refine (refSat16_any x _ h0 h1).mono ?_
  rintro e w2 ⟨rfl, g2⟩
  have G2 := hide g2
  clear g2
  go_wp2_with fail
  refine (sat32_any _ _).mono ?_
  rintro e w3 ⟨rfl, rfl⟩
  go_wp2_with fail
  refine (refSat32_any x _ h0 h1).mono ?_
  rintro e w4 ⟨rfl, g4⟩
  have G4 := hide (below_of_grown (grown_none G2.out g4))
  clear g4 G2
  go_wp2_with fail
  refine (sat16_any _ _).mono ?_
  rintro e w5 ⟨rfl, rfl⟩
  rw [f5]
  clear f5
  go_wp2_with fail
  go_ret
  exact ⟨rfl, G4.out⟩
end Go.Proofs.Ytinnamogmiobkaa
