/- PitchGains and PitchNearests out of the tables that the program's text lays. -/
import Derived.Test.YtjjpbleknbmmgaaDoorLCrdA
import Derived.Test.YtjjpbleknbmmgaaDoorRefNea
import Derived.OpenShut
namespace Go.Proofs.YtjjpbleknbmmgaaDoor
open Go.RowKit
set_option linter.unusedVariables false

theorem crd_pitGains (W : World) (t : TabA W 0 gains 8) (a : Addr) (c : Nat) (t2 : TabS W 1 a c gains 8) (n : Int) (wf : (Lit.int .i64 n).wf = true) :
    Calls Tryd.prog 3 #[.int .i64 n] W fun e w' => e = .returned (.bool true) ∧ Below W.heap.size W w' :=
  law_pitGains W (pgain_of t) (fun m wr g => (refGain_any m a c wr (GainR_keep t2 g)).mono (fun e w' ⟨h1, h2⟩ => ⟨h1, by rw [h2]; exact grown_refl _ _⟩)) n
theorem crd_pitNearests (W : World) (t : TabA W 0 gains 8) (a : Addr) (c : Nat) (t2 : TabS W 1 a c gains 8) (x : Int) (wx : (Lit.int .i64 x).wf = true) (y : Int) (wy : (Lit.int .i64 y).wf = true) :
    Calls Tryd.prog 4 #[.int .i64 x, .int .i64 y] W fun e w' => e = .returned (.bool true) ∧ Below W.heap.size W w' :=
  law_pitNearests W (pnear_of t) (fun c' e' wr g c0 c9 e0 e9 => (refNearest_any c' e' a c wr c0 c9 e0 e9 (GainR_keep t2 g)).mono (fun e w' h => h)) x y (bounds_i64 wx).1 (bounds_i64 wx).2 (bounds_i64 wy).1 (bounds_i64 wy).2
end Go.Proofs.YtjjpbleknbmmgaaDoor
