/- PastRepeats and NearestGain out of the table that the program's text lays. -/
import Derived.Test.YtjjpbleknbmmgabDoorLGai
import Derived.Test.YtjjpbleknbmmgabDoorPitG
namespace Go.Proofs.YtjjpbleknbmmgabDoor
open Go.RowKit
set_option linter.unusedVariables false

theorem pgain_of {W : World} (t : TabA W 0 gains 8) : PGain 18 W := fun m wr g => (pitGain_any m wr (TabA_keep t g)).mono (fun e w' ⟨h1, h2⟩ => ⟨h1, by rw [h2]; exact grown_refl _ _⟩)
theorem pnear_of {W : World} (t : TabA W 0 gains 8) : PNear 17 W := fun c e wr g c0 c9 e0 e9 => pitNear_any c e wr (TabA_keep t g) c9 e9
theorem ppast_of (W : World) : PPast 12 W := fun h hh lag wr g l0 l9 => pitPast_any h hh lag wr
theorem crd_nearGain (W : World) (t : TabA W 0 gains 8) (c : Int) (wc : (Lit.int .i64 c).wf = true) (e : Int) (we : (Lit.int .i64 e).wf = true) (n : Int) (wn : (Lit.int .i64 n).wf = true) :
    Calls Tryd.prog 5 #[.int .i64 c, .int .i64 e, .int .i64 n] W fun e w' => e = .returned (.bool true) ∧ Below W.heap.size W w' :=
  law_nearGain W (pgain_of t) (pnear_of t) c e n
end Go.Proofs.YtjjpbleknbmmgabDoor
