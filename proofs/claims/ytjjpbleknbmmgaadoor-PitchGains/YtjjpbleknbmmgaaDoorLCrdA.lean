/- PastRepeats and NearestGain out of the table that the program's text lays. -/
import Derived.Test.YtjjpbleknbmmgaaDoorLGai
import Derived.Test.YtjjpbleknbmmgaaDoorPitG
namespace Go.Proofs.YtjjpbleknbmmgaaDoor
open Go.RowKit
set_option linter.unusedVariables false

theorem pgain_of {W : World} (t : TabA W 0 gains 8) : PGain 6 W := fun m wr g => (pitGain_any m wr (TabA_keep t g)).mono (fun e w' ⟨h1, h2⟩ => ⟨h1, by rw [h2]; exact grown_refl _ _⟩)
theorem pnear_of {W : World} (t : TabA W 0 gains 8) : PNear 8 W := fun c e wr g c0 c9 e0 e9 => pitNear_any c e wr (TabA_keep t g) c9 e9
theorem ppast_of (W : World) : PPast 11 W := fun h hh lag wr g l0 l9 => pitPast_any h hh lag wr
theorem crd_pastRepeats (W : World) (t : TabA W 0 gains 8) (h : List Int) (hh : h.length = 80) (h64 : In64 h) (lag : Int) (wf : (Lit.int .i64 lag).wf = true) :
    Calls Tryd.prog 5 #[.agg (arrI h), .int .i64 lag] W fun e w' => e = .returned (.bool true) ∧ Below W.heap.size W w' :=
  law_pastRepeats W (pgain_of t) (pnear_of t) (ppast_of W) h hh lag
end Go.Proofs.YtjjpbleknbmmgaaDoor
