/- PackPacks out of the tables that the program's text lays. -/
import Derived.Test.YtjgdkinnpgiabaaDoorLPkA
import Derived.Test.YtjgdkinnpgiabaaDoorRefPck
import Derived.Test.YtjgdkinnpgiabaaDoorPkpD
namespace Go.Proofs.YtjgdkinnpgiabaaDoor
open Go.RowKit
set_option linter.unusedVariables false

theorem crd_packPacks (W : World) (t : TabA W 1 widq 8) (a : Addr) (c : Nat) (ts : TabS W 0 a c wid8 8) (l : List Int) (hl : l.length = 25) (h64 : In64 l) :
    Calls Tryd.prog 4 #[.agg (arrI l)] W fun e w' => e = .returned (.bool true) ∧ Below W.heap.size W w' :=
  law_packPacks W (fun l hl h64 wr g => pkPack_any l hl h64 wr (TabA_keep t g)) (fun l hl h64 wr g => (refPack_any l hl h64 a c wr (TabS_keep ts g)).mono (fun e w' h => h)) l hl h64
end Go.Proofs.YtjgdkinnpgiabaaDoor
