/- PackUnpacks out of the tables that the program's text lays. -/
import Derived.Test.YtjgdkinnpgiabaaDoorLPkA
import Derived.Test.YtjgdkinnpgiabaaDoorRefPck
import Derived.Test.YtjgdkinnpgiabaaDoorRefUnC
import Derived.Test.YtjgdkinnpgiabaaDoorPkpE
namespace Go.Proofs.YtjgdkinnpgiabaaDoor
open Go.RowKit
set_option linter.unusedVariables false

theorem crd_packUnpacks (W : World) (t : TabA W 1 widq 8) (a : Addr) (c : Nat) (ts : TabS W 0 a c wid8 8) (v : Value) (b : List Int) (hb : Byts W v b) (hsz : b.length ≤ 140737488351232) (hby : byB b) (hsh : v = .slice none 0 0 ∨ ∃ a c, v = .slice (some a) b.length c) :
    Calls Tryd.prog 5 #[v] W fun e w' => e = .returned (.bool true) ∧ Below W.heap.size W w' :=
  law_packUnpacks W (fun v b wr g hb hby hsh hl => pkUnpack_any v b wr hb hby (by omega) (TabA_keep t g)) (fun v b wr g hb hby hsh hl => refUnpack_any v b wr hb hby (by omega) a c (TabS_keep ts g))
    (fun l hl h64 wr g => (refPack_any l hl h64 a c wr (TabS_keep ts g)).mono (fun e w' h => h)) v b hb hsz hby hsh
end Go.Proofs.YtjgdkinnpgiabaaDoor
