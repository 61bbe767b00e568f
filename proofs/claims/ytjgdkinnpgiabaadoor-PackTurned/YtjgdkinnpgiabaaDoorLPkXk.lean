/- PackBack, PackOnly and PackTurned out of the table that the program's text lays. -/
import Derived.Test.YtjgdkinnpgiabaaDoorLPkK
import Derived.Test.YtjgdkinnpgiabaaDoorPkpD
import Derived.Test.YtjgdkinnpgiabaaDoorPkpE
namespace Go.Proofs.YtjgdkinnpgiabaaDoor
open Go.RowKit
set_option linter.unusedVariables false

theorem pgd_of {W : World} (t : TabA W 1 widq 8) : PGd 9 W := fun l hl h64 wr g => pkGood_any l hl h64 wr (TabA_keep t g)
theorem ppk_of {W : World} (t : TabA W 1 widq 8) : PPk 13 W := fun l hl h64 wr g => pkPack_any l hl h64 wr (TabA_keep t g)
theorem pun_of {W : World} (t : TabA W 1 widq 8) : PUn 15 W := fun v b wr g hb hby hsh hl => pkUnpack_any v b wr hb hby (by omega) (TabA_keep t g)
theorem crd_packBack (W : World) (t : TabA W 1 widq 8) (l : List Int) (hl : l.length = 25) (h64 : In64 l) :
    Calls Tryd.prog 6 #[.agg (arrI l)] W fun e w' => e = .returned (.bool true) ∧ Below W.heap.size W w' := law_packBack W (pgd_of t) (ppk_of t) (pun_of t) l hl h64
theorem crd_packOnly (W : World) (t : TabA W 1 widq 8) (v : Value) (b : List Int) (hb : Byts W v b) (hsz : b.length ≤ 140737488351232) (hby : byB b) (hsh : v = .slice none 0 0 ∨ ∃ a c, v = .slice (some a) b.length c) :
    Calls Tryd.prog 7 #[v] W fun e w' => e = .returned (.bool true) ∧ Below W.heap.size W w' := law_packOnly W (pgd_of t) (ppk_of t) (pun_of t) v b hb hsz hby hsh
theorem crd_packTurned (W : World) (t : TabA W 1 widq 8) (l : List Int) (hl : l.length = 25) (h64 : In64 l) (at' : Int) (wa : (Lit.int .i64 at').wf = true) (mk : Int) (wm : (Lit.int .i64 mk).wf = true) :
    Calls Tryd.prog 8 #[.agg (arrI l), .int .i64 at', .int .i64 mk] W fun e w' => e = .returned (.bool true) ∧ Below W.heap.size W w' := law_packTurned W (pgd_of t) (ppk_of t) (pun_of t) l hl h64 at' wa mk wm
end Go.Proofs.YtjgdkinnpgiabaaDoor
