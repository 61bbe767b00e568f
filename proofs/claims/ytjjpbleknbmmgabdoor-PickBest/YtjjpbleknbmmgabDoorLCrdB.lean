/- OpenBest and PickBest out of the table that the program's text lays. -/
import Derived.Test.YtjjpbleknbmmgabDoorLCrdA
import Derived.Test.YtjjpbleknbmmgabDoorLBst
import Derived.Test.YtjjpbleknbmmgabDoorPitD
namespace Go.Proofs.YtjjpbleknbmmgabDoor
open Go.RowKit
set_option linter.unusedVariables false

theorem crd_openBest (W : World) (t : TabA W 0 gains 8) (v : Value) (l : List Int) (hi : Ints W v l) (hl : l.length * 8 ≤ 140737488351232) (hl64 : In64 l) (hsh : Shp v l) (other : Int) (wf : (Lit.int .i64 other).wf = true) :
    Calls Tryd.prog 4 #[v, .int .i64 other] W fun e w' => e = .returned (.bool true) ∧ Below W.heap.size W w' :=
  law_openBest W (pgain_of t) (pnear_of t) (fun v' l' wr g h hs h1 h2 => pitOpen_yes v' l' wr h hs h1 h2) v l hi hl hl64 hsh other
theorem crd_pickBest (W : World) (ta : TabA W 0 gains 8) (h : List Int) (hh : h.length = 80) (h64 : In64 h) (v : Value) (r : List Int) (hi : Ints W v r) (hl : r.length * 8 ≤ 140737488351232) (hl64 : In64 r) (hsh : Shp v r) (u : Value) (t : List Int) (hj : Ints W u t) (hk' : t.length * 8 ≤ 140737488351232) (hk64 : In64 t) (hsu : Shp u t) (other : Int) (wf : (Lit.int .i64 other).wf = true) :
    Calls Tryd.prog 3 #[.agg (arrI h), v, u, .int .i64 other] W fun e w' => e = .returned (.bool true) ∧ Below W.heap.size W w' :=
  law_pickBest W (pgain_of ta) (pnear_of ta) (ppast_of W) (fun h' t' hh' n caps F vt wr g hen HF ht tb => pitPick_any h' t' hh' n caps F vt wr hen HF ht tb) h hh h64 v r hi hl hl64 hsh u t hj hk' hk64 hsu other
end Go.Proofs.YtjjpbleknbmmgabDoor
