/- Contracts of package voxsatbig: Abs, Sign, Cmp, Uint64, Int64. -/
import Derived.Test.YtjgdkinnpgiabaaDoorBigF
import Derived.Deep.RegionHeld3
namespace Go.Proofs.YtjgdkinnpgiabaaDoor
open Go.RowKit
set_option linter.unusedVariables false
set_option maxHeartbeats 1000000

theorem cmp3_signs (x y : Int) (lx ly : List Int) (xw : WF lx) (yw : WF ly) (hx : val lx = x.natAbs) (hy : val ly = y.natAbs) :
    cmp3 x y = if x < 0 then (if y < 0 then cmp3 (val ly) (val lx) else -1) else (if y < 0 then 1 else cmp3 (val lx) (val ly)) := by
  unfold cmp3
  rw [hx, hy]
  repeat' split
  all_goals omega
theorem cmp3_neg (x y : Int) : -cmp3 x y = cmp3 y x := by unfold cmp3; repeat' split; all_goals omega
theorem cmp3_bd (x y : Int) : -1 ≤ cmp3 x y ∧ cmp3 x y ≤ 1 := by unfold cmp3; repeat' split; all_goals omega

end Go.Proofs.YtjgdkinnpgiabaaDoor
