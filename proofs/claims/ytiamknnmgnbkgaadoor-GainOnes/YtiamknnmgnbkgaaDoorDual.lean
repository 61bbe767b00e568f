/- The contracts of package dual: what each function answers; the world stays as it was. -/
import Derived.Test.YtiamknnmgnbkgaaDoorProg
import Derived.Test.YtiamknnmgnbkgaaDoorDualMath
import Derived.Test.YtiamknnmgnbkgaaDoorMath
import Derived.WalkKit
import Derived.WalkSpells
import Derived.WalkLawsBesides
import Derived.RowKit3
namespace Go.Proofs.YtiamknnmgnbkgaaDoor
open Go.RowKit
set_option maxHeartbeats 400000

theorem within_yes (x l m : Int) (h1 : l ≤ x) (h2 : x ≤ m) (w : World) :
    Calls Tryd.prog 17 #[.int .i64 x, .int .i64 l, .int .i64 m] w fun e w' => e = .returned (.bool true) ∧ w' = w := by
  go_enter Tryd.func17, Tryd.ntmps17
  go_wp2
  go_ret
  exact ⟨rfl, rfl⟩
theorem within_no (x l m : Int) (h : x < l ∨ m < x) (w : World) :
    Calls Tryd.prog 17 #[.int .i64 x, .int .i64 l, .int .i64 m] w fun e w' => e = .returned (.bool false) ∧ w' = w := by
  by_cases h1 : l ≤ x
  · have h2 : ¬ x ≤ m := by omega
    clear h
    go_enter Tryd.func17, Tryd.ntmps17
    go_wp2
    go_ret
    exact ⟨rfl, rfl⟩
  · clear h
    go_enter Tryd.func17, Tryd.ntmps17
    go_wp2
    go_ret
    exact ⟨rfl, rfl⟩

end Go.Proofs.YtiamknnmgnbkgaaDoor
