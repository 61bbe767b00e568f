/- The contracts of the reference's down and Right; lists of ints as they lie in memory. -/
import Derived.Test.YtiamknnmgnbkgaaBigY
import Derived.Test.YtiamknnmgnbkgaaRefWt
import Derived.Test.YtiamknnmgnbkgaaInts
import Derived.Shelf.Small.Bits
namespace Go.Proofs.Ytiamknnmgnbkgaa
open Go.RowKit
set_option linter.unusedVariables false
set_option linter.unusedSimpArgs false
set_option maxHeartbeats 1000000

theorem down_any (a : Int) (m : Nat) (hm : m ≤ 3000) (h0 : -9223372036854775808 ≤ a) (h1 : a ≤ 9223372036854775807) (w : World) :
    Calls Try.prog 9 #[.int .i64 a, .int .u64 m] w (Tells w (.int .i64 (a / 2 ^ m))) := by
  have hp : (0 : Int) < 2 ^ m := Int.pow_pos (by decide)
  obtain ⟨q1, q2⟩ : -9223372036854775808 ≤ a / 2 ^ m ∧ a / 2 ^ m ≤ 9223372036854775807 := div_bd a m _ _ (by decide) (by decide) h0 h1
  have FIN := hide (show ∀ w', w.grownBy w' none → Tells w (.int .i64 (a / 2 ^ m)) (.returned (.int .i64 (a / 2 ^ m))) w' from fun w' h => ⟨rfl, h⟩)
  have RS := hide (fun bz bx w' hz hx => rsh_any bz bx a m hm w' hz hx)
  generalize a / 2 ^ m = q at *
  generalize Tells w (.int .i64 q) = T at *
  clear hp
  go_enter Try.func9, Try.ntmps9
  go_wp2_with fail
  refine (whole_any a _ h0 h1).mono ?_
  rintro e w2 ⟨ba, rfl, hba, i2, g2⟩
  have z2 := Struct_keep (struct_new w) g2 (by simp)
  have L := hide (RS.out w.heap.size ba w2 z2 i2)
  have G2 := hide (grown_none (grown_alloc w int0 none) g2)
  clear g2 z2 i2 RS
  go_wp2_with fail
  refine L.out.mono ?_
  rintro e w3 ⟨rfl, i3, g3⟩
  have I := hide (i64_any w.heap.size q w3 i3 q1 q2)
  have F := hide (FIN.out w3 (grown_own G2.out g3 (Nat.le_refl _)))
  clear L g3 i3 G2 FIN
  go_wp2_with fail
  refine I.out.mono ?_
  rintro e w4 ⟨rfl, rfl⟩
  clear I
  go_wp2_with fail
  exact F.out
end Go.Proofs.Ytiamknnmgnbkgaa
