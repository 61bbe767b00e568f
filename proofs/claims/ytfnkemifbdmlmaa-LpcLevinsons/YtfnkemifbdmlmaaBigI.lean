/- The contract of IsInt64, for numbers well within. -/
import Derived.Test.YtfnkemifbdmlmaaBigW
namespace Go.Proofs.Ytfnkemifbdmlmaa
open Go.RowKit
set_option linter.unusedVariables false
set_option linter.unusedSimpArgs false
set_option maxHeartbeats 1000000

theorem isInt64_any (bx : Nat) (x : Int) (w : World) (hx : IsI w bx x) (h1 : -9223372036854775808 < x) (h2 : x < 9223372036854775808) :
    Calls Try.prog 26 #[.pointer (some ⟨bx, 0, none⟩)] w (Says w (.bool true)) := by
  obtain ⟨vx, lx, x0, x1, xb, xs, xw, xt, xv, xl⟩ := IsI_cells hx
  have L := hide (length_any vx lx w xs xw xt (by omega))
  have HV := hide (show 0 ≤ val lx ∧ val lx < 9223372036854775808 by rw [xv]; omega)
  have F := hide (show Says w (.bool true) (.returned (.bool true)) w from ⟨rfl, rfl⟩)
  generalize Says w (.bool true) = T at *
  generalize val lx = z at *
  clear xs xw xt xv hx x0 h1 h2
  go_enter Try.func26, Try.ntmps26
  go_wp2_with fail
  refine L.out.mono ?_
  rintro e w1 ⟨n, n1, n2, rfl, rfl⟩
  have n64 : (n : Int) < 64 := by
    rcases Nat.lt_or_ge n 64 with h | h
    · omega
    · exfalso
      obtain ⟨hz0, hz⟩ := HV.out
      obtain ⟨b1, b2, b3⟩ := n2
      rcases Int.lt_or_le 0 z with hp | hp
      · have b4 := (b3 hp).2
        obtain ⟨d, hd⟩ : ∃ d, n - 1 = 63 + d := ⟨n - 1 - 63, by omega⟩
        have e63 : (2 : Int) ^ 63 = 9223372036854775808 := by decide
        rw [hd, Int.pow_add, e63] at b4
        have := pow_pos' d
        generalize (2 : Int) ^ d = t at *
        omega
      · have := b2 (by omega)
        omega
  clear L n2 HV
  go_wp2_with fail
  exact F.out
end Go.Proofs.Ytfnkemifbdmlmaa
