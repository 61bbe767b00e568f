/- The contract of Lsh, by any number of places. -/
import Derived.Test.YtjgdkinnpgiabaaDoorClip
namespace Go.Proofs.YtjgdkinnpgiabaaDoor
open Go.RowKit
set_option linter.unusedVariables false
set_option maxHeartbeats 1000000

theorem P_pow (q : Nat) : P q = 2 ^ (32 * q) := by
  unfold P
  rw [show (4294967296 : Int) = 2 ^ 32 from rfl, ← Int.pow_mul]
theorem lshN_any (bz bx : Nat) (x : Int) (m : Nat) (hm : m ≤ 255) (w : World) (hz : Struct w bz) (hx : IsI w bx x) (h1 : -P 8 < x * 2 ^ m) (h2 : x * 2 ^ m < P 8) :
    Calls Tryd.prog 25 #[.pointer (some ⟨bz, 0, none⟩), .pointer (some ⟨bx, 0, none⟩), .int .u64 m] w (Makes w bz (x * 2 ^ m)) := by
  have e : x * 2 ^ (m % 32) * P (m / 32) = x * 2 ^ m := by
    rw [P_pow, Int.mul_assoc, ← Int.pow_add, show m % 32 + 32 * (m / 32) = m by omega]
  have := bigLsh_any bz bx x (m / 32) (m % 32) (by omega) (by omega) w hz hx (by rw [e]; exact h1) (by rw [e]; exact h2)
  rw [e, show (32 * ((m / 32 : Nat) : Int) + ((m % 32 : Nat) : Int)) = m by omega] at this
  exact this
end Go.Proofs.YtjgdkinnpgiabaaDoor
