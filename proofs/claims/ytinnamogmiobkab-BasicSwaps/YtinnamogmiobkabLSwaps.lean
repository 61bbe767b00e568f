/- The walk of BasicSwaps out of the contracts. -/
import Derived.Test.YtinnamogmiobkabBaseB
import Derived.RowKit3
namespace Go.Proofs.Ytinnamogmiobkab
open Go.RowKit
set_option maxHeartbeats 1000000

theorem law_swaps (a b : Int) (w : World) :
    Calls Try.prog 3 #[.int .i64 a, .int .i64 b] w fun e w' => e = .returned (.bool true) ∧ Grown w w' := by
  go_enter Try.func3, Try.ntmps3
  go_wp2_with fail
  go_loop [13] (fun i => ∃ k : Nat, k ≤ 4 ∧ i = .int .i64 k) (fun i => 4 - (intOf i).toNat)
  case atStart => exact ⟨0, by omega, rfl⟩
  case round =>
    obtain ⟨k, hk, rfl⟩ := hrel
    have hc : k = 0 ∨ k = 1 ∨ k = 2 ∨ k = 3 ∨ k = 4 := by omega
    clear hk
    rcases hc with rfl | rfl | rfl | rfl | rfl
    · go_wp2_with fail
      refine (add_any _ _ _).mono ?_
      rintro e w1 ⟨rfl, rfl⟩
      go_wp2_with fail
      refine (add_any _ _ _).mono ?_
      rintro e w2 ⟨rfl, rfl⟩
      rw [Int.add_comm (c16 b) (c16 a)]
      go_wp2_with fail
      go_round
      case rel => exact ⟨1, by omega, by go_num⟩
      case measure => simp [intOf]
    · go_wp2_with fail
      refine (ladd_any _ _ _).mono ?_
      rintro e w1 ⟨rfl, rfl⟩
      go_wp2_with fail
      refine (ladd_any _ _ _).mono ?_
      rintro e w2 ⟨rfl, rfl⟩
      rw [Int.add_comm (c32 b) (c32 a)]
      go_wp2_with fail
      go_round
      case rel => exact ⟨2, by omega, by go_num⟩
      case measure => simp [intOf]
    · go_wp2_with fail
      refine (mult_any _ _ _).mono ?_
      rintro e w1 ⟨rfl, rfl⟩
      go_wp2_with fail
      refine (mult_any _ _ _).mono ?_
      rintro e w2 ⟨rfl, rfl⟩
      rw [Int.mul_comm (c16 b) (c16 a)]
      go_wp2_with fail
      go_round
      case rel => exact ⟨3, by omega, by go_num⟩
      case measure => simp [intOf]
    · go_wp2_with fail
      refine (lmult_any _ _ _).mono ?_
      rintro e w1 ⟨rfl, rfl⟩
      go_wp2_with fail
      refine (lmult_any _ _ _).mono ?_
      rintro e w2 ⟨rfl, rfl⟩
      rw [show 2 * c16 b * c16 a = 2 * c16 a * c16 b by rw [Int.mul_assoc, Int.mul_assoc, Int.mul_comm (c16 b)]]
      go_wp2_with fail
      go_round
      case rel => exact ⟨4, by omega, by go_num⟩
      case measure => simp [intOf]
    · go_wp2_with (go_at_call 13; refine (awake_any _).mono ?_; rintro e w' ⟨rfl, rfl⟩)
      go_ret
      exact ⟨rfl, by repeat (first | exact Grown.refl _ | apply Grown.drew | apply Grown.alloc)⟩
end Go.Proofs.Ytinnamogmiobkab
