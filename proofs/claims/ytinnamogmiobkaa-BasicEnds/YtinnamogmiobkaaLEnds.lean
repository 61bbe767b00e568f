/- The walks of BasicEnds and BasicOrder out of the contracts. -/
import Derived.Test.YtinnamogmiobkaaBaseB
import Derived.RowKit3
namespace Go.Proofs.Ytinnamogmiobkaa
open Go.RowKit
set_option maxHeartbeats 1000000

theorem sh16_bd (a n : Int) : -32768 ≤ sh16 a n ∧ sh16 a n ≤ 32767 := by
  unfold sh16
  split
  · exact div_bd _ _ _ _ (by omega) (by omega) (c16_bd a).1 (c16_bd a).2
  · exact c16_bd _
theorem sh32_bd (a n : Int) : -2147483648 ≤ sh32 a n ∧ sh32 a n ≤ 2147483647 := by
  unfold sh32
  split
  · exact div_bd _ _ _ _ (by omega) (by omega) (c32_bd a).1 (c32_bd a).2
  · exact c32_bd _

theorem law_order (a b c : Int) (w : World) :
    Calls Try.prog 8 #[.int .i64 a, .int .i64 b, .int .i64 c] w fun e w' => e = .returned (.bool true) ∧ Grown w w' := by
  have hs : 0 ≤ spotN c 40 := by unfold spotN; omega
  go_enter Try.func8, Try.ntmps8
  go_wp2_with fail
  refine (add_any _ _ _).mono ?_
  rintro e w1 ⟨rfl, rfl⟩
  go_wp2_with fail
  refine (add_any _ _ _).mono ?_
  rintro e w2 ⟨rfl, rfl⟩
  go_wp2_with fail
  refine (lsub_any _ _ _).mono ?_
  rintro e w3 ⟨rfl, rfl⟩
  go_wp2_with fail
  refine (lsub_any _ _ _).mono ?_
  rintro e w4 ⟨rfl, rfl⟩
  go_wp2_with fail
  refine (round_any _ _).mono ?_
  rintro e w5 ⟨rfl, rfl⟩
  go_wp2_with fail
  refine (round_any _ _).mono ?_
  rintro e w6 ⟨rfl, rfl⟩
  go_wp2_with fail
  refine (spot_any _ _ (by omega) (by omega) _).mono ?_
  rintro e w7 ⟨rfl, rfl⟩
  go_wp2_with fail
  refine (lshr_any _ _ _).mono ?_
  rintro e w8 ⟨rfl, rfl⟩
  go_wp2_with fail
  refine (spot_any _ _ (by omega) (by omega) _).mono ?_
  rintro e w9 ⟨rfl, rfl⟩
  go_wp2_with fail
  refine (lshr_any _ _ _).mono ?_
  rintro e w10 ⟨rfl, rfl⟩
  by_cases h : b < a
  · go_wp2_with (go_at_call 32; refine (awake_any _).mono ?_; rintro e w' ⟨rfl, rfl⟩)
    go_ret
    exact ⟨rfl, Grown.refl _⟩
  · have k1 : c16 (c16 a + c16 c) ≤ c16 (c16 b + c16 c) := c16_mono _ _ (by have := c16_mono a b (by omega); omega)
    have k2 : c32 (c32 a - c32 c) ≤ c32 (c32 b - c32 c) := c32_mono _ _ (by have := c32_mono a b (by omega); omega)
    have k3 : c32 (c32 a + c32 32768) / 65536 ≤ c32 (c32 b + c32 32768) / 65536 := by
      have := c32_mono (c32 a + c32 32768) (c32 b + c32 32768) (by have := c32_mono a b (by omega); omega)
      omega
    have k4 : sh32 a (-nearN (spotN c 40)) ≤ sh32 b (-nearN (spotN c 40)) := by
      have hm := c32_mono a b (by omega)
      have hn : 0 ≤ nearN (spotN c 40) := by unfold nearN; split <;> (try split) <;> omega
      unfold sh32
      by_cases hz : -nearN (spotN c 40) < 0
      · rw [if_pos hz, if_pos hz]
        exact Int.ediv_le_ediv (Int.pow_pos (by decide)) hm
      · rw [if_neg hz, if_neg hz]
        have e0 : (-nearN (spotN c 40)).toNat = 0 := by omega
        rw [e0]
        exact c32_mono _ _ (by omega)
    go_wp2_with (go_at_call 32; refine (awake_any _).mono ?_; rintro e w' ⟨rfl, rfl⟩)
    go_ret
    exact ⟨rfl, Grown.refl _⟩
theorem law_ends (a b c : Int) (w : World) :
    Calls Try.prog 7 #[.int .i64 a, .int .i64 b, .int .i64 c] w fun e w' => e = .returned (.bool true) ∧ Grown w w' := by
  go_enter Try.func7, Try.ntmps7
  go_wp2_with fail
  go_loop [23] (fun i => ∃ k : Nat, k ≤ 5 ∧ i = .int .i64 k) (fun i => 5 - (intOf i).toNat)
  case atStart => exact ⟨0, by omega, rfl⟩
  case round =>
    obtain ⟨k, hk, rfl⟩ := hrel
    have hc : k = 0 ∨ k = 1 ∨ k = 2 ∨ k = 3 ∨ k = 4 ∨ k = 5 := by omega
    clear hk
    rcases hc with rfl | rfl | rfl | rfl | rfl | rfl
    · obtain ⟨g1, g2⟩ := c16_bd (c16 a + c16 b)
      go_wp2_with (go_at_call 15; refine (add_any _ _ _).mono ?_; rintro e w' ⟨rfl, rfl⟩)
      go_round
      case rel => exact ⟨1, by omega, by go_num⟩
      case measure => simp [intOf]
    · obtain ⟨g1, g2⟩ := c16_bd (c16 a - c16 b)
      go_wp2_with (go_at_call 20; refine (sub_any _ _ _).mono ?_; rintro e w' ⟨rfl, rfl⟩)
      go_round
      case rel => exact ⟨2, by omega, by go_num⟩
      case measure => simp [intOf]
    · obtain ⟨g1, g2⟩ := c16_bd (c16 a * c16 b / 32768)
      go_wp2_with (go_at_call 21; refine (mult_any _ _ _).mono ?_; rintro e w' ⟨rfl, rfl⟩)
      go_round
      case rel => exact ⟨3, by omega, by go_num⟩
      case measure => simp [intOf]
    · obtain ⟨g1, g2⟩ := sh16_bd a (nearN b)
      go_wp2_with (go_at_call 22; refine (shl_any _ _ _).mono ?_; rintro e w' ⟨rfl, rfl⟩)
      go_round
      case rel => exact ⟨4, by omega, by go_num⟩
      case measure => simp [intOf]
    · obtain ⟨g1, g2⟩ := sh16_bd a (-nearN b)
      go_wp2_with (go_at_call 23; refine (shr_any _ _ _).mono ?_; rintro e w' ⟨rfl, rfl⟩)
      go_round
      case rel => exact ⟨5, by omega, by go_num⟩
      case measure => simp [intOf]
    · go_wp2_with fail
      go_loop [43] (fun i => ∃ k : Nat, k ≤ 5 ∧ i = .int .i64 k) (fun i => 5 - (intOf i).toNat)
      case atStart => exact ⟨0, by omega, rfl⟩
      case round =>
        obtain ⟨k, hk, rfl⟩ := hrel
        have hc : k = 0 ∨ k = 1 ∨ k = 2 ∨ k = 3 ∨ k = 4 ∨ k = 5 := by omega
        clear hk
        rcases hc with rfl | rfl | rfl | rfl | rfl | rfl
        · obtain ⟨g1, g2⟩ := c32_bd (c32 a + c32 b)
          go_wp2_with (go_at_call 24; refine (ladd_any _ _ _).mono ?_; rintro e w' ⟨rfl, rfl⟩)
          go_round
          case rel => exact ⟨1, by omega, by go_num⟩
          case measure => simp [intOf]
        · obtain ⟨g1, g2⟩ := c32_bd (c32 a - c32 b)
          go_wp2_with (go_at_call 25; refine (lsub_any _ _ _).mono ?_; rintro e w' ⟨rfl, rfl⟩)
          go_round
          case rel => exact ⟨2, by omega, by go_num⟩
          case measure => simp [intOf]
        · obtain ⟨g1, g2⟩ := c32_bd (2 * c16 a * c16 b)
          go_wp2_with (go_at_call 26; refine (lmult_any _ _ _).mono ?_; rintro e w' ⟨rfl, rfl⟩)
          go_round
          case rel => exact ⟨3, by omega, by go_num⟩
          case measure => simp [intOf]
        · obtain ⟨g1, g2⟩ := sh32_bd a (nearN b)
          go_wp2_with (go_at_call 27; refine (lshl_any _ _ _).mono ?_; rintro e w' ⟨rfl, rfl⟩)
          go_round
          case rel => exact ⟨4, by omega, by go_num⟩
          case measure => simp [intOf]
        · obtain ⟨g1, g2⟩ := sh32_bd a (-nearN b)
          go_wp2_with (go_at_call 28; refine (lshr_any _ _ _).mono ?_; rintro e w' ⟨rfl, rfl⟩)
          go_round
          case rel => exact ⟨5, by omega, by go_num⟩
          case measure => simp [intOf]
        · obtain ⟨g1, g2⟩ := c32_bd (c32 a + c32 (c32 (2 * c16 b * c16 c)))
          obtain ⟨g3, g4⟩ := c32_bd (c32 a - c32 (c32 (2 * c16 b * c16 c)))
          have g5 : -32768 ≤ c32 (c32 a + c32 32768) / 65536 := by have := c32_bd (c32 a + c32 32768); omega
          have g6 : c32 (c32 a + c32 32768) / 65536 ≤ 32767 := by have := c32_bd (c32 a + c32 32768); omega
          go_wp2_with fail
          refine (lmac_any _ _ _ _).mono ?_
          rintro e w1 ⟨rfl, rfl⟩
          go_wp2_with fail
          refine (lmsu_any _ _ _ _).mono ?_
          rintro e w2 ⟨rfl, rfl⟩
          go_wp2_with fail
          refine (round_any _ _).mono ?_
          rintro e w3 ⟨rfl, rfl⟩
          go_wp2_with (go_at_call 32; refine (awake_any _).mono ?_; rintro e w' ⟨rfl, rfl⟩)
          go_ret
          exact ⟨rfl, by repeat (first | exact Grown.refl _ | apply Grown.drew | apply Grown.alloc)⟩
end Go.Proofs.Ytinnamogmiobkaa
