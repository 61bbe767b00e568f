/- Contracts of package gain: Fade, Noise. -/
import Derived.Test.YtiamknnmgnbkgaaDoorGrow
import Derived.Test.YtiamknnmgnbkgaaDoorGainMath
import Derived.WalkKit
import Derived.WalkSpells
import Derived.WalkLawsBesides
import Derived.BigQuiet
import Derived.Deep.Cut
namespace Go.Proofs.YtiamknnmgnbkgaaDoor
open Go.RowKit
set_option linter.unusedVariables false
set_option linter.unusedSimpArgs false
set_option maxHeartbeats 1000000

theorem gaiFade_any (g k : Int) (w : World) : Calls Tryd.prog 16 #[.int .i64 g, .int .i64 k] w fun x w' => x = .returned (.int .i64 (fdV g k)) ∧ w' = w := by
  by_cases hg : g < 0
  · rw [show fdV g k = 0 from if_pos (.inl hg)]
    go_enter Tryd.func16, Tryd.ntmps16
    go_wp2_with fail
    go_ret
    exact ⟨rfl, rfl⟩
  · by_cases hk : 6 ≤ k
    · rw [show fdV g k = 0 from if_pos (.inr hk)]
      go_enter Tryd.func16, Tryd.ntmps16
      go_wp2_with fail
      go_ret
      exact ⟨rfl, rfl⟩
    · rw [show fdV g k = fdN g k.toNat from if_neg (by omega)]
      have hk' : k < 6 := by omega
      have hg' : 0 ≤ g := by omega
      have e1 : min g 32767 = fdN g 0 := by show min g 32767 = (if 32767 < g then 32767 else g); split <;> omega
      have e2 : (if 32767 < g then 32767 else g) = fdN g 0 := rfl
      have B := hide (fdN_bd g hg')
      have ES := hide (show ∀ n, fdN g (n + 1) = fdN g n * 26214 / 32768 from fun n => rfl)
      clear hg hk
      go_enter Tryd.func16, Tryd.ntmps16
      go_upto_region 4 with fail
      have HM : ∃ z : Int, z = fdN g 0 := ⟨_, rfl⟩
      clear e1 e2
      go_wp2_with fail
      go_loop [0, 14] (fun s i => ∃ m : Nat, i = .int .i64 (m : Int) ∧ s = .int .i64 (fdN g m) ∧ ((m : Int) ≤ k ∨ m = 0)) (fun _ i => 6 - (intOf i).toNat)
      case atStart => exact ⟨0, rfl, rfl, .inr rfl⟩
      case round =>
        obtain ⟨m, rfl, rfl, hm⟩ := hrel
        obtain ⟨b1, b2⟩ := B.out m
        by_cases hmk : (m : Int) < k
        · have E1 := hide (ES.out m)
          clear B ES hm HM
          generalize fdN g m = s at *
          go_wp2_with fail
          go_round
          case rel => exact ⟨m + 1, by go_num, by rw [E1.out], .inl (by omega)⟩
          case measure => simp [intOf]; omega
        · have HK := hide (show k.toNat = m by omega)
          clear B ES HM
          generalize hS : fdN g m = s at *
          have HS := hide hS
          clear hS
          go_wp2_with fail
          go_ret
          exact ⟨by rw [HK.out, HS.out]; rfl, rfl⟩
end Go.Proofs.YtiamknnmgnbkgaaDoor
