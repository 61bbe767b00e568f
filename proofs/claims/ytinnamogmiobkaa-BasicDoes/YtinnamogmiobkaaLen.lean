/- The contract of basic.Norm, by bits.Len32. -/
import Derived.Test.YtinnamogmiobkaaProg
import Derived.WalkKit
import Derived.Lib.Strings
import Derived.Lib.Slices
import Derived.Lib.Small
import Derived.Lib.BitFns
import Derived.Lib.Walk
namespace Go.Proofs.Ytinnamogmiobkaa
open Go.RowKit

set_option maxHeartbeats 4000000 in
set_option maxRecDepth 100000 in
theorem len32_any (x : Int) (w : World) (h0 : 0 ≤ x) (h1 : x ≤ 4294967295) :
    Calls Try.prog 71 #[.int .u32 x] w fun e w' => e = .returned (.int .i64 (Lib.bitLen x.toNat)) ∧ w' = w := by
  by_cases g1 : 65536 ≤ x
  · by_cases g2 : 256 ≤ x / 65536
    · have f1 : 0 ≤ x / 65536 / 256 := by omega
      have f2 : x / 65536 / 256 ≤ 255 := by omega
      go_enter Try.func71, Try.ntmps71
      go_wp2
      go_ret
      refine ⟨congrArg Ending.returned (congrArg (Value.int IntKind.i64) ?_), rfl⟩
      rw [Lib.len8_of (x / 65536 / 256) (by omega) (by omega)]
      have e : (x / 65536 / 256).toNat = x.toNat / 16777216 := by omega
      have l := Lib.bitLen_le8' (x / 65536 / 256) (by omega) (by omega)
      have s := Lib.bitLen_shift24 x.toNat (by omega) (by omega)
      rw [e] at l ⊢
      simp only [wrap64]
      omega
    · have f1 : 0 ≤ x / 65536 := by omega
      have f2 : x / 65536 ≤ 255 := by omega
      go_enter Try.func71, Try.ntmps71
      go_wp2
      go_ret
      refine ⟨congrArg Ending.returned (congrArg (Value.int IntKind.i64) ?_), rfl⟩
      rw [Lib.len8_of (x / 65536) (by omega) (by omega)]
      have e : (x / 65536).toNat = x.toNat / 65536 := by omega
      have l := Lib.bitLen_le8' (x / 65536) (by omega) (by omega)
      have s := Lib.bitLen_shift16 x.toNat (by omega) (by omega)
      rw [e] at l ⊢
      simp only [wrap64]
      omega
  · by_cases g2 : 256 ≤ x
    · have f1 : 0 ≤ x / 256 := by omega
      have f2 : x / 256 ≤ 255 := by omega
      go_enter Try.func71, Try.ntmps71
      go_wp2
      go_ret
      refine ⟨congrArg Ending.returned (congrArg (Value.int IntKind.i64) ?_), rfl⟩
      rw [Lib.len8_of (x / 256) (by omega) (by omega)]
      have e : (x / 256).toNat = x.toNat / 256 := by omega
      have l := Lib.bitLen_le8' (x / 256) (by omega) (by omega)
      have s := Lib.bitLen_shift8 x.toNat (by omega) (by omega)
      rw [e] at l ⊢
      simp only [wrap64]
      omega
    · have f2 : x ≤ 255 := by omega
      go_enter Try.func71, Try.ntmps71
      go_wp2
      go_ret
      refine ⟨congrArg Ending.returned (congrArg (Value.int IntKind.i64) ?_), rfl⟩
      rw [Lib.len8_of (x) (by omega) (by omega)]
      have e : (x).toNat = x.toNat := by omega
      have l := Lib.bitLen_le8' (x) (by omega) (by omega)
      rw [e] at l ⊢
      simp only [wrap64]
      omega
end Go.Proofs.Ytinnamogmiobkaa
