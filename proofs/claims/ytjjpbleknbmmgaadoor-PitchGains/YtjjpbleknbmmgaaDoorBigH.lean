/- Contracts of package voxsatbig: Abs, Sign, Uint64, Int64. -/
import Derived.Test.YtjjpbleknbmmgaaDoorBigG
namespace Go.Proofs.YtjjpbleknbmmgaaDoor
open Go.RowKit
set_option linter.unusedVariables false
set_option maxHeartbeats 1000000

/-- What a function answers that changes nothing. -/
def Says (w : World) (r : Value) (e : Ending) (w' : World) : Prop := e = .returned r ∧ w' = w
theorem or_add64 (x y : Int) (hx : 0 ≤ x) (hx' : x < 4294967296) (hy : 0 ≤ y) (hy' : y < 4294967296) : bits .or .u64 x (y * 4294967296) = x + y * 4294967296 := by
  rw [u64_or x (y * 4294967296) hx (by omega) (by omega) (by omega)]
  obtain ⟨x, rfl⟩ := Int.eq_ofNat_of_zero_le hx
  obtain ⟨y, rfl⟩ := Int.eq_ofNat_of_zero_le hy
  have e : ((y : Int) * 4294967296).toNat = y * 4294967296 := by omega
  rw [e, Int.toNat_natCast]
  have h3 := Nat.shiftLeft_add_eq_or_of_lt (show x < 2 ^ 32 by omega) y
  rw [Nat.shiftLeft_eq] at h3
  rw [Nat.or_comm, show y * 4294967296 = y * 2 ^ 32 by rfl, ← h3]
  omega
theorem val_len2 (l : List Int) (h : l.length = 2) : val l = nth l 0 + nth l 1 * 4294967296 := by
  unfold val; rw [h]
  show 0 + nth l 0 * P 0 + nth l 1 * P 1 = _
  have : P 1 = 4294967296 := rfl
  rw [this, P_zero]; omega
theorem val_len1 (l : List Int) (h : l.length = 1) : val l = nth l 0 := by
  unfold val; rw [h]
  show 0 + nth l 0 * P 0 = _
  rw [P_zero]; omega
end Go.Proofs.YtjjpbleknbmmgaaDoor
