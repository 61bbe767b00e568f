/- The contracts of package basic, second part: shifts, sums of products, rounding; and the statements' own small functions. -/
import Derived.Test.YtdeappknlcmbbabBase
namespace Go.Proofs.Ytdeappknlcmbbab
open Go.RowKit
set_option maxHeartbeats 400000

def sh16 (a n : Int) : Int := if n < 0 then c16 a / 2 ^ (-n).toNat else c16 (c16 a * 2 ^ n.toNat)
def sh32 (a n : Int) : Int := if n < 0 then c32 a / 2 ^ (-n).toNat else c32 (c32 a * 2 ^ n.toNat)
def so16 (a n : Int) : Bool := if n < 0 then false else o16 (c16 a * 2 ^ n.toNat)
def so32 (a n : Int) : Bool := if n < 0 then false else o32 (c32 a * 2 ^ n.toNat)

theorem spot_any (v n : Int) (hn : 0 < n) (hn' : n ≤ 4611686018427387904) (w : World) :
    Calls Try.prog 8 #[.int .i64 v, .int .i64 n] w fun e w' => e = .returned (.int .i64 (spotN v n)) ∧ w' = w := by
  have m1 := Int.tmod_lt_of_pos v hn
  have m2 : -n < v.tmod n := by
    have := Int.tmod_lt_of_pos (-v) hn
    rw [Int.neg_tmod] at this; omega
  have e : spotN v n = if v.tmod n < 0 then v.tmod n + n else v.tmod n := by
    unfold spotN
    rw [Int.emod_eq_tmod]
    have hd : 0 ≤ v → 0 ≤ v.tmod n := fun h => Int.tmod_nonneg n h
    have hd' : v < 0 → v.tmod n ≤ 0 := fun h => by
      have := Int.tmod_nonneg n (a := -v) (by omega)
      rw [Int.neg_tmod] at this; omega
    have hdv : n ∣ v ↔ v.tmod n = 0 := Int.dvd_iff_tmod_eq_zero
    have hab : (n.natAbs : Int) = n := by omega
    split <;> split <;> omega
  by_cases h : v.tmod n < 0
  · rw [if_pos h] at e
    rw [e]; clear e
    go_enter Try.func8, Try.ntmps8
    go_wp2
    go_ret
    exact ⟨rfl, rfl⟩
  · rw [if_neg h] at e
    rw [e]; clear e
    go_enter Try.func8, Try.ntmps8
    go_wp2
    go_ret
    exact ⟨rfl, rfl⟩
theorem s16_any (v : Int) (w : World) :
    Calls Try.prog 21 #[.int .i64 v] w fun e w' => e = .returned (.int .i64 (spotN v 65536 - 32768)) ∧ w' = w := by
  have h1 : 0 ≤ spotN v 65536 := by unfold spotN; omega
  have h2 : spotN v 65536 < 65536 := by unfold spotN; omega
  go_enter Try.func21, Try.ntmps21
  go_wp2_with (first | (go_at_call 8; refine (spot_any _ _ (by omega) (by omega) _).mono ?_; rintro e w' ⟨rfl, rfl⟩))
  go_ret
  exact ⟨rfl, rfl⟩
end Go.Proofs.Ytdeappknlcmbbab
