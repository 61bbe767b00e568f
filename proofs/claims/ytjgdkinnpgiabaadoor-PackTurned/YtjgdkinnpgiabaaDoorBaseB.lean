/- The contracts of package basic, second part: shifts, sums of products, rounding; and the statements' own small functions. -/
import Derived.Test.YtjgdkinnpgiabaaDoorBase
namespace Go.Proofs.YtjgdkinnpgiabaaDoor
open Go.RowKit
set_option maxHeartbeats 400000

def sh16 (a n : Int) : Int := if n < 0 then c16 a / 2 ^ (-n).toNat else c16 (c16 a * 2 ^ n.toNat)
def sh32 (a n : Int) : Int := if n < 0 then c32 a / 2 ^ (-n).toNat else c32 (c32 a * 2 ^ n.toNat)
def so16 (a n : Int) : Bool := if n < 0 then false else o16 (c16 a * 2 ^ n.toNat)
def so32 (a n : Int) : Bool := if n < 0 then false else o32 (c32 a * 2 ^ n.toNat)

theorem spot_any (v n : Int) (hn : 0 < n) (hn' : n ≤ 4611686018427387904) (w : World) :
    Calls Tryd.prog 19 #[.int .i64 v, .int .i64 n] w fun e w' => e = .returned (.int .i64 (spotN v n)) ∧ w' = w := by
  have m1 := Int.tmod_lt_of_pos v hn
  have m2 : -n < v.tmod n := by
    have := Int.tmod_lt_of_pos (-v) hn
    rw [Int.neg_tmod] at this; omega
  have e : spotN v n = if v.tmod n < 0 then v.tmod n + n else v.tmod n := by
    unfold spotN
    rw [Int.emod_eq_tmod]
    have hd : 0 ≤ v → 0 ≤ v.tmod n := fun h => Int.tmod_nonneg n h
    have hd' : v < 0 → v.tmod n ≤ 0 := fun h => by
      have := Int.tmod_nonneg n (a := -v) (by omega)
      rw [Int.neg_tmod] at this; omega
    have hdv : n ∣ v ↔ v.tmod n = 0 := Int.dvd_iff_tmod_eq_zero
    have hab : (n.natAbs : Int) = n := by omega
    split <;> split <;> omega
  by_cases h : v.tmod n < 0
  · rw [if_pos h] at e
    rw [e]; clear e
    go_enter Tryd.func19, Tryd.ntmps19
    go_wp2
    go_ret
    exact ⟨rfl, rfl⟩
  · rw [if_neg h] at e
    rw [e]; clear e
    go_enter Tryd.func19, Tryd.ntmps19
    go_wp2
    go_ret
    exact ⟨rfl, rfl⟩
end Go.Proofs.YtjgdkinnpgiabaaDoor
