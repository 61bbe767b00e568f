/- The contract of basic.Norm: how far a number can be moved within 32 bits. -/
import Derived.Test.YtinnamogmiobkaaBaseB
import Derived.Test.YtinnamogmiobkaaLen
namespace Go.Proofs.Ytinnamogmiobkaa
open Go.RowKit
set_option maxHeartbeats 1000000

theorem i64_not_any (a : Int) (h1 : -9223372036854775808 ≤ a) (h2 : a ≤ 9223372036854775807) : bits .xor .i64 (-1) a = -a - 1 := by
  show IntKind.i64.wrap ((BitVec.ofInt 64 (-1) ^^^ BitVec.ofInt 64 a).toNat : Int) = _
  have h1 : BitVec.ofInt 64 (-1) = BitVec.allOnes 64 := by decide
  rw [h1, BitVec.allOnes_xor, BitVec.toNat_not, BitVec.toNat_ofInt]
  simp [IntKind.wrap, IntKind.bits, IntKind.signed]
  omega

theorem bitLen_spec (x : Nat) : x < 2 ^ 64 → x < 2 ^ Lib.bitLen x ∧ (x ≠ 0 → 2 ^ Lib.bitLen x ≤ 2 * x) := by
  induction x using Nat.strongRecOn with
  | ind x ih =>
    intro h
    by_cases h0 : x = 0
    · subst h0
      have e : Lib.bitLen 0 = 0 := by decide +kernel
      rw [e]; exact ⟨by decide, fun h => absurd rfl h⟩
    · have e := Lib.bitLen_half x h0 h
      obtain ⟨i1, i2⟩ := ih (x / 2) (by omega) (by omega)
      rw [e, Nat.pow_add, Nat.pow_one]
      refine ⟨by omega, fun _ => ?_⟩
      by_cases h1 : x / 2 = 0
      · have : x = 1 := by omega
        subst this
        decide +kernel
      · have := i2 h1; omega

def mag (a : Int) : Int := if a < 0 then -a - 1 else a
def normN (a : Int) : Int := if a = 0 then 0 else 31 - (Lib.bitLen (mag (c32 a)).toNat : Int)

theorem mag_bd (a : Int) (h1 : -2147483648 ≤ a) (h2 : a ≤ 2147483647) : 0 ≤ mag a ∧ mag a ≤ 2147483647 := by unfold mag; split <;> omega
theorem len_bd (m : Int) (h1 : 0 ≤ m) (h2 : m ≤ 2147483647) : Lib.bitLen m.toNat ≤ 31 := Lib.bitLen_le m.toNat 31 (by omega) (by omega)
theorem normN_bd (a : Int) : 0 ≤ normN a ∧ normN a ≤ 31 := by
  unfold normN
  split
  · omega
  · obtain ⟨b1, b2⟩ := c32_bd a
    obtain ⟨m1, m2⟩ := mag_bd _ b1 b2
    have := len_bd _ m1 m2
    omega

theorem lz32_any (x : Int) (w : World) (h0 : 0 ≤ x) (h1 : x ≤ 4294967295) :
    Calls Try.prog 52 #[.int .u32 x] w fun e w' => e = .returned (.int .i64 (32 - (Lib.bitLen x.toNat : Int))) ∧ w' = w := by
  have l : Lib.bitLen x.toNat ≤ 32 := Lib.bitLen_le x.toNat 32 (by omega) (by omega)
  go_enter Try.func52, Try.ntmps52
  go_wp2_with fail
  refine (len32_any x _ h0 h1).mono ?_
  rintro e w' ⟨rfl, rfl⟩
  go_wp2_with fail
  go_ret
  exact ⟨rfl, rfl⟩
theorem norm_any (a : Int) (w : World) :
    Calls Try.prog 16 #[.int .i64 a] w fun e w' => e = .returned (.int .i64 (normN a)) ∧ w' = w := by
  obtain ⟨b1, b2⟩ := c32_bd a
  by_cases h0 : a = 0
  · have e : normN a = 0 := by unfold normN; rw [if_pos h0]
    have hb : (a == 0) = true := by simp [h0]
    rw [e]; clear e h0
    go_enter Try.func16, Try.ntmps16
    go_wp2_with fail
    go_ret
    exact ⟨rfl, rfl⟩
  · have e : normN a = 31 - (Lib.bitLen (mag (c32 a)).toNat : Int) := by unfold normN; rw [if_neg h0]
    have hb : (a == 0) = false := by simp [h0]
    rw [e]; clear e h0
    obtain ⟨m1, m2⟩ := mag_bd _ b1 b2
    have l := len_bd _ m1 m2
    by_cases hn : c32 a < 0
    · have em : mag (c32 a) = -c32 a - 1 := by unfold mag; rw [if_pos hn]
      rw [em] at m1 m2 l ⊢; clear em
      have hnot := i64_not_any (c32 a) (by omega) (by omega)
      obtain ⟨L, hL⟩ : ∃ L : Nat, Hid (Lib.bitLen (-c32 a - 1).toNat = L) := ⟨_, rfl⟩
      rw [hL.out] at l ⊢
      go_enter Try.func16, Try.ntmps16
      go_wp2_with fail
      refine (sat32_any a _).mono ?_
      rintro e w' ⟨rfl, rfl⟩
      go_wp2_with fail
      rw [show (-c32 a - 1) % 4294967296 = -c32 a - 1 by omega]
      refine (lz32_any _ _ (by omega) (by omega)).mono ?_
      rintro e w' ⟨rfl, rfl⟩
      rw [hL.out]
      go_wp2_with fail
      go_ret
      exact ⟨congrArg (fun z => Ending.returned (.int .i64 z)) (by omega), rfl⟩
    · have em : mag (c32 a) = c32 a := by unfold mag; rw [if_neg hn]
      rw [em] at m1 m2 l ⊢; clear em
      go_enter Try.func16, Try.ntmps16
      go_wp2_with fail
      refine (sat32_any a _).mono ?_
      rintro e w' ⟨rfl, rfl⟩
      go_wp2_with fail
      refine (lz32_any _ _ (by omega) (by omega)).mono ?_
      rintro e w' ⟨rfl, rfl⟩
      go_wp2_with fail
      go_ret
      exact ⟨congrArg (fun z => Ending.returned (.int .i64 z)) (by omega), rfl⟩
end Go.Proofs.Ytinnamogmiobkaa
