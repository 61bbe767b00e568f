/- The contracts of package dual: Split, Join, Root, Log. -/
import Derived.Test.YtfeoeonhfcjmgaaBase
import Derived.Test.YtfeoeonhfcjmgaaGrow
import Derived.Test.YtfeoeonhfcjmgaaDual
import Derived.Test.YtfeoeonhfcjmgaaLenB
import Derived.Laws.BitsAllLaws
namespace Go.Proofs.Ytfeoeonhfcjmgaa
open Go.RowKit
set_option maxHeartbeats 400000

theorem wrap_i64_of (n : Int) (h0 : 0 ≤ n) (h1 : n < 18446744073709551616) : IntKind.i64.wrap n = if 9223372036854775808 ≤ n then n - 18446744073709551616 else n := by
  have e : n % 2 ^ 64 = n := Int.emod_eq_of_lt (by omega) (by omega)
  simp only [IntKind.wrap, IntKind.bits, IntKind.signed, e]
  by_cases h : 9223372036854775808 ≤ n
  · rw [if_pos (by simp; omega), if_pos h]; omega
  · rw [if_neg (by simp; omega), if_neg h]
theorem and_low16 (x : Int) : bits .and .i64 x 65535 = x % 65536 := by
  show IntKind.i64.wrap ((BitVec.ofInt 64 x &&& BitVec.ofInt 64 65535).toNat : Int) = _
  rw [BitVec.toNat_and, BitVec.toNat_ofInt, show (BitVec.ofInt 64 65535).toNat = 2 ^ 16 - 1 by decide, Nat.and_two_pow_sub_one_eq_mod]
  rw [wrap_i64_of _ (by omega) (by omega), if_neg (by omega)]
  omega
theorem even_of (x : Int) (h0 : -9223372036854775808 ≤ x) (h1 : x ≤ 9223372036854775807) : bits .andNot .i64 x 1 = x / 2 * 2 := by
  show IntKind.i64.wrap ((BitVec.ofInt 64 x &&& ~~~BitVec.ofInt 64 1).toNat : Int) = _
  rw [BitVec.toNat_and, BitVec.toNat_ofInt, show (~~~BitVec.ofInt 64 1).toNat = 18446744073709551614 by decide, nat_hi64_1]
  rw [wrap_i64_of _ (by omega) (by omega)]
  split <;> omega

def splitH (a : Int) : Int := c32 a / 65536
def splitL (a : Int) : Int := c32 a % 65536 / 2
theorem split_any (a : Int) (w : World) :
    Calls Try.prog 10 #[.int .i64 a] w fun e w' => e = .returned (.agg #[.int .i64 (splitH a), .int .i64 (splitL a)]) ∧ w.grownBy w' none := by
  unfold splitH splitL
  obtain ⟨b1, b2⟩ := c32_bd a
  go_enter Try.func10, Try.ntmps10
  go_wp2_with fail
  refine (sat32_any _ _).mono ?_
  rintro e w1 ⟨rfl, rfl⟩
  go_wp2_with fail
  refine bodyPost_ret (v := .agg #[.int .i64 (splitH a), .int .i64 (splitL a)]) (by simp [results, Try.results10, go_sem, splitH, splitL, and_low16]) rfl ⟨rfl, ?_⟩
  exact grown_alloc _ _ none
def soundB (h l : Int) : Bool := decide (-32768 ≤ h ∧ h ≤ 32767 ∧ 0 ≤ l ∧ l ≤ 32767)
theorem sound_any (h l : Int) (w : World) :
    Calls Try.prog 20 #[.agg #[.int .i64 h, .int .i64 l]] w fun e w' => e = .returned (.bool (soundB h l)) ∧ w' = w.alloc (.cells #[.int .i64 h, .int .i64 l] 23) := by
  by_cases h1 : h < -32768 ∨ 32767 < h
  · rw [show soundB h l = false by unfold soundB; rw [decide_eq_false]; omega]
    go_enter Try.func20, Try.ntmps20
    go_wp2_with fail
    refine (within_no _ _ _ h1 _).mono ?_
    rintro e w1 ⟨rfl, rfl⟩
    go_wp2_with fail
    go_ret
    exact ⟨rfl, rfl⟩
  · by_cases h2 : l < 0 ∨ 32767 < l
    · rw [show soundB h l = false by unfold soundB; rw [decide_eq_false]; omega]
      go_enter Try.func20, Try.ntmps20
      go_wp2_with fail
      refine (within_yes _ _ _ (by omega) (by omega) _).mono ?_
      rintro e w1 ⟨rfl, rfl⟩
      go_wp2_with fail
      refine (within_no _ _ _ h2 _).mono ?_
      rintro e w1 ⟨rfl, rfl⟩
      go_wp2_with fail
      go_ret
      exact ⟨rfl, rfl⟩
    · rw [show soundB h l = true by unfold soundB; rw [decide_eq_true]; omega]
      go_enter Try.func20, Try.ntmps20
      go_wp2_with fail
      refine (within_yes _ _ _ (by omega) (by omega) _).mono ?_
      rintro e w1 ⟨rfl, rfl⟩
      go_wp2_with fail
      refine (within_yes _ _ _ (by omega) (by omega) _).mono ?_
      rintro e w1 ⟨rfl, rfl⟩
      go_wp2_with fail
      go_ret
      exact ⟨rfl, rfl⟩
theorem join_yes (h l : Int) (g1 : -32768 ≤ h) (g2 : h ≤ 32767) (g3 : 0 ≤ l) (g4 : l ≤ 32767) (w : World) :
    Calls Try.prog 8 #[.agg #[.int .i64 h, .int .i64 l]] w fun e w' => e = .returned (.tuple #[.int .i64 (h * 65536 + l * 2), .int .i64 0]) ∧ w.grownBy w' none := by
  have S := sound_any h l (w.alloc (.cells #[.int .i64 h, .int .i64 l] 23))
  rw [show soundB h l = true by unfold soundB; rw [decide_eq_true]; omega] at S
  go_enter Try.func8, Try.ntmps8
  go_wp2_with fail
  refine S.mono ?_
  rintro e w1 ⟨rfl, rfl⟩
  go_wp2_with fail
  go_ret2
  exact ⟨rfl, grown_none (grown_alloc _ _ none) (grown_alloc _ _ none)⟩
theorem join_no (h l : Int) (g : soundB h l = false) (w : World) :
    Calls Try.prog 8 #[.agg #[.int .i64 h, .int .i64 l]] w fun e w' => e = .returned (.tuple #[.int .i64 0, .int .i64 2]) ∧ w.grownBy w' none := by
  have S := sound_any h l (w.alloc (.cells #[.int .i64 h, .int .i64 l] 23))
  rw [g] at S
  go_enter Try.func8, Try.ntmps8
  go_wp2_with fail
  refine S.mono ?_
  rintro e w1 ⟨rfl, rfl⟩
  go_wp2_with fail
  go_ret2
  exact ⟨rfl, grown_none (grown_alloc _ _ none) (grown_alloc _ _ none)⟩
theorem field_hi (x y : Int) (w : World) : Sem.run Try.prog (Instr.field 23 (.agg #[.int .i64 x, .int .i64 y]) 0) w = .ok (.int .i64 x) w := by
  simp [Instr.field, go_sem, asAgg]
end Go.Proofs.Ytfeoeonhfcjmgaa
