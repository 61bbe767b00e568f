/- The contracts of package basic: what each operation answers, for all numbers; the world stays as it was. -/
import Derived.Test.YtfeoeonhfcjmgaaProg
import Derived.Test.YtfeoeonhfcjmgaaMath
import Derived.WalkKit
import Derived.WalkSpells
import Derived.WalkLawsBesides
namespace Go.Proofs.Ytfeoeonhfcjmgaa
open Go.RowKit
set_option maxHeartbeats 400000

theorem ret2 {k : IntKind} {a b : Int} {p q : Bool} (h : a = b) (h' : p = q) : Ending.returned (.tuple #[.int k a, .bool p]) = .returned (.tuple #[.int k b, .bool q]) := by rw [h, h']

theorem sat16_any (x : Int) (w : World) :
    Calls Try.prog 46 #[.int .i64 x] w fun e w' => e = .returned (.tuple #[.int .i64 (c16 x), .bool (o16 x)]) ∧ w' = w := by
  have hs := stop16 x
  by_cases h1 : x < -32768
  · have e : c16 x = -32768 := by unfold c16; simp [h1]
    have e' : o16 x = true := by unfold o16; rw [e]; simp; omega
    clear hs; rw [e, e']; clear e e'
    go_enter Try.func46, Try.ntmps46
    go_wp2
    go_ret2
    exact ⟨ret2 rfl (by simp; omega), rfl⟩
  · by_cases h2 : 32767 < x
    · have e : c16 x = 32767 := by unfold c16; simp [h1, h2]
      have e' : o16 x = true := by unfold o16; rw [e]; simp; omega
      clear hs; rw [e, e']; clear e e'
      go_enter Try.func46, Try.ntmps46
      go_wp2
      go_ret2
      exact ⟨ret2 rfl (by simp; omega), rfl⟩
    · have e : c16 x = x := by unfold c16; simp [h1, h2]
      have e' : o16 x = false := by unfold o16; rw [e]; simp
      clear hs; rw [e, e']; clear e e'
      go_enter Try.func46, Try.ntmps46
      go_wp2
      go_ret2
      exact ⟨ret2 rfl (by simp), rfl⟩
theorem sat32_any (x : Int) (w : World) :
    Calls Try.prog 22 #[.int .i64 x] w fun e w' => e = .returned (.tuple #[.int .i64 (c32 x), .bool (o32 x)]) ∧ w' = w := by
  have hs := stop32 x
  by_cases h1 : x < -2147483648
  · have e : c32 x = -2147483648 := by unfold c32; simp [h1]
    have e' : o32 x = true := by unfold o32; rw [e]; simp; omega
    clear hs; rw [e, e']; clear e e'
    go_enter Try.func22, Try.ntmps22
    go_wp2
    go_ret2
    exact ⟨ret2 rfl (by simp; omega), rfl⟩
  · by_cases h2 : 2147483647 < x
    · have e : c32 x = 2147483647 := by unfold c32; simp [h1, h2]
      have e' : o32 x = true := by unfold o32; rw [e]; simp; omega
      clear hs; rw [e, e']; clear e e'
      go_enter Try.func22, Try.ntmps22
      go_wp2
      go_ret2
      exact ⟨ret2 rfl (by simp; omega), rfl⟩
    · have e : c32 x = x := by unfold c32; simp [h1, h2]
      have e' : o32 x = false := by unfold o32; rw [e]; simp
      clear hs; rw [e, e']; clear e e'
      go_enter Try.func22, Try.ntmps22
      go_wp2
      go_ret2
      exact ⟨ret2 rfl (by simp), rfl⟩
theorem ladd_any (a b : Int) (w : World) :
    Calls Try.prog 50 #[.int .i64 a, .int .i64 b] w fun e w' => e = .returned (.tuple #[.int .i64 (c32 (c32 a + c32 b)), .bool (o32 (c32 a + c32 b))]) ∧ w' = w := by
  obtain ⟨a1, a2⟩ := c32_bd a; obtain ⟨b1, b2⟩ := c32_bd b
  go_enter Try.func50, Try.ntmps50
  go_wp2_with (first | (go_at_call 22; refine (sat32_any _ _).mono ?_; rintro e w' ⟨rfl, rfl⟩) | go_in)
  go_ret2
  exact ⟨rfl, rfl⟩
theorem mult_any (a b : Int) (w : World) :
    Calls Try.prog 29 #[.int .i64 a, .int .i64 b] w fun e w' => e = .returned (.tuple #[.int .i64 (c16 (c16 a * c16 b / 32768)), .bool (o16 (c16 a * c16 b / 32768))]) ∧ w' = w := by
  obtain ⟨a1, a2⟩ := c16_bd a; obtain ⟨b1, b2⟩ := c16_bd b
  obtain ⟨m1, m2⟩ := mul16_bd _ _ a1 a2 b1 b2
  go_enter Try.func29, Try.ntmps29
  go_wp2_with (first | (go_at_call 46; refine (sat16_any _ _).mono ?_; rintro e w' ⟨rfl, rfl⟩) | go_in)
  go_ret2
  exact ⟨rfl, rfl⟩
theorem lmult_any (a b : Int) (w : World) :
    Calls Try.prog 28 #[.int .i64 a, .int .i64 b] w fun e w' => e = .returned (.tuple #[.int .i64 (c32 (2 * c16 a * c16 b)), .bool (o32 (2 * c16 a * c16 b))]) ∧ w' = w := by
  obtain ⟨a1, a2⟩ := c16_bd a; obtain ⟨b1, b2⟩ := c16_bd b
  obtain ⟨m1, m2⟩ := mul16_bd _ _ a1 a2 b1 b2
  have m3 : -9223372036854775808 ≤ 2 * c16 a * c16 b := by rw [Int.mul_assoc]; omega
  have m4 : 2 * c16 a * c16 b ≤ 9223372036854775807 := by rw [Int.mul_assoc]; omega
  go_enter Try.func28, Try.ntmps28
  go_wp2_with (first | (go_at_call 46; refine (sat16_any _ _).mono ?_; rintro e w' ⟨rfl, rfl⟩) | (go_at_call 22; refine (sat32_any _ _).mono ?_; rintro e w' ⟨rfl, rfl⟩) | go_in)
  go_ret2
  exact ⟨rfl, rfl⟩
end Go.Proofs.Ytfeoeonhfcjmgaa
