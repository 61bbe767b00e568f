/- The contracts of package basic: what each operation answers, for all numbers; the world stays as it was. -/
import Derived.Test.YtfeoeonhfcjmgabProg
import Derived.Test.YtfeoeonhfcjmgabMath
import Derived.WalkKit
import Derived.WalkSpells
import Derived.WalkLawsBesides
namespace Go.Proofs.Ytfeoeonhfcjmgab
open Go.RowKit
set_option maxHeartbeats 400000

theorem ret2 {k : IntKind} {a b : Int} {p q : Bool} (h : a = b) (h' : p = q) : Ending.returned (.tuple #[.int k a, .bool p]) = .returned (.tuple #[.int k b, .bool q]) := by rw [h, h']

theorem sat32_any (x : Int) (w : World) :
    Calls Try.prog 16 #[.int .i64 x] w fun e w' => e = .returned (.tuple #[.int .i64 (c32 x), .bool (o32 x)]) ∧ w' = w := by
  have hs := stop32 x
  by_cases h1 : x < -2147483648
  · have e : c32 x = -2147483648 := by unfold c32; simp [h1]
    have e' : o32 x = true := by unfold o32; rw [e]; simp; omega
    clear hs; rw [e, e']; clear e e'
    go_enter Try.func16, Try.ntmps16
    go_wp2
    go_ret2
    exact ⟨ret2 rfl (by simp; omega), rfl⟩
  · by_cases h2 : 2147483647 < x
    · have e : c32 x = 2147483647 := by unfold c32; simp [h1, h2]
      have e' : o32 x = true := by unfold o32; rw [e]; simp; omega
      clear hs; rw [e, e']; clear e e'
      go_enter Try.func16, Try.ntmps16
      go_wp2
      go_ret2
      exact ⟨ret2 rfl (by simp; omega), rfl⟩
    · have e : c32 x = x := by unfold c32; simp [h1, h2]
      have e' : o32 x = false := by unfold o32; rw [e]; simp
      clear hs; rw [e, e']; clear e e'
      go_enter Try.func16, Try.ntmps16
      go_wp2
      go_ret2
      exact ⟨ret2 rfl (by simp), rfl⟩
end Go.Proofs.Ytfeoeonhfcjmgab
