/- The contracts of package basic: what each operation answers, for all numbers; the world stays as it was. -/
import Derived.Test.YtdeappknlcmbbaaProg
import Derived.Test.YtdeappknlcmbbaaMath
import Derived.WalkKit
import Derived.WalkSpells
import Derived.WalkLawsBesides
namespace Go.Proofs.Ytdeappknlcmbbaa
open Go.RowKit
set_option maxHeartbeats 400000

theorem ret2 {k : IntKind} {a b : Int} {p q : Bool} (h : a = b) (h' : p = q) : Ending.returned (.tuple #[.int k a, .bool p]) = .returned (.tuple #[.int k b, .bool q]) := by rw [h, h']

theorem sat16_any (x : Int) (w : World) :
    Calls Try.prog 66 #[.int .i64 x] w fun e w' => e = .returned (.tuple #[.int .i64 (c16 x), .bool (o16 x)]) ∧ w' = w := by
  have hs := stop16 x
  by_cases h1 : x < -32768
  · have e : c16 x = -32768 := by unfold c16; simp [h1]
    have e' : o16 x = true := by unfold o16; rw [e]; simp; omega
    clear hs; rw [e, e']; clear e e'
    go_enter Try.func66, Try.ntmps66
    go_wp2
    go_ret2
    exact ⟨ret2 rfl (by simp; omega), rfl⟩
  · by_cases h2 : 32767 < x
    · have e : c16 x = 32767 := by unfold c16; simp [h1, h2]
      have e' : o16 x = true := by unfold o16; rw [e]; simp; omega
      clear hs; rw [e, e']; clear e e'
      go_enter Try.func66, Try.ntmps66
      go_wp2
      go_ret2
      exact ⟨ret2 rfl (by simp; omega), rfl⟩
    · have e : c16 x = x := by unfold c16; simp [h1, h2]
      have e' : o16 x = false := by unfold o16; rw [e]; simp
      clear hs; rw [e, e']; clear e e'
      go_enter Try.func66, Try.ntmps66
      go_wp2
      go_ret2
      exact ⟨ret2 rfl (by simp), rfl⟩
end Go.Proofs.Ytdeappknlcmbbaa
