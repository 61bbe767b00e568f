/- Contracts of package quant, where its table of widths reads as the program's text lays it: Width, Level, One. -/
import Derived.Test.YtilomkjjflcdjaaDoorQuantMath
import Derived.Test.YtilomkjjflcdjaaDoorTabF
import Derived.WalkKit
namespace Go.Proofs.YtilomkjjflcdjaaDoor
open Go.RowKit
set_option linter.unusedVariables false
set_option maxHeartbeats 1000000

/-- The table of widths lies in block 0, as the program's text lays it. -/
def Wide (w : World) : Prop := ∀ i : Nat, i < 8 → w.cell? ⟨0, i, none⟩ = some (.int .i64 (wid i : Int))
theorem Wide_keep {w w' : World} (h : Wide w) (g : w.grownBy w' none) : Wide w' := fun i hi => grown_keep g (h i hi)
theorem Wide_tab {w : World} (h : TabA w 0 wids 8) : Wide w := fun i hi => by rw [h i hi, wids_at i hi]
theorem okW (i : Nat) : okB (wid i) := wid_in i
theorem wrap_i64_in (n : Int) (h0 : 0 ≤ n) (h1 : n < 9223372036854775808) : IntKind.i64.wrap n = n := by
  have e : n % 2 ^ 64 = n := Int.emod_eq_of_lt (by omega) (by omega)
  simp only [IntKind.wrap, IntKind.bits, IntKind.signed, e]
  rw [if_neg (by simp; omega)]

theorem qin_yes (x l m : Int) (h1 : l ≤ x) (h2 : x ≤ m) (w : World) :
    Calls Tryd.prog 22 #[.int .i64 x, .int .i64 l, .int .i64 m] w fun e w' => e = .returned (.bool true) ∧ w' = w := by
  go_enter Tryd.func22, Tryd.ntmps22
  go_wp2
  go_ret
  exact ⟨rfl, rfl⟩
theorem qin_no (x l m : Int) (h : x < l ∨ m < x) (w : World) :
    Calls Tryd.prog 22 #[.int .i64 x, .int .i64 l, .int .i64 m] w fun e w' => e = .returned (.bool false) ∧ w' = w := by
  by_cases h1 : l ≤ x
  · have h2 : ¬ x ≤ m := by omega
    clear h
    go_enter Tryd.func22, Tryd.ntmps22
    go_wp2
    go_ret
    exact ⟨rfl, rfl⟩
  · clear h
    go_enter Tryd.func22, Tryd.ntmps22
    go_wp2
    go_ret
    exact ⟨rfl, rfl⟩
theorem known_yes (i : Nat) (h : i < 8) (w : World) :
    Calls Tryd.prog 21 #[.int .i64 i] w fun e w' => e = .returned (.bool true) ∧ w' = w := by
  go_enter Tryd.func21, Tryd.ntmps21
  go_wp2_with fail
  refine (qin_yes _ _ _ (by omega) (by omega) _).mono ?_
  rintro e w1 ⟨rfl, rfl⟩
  go_wp2_with fail
  go_ret
  exact ⟨rfl, rfl⟩
theorem known_no (i : Int) (h : i < 0 ∨ 7 < i) (w : World) :
    Calls Tryd.prog 21 #[.int .i64 i] w fun e w' => e = .returned (.bool false) ∧ w' = w := by
  go_enter Tryd.func21, Tryd.ntmps21
  go_wp2_with fail
  refine (qin_no _ _ _ h _).mono ?_
  rintro e w1 ⟨rfl, rfl⟩
  go_wp2_with fail
  go_ret
  exact ⟨rfl, rfl⟩
theorem width_yes (i : Nat) (h : i < 8) (w : World) (hW : Wide w) :
    Calls Tryd.prog 11 #[.int .i64 i] w fun e w' => e = .returned (.int .i64 (wid i : Int)) ∧ w' = w := by
  have hc := hW i h
  clear hW
  generalize wid i = b at *
  go_enter Tryd.func11, Tryd.ntmps11
  go_wp2_with fail
  refine (known_yes i h _).mono ?_
  rintro e w1 ⟨rfl, rfl⟩
  go_wp2_with fail
  go_ret
  exact ⟨rfl, rfl⟩
theorem width_no (i : Int) (h : i < 0 ∨ 7 < i) (w : World) :
    Calls Tryd.prog 11 #[.int .i64 i] w fun e w' => e = .returned (.int .i64 0) ∧ w' = w := by
  go_enter Tryd.func11, Tryd.ntmps11
  go_wp2_with fail
  refine (known_no i h _).mono ?_
  rintro e w1 ⟨rfl, rfl⟩
  go_wp2_with fail
  go_ret
  exact ⟨rfl, rfl⟩
theorem count_any (i : Nat) (h : i < 8) (w : World) (hW : Wide w) :
    Calls Tryd.prog 23 #[.int .i64 i] w fun e w' => e = .returned (.int .i64 (many (wid i) : Int)) ∧ w' = w := by
  have hc := hW i h
  clear hW
  rcases wid_in i with e | e | e | e <;> rw [e] at hc ⊢ <;> clear e
  all_goals
    go_enter Tryd.func23, Tryd.ntmps23
    go_wp2_with fail
    go_ret
    exact ⟨rfl, rfl⟩
theorem apart_any (x y : Int) (h1 : -100000 ≤ x) (h2 : x ≤ 100000) (h3 : -100000 ≤ y) (h4 : y ≤ 100000) (w : World) :
    Calls Tryd.prog 25 #[.int .i64 x, .int .i64 y] w fun e w' => e = .returned (.int .i64 (far x y)) ∧ w' = w := by
  by_cases h : x < y
  · rw [show far x y = y - x from if_pos h]
    go_enter Tryd.func25, Tryd.ntmps25
    go_wp2_with fail
    go_ret
    exact ⟨rfl, rfl⟩
  · rw [show far x y = x - y from if_neg h]
    go_enter Tryd.func25, Tryd.ntmps25
    go_wp2_with fail
    go_ret
    exact ⟨rfl, rfl⟩
end Go.Proofs.YtilomkjjflcdjaaDoor
