/- The walks of QuantLevels and QuantOnes: the program against the reference. -/
import Derived.Test.YtilomkjjflcdjaaDoorRefOne
namespace Go.Proofs.YtilomkjjflcdjaaDoor
open Go.RowKit
set_option linter.unusedVariables false
set_option maxHeartbeats 1000000

/-- What Level answers. -/
def levV (i n : Int) : Int := if i < 0 ∨ 7 < i then 0 else if n < 0 ∨ (many (wid i.toNat) : Int) - 1 < n then 0 else lvl (wid i.toNat) n
def levX (i n : Int) : Int := if i < 0 ∨ 7 < i then 4 else if n < 0 ∨ (many (wid i.toNat) : Int) - 1 < n then 2 else 0
theorem nat_of (i : Int) (h : ¬(i < 0 ∨ 7 < i)) : ∃ I : Nat, i = (I : Int) ∧ I < 8 ∧ i.toNat = I := ⟨i.toNat, by omega, by omega, rfl⟩
theorem Level_all (i n : Int) (w : World) (hW : Wide w) :
    Calls Tryd.prog 9 #[.int .i64 i, .int .i64 n] w fun e w' => e = .returned (.tuple #[.int .i64 (levV i n), .int .i64 (levX i n)]) ∧ w' = w := by
  by_cases h : i < 0 ∨ 7 < i
  · rw [show levV i n = 0 from if_pos h, show levX i n = 4 from if_pos h]
    exact Level_kind i n h w
  · obtain ⟨I, e, h8, hI⟩ := nat_of i h
    by_cases hn : n < 0 ∨ (many (wid I) : Int) - 1 < n
    · rw [show levV i n = 0 by unfold levV; rw [if_neg h, hI, if_pos hn], show levX i n = 2 by unfold levX; rw [if_neg h, hI, if_pos hn], e]
      exact Level_range I h8 n hn w hW
    · rw [show levV i n = lvl (wid I) n by unfold levV; rw [if_neg h, hI, if_neg hn], show levX i n = 0 by unfold levX; rw [if_neg h, hI, if_neg hn], e]
      exact Level_yes I h8 n (by omega) (by omega) w hW
theorem refLevel_all (i n : Int) (a : Addr) (c : Nat) (w : World) (hW : WideR w a c) :
    Calls Tryd.prog 10 #[.int .i64 i, .int .i64 n] w fun e w' => e = .returned (.tuple #[.int .i64 (levV i n), .int .i64 (levX i n)]) ∧ w' = w := by
  by_cases h : i < 0 ∨ 7 < i
  · rw [show levV i n = 0 from if_pos h, show levX i n = 4 from if_pos h]
    exact refLevel_kind i n h w
  · obtain ⟨I, e, h8, hI⟩ := nat_of i h
    by_cases hn : n < 0 ∨ (many (wid I) : Int) - 1 < n
    · rw [show levV i n = 0 by unfold levV; rw [if_neg h, hI, if_pos hn], show levX i n = 2 by unfold levX; rw [if_neg h, hI, if_pos hn], e]
      exact refLevel_range I h8 n hn a c w hW
    · rw [show levV i n = lvl (wid I) n by unfold levV; rw [if_neg h, hI, if_neg hn], show levX i n = 0 by unfold levX; rw [if_neg h, hI, if_neg hn], e]
      exact refLevel_yes I h8 n (by omega) (by omega) a c w hW
def oneV (i k : Int) : Int := if i < 0 ∨ 7 < i then 0 else if k < -32768 ∨ 32768 < k then 0 else (one (wid i.toNat) k : Int)
def oneX (i k : Int) : Int := if i < 0 ∨ 7 < i then 4 else if k < -32768 ∨ 32768 < k then 2 else 0
theorem One_all (i k : Int) (w : World) (hW : Wide w) :
    Calls Tryd.prog 13 #[.int .i64 i, .int .i64 k] w fun e w' => e = .returned (.tuple #[.int .i64 (oneV i k), .int .i64 (oneX i k)]) ∧ w' = w := by
  by_cases h : i < 0 ∨ 7 < i
  · rw [show oneV i k = 0 from if_pos h, show oneX i k = 4 from if_pos h]
    exact One_kind i k h w
  · obtain ⟨I, e, h8, hI⟩ := nat_of i h
    by_cases hn : k < -32768 ∨ 32768 < k
    · rw [show oneV i k = 0 by unfold oneV; rw [if_neg h, if_pos hn], show oneX i k = 2 by unfold oneX; rw [if_neg h, if_pos hn], e]
      exact One_range I h8 k hn w
    · rw [show oneV i k = one (wid I) k by unfold oneV; rw [if_neg h, hI, if_neg hn], show oneX i k = 0 by unfold oneX; rw [if_neg h, if_neg hn], e]
      exact One_yes I h8 k (by omega) (by omega) w hW
theorem refOne_all (i k : Int) (a : Addr) (c : Nat) (w : World) (hW : WideR w a c) :
    Calls Tryd.prog 14 #[.int .i64 i, .int .i64 k] w fun e w' => e = .returned (.tuple #[.int .i64 (oneV i k), .int .i64 (oneX i k)]) ∧ w.grownBy w' none := by
  by_cases h : i < 0 ∨ 7 < i
  · rw [show oneV i k = 0 from if_pos h, show oneX i k = 4 from if_pos h]
    exact (refOne_kind i k h w).mono fun e w' ⟨h1, h2⟩ => ⟨h1, by subst h2; exact grown_refl _ _⟩
  · obtain ⟨I, e, h8, hI⟩ := nat_of i h
    by_cases hn : k < -32768 ∨ 32768 < k
    · rw [show oneV i k = 0 by unfold oneV; rw [if_neg h, if_pos hn], show oneX i k = 2 by unfold oneX; rw [if_neg h, if_pos hn], e]
      exact (refOne_range I h8 k hn a c w hW).mono fun e w' ⟨h1, h2⟩ => ⟨h1, by subst h2; exact grown_refl _ _⟩
    · rw [show oneV i k = one (wid I) k by unfold oneV; rw [if_neg h, hI, if_neg hn], show oneX i k = 0 by unfold oneX; rw [if_neg h, if_neg hn], e]
      exact refOne_yes I h8 k (by omega) (by omega) a c w hW
theorem Width_all (i : Int) (w : World) (hW : Wide w) : ∃ W : Int, (Calls Tryd.prog 11 #[.int .i64 i] w fun e w' => e = .returned (.int .i64 W) ∧ w' = w) ∧
    ∀ a c w', WideR w' a c → Calls Tryd.prog 12 #[.int .i64 i] w' fun e w'' => e = .returned (.int .i64 W) ∧ w'' = w' := by
  by_cases h : i < 0 ∨ 7 < i
  · exact ⟨0, width_no i h w, fun a c w' _ => refWidth_no i h w'⟩
  · obtain ⟨I, e, h8, hI⟩ := nat_of i h
    subst e
    exact ⟨wid I, width_yes I h8 w hW, fun a c w' h => refWidth_yes I h8 a c w' h⟩

theorem law_levels (w : World) (hV : TabA w 0 wids 8) (a : Addr) (c : Nat) (hS : TabS w 1 a c wids 8) (i : Int) (_ : (Lit.int IntKind.i64 i).wf = true) (n : Int) (_ : (Lit.int IntKind.i64 n).wf = true) :
    Calls Tryd.prog 3 #[.int .i64 i, .int .i64 n] w fun e w' => e = .returned (.bool true) ∧ Below w.heap.size w w' := by
  have L := hide (Level_all i n w (Wide_tab hV))
  have R := hide (refLevel_all i n a c w hS)
  obtain ⟨W, h1, h2⟩ := Width_all i w (Wide_tab hV)
  have W1 := hide h1
  have W2 := hide (h2 a c w hS)
  have A : Calls Tryd.prog 11 #[.int .i64 0] w fun e w' => e = .returned (.int .i64 6) ∧ w' = w := width_yes 0 (by omega) w (Wide_tab hV)
  have W3 := hide A
  clear h1 h2 A hV hS
  generalize levV i n = x at *
  generalize levX i n = y at *
  have F := hide (show (Below w.heap.size w w) from below_of_grown (grown_refl _ _))
  go_enter Tryd.func3, Tryd.ntmps3
  go_wp2_with fail
  refine L.out.mono ?_
  rintro e w1 ⟨rfl, rfl⟩
  go_wp2_with fail
  refine R.out.mono ?_
  rintro e w2 ⟨rfl, rfl⟩
  go_wp2_with fail
  refine W1.out.mono ?_
  rintro e w2 ⟨rfl, rfl⟩
  go_wp2_with fail
  refine W2.out.mono ?_
  rintro e w2 ⟨rfl, rfl⟩
  go_wp2_with fail
  refine W3.out.mono ?_
  rintro e w2 ⟨rfl, rfl⟩
  go_wp2_with fail
  go_ret
  exact ⟨rfl, F.out⟩
theorem law_ones (w : World) (hV : TabA w 0 wids 8) (a : Addr) (c : Nat) (hS : TabS w 1 a c wids 8) (i : Int) (_ : (Lit.int IntKind.i64 i).wf = true) (k : Int) (_ : (Lit.int IntKind.i64 k).wf = true) :
    Calls Tryd.prog 4 #[.int .i64 i, .int .i64 k] w fun e w' => e = .returned (.bool true) ∧ Below w.heap.size w w' := by
  have L := hide (One_all i k w (Wide_tab hV))
  have R := hide (refOne_all i k a c w hS)
  have T := hide (fun w' (g : w.grownBy w' none) => (One_all 0 32000 w' (Wide_keep (Wide_tab hV) g)))
  rw [show oneV 0 32000 = 63 by show ((one 6 32000 : Nat) : Int) = 63; rw [one_top]; rfl, show oneX 0 32000 = 0 from rfl] at T
  clear hV hS
  generalize oneV i k = x at *
  generalize oneX i k = y at *
  go_enter Tryd.func4, Tryd.ntmps4
  go_wp2_with fail
  refine L.out.mono ?_
  rintro e w1 ⟨rfl, rfl⟩
  go_wp2_with fail
  refine R.out.mono ?_
  rintro e w2 ⟨rfl, g⟩
  have G := hide g
  clear g
  go_wp2_with fail
  refine (T.out _ G.out).mono ?_
  rintro e w3 ⟨rfl, rfl⟩
  go_wp2_with fail
  go_ret
  exact ⟨rfl, below_of_grown G.out⟩
end Go.Proofs.YtilomkjjflcdjaaDoor
