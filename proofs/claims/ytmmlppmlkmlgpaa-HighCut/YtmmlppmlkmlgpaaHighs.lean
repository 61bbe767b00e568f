/- The statements' own 'highs', and WeightEven's walk. -/
import Derived.Test.YtmmlppmlkmlgpaaFrontHigh
import Derived.Test.YtmmlppmlkmlgpaaBaseB
namespace Go.Proofs.Ytmmlppmlkmlgpaa
open Go.RowKit
set_option linter.unusedVariables false
set_option linter.unusedSimpArgs false
set_option maxHeartbeats 1000000

theorem highs_any (w : World) : Calls Try.prog 18 #[] w fun e w' => e = .returned (.bool true) ∧ w.grownBy w' none := by
  have h0 : Ints (w.alloc (.cells #[.int .i64 4096, .int .i64 0] 3)) (.slice (some ⟨w.heap.size, 0, none⟩) 2 2) [4096, 0] := ints_pair (heap_new w _) 0 4096 0 rfl rfl
  have HH := hide (high_yes 0 0 0 0 _ [4096, 0] _ h0 (by simp) (by decide) (by decide) (by decide))
  have FW := hide (fweight_any 0)
  rw [show weightN 0 = 275 by decide] at FW
  clear h0
  go_enter Try.func18, Try.ntmps18
  go_wp2_with fail
  refine HH.out.mono ?_
  rintro e w1 ⟨v', rfl, ho, g1⟩
  have G := hide (grown_none (grown_alloc _ _ none) g1)
  rw [show (hiY ([0, 0] ++ [4096, 0]) [0, 0] [(4096 : Int), 0].length).drop 2 = [3798, -357] by decide] at ho
  obtain ⟨l1, l2⟩ := ho
  rcases l2 with ⟨l2, l3⟩ | ⟨gz, cz, cur, rfl, l3, l4, l5, l6, l7, l8⟩
  · simp at l3
  have c0 : w1.cell? ⟨gz, 0, none⟩ = some (.int .i64 3798) := by
    have e : (cur.toList.take ([(4096 : Int), 0].length * 1))[0]? = ([3798, -357].map (Value.int .i64))[0]? := by rw [l8]
    rw [List.getElem?_take, if_pos (by simp), Array.getElem?_toList] at e
    rw [cell_of_heap l4, e]; rfl
  have hgz : gz < w1.heap.size := lt_of_some l4
  clear g1 l1 l3 l4 l5 l6 l7 l8 HH
  go_wp2_with fail
  refine (FW.out _).mono ?_
  rintro e w2 ⟨rfl, rfl⟩
  clear FW
  go_wp2_with fail
  go_ret
  exact ⟨rfl, grown_none G.out (grown_alloc _ _ none)⟩
theorem law_even (i : Int) (w : World) :
    Calls Try.prog 7 #[.int .i64 i] w fun e w' => e = .returned (.bool true) ∧ Below w.heap.size w w' := by
  have s1 : 0 ≤ spotN i 120 := by unfold spotN; omega
  have s2 : spotN i 120 < 120 := by unfold spotN; omega
  have SP := hide (spot_any i 120 (by omega) (by omega))
  generalize spotN i 120 = k at *
  have e1 : weightN (119 - k) = weightN k := by
    unfold weightN
    by_cases h : 59 < k
    · rw [if_neg (show ¬ (119 - k < 0 ∨ 119 < 119 - k) by omega), if_neg (show ¬ (k < 0 ∨ 119 < k) by omega), if_neg (show ¬ 59 < 119 - k by omega), if_pos h]
    · rw [if_neg (show ¬ (119 - k < 0 ∨ 119 < 119 - k) by omega), if_neg (show ¬ (k < 0 ∨ 119 < k) by omega), if_pos (show 59 < 119 - k by omega), if_neg h, show 119 - (119 - k) = k by omega]
  have e2 : 0 < weightN k := by
    unfold weightN
    rw [if_neg (by omega)]
    split <;> omega
  have e3 : weightN k ≤ 32767 := by
    unfold weightN
    rw [if_neg (by omega)]
    split <;> omega
  have e4 : k ≤ 58 → weightN k < weightN (k + 1) := fun h => by
    unfold weightN
    rw [if_neg (by omega), if_neg (by omega), if_neg (by omega), if_neg (by omega)]
    omega
  have A := hide (fweight_any k)
  have B := hide (fweight_any (119 - k))
  have C := hide (fweight_any (k + 1))
  rw [e1] at B
  generalize weightN k = a at *
  generalize weightN (k + 1) = b at *
  clear e1
  go_enter Try.func7, Try.ntmps7
  go_wp2_with fail
  refine (SP.out _).mono ?_
  rintro e w1 ⟨rfl, rfl⟩
  go_wp2_with fail
  refine (A.out _).mono ?_
  rintro e w1 ⟨rfl, rfl⟩
  go_wp2_with fail
  refine (highs_any _).mono ?_
  rintro e w2 ⟨rfl, g2⟩
  have G := hide (below_of_grown g2)
  clear g2 A SP
  go_wp2_with fail
  refine (B.out _).mono ?_
  rintro e w1 ⟨rfl, rfl⟩
  clear B
  by_cases hk : 58 < k
  · go_wp2_with fail
    go_ret
    exact ⟨rfl, G.out⟩
  · have e5 := e4 (by omega)
    clear e4
    go_wp2_with fail
    refine (C.out _).mono ?_
    rintro e w1 ⟨rfl, rfl⟩
    go_wp2_with fail
    go_ret
    exact ⟨rfl, G.out⟩
end Go.Proofs.Ytmmlppmlkmlgpaa
