/- The contract of the reference's DualMul, and the walk of DualMuls. -/
import Derived.Test.YtfeoeonhfcjmgaaRefDual
import Derived.Test.YtfeoeonhfcjmgaaDualMul
import Derived.Test.YtfeoeonhfcjmgaaDoesM
namespace Go.Proofs.Ytfeoeonhfcjmgaa
open Go.RowKit
set_option linter.unusedVariables false
set_option maxHeartbeats 1000000

theorem refMul_no1 (ah al bh bl : Int) (h0 : -9223372036854775808 ≤ ah) (h1 : ah ≤ 9223372036854775807) (g1 : soundB ah al = false) (w : World) :
    Calls Try.prog 13 #[.agg #[.int .i64 ah, .int .i64 al], .agg #[.int .i64 bh, .int .i64 bl]] w fun e w' => e = .returned (.tuple #[.int .i64 0, .int .i64 2]) ∧ w.grownBy w' none := by
  have SA := hide (refGood_no ah al h0 h1 g1)
  clear g1
  go_enter Try.func13, Try.ntmps13
  go_wp2_with fail
  refine (SA.out _).mono ?_
  rintro e w1 ⟨rfl, h1⟩
  have G1 := hide (grown_none (grown_none (grown_alloc w _ none) (grown_alloc _ _ none)) h1)
  clear h1 SA
  go_wp2_with fail
  go_ret2
  exact ⟨rfl, G1.out⟩
theorem refGood_good (h l : Int) (g : soundB h l = true) (w : World) : Calls Try.prog 21 #[.agg #[.int .i64 h, .int .i64 l]] w (Tells w (.bool true)) := by
  have g' : -32768 ≤ h ∧ h ≤ 32767 ∧ 0 ≤ l ∧ l ≤ 32767 := of_decide_eq_true g
  exact refGood_yes h l g'.1 g'.2.1 g'.2.2.1 g'.2.2.2 w
theorem refMul_no2 (ah al bh bl : Int) (h0 : -9223372036854775808 ≤ bh) (h1 : bh ≤ 9223372036854775807) (g1 : soundB ah al = true) (g2 : soundB bh bl = false) (w : World) :
    Calls Try.prog 13 #[.agg #[.int .i64 ah, .int .i64 al], .agg #[.int .i64 bh, .int .i64 bl]] w fun e w' => e = .returned (.tuple #[.int .i64 0, .int .i64 2]) ∧ w.grownBy w' none := by
  have SA := hide (refGood_good ah al g1)
  have SB := hide (refGood_no bh bl h0 h1 g2)
  clear g1 g2
  go_enter Try.func13, Try.ntmps13
  go_wp2_with fail
  refine (SA.out _).mono ?_
  rintro e w1 ⟨rfl, h1⟩
  obtain ⟨ka, kb⟩ := kept2 h1
  have b0 := cell_of_heap kb 0
  have b1 := cell_of_heap kb 1
  have G1 := hide (grown_none (grown_none (grown_alloc w _ none) (grown_alloc _ _ none)) h1)
  clear h1 ka kb
  go_wp2_with fail
  refine (SB.out _).mono ?_
  rintro e w2 ⟨rfl, h2⟩
  have G2 := hide (grown_none G1.out h2)
  clear h2 G1 SA SB b0 b1
  go_wp2_with fail
  go_ret2
  exact ⟨rfl, G2.out⟩
theorem ref7 (p q : Int) (h1 : -32768 ≤ p) (h2 : p ≤ 32767) (h3 : -32768 ≤ q) (h4 : q ≤ 32767) (w : World) :
    Calls Try.prog 31 #[.int .i64 7, .int .i64 p, .int .i64 q, .int .i64 0] w fun e w' => ∃ o, e = .returned (.tuple #[.int .i64 (mulA p q), .bool o]) ∧ w.grownBy w' none :=
  (refDoes_7 p q 0 (by omega) (by omega) (by omega) (by omega) w).mono fun e w' h => ⟨o32 (c16 p * c16 q * 2), h.1.trans (by
    have e2 : c16 p * c16 q * 2 = 2 * c16 p * c16 q := by rw [Int.mul_comm _ 2, Int.mul_assoc]
    rw [show mulA p q = c32 (c16 p * c16 q * 2) by unfold mulA; rw [e2]]), h.2⟩
theorem ref6 (p q : Int) (h1 : -32768 ≤ p) (h2 : p ≤ 32767) (h3 : -32768 ≤ q) (h4 : q ≤ 32767) (w : World) :
    Calls Try.prog 31 #[.int .i64 6, .int .i64 p, .int .i64 q, .int .i64 0] w fun e w' => ∃ o, e = .returned (.tuple #[.int .i64 (mulP p q), .bool o]) ∧ w.grownBy w' none :=
  (refDoes_6 p q 0 (by omega) (by omega) (by omega) (by omega) w).mono fun e w' h => ⟨_, h.1, h.2⟩
theorem ref8 (c p : Int) (h1 : -2147483648 ≤ c) (h2 : c ≤ 2147483647) (h3 : -32768 ≤ p) (h4 : p ≤ 32767) (w : World) :
    Calls Try.prog 31 #[.int .i64 8, .int .i64 c, .int .i64 p, .int .i64 1] w fun e w' => ∃ o, e = .returned (.tuple #[.int .i64 (macN c p), .bool o]) ∧ w.grownBy w' none :=
  (refDoes_8 c p 1 (by omega) (by omega) (by omega) (by omega) (by omega) (by omega) w).mono fun e w' h => ⟨_, h.1.trans (by
    have e2 : c16 p * c16 1 * 2 = 2 * c16 p * c16 1 := by rw [Int.mul_comm _ 2, Int.mul_assoc]
    rw [show macN c p = c32 (c32 c + c32 (c32 (c16 p * c16 1 * 2))) by unfold macN; rw [e2]]), h.2⟩
theorem mulA_bd (p q : Int) : -2147483648 ≤ mulA p q ∧ mulA p q ≤ 2147483647 := c32_bd _
theorem mulP_bd (p q : Int) : -32768 ≤ mulP p q ∧ mulP p q ≤ 32767 := c16_bd _
theorem macN_bd (c p : Int) : -2147483648 ≤ macN c p ∧ macN c p ≤ 2147483647 := c32_bd _
theorem refMul_yes (ah al bh bl : Int) (g1 : soundB ah al = true) (g2 : soundB bh bl = true) (w : World) :
    Calls Try.prog 13 #[.agg #[.int .i64 ah, .int .i64 al], .agg #[.int .i64 bh, .int .i64 bl]] w fun e w' => e = .returned (.tuple #[.int .i64 (mulN ah al bh bl), .int .i64 0]) ∧ w.grownBy w' none := by
  have SA := hide (refGood_good ah al g1)
  have SB := hide (refGood_good bh bl g2)
  have ga : -32768 ≤ ah ∧ ah ≤ 32767 ∧ 0 ≤ al ∧ al ≤ 32767 := of_decide_eq_true g1
  have gb : -32768 ≤ bh ∧ bh ≤ 32767 ∧ 0 ≤ bl ∧ bl ≤ 32767 := of_decide_eq_true g2
  have R1 := hide (fun w => ref7 ah bh (by omega) (by omega) (by omega) (by omega) w)
  have R2 := hide (fun w => ref6 ah bl (by omega) (by omega) (by omega) (by omega) w)
  have R3 := hide (fun w => ref8 (mulA ah bh) (mulP ah bl) (mulA_bd ah bh).1 (mulA_bd ah bh).2 (mulP_bd ah bl).1 (mulP_bd ah bl).2 w)
  have R4 := hide (fun w => ref6 al bh (by omega) (by omega) (by omega) (by omega) w)
  have R5 := hide (fun w => ref8 (macN (mulA ah bh) (mulP ah bl)) (mulP al bh) (macN_bd _ _).1 (macN_bd _ _).2 (mulP_bd al bh).1 (mulP_bd al bh).2 w)
  have E := hide (show mulN ah al bh bl = macN (macN (mulA ah bh) (mulP ah bl)) (mulP al bh) from rfl)
  rw [← E.out] at R5
  generalize mulN ah al bh bl = M at *
  generalize macN (mulA ah bh) (mulP ah bl) = M1 at *
  generalize mulA ah bh = A at *
  generalize mulP ah bl = P1 at *
  generalize mulP al bh = P2 at *
  clear g1 g2 ga gb E
  go_enter Try.func13, Try.ntmps13
  go_wp2_with fail
  refine (SA.out _).mono ?_
  rintro e w1 ⟨rfl, h1⟩
  obtain ⟨ka, kb⟩ := kept2 h1
  have a0 := cell_of_heap ka 0
  have a1 := cell_of_heap ka 1
  have b0 := cell_of_heap kb 0
  have b1 := cell_of_heap kb 1
  have G1 := hide h1
  clear h1 ka kb SA
  go_wp2_with fail
  refine (SB.out _).mono ?_
  rintro e w2 ⟨rfl, h2⟩
  have G2 := hide (grown_none G1.out h2)
  obtain ⟨ka, kb⟩ := kept2 G2.out
  clear a0 a1 b0 b1
  have a0 := cell_of_heap ka 0
  have a1 := cell_of_heap ka 1
  have b0 := cell_of_heap kb 0
  have b1 := cell_of_heap kb 1
  clear h2 ka kb G1 SB
  go_wp2_with fail
  refine (R1.out _).mono ?_
  rintro e w3 ⟨o1, rfl, h3⟩
  have G3 := hide (grown_none G2.out h3)
  obtain ⟨ka, kb⟩ := kept2 G3.out
  clear a0 a1 b0 b1
  have a0 := cell_of_heap ka 0
  have a1 := cell_of_heap ka 1
  have b0 := cell_of_heap kb 0
  have b1 := cell_of_heap kb 1
  clear h3 ka kb G2 R1
  go_wp2_with fail
  refine (R2.out _).mono ?_
  rintro e w4 ⟨o2, rfl, h4⟩
  have G4 := hide (grown_none G3.out h4)
  obtain ⟨ka, kb⟩ := kept2 G4.out
  clear a0 a1 b0 b1
  have a0 := cell_of_heap ka 0
  have a1 := cell_of_heap ka 1
  have b0 := cell_of_heap kb 0
  have b1 := cell_of_heap kb 1
  clear h4 ka kb G3 R2
  go_wp2_with fail
  refine (R3.out _).mono ?_
  rintro e w5 ⟨o3, rfl, h5⟩
  have G5 := hide (grown_none G4.out h5)
  obtain ⟨ka, kb⟩ := kept2 G5.out
  clear a0 a1 b0 b1
  have a0 := cell_of_heap ka 0
  have a1 := cell_of_heap ka 1
  have b0 := cell_of_heap kb 0
  have b1 := cell_of_heap kb 1
  clear h5 ka kb G4 R3
  go_wp2_with fail
  refine (R4.out _).mono ?_
  rintro e w6 ⟨o4, rfl, h6⟩
  have G6 := hide (grown_none G5.out h6)
  obtain ⟨ka, kb⟩ := kept2 G6.out
  clear a0 a1 b0 b1
  have a0 := cell_of_heap ka 0
  have a1 := cell_of_heap ka 1
  have b0 := cell_of_heap kb 0
  have b1 := cell_of_heap kb 1
  clear h6 ka kb G5 R4
  go_wp2_with fail
  refine (R5.out _).mono ?_
  rintro e w7 ⟨o5, rfl, h7⟩
  have G7 := hide (grown_none G6.out h7)
  obtain ⟨ka, kb⟩ := kept2 G7.out
  clear a0 a1 b0 b1
  have a0 := cell_of_heap ka 0
  have a1 := cell_of_heap ka 1
  have b0 := cell_of_heap kb 0
  have b1 := cell_of_heap kb 1
  clear h7 ka kb G6 R5
  go_wp2_with fail
  go_ret2
  exact ⟨rfl, grown_none (grown_none (grown_alloc w _ none) (grown_alloc _ _ none)) G7.out⟩
/-- What Mul answers, the program's and the reference's. -/
theorem muls (ah al bh bl : Int) (a0 : -9223372036854775808 ≤ ah) (a1 : ah ≤ 9223372036854775807) (b0 : -9223372036854775808 ≤ bh) (b1 : bh ≤ 9223372036854775807) : ∃ x e : Int,
    (∀ w, Calls Try.prog 12 #[.agg #[.int .i64 ah, .int .i64 al], .agg #[.int .i64 bh, .int .i64 bl]] w fun r w' => r = .returned (.tuple #[.int .i64 x, .int .i64 e]) ∧ w.grownBy w' none) ∧
    (∀ w, Calls Try.prog 13 #[.agg #[.int .i64 ah, .int .i64 al], .agg #[.int .i64 bh, .int .i64 bl]] w fun r w' => r = .returned (.tuple #[.int .i64 x, .int .i64 e]) ∧ w.grownBy w' none) := by
  by_cases g : soundB ah al = true
  · by_cases h : soundB bh bl = true
    · exact ⟨_, _, mul_yes ah al bh bl g h, refMul_yes ah al bh bl g h⟩
    · have h' : soundB bh bl = false := by simpa using h
      exact ⟨_, _, mul_no2 ah al bh bl g h', refMul_no2 ah al bh bl b0 b1 g h'⟩
  · have g' : soundB ah al = false := by simpa using g
    exact ⟨_, _, mul_no1 ah al bh bl g', refMul_no1 ah al bh bl a0 a1 g'⟩
theorem law_muls (ah al bh bl : Int) (a0 : -9223372036854775808 ≤ ah) (a1 : ah ≤ 9223372036854775807) (b0 : -9223372036854775808 ≤ bh) (b1 : bh ≤ 9223372036854775807) (w : World) :
    Calls Try.prog 4 #[.agg #[.int .i64 ah, .int .i64 al], .agg #[.int .i64 bh, .int .i64 bl]] w fun e w' => e = .returned (.bool true) ∧ Below w.heap.size w w' := by
  obtain ⟨x, e, J1, J2⟩ := muls ah al bh bl a0 a1 b0 b1
  have JA := hide J1
  have JB := hide J2
  have JC := hide (mul_yes 16384 0 2 0 (by decide) (by decide))
  rw [show mulN 16384 0 2 0 = 65536 by decide] at JC
  clear J1 J2 a0 a1 b0 b1
  go_enter Try.func4, Try.ntmps4
  go_wp2_with fail
  refine (JA.out _).mono ?_
  rintro e w1 ⟨rfl, h1⟩
  obtain ⟨ka, kb⟩ := kept2 h1
  have a0 := cell_of_heap ka 0
  have a1 := cell_of_heap ka 1
  have b0 := cell_of_heap kb 0
  have b1 := cell_of_heap kb 1
  have G1 := hide (grown_none (grown_none (grown_alloc w _ none) (grown_alloc _ _ none)) h1)
  clear h1 ka kb JA
  go_wp2_with fail
  refine (JB.out _).mono ?_
  rintro e w2 ⟨rfl, h2⟩
  have G2 := hide (grown_none G1.out h2)
  clear h2 G1 JB a0 a1 b0 b1
  go_wp2_with fail
  refine (JC.out _).mono ?_
  rintro e w3 ⟨rfl, h3⟩
  have G3 := hide (below_of_grown (grown_none G2.out h3))
  clear h3 G2 JC
  go_wp2_with fail
  go_ret
  exact ⟨rfl, G3.out⟩
end Go.Proofs.Ytfeoeonhfcjmgaa
