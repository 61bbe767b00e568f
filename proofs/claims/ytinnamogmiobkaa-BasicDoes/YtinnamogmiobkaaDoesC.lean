/- The reference's Does for sums of products; what the program's shifts and the reference's moved come to; the statement's own does. -/
import Derived.Test.YtinnamogmiobkaaDoesA
import Derived.Test.YtinnamogmiobkaaDoesB
import Derived.Test.YtinnamogmiobkaaBaseB
namespace Go.Proofs.Ytinnamogmiobkaa
open Go.RowKit
set_option linter.unusedVariables false
set_option maxHeartbeats 2000000
set_option maxRecDepth 100000

theorem refDoes_8 (a b c : Int) (a0 : -9223372036854775808 ≤ a) (a1 : a ≤ 9223372036854775807) (b0 : -9223372036854775808 ≤ b) (b1 : b ≤ 9223372036854775807) (c0 : -9223372036854775808 ≤ c) (c1 : c ≤ 9223372036854775807) (w : World) :
    Calls Try.prog 14 #[.int .i64 8, .int .i64 a, .int .i64 b, .int .i64 c] w (Tells w (.tuple #[.int .i64 (c32 (c32 a + c32 (c32 (c16 b * c16 c * 2)))), .bool (o32 (c16 b * c16 c * 2) || o32 (c32 a + c32 (c32 (c16 b * c16 c * 2))))])) := by
  have FIN := hide (show ∀ w', w.grownBy w' none → Tells w (.tuple #[.int .i64 (c32 (c32 a + c32 (c32 (c16 b * c16 c * 2)))), .bool (o32 (c16 b * c16 c * 2) || o32 (c32 a + c32 (c32 (c16 b * c16 c * 2))))]) (.returned (.tuple #[.int .i64 (c32 (c32 a + c32 (c32 (c16 b * c16 c * 2)))), .bool (o32 (c16 b * c16 c * 2) || o32 (c32 a + c32 (c32 (c16 b * c16 c * 2))))])) w' from fun w' h => ⟨rfl, h⟩)
  obtain ⟨xa0, xa1⟩ := c16_bd a
  obtain ⟨xb0, xb1⟩ := c16_bd b
  obtain ⟨pa0, pa1⟩ := c32_bd a
  obtain ⟨pb0, pb1⟩ := c32_bd b
  have h8 := P8_82
  go_enter Try.func14, Try.ntmps14
  go_wp2_with fail
  refine (refS_any a w a0 a1).mono ?_
  rintro e w1 ⟨rfl, g1⟩
  have G1 := hide g1
  clear g1
  go_wp2_with fail
  refine (whole_any (c16 a) w1 (by omega) (by omega)).mono ?_
  rintro e w2 ⟨bx, rfl, hbx, x2, g2⟩
  have G2 := hide (grown_none G1.out g2)
  clear g2 G1
  go_wp2_with fail
  refine (refS_any b w2 b0 b1).mono ?_
  rintro e w3 ⟨rfl, g3⟩
  have x3 := IsI_new x2 g3
  have G3 := hide (grown_none G2.out g3)
  clear g3 G2 x2
  go_wp2_with fail
  refine (whole_any (c16 b) w3 (by omega) (by omega)).mono ?_
  rintro e w4 ⟨by', rfl, hby, y4, g4⟩
  have x4 := IsI_new x3 g4
  have G4 := hide (grown_none G3.out g4)
  clear g4 G3 x3
  go_wp2_with fail
  refine (refL_any a w4 a0 a1).mono ?_
  rintro e w5 ⟨rfl, g5⟩
  have x5 := IsI_new x4 g5
  have y5 := IsI_new y4 g5
  have G5 := hide (grown_none G4.out g5)
  clear g5 G4 x4 y4
  go_wp2_with fail
  refine (whole_any (c32 a) w5 (by omega) (by omega)).mono ?_
  rintro e w6 ⟨bp, rfl, hbp, p6, g6⟩
  have x6 := IsI_new x5 g6
  have y6 := IsI_new y5 g6
  have G6 := hide (grown_none G5.out g6)
  clear g6 G5 x5 y5
  go_wp2_with fail
  refine (refL_any b w6 b0 b1).mono ?_
  rintro e w7 ⟨rfl, g7⟩
  have x7 := IsI_new x6 g7
  have y7 := IsI_new y6 g7
  have p7 := IsI_new p6 g7
  have G7 := hide (grown_none G6.out g7)
  clear g7 G6 x6 y6 p6
  go_wp2_with fail
  refine (whole_any (c32 b) w7 (by omega) (by omega)).mono ?_
  rintro e w8 ⟨bq, rfl, hbq, q8, g8⟩
  have ga := grown_alloc w8 int0 none
  have xi := IsI_new (IsI_new x7 g8) ga
  have yi := IsI_new (IsI_new y7 g8) ga
  have pi := IsI_new (IsI_new p7 g8) ga
  have qi := IsI_new q8 ga
  have GA := hide (grown_none (grown_none G7.out g8) ga)
  have hw8 : w.heap.size ≤ w8.heap.size := Nat.le_trans G7.out.size g8.size
  have xl := IsI_lt (IsI_new x7 g8)
  have yl := IsI_lt (IsI_new y7 g8)
  have pl := IsI_lt (IsI_new p7 g8)
  have ql := IsI_lt q8
  clear g8 G7 x7 y7 p7 q8 hbx hby hbp hbq ga
  obtain ⟨m0, m1⟩ := c32_bd (c16 b * c16 c * 2)
  clear xi yi pi qi
  go_wp2_with fail
  refine (refDoes_7 b c 0 b0 b1 c0 c1 _).mono ?_
  rintro e wm ⟨rfl, gm⟩
  have GM := hide (grown_none GA.out gm)
  clear gm GA
  go_wp2_with fail
  refine (refDoes_2 a (c32 (c16 b * c16 c * 2)) 0 a0 a1 (by omega) (by omega) _).mono ?_
  rintro e wn ⟨rfl, gn⟩
  have F := hide (FIN.out wn (grown_none GM.out gn))
  clear gn GM FIN
  cases ho : o32 (c16 b * c16 c * 2)
  · go_wp2_with fail
    go_ret2
    exact ⟨by rw [ho]; rfl, F.out.2⟩
  · go_wp2_with fail
    go_ret2
    exact ⟨by rw [ho]; rfl, F.out.2⟩
theorem refDoes_9 (a b c : Int) (a0 : -9223372036854775808 ≤ a) (a1 : a ≤ 9223372036854775807) (b0 : -9223372036854775808 ≤ b) (b1 : b ≤ 9223372036854775807) (c0 : -9223372036854775808 ≤ c) (c1 : c ≤ 9223372036854775807) (w : World) :
    Calls Try.prog 14 #[.int .i64 9, .int .i64 a, .int .i64 b, .int .i64 c] w (Tells w (.tuple #[.int .i64 (c32 (c32 a - c32 (c32 (c16 b * c16 c * 2)))), .bool (o32 (c16 b * c16 c * 2) || o32 (c32 a - c32 (c32 (c16 b * c16 c * 2))))])) := by
  have FIN := hide (show ∀ w', w.grownBy w' none → Tells w (.tuple #[.int .i64 (c32 (c32 a - c32 (c32 (c16 b * c16 c * 2)))), .bool (o32 (c16 b * c16 c * 2) || o32 (c32 a - c32 (c32 (c16 b * c16 c * 2))))]) (.returned (.tuple #[.int .i64 (c32 (c32 a - c32 (c32 (c16 b * c16 c * 2)))), .bool (o32 (c16 b * c16 c * 2) || o32 (c32 a - c32 (c32 (c16 b * c16 c * 2))))])) w' from fun w' h => ⟨rfl, h⟩)
  obtain ⟨xa0, xa1⟩ := c16_bd a
  obtain ⟨xb0, xb1⟩ := c16_bd b
  obtain ⟨pa0, pa1⟩ := c32_bd a
  obtain ⟨pb0, pb1⟩ := c32_bd b
  have h8 := P8_82
  go_enter Try.func14, Try.ntmps14
  go_wp2_with fail
  refine (refS_any a w a0 a1).mono ?_
  rintro e w1 ⟨rfl, g1⟩
  have G1 := hide g1
  clear g1
  go_wp2_with fail
  refine (whole_any (c16 a) w1 (by omega) (by omega)).mono ?_
  rintro e w2 ⟨bx, rfl, hbx, x2, g2⟩
  have G2 := hide (grown_none G1.out g2)
  clear g2 G1
  go_wp2_with fail
  refine (refS_any b w2 b0 b1).mono ?_
  rintro e w3 ⟨rfl, g3⟩
  have x3 := IsI_new x2 g3
  have G3 := hide (grown_none G2.out g3)
  clear g3 G2 x2
  go_wp2_with fail
  refine (whole_any (c16 b) w3 (by omega) (by omega)).mono ?_
  rintro e w4 ⟨by', rfl, hby, y4, g4⟩
  have x4 := IsI_new x3 g4
  have G4 := hide (grown_none G3.out g4)
  clear g4 G3 x3
  go_wp2_with fail
  refine (refL_any a w4 a0 a1).mono ?_
  rintro e w5 ⟨rfl, g5⟩
  have x5 := IsI_new x4 g5
  have y5 := IsI_new y4 g5
  have G5 := hide (grown_none G4.out g5)
  clear g5 G4 x4 y4
  go_wp2_with fail
  refine (whole_any (c32 a) w5 (by omega) (by omega)).mono ?_
  rintro e w6 ⟨bp, rfl, hbp, p6, g6⟩
  have x6 := IsI_new x5 g6
  have y6 := IsI_new y5 g6
  have G6 := hide (grown_none G5.out g6)
  clear g6 G5 x5 y5
  go_wp2_with fail
  refine (refL_any b w6 b0 b1).mono ?_
  rintro e w7 ⟨rfl, g7⟩
  have x7 := IsI_new x6 g7
  have y7 := IsI_new y6 g7
  have p7 := IsI_new p6 g7
  have G7 := hide (grown_none G6.out g7)
  clear g7 G6 x6 y6 p6
  go_wp2_with fail
  refine (whole_any (c32 b) w7 (by omega) (by omega)).mono ?_
  rintro e w8 ⟨bq, rfl, hbq, q8, g8⟩
  have ga := grown_alloc w8 int0 none
  have xi := IsI_new (IsI_new x7 g8) ga
  have yi := IsI_new (IsI_new y7 g8) ga
  have pi := IsI_new (IsI_new p7 g8) ga
  have qi := IsI_new q8 ga
  have GA := hide (grown_none (grown_none G7.out g8) ga)
  have hw8 : w.heap.size ≤ w8.heap.size := Nat.le_trans G7.out.size g8.size
  have xl := IsI_lt (IsI_new x7 g8)
  have yl := IsI_lt (IsI_new y7 g8)
  have pl := IsI_lt (IsI_new p7 g8)
  have ql := IsI_lt q8
  clear g8 G7 x7 y7 p7 q8 hbx hby hbp hbq ga
  obtain ⟨m0, m1⟩ := c32_bd (c16 b * c16 c * 2)
  clear xi yi pi qi
  go_wp2_with fail
  refine (refDoes_7 b c 0 b0 b1 c0 c1 _).mono ?_
  rintro e wm ⟨rfl, gm⟩
  have GM := hide (grown_none GA.out gm)
  clear gm GA
  go_wp2_with fail
  refine (refDoes_3 a (c32 (c16 b * c16 c * 2)) 0 a0 a1 (by omega) (by omega) _).mono ?_
  rintro e wn ⟨rfl, gn⟩
  have F := hide (FIN.out wn (grown_none GM.out gn))
  clear gn GM FIN
  cases ho : o32 (c16 b * c16 c * 2)
  · go_wp2_with fail
    go_ret2
    exact ⟨by rw [ho]; rfl, F.out.2⟩
  · go_wp2_with fail
    go_ret2
    exact ⟨by rw [ho]; rfl, F.out.2⟩

/-- A number that isn't 0, moved to the left by 32 places and more, is beyond 32 bits. -/
theorem far_left (X : Int) (e : Nat) (h : 32 ≤ e) : (0 < X → 4294967296 ≤ X * 2 ^ e) ∧ (X < 0 → X * 2 ^ e ≤ -4294967296) ∧ (X = 0 → X * 2 ^ e = 0) := by
  have hp := pow_le_pow 32 e h
  rw [show (2 : Int) ^ 32 = 4294967296 from rfl] at hp
  refine ⟨fun hx => ?_, fun hx => ?_, fun hx => by rw [hx]; simp⟩
  · have : 1 * 2 ^ e ≤ X * 2 ^ e := Int.mul_le_mul_of_nonneg_right (by omega) (by omega)
    omega
  · have : 1 * 2 ^ e ≤ (-X) * 2 ^ e := Int.mul_le_mul_of_nonneg_right (by omega) (by omega)
    rw [Int.neg_mul] at this
    omega
/-- A number of 32 bits, moved to the right by 32 places and more, is 0 or -1. -/
theorem far_right (X : Int) (e : Nat) (h : 32 ≤ e) (h1 : -2147483648 ≤ X) (h2 : X ≤ 2147483647) : X / 2 ^ e = if X < 0 then -1 else 0 := by
  have hp := pow_le_pow 32 e h
  rw [show (2 : Int) ^ 32 = 4294967296 from rfl] at hp
  generalize (2 : Int) ^ e = p at *
  by_cases hx : X < 0
  · rw [if_pos hx]
    have e1 : X = -1 * p + (X + p) := by omega
    rw [Int.ediv_eq_iff_of_pos (by omega)]
    omega
  · rw [if_neg hx]
    exact Int.ediv_eq_zero_of_lt (by omega) (by omega)
theorem upTo_small (n : Int) (h0 : 0 ≤ n) (h : n ≤ 50) : upTo n = n.toNat := by unfold upTo; rw [if_neg (by omega)]
theorem upTo_far (n : Int) (h : 32 ≤ n) : 32 ≤ upTo n := by unfold upTo; split <;> omega
theorem nearN_cases (r : Int) : (r < -32 ∧ nearN r = -32) ∨ (32 < r ∧ nearN r = 32) ∨ (-32 ≤ r ∧ r ≤ 32 ∧ nearN r = r) := by
  unfold nearN; split
  · exact Or.inl ⟨by omega, rfl⟩
  · split
    · exact Or.inr (Or.inl ⟨by omega, rfl⟩)
    · exact Or.inr (Or.inr ⟨by omega, by omega, rfl⟩)
theorem shift_moved16 (a r : Int) : sh16 a (nearN r) = c16 (movN (c16 a) r) ∧ so16 a (nearN r) = o16 (movN (c16 a) r) := by
  obtain ⟨x0, x1⟩ := c16_bd a
  have inr : ∀ z : Int, -32768 ≤ z → z ≤ 32767 → o16 z = false := fun z z0 z1 => by unfold o16; rw [c16_id z z0 z1]; simp
  unfold sh16 so16 movN
  generalize c16 a = X at *
  rcases nearN_cases r with ⟨h, e⟩ | ⟨h, e⟩ | ⟨h, h', e⟩
  · rw [e, if_neg (show ¬ 0 ≤ r by omega), if_pos (show (-32 : Int) < 0 by decide), if_pos (show (-32 : Int) < 0 by decide)]
    rw [show (- -(32 : Int)).toNat = 32 from rfl]
    have f1 := far_right X 32 (by omega) (by omega) (by omega)
    have f2 := far_right X (upTo (-r)) (upTo_far _ (by omega)) (by omega) (by omega)
    rw [f1, f2]
    refine ⟨(c16_id _ (by split <;> omega) (by split <;> omega)).symm, (inr _ (by split <;> omega) (by split <;> omega)).symm⟩
  · rw [e, if_pos (show 0 ≤ r by omega), if_neg (show ¬ (32 : Int) < 0 by decide), if_neg (show ¬ (32 : Int) < 0 by decide)]
    rw [show ((32 : Int)).toNat = 32 from rfl]
    obtain ⟨f1, f2, f3⟩ := far_left X 32 (by omega)
    obtain ⟨f4, f5, f6⟩ := far_left X (upTo r) (upTo_far _ (by omega))
    generalize X * 2 ^ 32 = A at *
    generalize X * 2 ^ upTo r = B at *
    rcases (show X < 0 ∨ X = 0 ∨ 0 < X by omega) with hx | hx | hx
    · have := f2 hx; have := f5 hx
      have cA : c16 A = -32768 := by unfold c16; rw [if_pos (by omega)]
      have cB : c16 B = -32768 := by unfold c16; rw [if_pos (by omega)]
      refine ⟨by rw [cA, cB], ?_⟩
      unfold o16; rw [cA, cB]
      rw [bne_iff_ne.2 (by omega), bne_iff_ne.2 (by omega)]
    · rw [f3 hx, f6 hx]; exact ⟨rfl, rfl⟩
    · have := f1 hx; have := f4 hx
      have cA : c16 A = 32767 := by unfold c16; rw [if_neg (by omega), if_pos (by omega)]
      have cB : c16 B = 32767 := by unfold c16; rw [if_neg (by omega), if_pos (by omega)]
      refine ⟨by rw [cA, cB], ?_⟩
      unfold o16; rw [cA, cB]
      rw [bne_iff_ne.2 (by omega), bne_iff_ne.2 (by omega)]
  · rw [e]
    by_cases hr : r < 0
    · rw [if_neg (show ¬ 0 ≤ r by omega), if_pos hr, if_pos hr, upTo_small (-r) (by omega) (by omega)]
      obtain ⟨d0, d1⟩ := div_bd X (-r).toNat (-32768) 32767 (by omega) (by omega) x0 x1
      exact ⟨(c16_id _ d0 d1).symm, (inr _ d0 d1).symm⟩
    · rw [if_pos (show 0 ≤ r by omega), if_neg hr, if_neg hr, upTo_small r (by omega) (by omega)]
      exact ⟨rfl, rfl⟩
theorem shift_moved32 (a r : Int) : sh32 a (nearN r) = c32 (movN (c32 a) r) ∧ so32 a (nearN r) = o32 (movN (c32 a) r) := by
  obtain ⟨x0, x1⟩ := c32_bd a
  have inr : ∀ z : Int, -2147483648 ≤ z → z ≤ 2147483647 → o32 z = false := fun z z0 z1 => by unfold o32; rw [c32_id z z0 z1]; simp
  unfold sh32 so32 movN
  generalize c32 a = X at *
  rcases nearN_cases r with ⟨h, e⟩ | ⟨h, e⟩ | ⟨h, h', e⟩
  · rw [e, if_neg (show ¬ 0 ≤ r by omega), if_pos (show (-32 : Int) < 0 by decide), if_pos (show (-32 : Int) < 0 by decide)]
    rw [show (- -(32 : Int)).toNat = 32 from rfl]
    have f1 := far_right X 32 (by omega) (by omega) (by omega)
    have f2 := far_right X (upTo (-r)) (upTo_far _ (by omega)) (by omega) (by omega)
    rw [f1, f2]
    refine ⟨(c32_id _ (by split <;> omega) (by split <;> omega)).symm, (inr _ (by split <;> omega) (by split <;> omega)).symm⟩
  · rw [e, if_pos (show 0 ≤ r by omega), if_neg (show ¬ (32 : Int) < 0 by decide), if_neg (show ¬ (32 : Int) < 0 by decide)]
    rw [show ((32 : Int)).toNat = 32 from rfl]
    obtain ⟨f1, f2, f3⟩ := far_left X 32 (by omega)
    obtain ⟨f4, f5, f6⟩ := far_left X (upTo r) (upTo_far _ (by omega))
    generalize X * 2 ^ 32 = A at *
    generalize X * 2 ^ upTo r = B at *
    rcases (show X < 0 ∨ X = 0 ∨ 0 < X by omega) with hx | hx | hx
    · have := f2 hx; have := f5 hx
      have cA : c32 A = -2147483648 := by unfold c32; rw [if_pos (by omega)]
      have cB : c32 B = -2147483648 := by unfold c32; rw [if_pos (by omega)]
      refine ⟨by rw [cA, cB], ?_⟩
      unfold o32; rw [cA, cB]
      rw [bne_iff_ne.2 (by omega), bne_iff_ne.2 (by omega)]
    · rw [f3 hx, f6 hx]; exact ⟨rfl, rfl⟩
    · have := f1 hx; have := f4 hx
      have cA : c32 A = 2147483647 := by unfold c32; rw [if_neg (by omega), if_pos (by omega)]
      have cB : c32 B = 2147483647 := by unfold c32; rw [if_neg (by omega), if_pos (by omega)]
      refine ⟨by rw [cA, cB], ?_⟩
      unfold o32; rw [cA, cB]
      rw [bne_iff_ne.2 (by omega), bne_iff_ne.2 (by omega)]
  · rw [e]
    by_cases hr : r < 0
    · rw [if_neg (show ¬ 0 ≤ r by omega), if_pos hr, if_pos hr, upTo_small (-r) (by omega) (by omega)]
      obtain ⟨d0, d1⟩ := div_bd X (-r).toNat (-2147483648) 2147483647 (by omega) (by omega) x0 x1
      exact ⟨(c32_id _ d0 d1).symm, (inr _ d0 d1).symm⟩
    · rw [if_pos (show 0 ≤ r by omega), if_neg hr, if_neg hr, upTo_small r (by omega) (by omega)]
      exact ⟨rfl, rfl⟩
theorem near_neg (b : Int) : nearN (-max b (-50)) = -nearN b := by unfold nearN; repeat' split; all_goals omega

theorem neg_any (a : Int) (w : World) :
    Calls Try.prog 37 #[.int .i64 a] w fun e w' => e = .returned (.tuple #[.int .i64 (c16 (-c16 a)), .bool (o16 (-c16 a))]) ∧ w' = w := by
  have e0 : c16 0 - c16 a = -c16 a := by rw [show c16 0 = 0 from rfl]; omega
  go_enter Try.func37, Try.ntmps37
  go_wp2_with fail
  refine (sub_any 0 a _).mono ?_
  rintro e w1 ⟨rfl, rfl⟩
  rw [e0]
  go_wp2_with fail
  go_ret2
  exact ⟨rfl, rfl⟩
theorem abs_any (a : Int) (w : World) :
    Calls Try.prog 38 #[.int .i64 a] w fun e w' => e = .returned (.tuple #[.int .i64 (c16 ((c16 a).natAbs : Int)), .bool (o16 ((c16 a).natAbs : Int))]) ∧ w' = w := by
  obtain ⟨x0, x1⟩ := c16_bd a
  obtain ⟨z, hz⟩ : ∃ z : Int, Hid (z = ((c16 a).natAbs : Int)) := ⟨_, rfl⟩
  have hm : max (c16 a) (-c16 a) = z := by rw [hz.out]; omega
  rw [← hz.out]
  clear hz
  go_enter Try.func38, Try.ntmps38
  go_wp2_with fail
  refine (sat16_any a _).mono ?_
  rintro e w1 ⟨rfl, rfl⟩
  go_wp2_with fail
  refine (sat16_any z _).mono ?_
  rintro e w1 ⟨rfl, rfl⟩
  go_wp2_with fail
  go_ret2
  exact ⟨rfl, rfl⟩
end Go.Proofs.Ytinnamogmiobkaa
