/- The contract of the reference's Log, and the walk of DualLogs. -/
import Derived.Test.YtfeoeonhfcjmgaaBigV
import Derived.Test.YtfeoeonhfcjmgaaBigN
import Derived.Test.YtfeoeonhfcjmgaaDualC
namespace Go.Proofs.Ytfeoeonhfcjmgaa
open Go.RowKit
set_option linter.unusedVariables false
set_option maxHeartbeats 2000000

theorem refLog_no (a : Int) (h : a < 1 ∨ 2147483647 < a) (w : World) :
    Calls Try.prog 19 #[.int .i64 a] w fun e w' => e = .returned (.tuple #[.int .i64 0, .int .i64 0, .int .i64 2]) ∧ w.grownBy w' none := by
  by_cases h1 : a < 1
  · clear h
    go_enter Try.func19, Try.ntmps19
    go_wp2_with fail
    go_ret3
    exact ⟨rfl, grown_refl _ _⟩
  · have h2 : 2147483647 < a := by omega
    clear h
    go_enter Try.func19, Try.ntmps19
    go_wp2_with fail
    go_ret3
    exact ⟨rfl, grown_refl _ _⟩
/-- What one round asks: has the number more bits than k + 1? -/
theorem top_more (a : Int) (n k : Nat) (h1 : 2 ^ n ≤ a) (h2 : a < 2 ^ (n + 1)) : (k < n → 1 ≤ a / 2 ^ (k + 1)) ∧ (k = n → a / 2 ^ (k + 1) = 0) := by
  have hp : (0 : Int) < 2 ^ (k + 1) := Int.pow_pos (by decide)
  refine ⟨fun h => (Int.le_ediv_iff_mul_le hp).2 ?_, fun h => ?_⟩
  · have := (pow_le (k + 1) n h).2
    omega
  · subst h
    have := (pow_le k k (by omega)).1
    exact Int.ediv_eq_zero_of_lt (by omega) h2
theorem cmp3_ge (x y : Int) (h : y ≤ x) : 0 ≤ cmp3 x y := by unfold cmp3; split <;> (try split) <;> omega
theorem cmp3_lt (x y : Int) (h : x < y) : cmp3 x y < 0 := by unfold cmp3; split <;> (try split) <;> omega
theorem pow_step (j : Nat) (hj : j < 15) : (2 : Int) ^ (15 - j) = 2 ^ (14 - j) * 2 ∧ 15 - (j + 1) = 14 - j := by
  rw [show 15 - j = (14 - j) + 1 by omega, Int.pow_succ]; exact ⟨rfl, by omega⟩
theorem fl_bd (F : Int) (j : Nat) (hj : j < 15) (h0 : 0 ≤ F) (h1 : F < 2 ^ j) : 0 ≤ F * 2 ^ (15 - j) ∧ F * 2 ^ (15 - j) ≤ 32768 ∧ 1 ≤ (2 : Int) ^ (14 - j) ∧ (2 : Int) ^ (14 - j) ≤ 16384 := by
  have hp := (pow_le (15 - j) 15 (by omega)).1
  have e : (2 : Int) ^ j * 2 ^ (15 - j) = 32768 := by rw [← Int.pow_add, show j + (15 - j) = 15 by omega]; decide
  have e1 : 0 ≤ (2 ^ j - F) * 2 ^ (15 - j) := Int.mul_nonneg (by omega) (by omega)
  rw [Int.sub_mul] at e1
  have p := pow_le (14 - j) 14 (by omega)
  exact ⟨Int.mul_nonneg h0 (by omega), by omega, p.1, p.2⟩
theorem fl_up (F : Int) (j : Nat) (hj : j < 15) : F * 2 ^ (15 - j) + 2 ^ (14 - j) = (F * 2 + 1) * 2 ^ (15 - (j + 1)) := by
  obtain ⟨e1, e2⟩ := pow_step j hj
  rw [e1, e2, Int.add_mul, Int.one_mul, Int.mul_comm (2 ^ (14 - j)) 2, Int.mul_assoc]
theorem fl_stay (F : Int) (j : Nat) (hj : j < 15) : F * 2 ^ (15 - j) = F * 2 * 2 ^ (15 - (j + 1)) := by
  obtain ⟨e1, e2⟩ := pow_step j hj
  rw [e1, e2, Int.mul_comm (2 ^ (14 - j)) 2, Int.mul_assoc]
theorem refLog_yes (a : Int) (n : Nat) (hn : n ≤ 30) (h1 : 2 ^ n ≤ a) (h2 : a < 2 ^ (n + 1)) (w : World) :
    Calls Try.prog 19 #[.int .i64 a] w fun e w' => e = .returned (.tuple #[.int .i64 n, .int .i64 (logF (a * 2 ^ (30 - n)) 15), .int .i64 0]) ∧ w.grownBy w' none := by
  obtain ⟨x1, x2⟩ := lift_bd a n hn h1 h2
  have p1 := pow_le n 30 hn
  have p2 := pow_le (n + 1) 31 (by omega)
  have a1 : 1 ≤ a := by omega
  have a2 : a ≤ 2147483647 := by omega
  have TM := hide (fun k => top_more a n k h1 h2)
  clear h1 h2 p1 p2
  go_enter Try.func19, Try.ntmps19
  go_wp2_with fail
  go_loop [5] (fun i => ∃ k : Nat, i = .int .i64 k ∧ k ≤ n) (fun i => n - (intOf i).toNat)
  case atStart => exact ⟨0, rfl, Nat.zero_le _⟩
  case round =>
    obtain ⟨k, rfl, hk⟩ := hrel
    obtain ⟨t1, t2⟩ := TM.out k
    by_cases hkn : k = n
    · subst hkn
      have t3 := t2 rfl
      have HL := hide (fun b1 w1 (hz : Struct w1 w.heap.size) (h : IsI w1 b1 a) => lshN_any w.heap.size b1 a (30 - k) (by omega) w1 hz h (by have := P8_big; omega) (by have := P8_big; omega))
      rw [show (((30 - k : Nat)) : Int) = 30 - (k : Int) by omega] at HL
      have X1 := hide x1
      have X2 := hide x2
      have TT := hide t3
      clear t1 t2 TM x1 x2
      go_wp2_with fail
      refine (whole_any a _ (by omega) (by omega)).mono ?_
      rintro e w2 ⟨ba, rfl, hba, i2, g2⟩
      have z2 := Struct_keep (struct_new w) g2 (by simp)
      have L := hide (HL.out ba w2 z2 i2)
      have G2 := hide (grown_none (grown_alloc w int0 none) g2)
      have sz2 := g2.size
      clear g2 HL z2 i2
      go_wp2_with fail
      refine L.out.mono ?_
      rintro e w3 ⟨rfl, i3, g3⟩
      have G3 := hide (grown_own G2.out g3 (Nat.le_refl _))
      have b3 := IsI_lt i3
      have I3 := hide i3
      clear g3 G2 L i3
      go_wp2_with fail
      refine (newInt_any 1 _ (by omega) (by omega)).mono ?_
      rintro e w4 ⟨bo, rfl, hbo, i4, g4⟩
      have z4 := Struct_keep (struct_new w3) g4 (by simp)
      have L := hide (lshN_any w3.heap.size bo 1 31 (by omega) w4 z4 i4 (by have := P8_big; omega) (by have := P8_big; omega))
      have I4 := hide (IsI_new (IsI_new I3.out (grown_alloc w3 int0 none)) g4)
      have G4 := hide (grown_none G3.out (grown_none (grown_alloc w3 int0 none) g4))
      have Z4 := hide z4
      clear g4 G3 I3 z4 i4
      go_wp2_with fail
      refine L.out.mono ?_
      rintro e w5 ⟨rfl, i5, g5⟩
      have J5 := hide (show IsI w5 w3.heap.size 2147483648 from by rw [show (2147483648 : Int) = 1 * 2 ^ 31 by decide]; exact i5)
      have I5 := hide (IsI_other I4.out g5 Z4.out (by omega))
      have G5 := hide (grown_own G4.out g5 (by omega))
      clear g5 G4 I4 Z4 L i5
      go_wp2_with fail
      have B := hide (log_bd _ X1.out X2.out)
      generalize hX : a * 2 ^ (30 - k) = X at *
      have HX := hide hX
      have e0 : logF X 0 * 2 ^ (15 - 0) = 0 := by rw [(log_zero X).2]; decide
      have b35 : w.heap.size ≠ w3.heap.size := by omega
      clear hX TT X1 X2
      go_loopw [8, 9] (fun f i wr => ∃ j : Nat, f = .int .i64 (logF X j * 2 ^ (15 - j)) ∧ i = .int .i64 (14 - (j : Int)) ∧ j ≤ 15 ∧ Hid (IsI wr w.heap.size (logX X j) ∧ IsI wr w3.heap.size 2147483648 ∧ w.grownBy wr none)) (fun _ i _ => (intOf i + 1).toNat)
      case atStart => exact ⟨0, by rw [e0], by simp, by omega, I5.out, J5.out, G5.out⟩
      case round =>
        obtain ⟨j, rfl, rfl, hj, hI⟩ := hrel
        clear I5 J5 G5 e0
        by_cases hj' : j = 15
        · subst hj'
          have e15 : logF X 15 * 2 ^ (15 - 15) = logF X 15 := by rw [show (2 : Int) ^ (15 - 15) = 1 by decide, Int.mul_one]
          rw [e15]
          generalize hF : logF X 15 = F at *
          go_wp2_with fail
          go_ret3
          exact ⟨by rw [HX.out, hF]; rfl, hI.out.2.2⟩
        · obtain ⟨c1, c2, c3, c4⟩ := B.out j
          obtain ⟨s1, s2⟩ := sq_bd _ c1 c2
          obtain ⟨q1, q2, q3, q4⟩ := fl_bd (logF X j) j (by omega) c3 c4
          have UP := hide (log_up X j)
          have ST := hide (log_stay X j)
          have E1 := hide (fl_up (logF X j) j (by omega))
          have E0 := hide (fl_stay (logF X j) j (by omega))
          have M := hide (bigMul_any w.heap.size w.heap.size w.heap.size (logX X j) (logX X j) wr (IsI_struct hI.out.1) hI.out.1 hI.out.1 (by have := P8_big; omega) (by have := P8_big; omega))
          generalize logX X j = x at *
          generalize logF X j * 2 ^ (15 - j) = f at *
          generalize logF X j = F at *
          go_wp2_with fail
          refine M.out.mono ?_
          rintro e w6 ⟨rfl, i6, g6⟩
          have hI6 := hide (show IsI w6 w3.heap.size 2147483648 ∧ w.grownBy w6 none from ⟨IsI_other hI.out.2.1 g6 (IsI_struct hI.out.1) (fun e => b35 e.symm), grown_own hI.out.2.2 g6 (Nat.le_refl _)⟩)
          have R := hide (rshP_any w.heap.size w.heap.size (x * x) 30 (by omega) w6 (IsI_struct i6) i6 (by omega))
          rw [show ((30 : Nat) : Int) = 30 from rfl, show (2 : Int) ^ 30 = 1073741824 by decide] at R
          have S6 := hide (IsI_struct i6)
          clear M hI g6 i6
          go_wp2_with fail
          refine R.out.mono ?_
          rintro e w7 ⟨rfl, i7, g7⟩
          have hI7 := hide (show IsI w7 w3.heap.size 2147483648 ∧ w.grownBy w7 none from ⟨IsI_other hI6.out.1 g7 S6.out (fun e => b35 e.symm), grown_own hI6.out.2 g7 (Nat.le_refl _)⟩)
          have C := hide (bigCmp_any w.heap.size w3.heap.size (x * x / 1073741824) 2147483648 w7 i7 hI7.out.1)
          have I7 := hide i7
          clear R hI6 g7 i7 S6
          obtain ⟨y, hy⟩ : ∃ y, y = x * x / 1073741824 := ⟨_, rfl⟩
          have y1 : 0 ≤ y := by omega
          rw [← hy] at C I7 UP ST
          clear hy
          by_cases hm : 2147483648 ≤ y
          · have hc := cmp3_ge y 2147483648 hm
            generalize cmp3 y 2147483648 = c at *
            go_wp2_with fail
            refine C.out.mono ?_
            rintro e w8 ⟨rfl, m, rfl⟩
            have I8 := hide (IsI_draws I7.out m)
            have hI8 := hide (show IsI (w7.drewN m) w3.heap.size 2147483648 ∧ w.grownBy (w7.drewN m) none from ⟨IsI_draws hI7.out.1 m, grown_none hI7.out.2 (grown_drewN' _ m none)⟩)
            have R := hide (rshP_any w.heap.size w.heap.size y 1 (by omega) (w7.drewN m) (IsI_struct I8.out) I8.out y1)
            rw [show ((1 : Nat) : Int) = 1 from rfl, show (2 : Int) ^ 1 = 2 by decide] at R
            clear C I7 hI7
            go_wp2_with fail
            refine R.out.mono ?_
            rintro e w9 ⟨rfl, i9, g9⟩
            have hI9 := hide (show IsI w9 w3.heap.size 2147483648 ∧ w.grownBy w9 none from ⟨IsI_other hI8.out.1 g9 (IsI_struct I8.out) (fun e => b35 e.symm), grown_own hI8.out.2 g9 (Nat.le_refl _)⟩)
            have I9 := hide i9
            clear R I8 hI8 g9 i9
            go_wp2_with fail
            go_roundw
            case rel => exact ⟨j + 1, by rw [(UP.out hm).2, ← E1.out], by go_num, by omega, by rw [(UP.out hm).1]; exact I9.out, hI9.out.1, hI9.out.2⟩
            case measure => simp [intOf]; omega
          · have hc := cmp3_lt y 2147483648 (by omega)
            generalize cmp3 y 2147483648 = c at *
            go_wp2_with fail
            refine C.out.mono ?_
            rintro e w8 ⟨rfl, m, rfl⟩
            have I8 := hide (IsI_draws I7.out m)
            have hI8 := hide (show IsI (w7.drewN m) w3.heap.size 2147483648 ∧ w.grownBy (w7.drewN m) none from ⟨IsI_draws hI7.out.1 m, grown_none hI7.out.2 (grown_drewN' _ m none)⟩)
            clear C I7 hI7
            go_wp2_with fail
            go_roundw
            case rel => exact ⟨j + 1, by rw [(ST.out hm).2, ← E0.out], by go_num, by omega, by rw [(ST.out hm).1]; exact I8.out, hI8.out.1, hI8.out.2⟩
            case measure => simp [intOf]; omega
    · have t3 := t1 (by omega)
      clear t1 t2 TM x1 x2
      go_wp2_with fail
      go_round
      case rel => exact ⟨k + 1, by go_num, by omega⟩
      case measure => simp [intOf]; omega
/-- What Log answers, the program's and the reference's. -/
theorem logs (a : Int) : ∃ x p e : Int,
    (∀ w, Calls Try.prog 18 #[.int .i64 a] w fun r w' => r = .returned (.tuple #[.int .i64 x, .int .i64 p, .int .i64 e]) ∧ w' = w) ∧
    (∀ w, Calls Try.prog 19 #[.int .i64 a] w fun r w' => r = .returned (.tuple #[.int .i64 x, .int .i64 p, .int .i64 e]) ∧ w.grownBy w' none) := by
  by_cases h : a < 1 ∨ 2147483647 < a
  · exact ⟨_, _, _, log_no a h, refLog_no a h⟩
  · obtain ⟨n, hn, n1, n2⟩ := top_bit 31 a.toNat (by omega) (by omega)
    have q1 := pow_nat n
    have q2 := pow_nat (n + 1)
    exact ⟨_, _, _, log_yes a n (by omega) (by omega) (by omega), refLog_yes a n (by omega) (by omega) (by omega)⟩
theorem law_logs (a : Int) (w : World) :
    Calls Try.prog 7 #[.int .i64 a] w fun e w' => e = .returned (.bool true) ∧ Below w.heap.size w w' := by
  obtain ⟨x, p, e, J1, J2⟩ := logs a
  have JA := hide J1
  have JB := hide J2
  have J3 := log_yes 8 3 (by decide) (by decide) (by decide)
  have JC := hide J3
  clear J1 J2 J3
  generalize logF (8 * 2 ^ (30 - 3)) 15 = z at *
  go_enter Try.func7, Try.ntmps7
  go_wp2_with fail
  refine (JA.out _).mono ?_
  rintro e w1 ⟨rfl, rfl⟩
  go_wp2_with fail
  refine (JB.out _).mono ?_
  rintro e w2 ⟨rfl, h2⟩
  have G2 := hide (below_of_grown h2)
  clear h2 JA JB
  go_wp2_with fail
  refine (JC.out _).mono ?_
  rintro e w3 ⟨rfl, rfl⟩
  clear JC
  go_wp2_with fail
  go_ret
  exact ⟨rfl, G2.out⟩
end Go.Proofs.Ytfeoeonhfcjmgaa
