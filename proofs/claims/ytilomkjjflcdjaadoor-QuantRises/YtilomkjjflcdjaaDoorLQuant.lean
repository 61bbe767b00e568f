/- The walks of QuantBack, QuantRises and QuantNear out of the contracts. -/
import Derived.Test.YtilomkjjflcdjaaDoorBaseB
import Derived.Test.YtilomkjjflcdjaaDoorQuantB
namespace Go.Proofs.YtilomkjjflcdjaaDoor
open Go.RowKit
set_option linter.unusedVariables false
set_option maxHeartbeats 1000000

theorem levels_any (w : World) (hW : Wide w) :
    Calls Tryd.prog 20 #[] w fun e w' => e = .returned (.bool true) ∧ w' = w := by
  have A : Calls Tryd.prog 11 #[.int .i64 7] w fun e w' => e = .returned (.int .i64 3) ∧ w' = w := width_yes 7 (by omega) w hW
  have H := hide A
  clear A hW
  go_enter Tryd.func20, Tryd.ntmps20
  go_wp2_with fail
  refine H.out.mono ?_
  rintro e w1 ⟨rfl, rfl⟩
  go_wp2_with fail
  refine (width_no 8 (by omega) _).mono ?_
  rintro e w2 ⟨rfl, rfl⟩
  go_wp2_with fail
  go_ret
  exact ⟨rfl, rfl⟩
theorem many_pow (b : Nat) : (2 : Int) ^ b = (many b : Int) := by unfold many; simp
theorem okB_bd (b : Nat) (h : okB b) : 3 ≤ b ∧ b ≤ 6 := by rcases h with e | e | e | e <;> omega
theorem law_rises5 (i n : Int) (w : World) (hW : Wide w) :
    Calls Tryd.prog 7 #[.int .i64 i, .int .i64 n] w fun e w' => e = .returned (.bool true) ∧ w' = w := by
  have i1 : 0 ≤ spotN i 8 := by unfold spotN; omega
  have i2 : spotN i 8 < 8 := by unfold spotN; omega
  obtain ⟨I, hI⟩ : ∃ I : Nat, spotN i 8 = (I : Int) := ⟨(spotN i 8).toNat, by omega⟩
  have hI8 : I < 8 := by omega
  obtain ⟨b1, b2⟩ := okB_bd _ (okW I)
  obtain ⟨m1, m2⟩ := many_bd _ (okW I)
  have n1 : 0 ≤ spotN n ((many (wid I) : Int) - 1) := Int.emod_nonneg _ (by omega)
  have n2 : spotN n ((many (wid I) : Int) - 1) < (many (wid I) : Int) - 1 := Int.emod_lt_of_pos _ (by omega)
  obtain ⟨K, hK⟩ : ∃ K : Nat, spotN n ((many (wid I) : Int) - 1) = (K : Int) := ⟨(spotN n ((many (wid I) : Int) - 1)).toNat, by omega⟩
  rw [hK] at n1 n2
  have WI := hide (width_yes I hI8 w hW)
  have S := hide (spot_any n ((many (wid I) : Int) - 1) (by omega) (by omega) w)
  rw [hK] at S
  have L1 := hide (Level_yes I hI8 K (by omega) (by omega) w hW)
  have L2 := hide (Level_yes I hI8 ((K : Int) + 1) (by omega) (by omega) w hW)
  have L3 := hide (Level_yes I hI8 ((many (wid I) : Int) - 1 - K) (by omega) (by omega) w hW)
  have LS := hide (levels_any w hW)
  rw [lvl_even (wid I) K (okW I)] at L3
  have hr := lvl_step (wid I) K (okW I) (by omega)
  obtain ⟨v1, v2⟩ := lvl_bd (wid I) K (okW I) (by omega) (by omega)
  have hp := many_pow (wid I)
  clear hW i1 i2
  go_enter Tryd.func7, Tryd.ntmps7
  go_wp2_with fail
  refine (spot_any _ _ (by omega) (by omega) _).mono ?_
  rintro e w1 ⟨rfl, rfl⟩
  rw [hI]
  generalize lvl (wid I) K = X at *
  generalize lvl (wid I) ((K : Int) + 1) = Y at *
  generalize many (wid I) = M at *
  generalize wid I = b at *
  clear hK hI
  go_wp2_with fail
  refine WI.out.mono ?_
  rintro e w2 ⟨rfl, rfl⟩
  go_wp2_with fail
  refine S.out.mono ?_
  rintro e w2 ⟨rfl, rfl⟩
  clear S
  go_wp2_with fail
  refine L1.out.mono ?_
  rintro e w2 ⟨rfl, rfl⟩
  go_wp2_with fail
  refine L2.out.mono ?_
  rintro e w2 ⟨rfl, rfl⟩
  go_wp2_with fail
  refine L3.out.mono ?_
  rintro e w2 ⟨rfl, rfl⟩
  go_wp2_with fail
  refine LS.out.mono ?_
  rintro e w2 ⟨rfl, rfl⟩
  go_wp2_with fail
  go_ret
  exact ⟨rfl, rfl⟩
theorem law_back5 (i n : Int) (w : World) (hW : Wide w) :
    Calls Tryd.prog 6 #[.int .i64 i, .int .i64 n] w fun e w' => e = .returned (.bool true) ∧ w' = w := by
  have i1 : 0 ≤ spotN i 8 := by unfold spotN; omega
  have i2 : spotN i 8 < 8 := by unfold spotN; omega
  obtain ⟨I, hI⟩ : ∃ I : Nat, spotN i 8 = (I : Int) := ⟨(spotN i 8).toNat, by omega⟩
  have hI8 : I < 8 := by omega
  obtain ⟨b1, b2⟩ := okB_bd _ (okW I)
  obtain ⟨m1, m2⟩ := many_bd _ (okW I)
  have n1 : 0 ≤ spotN n (many (wid I) : Int) := Int.emod_nonneg _ (by omega)
  have n2 : spotN n (many (wid I) : Int) < (many (wid I) : Int) := Int.emod_lt_of_pos _ (by omega)
  obtain ⟨K, hK⟩ : ∃ K : Nat, spotN n (many (wid I) : Int) = (K : Int) := ⟨(spotN n (many (wid I) : Int)).toNat, by omega⟩
  rw [hK] at n1 n2
  have WI := hide (width_yes I hI8 w hW)
  have S := hide (spot_any n (many (wid I) : Int) (by omega) (by omega) w)
  rw [hK] at S
  obtain ⟨v1, v2⟩ := lvl_bd (wid I) K (okW I) (by omega) (by omega)
  have L1 := hide (Level_yes I hI8 K (by omega) (by omega) w hW)
  have O1 := hide (One_yes I hI8 (lvl (wid I) K) (by omega) (by omega) w hW)
  have LS := hide (levels_any w hW)
  rw [one_back (wid I) K (okW I) (by omega)] at O1
  have hp := many_pow (wid I)
  clear hW i1 i2
  go_enter Tryd.func6, Tryd.ntmps6
  go_wp2_with fail
  refine (spot_any _ _ (by omega) (by omega) _).mono ?_
  rintro e w1 ⟨rfl, rfl⟩
  rw [hI]
  generalize lvl (wid I) K = X at *
  generalize many (wid I) = M at *
  generalize wid I = b at *
  clear hK hI
  go_wp2_with fail
  refine WI.out.mono ?_
  rintro e w2 ⟨rfl, rfl⟩
  go_wp2_with fail
  refine S.out.mono ?_
  rintro e w2 ⟨rfl, rfl⟩
  clear S
  go_wp2_with fail
  refine L1.out.mono ?_
  rintro e w2 ⟨rfl, rfl⟩
  go_wp2_with fail
  refine O1.out.mono ?_
  rintro e w2 ⟨rfl, rfl⟩
  go_wp2_with fail
  refine LS.out.mono ?_
  rintro e w2 ⟨rfl, rfl⟩
  go_wp2_with fail
  go_ret
  exact ⟨rfl, rfl⟩
theorem sq_in (x : Int) (h1 : -63768 ≤ x) (h2 : x ≤ 63768) : 0 ≤ x * x ∧ x * x ≤ 4066357824 := by
  have e1 : 0 ≤ (63768 - x) * (63768 + x) := Int.mul_nonneg (by omega) (by omega)
  have e2 : 0 ≤ x * x := by
    rcases Int.le_total 0 x with h | h
    · exact Int.mul_nonneg h h
    · exact Int.mul_nonneg_of_nonpos_of_nonpos h h
  simp only [Int.sub_mul, Int.mul_add] at e1
  omega
theorem law_near5 (i k n : Int) (w : World) (hW : Wide w) :
    Calls Tryd.prog 8 #[.int .i64 i, .int .i64 k, .int .i64 n] w fun e w' => e = .returned (.bool true) ∧ w' = w := by
  have i1 : 0 ≤ spotN i 8 := by unfold spotN; omega
  have i2 : spotN i 8 < 8 := by unfold spotN; omega
  have k1 : 0 ≤ spotN k 65537 := by unfold spotN; omega
  have k2 : spotN k 65537 < 65537 := by unfold spotN; omega
  obtain ⟨I, hI⟩ : ∃ I : Nat, spotN i 8 = (I : Int) := ⟨(spotN i 8).toNat, by omega⟩
  have hI8 : I < 8 := by omega
  obtain ⟨b1, b2⟩ := okB_bd _ (okW I)
  obtain ⟨m1, m2⟩ := many_bd _ (okW I)
  have n1 : 0 ≤ spotN n (many (wid I) : Int) := Int.emod_nonneg _ (by omega)
  have n2 : spotN n (many (wid I) : Int) < (many (wid I) : Int) := Int.emod_lt_of_pos _ (by omega)
  obtain ⟨N, hN⟩ : ∃ N : Nat, spotN n (many (wid I) : Int) = (N : Int) := ⟨(spotN n (many (wid I) : Int)).toNat, by omega⟩
  rw [hN] at n1 n2
  have WI := hide (width_yes I hI8 w hW)
  have S := hide (spot_any n (many (wid I) : Int) (by omega) (by omega) w)
  rw [hN] at S
  have SK := hide (spot_any k 65537 (by omega) (by omega) w)
  generalize spotN k 65537 = K at *
  have ol := one_lt (wid I) (K - 32768) (okW I)
  have O1 := hide (One_yes I hI8 (K - 32768) (by omega) (by omega) w hW)
  have L1 := hide (Level_yes I hI8 (one (wid I) (K - 32768)) (by omega) (by omega) w hW)
  have L2 := hide (Level_yes I hI8 N (by omega) (by omega) w hW)
  obtain ⟨v1, v2⟩ := lvl_bd (wid I) (one (wid I) (K - 32768)) (okW I) (by omega) (by omega)
  obtain ⟨u1, u2⟩ := lvl_bd (wid I) N (okW I) (by omega) (by omega)
  have hn := one_near (wid I) N (K - 32768) (by omega)
  have LS := hide (levels_any w hW)
  have hp := many_pow (wid I)
  clear hW i1 i2
  go_enter Tryd.func8, Tryd.ntmps8
  go_wp2_with fail
  refine (spot_any _ _ (by omega) (by omega) _).mono ?_
  rintro e w1 ⟨rfl, rfl⟩
  rw [hI]
  generalize one (wid I) (K - 32768) = R at *
  generalize lvl (wid I) R = X at *
  generalize lvl (wid I) N = Y at *
  generalize many (wid I) = M at *
  generalize wid I = b at *
  clear hN hI
  have sx := sq_in (X - (K - 32768)) (by omega) (by omega)
  have sy := sq_in (Y - (K - 32768)) (by omega) (by omega)
  go_wp2_with fail
  refine SK.out.mono ?_
  rintro e w2 ⟨rfl, rfl⟩
  clear SK
  go_wp2_with fail
  have z1 : -32768 ≤ K - 32768 := by omega
  have z2 : K - 32768 ≤ 32768 := by omega
  generalize K - 32768 = Z at *
  refine O1.out.mono ?_
  rintro e w3 ⟨rfl, rfl⟩
  go_wp2_with fail
  refine L1.out.mono ?_
  rintro e w3 ⟨rfl, rfl⟩
  go_wp2_with fail
  refine WI.out.mono ?_
  rintro e w3 ⟨rfl, rfl⟩
  go_wp2_with fail
  refine S.out.mono ?_
  rintro e w3 ⟨rfl, rfl⟩
  go_wp2_with fail
  refine L2.out.mono ?_
  rintro e w3 ⟨rfl, rfl⟩
  go_wp2_with fail
  refine LS.out.mono ?_
  rintro e w3 ⟨rfl, rfl⟩
  go_wp2_with fail
  go_ret
  exact ⟨rfl, rfl⟩
theorem own_rises5 (w : World) (hV : TabA w 0 wids 8) (i : Int) (_ : (Lit.int IntKind.i64 i).wf = true) (n : Int) (_ : (Lit.int IntKind.i64 n).wf = true) :
    Calls Tryd.prog 7 #[.int .i64 i, .int .i64 n] w fun e w' => e = .returned (.bool true) ∧ Below w.heap.size w w' :=
  (law_rises5 i n w (Wide_tab hV)).mono fun e w' ⟨h1, h2⟩ => ⟨h1, by subst h2; exact below_of_grown (grown_refl _ _)⟩
theorem own_back5 (w : World) (hV : TabA w 0 wids 8) (i : Int) (_ : (Lit.int IntKind.i64 i).wf = true) (n : Int) (_ : (Lit.int IntKind.i64 n).wf = true) :
    Calls Tryd.prog 6 #[.int .i64 i, .int .i64 n] w fun e w' => e = .returned (.bool true) ∧ Below w.heap.size w w' :=
  (law_back5 i n w (Wide_tab hV)).mono fun e w' ⟨h1, h2⟩ => ⟨h1, by subst h2; exact below_of_grown (grown_refl _ _)⟩
theorem own_near5 (w : World) (hV : TabA w 0 wids 8) (i : Int) (_ : (Lit.int IntKind.i64 i).wf = true) (k : Int) (_ : (Lit.int IntKind.i64 k).wf = true) (n : Int) (_ : (Lit.int IntKind.i64 n).wf = true) :
    Calls Tryd.prog 8 #[.int .i64 i, .int .i64 k, .int .i64 n] w fun e w' => e = .returned (.bool true) ∧ Below w.heap.size w w' :=
  (law_near5 i k n w (Wide_tab hV)).mono fun e w' ⟨h1, h2⟩ => ⟨h1, by subst h2; exact below_of_grown (grown_refl _ _)⟩
end Go.Proofs.YtilomkjjflcdjaaDoor
