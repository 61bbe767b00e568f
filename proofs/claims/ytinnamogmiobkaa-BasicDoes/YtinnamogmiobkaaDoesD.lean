/- The statement's own does, case by case, and the walk of BasicDoes. -/
import Derived.Test.YtinnamogmiobkaaDoesC
namespace Go.Proofs.Ytinnamogmiobkaa
open Go.RowKit
set_option linter.unusedVariables false
set_option maxHeartbeats 2000000
set_option maxRecDepth 100000

theorem does_0 (a b c : Int) (w : World) :
    Calls Try.prog 13 #[.int .i64 0, .int .i64 a, .int .i64 b, .int .i64 c] w fun e w' => e = .returned (.tuple #[.int .i64 (c16 (c16 a + c16 b)), .bool (o16 (c16 a + c16 b))]) ∧ w' = w := by
  go_enter Try.func13, Try.ntmps13
  go_wp2_with fail
  refine (add_any a b _).mono ?_
  rintro e w1 ⟨rfl, rfl⟩
  go_wp2_with fail
  go_ret2
  exact ⟨rfl, rfl⟩
theorem does_1 (a b c : Int) (w : World) :
    Calls Try.prog 13 #[.int .i64 1, .int .i64 a, .int .i64 b, .int .i64 c] w fun e w' => e = .returned (.tuple #[.int .i64 (c16 (c16 a - c16 b)), .bool (o16 (c16 a - c16 b))]) ∧ w' = w := by
  go_enter Try.func13, Try.ntmps13
  go_wp2_with fail
  refine (sub_any a b _).mono ?_
  rintro e w1 ⟨rfl, rfl⟩
  go_wp2_with fail
  go_ret2
  exact ⟨rfl, rfl⟩
theorem does_2 (a b c : Int) (w : World) :
    Calls Try.prog 13 #[.int .i64 2, .int .i64 a, .int .i64 b, .int .i64 c] w fun e w' => e = .returned (.tuple #[.int .i64 (c32 (c32 a + c32 b)), .bool (o32 (c32 a + c32 b))]) ∧ w' = w := by
  go_enter Try.func13, Try.ntmps13
  go_wp2_with fail
  refine (ladd_any a b _).mono ?_
  rintro e w1 ⟨rfl, rfl⟩
  go_wp2_with fail
  go_ret2
  exact ⟨rfl, rfl⟩
theorem does_3 (a b c : Int) (w : World) :
    Calls Try.prog 13 #[.int .i64 3, .int .i64 a, .int .i64 b, .int .i64 c] w fun e w' => e = .returned (.tuple #[.int .i64 (c32 (c32 a - c32 b)), .bool (o32 (c32 a - c32 b))]) ∧ w' = w := by
  go_enter Try.func13, Try.ntmps13
  go_wp2_with fail
  refine (lsub_any a b _).mono ?_
  rintro e w1 ⟨rfl, rfl⟩
  go_wp2_with fail
  go_ret2
  exact ⟨rfl, rfl⟩
theorem does_4 (a b c : Int) (w : World) :
    Calls Try.prog 13 #[.int .i64 4, .int .i64 a, .int .i64 b, .int .i64 c] w fun e w' => e = .returned (.tuple #[.int .i64 (c16 (-c16 a)), .bool (o16 (-c16 a))]) ∧ w' = w := by
  go_enter Try.func13, Try.ntmps13
  go_wp2_with fail
  refine (neg_any a _).mono ?_
  rintro e w1 ⟨rfl, rfl⟩
  go_wp2_with fail
  go_ret2
  exact ⟨rfl, rfl⟩
theorem does_5 (a b c : Int) (w : World) :
    Calls Try.prog 13 #[.int .i64 5, .int .i64 a, .int .i64 b, .int .i64 c] w fun e w' => e = .returned (.tuple #[.int .i64 (c16 ((c16 a).natAbs : Int)), .bool (o16 ((c16 a).natAbs : Int))]) ∧ w' = w := by
  go_enter Try.func13, Try.ntmps13
  go_wp2_with fail
  refine (abs_any a _).mono ?_
  rintro e w1 ⟨rfl, rfl⟩
  go_wp2_with fail
  go_ret2
  exact ⟨rfl, rfl⟩
theorem does_6 (a b c : Int) (w : World) :
    Calls Try.prog 13 #[.int .i64 6, .int .i64 a, .int .i64 b, .int .i64 c] w fun e w' => e = .returned (.tuple #[.int .i64 (c16 (c16 a * c16 b / 32768)), .bool (o16 (c16 a * c16 b / 32768))]) ∧ w' = w := by
  go_enter Try.func13, Try.ntmps13
  go_wp2_with fail
  refine (mult_any a b _).mono ?_
  rintro e w1 ⟨rfl, rfl⟩
  go_wp2_with fail
  go_ret2
  exact ⟨rfl, rfl⟩
theorem does_7 (a b c : Int) (w : World) :
    Calls Try.prog 13 #[.int .i64 7, .int .i64 a, .int .i64 b, .int .i64 c] w fun e w' => e = .returned (.tuple #[.int .i64 (c32 (c16 a * c16 b * 2)), .bool (o32 (c16 a * c16 b * 2))]) ∧ w' = w := by
  go_enter Try.func13, Try.ntmps13
  go_wp2_with fail
  refine (lmult_any a b _).mono ?_
  rintro e w1 ⟨rfl, rfl⟩
  rw [show 2 * c16 a * c16 b = c16 a * c16 b * 2 by rw [Int.mul_assoc, Int.mul_comm 2]]
  go_wp2_with fail
  go_ret2
  exact ⟨rfl, rfl⟩
theorem does_8 (a b c : Int) (w : World) :
    Calls Try.prog 13 #[.int .i64 8, .int .i64 a, .int .i64 b, .int .i64 c] w fun e w' => e = .returned (.tuple #[.int .i64 (c32 (c32 a + c32 (c32 (c16 b * c16 c * 2)))), .bool (o32 (c16 b * c16 c * 2) || o32 (c32 a + c32 (c32 (c16 b * c16 c * 2))))]) ∧ w' = w := by
  go_enter Try.func13, Try.ntmps13
  go_wp2_with fail
  refine (lmac_any a b c _).mono ?_
  rintro e w1 ⟨rfl, rfl⟩
  rw [show 2 * c16 b * c16 c = c16 b * c16 c * 2 by rw [Int.mul_assoc, Int.mul_comm 2]]
  go_wp2_with fail
  go_ret2
  exact ⟨rfl, rfl⟩
theorem does_9 (a b c : Int) (w : World) :
    Calls Try.prog 13 #[.int .i64 9, .int .i64 a, .int .i64 b, .int .i64 c] w fun e w' => e = .returned (.tuple #[.int .i64 (c32 (c32 a - c32 (c32 (c16 b * c16 c * 2)))), .bool (o32 (c16 b * c16 c * 2) || o32 (c32 a - c32 (c32 (c16 b * c16 c * 2))))]) ∧ w' = w := by
  go_enter Try.func13, Try.ntmps13
  go_wp2_with fail
  refine (lmsu_any a b c _).mono ?_
  rintro e w1 ⟨rfl, rfl⟩
  rw [show 2 * c16 b * c16 c = c16 b * c16 c * 2 by rw [Int.mul_assoc, Int.mul_comm 2]]
  go_wp2_with fail
  go_ret2
  exact ⟨rfl, rfl⟩
theorem does_10 (a b c : Int) (w : World) :
    Calls Try.prog 13 #[.int .i64 10, .int .i64 a, .int .i64 b, .int .i64 c] w fun e w' => e = .returned (.tuple #[.int .i64 (c16 (movN (c16 a) b)), .bool (o16 (movN (c16 a) b))]) ∧ w' = w := by
  go_enter Try.func13, Try.ntmps13
  go_wp2_with fail
  refine (shl_any a b _).mono ?_
  rintro e w1 ⟨rfl, rfl⟩
  rw [(shift_moved16 a b).1, (shift_moved16 a b).2]
  go_wp2_with fail
  go_ret2
  exact ⟨rfl, rfl⟩
theorem does_11 (a b c : Int) (w : World) :
    Calls Try.prog 13 #[.int .i64 11, .int .i64 a, .int .i64 b, .int .i64 c] w fun e w' => e = .returned (.tuple #[.int .i64 (c16 (movN (c16 a) (-max b (-50)))), .bool (o16 (movN (c16 a) (-max b (-50))))]) ∧ w' = w := by
  go_enter Try.func13, Try.ntmps13
  go_wp2_with fail
  refine (shr_any a b _).mono ?_
  rintro e w1 ⟨rfl, rfl⟩
  rw [← near_neg, (shift_moved16 a _).1, (shift_moved16 a _).2]
  go_wp2_with fail
  go_ret2
  exact ⟨rfl, rfl⟩
theorem does_12 (a b c : Int) (w : World) :
    Calls Try.prog 13 #[.int .i64 12, .int .i64 a, .int .i64 b, .int .i64 c] w fun e w' => e = .returned (.tuple #[.int .i64 (c32 (movN (c32 a) b)), .bool (o32 (movN (c32 a) b))]) ∧ w' = w := by
  go_enter Try.func13, Try.ntmps13
  go_wp2_with fail
  refine (lshl_any a b _).mono ?_
  rintro e w1 ⟨rfl, rfl⟩
  rw [(shift_moved32 a b).1, (shift_moved32 a b).2]
  go_wp2_with fail
  go_ret2
  exact ⟨rfl, rfl⟩
theorem does_13 (a b c : Int) (w : World) :
    Calls Try.prog 13 #[.int .i64 13, .int .i64 a, .int .i64 b, .int .i64 c] w fun e w' => e = .returned (.tuple #[.int .i64 (c32 (movN (c32 a) (-max b (-50)))), .bool (o32 (movN (c32 a) (-max b (-50))))]) ∧ w' = w := by
  go_enter Try.func13, Try.ntmps13
  go_wp2_with fail
  refine (lshr_any a b _).mono ?_
  rintro e w1 ⟨rfl, rfl⟩
  rw [← near_neg, (shift_moved32 a _).1, (shift_moved32 a _).2]
  go_wp2_with fail
  go_ret2
  exact ⟨rfl, rfl⟩
theorem does_14 (a b c : Int) (w : World) :
    Calls Try.prog 13 #[.int .i64 14, .int .i64 a, .int .i64 b, .int .i64 c] w fun e w' => e = .returned (.tuple #[.int .i64 (c32 (c32 a + 32768) / 65536), .bool (o32 (c32 a + 32768))]) ∧ w' = w := by
  go_enter Try.func13, Try.ntmps13
  go_wp2_with fail
  refine (round_any a _).mono ?_
  rintro e w1 ⟨rfl, rfl⟩
  rw [show c32 32768 = 32768 from rfl]
  go_wp2_with fail
  go_ret2
  exact ⟨rfl, rfl⟩

theorem law_does_k (K k a b c : Int) (N : Int) (O : Bool) (hk : (k.tmod 15 + 15).tmod 15 = K) (w : World)
    (h1 : ∀ w, Calls Try.prog 13 #[.int .i64 K, .int .i64 a, .int .i64 b, .int .i64 c] w fun e w' => e = .returned (.tuple #[.int .i64 N, .bool O]) ∧ w' = w)
    (h2 : ∀ w, Calls Try.prog 14 #[.int .i64 K, .int .i64 a, .int .i64 b, .int .i64 c] w (Tells w (.tuple #[.int .i64 N, .bool O]))) :
    Calls Try.prog 4 #[.int .i64 k, .int .i64 a, .int .i64 b, .int .i64 c] w fun e w' => e = .returned (.bool true) ∧ Below w.heap.size w w' := by
  have f5 : c16 (c16 2 + c16 3) = 5 := by decide
  have hd0 : -15 < k.tmod 15 := by
    have := Int.tmod_lt_of_pos (-k) (b := 15) (by decide)
    rw [Int.neg_tmod] at this; omega
  have hd1 : k.tmod 15 < 15 := Int.tmod_lt_of_pos k (by decide)
  have hke : (k.tmod 15 + 15) % 15 = K := by rw [← hk]; exact (Int.tmod_eq_emod_of_nonneg (show 0 ≤ k.tmod 15 + 15 by omega)).symm
  have H1 := hide h1
  have H2 := hide h2
  clear h1 h2
  go_enter Try.func4, Try.ntmps4
  go_wp2_with fail
  refine (H1.out _).mono ?_
  rintro e w1 ⟨rfl, rfl⟩
  go_wp2_with fail
  refine (H2.out _).mono ?_
  rintro e w2 ⟨rfl, g2⟩
  have G2 := hide (below_of_grown g2)
  clear g2 H1 H2
  go_wp2_with fail
  refine (add_any 2 3 _).mono ?_
  rintro e w3 ⟨rfl, rfl⟩
  rw [f5]
  clear f5
  go_wp2_with fail
  go_ret
  exact ⟨rfl, G2.out⟩
theorem law_does (k a b c : Int) (wk : (Lit.int .i64 k).wf = true) (wa : (Lit.int .i64 a).wf = true) (wb : (Lit.int .i64 b).wf = true) (wc : (Lit.int .i64 c).wf = true) (w : World) :
    Calls Try.prog 4 #[.int .i64 k, .int .i64 a, .int .i64 b, .int .i64 c] w fun e w' => e = .returned (.bool true) ∧ Below w.heap.size w w' := by
  obtain ⟨a0, a1⟩ := bounds_i64 wa
  obtain ⟨b0, b1⟩ := bounds_i64 wb
  obtain ⟨c0, c1⟩ := bounds_i64 wc
  have hd0 : -15 < k.tmod 15 := by
    have := Int.tmod_lt_of_pos (-k) (b := 15) (by decide)
    rw [Int.neg_tmod] at this; omega
  have hd1 : k.tmod 15 < 15 := Int.tmod_lt_of_pos k (by decide)
  have hke : (k.tmod 15 + 15).tmod 15 = (k.tmod 15 + 15) % 15 := Int.tmod_eq_emod_of_nonneg (by omega)
  rcases (show (k.tmod 15 + 15).tmod 15 = 0 ∨ (k.tmod 15 + 15).tmod 15 = 1 ∨ (k.tmod 15 + 15).tmod 15 = 2 ∨ (k.tmod 15 + 15).tmod 15 = 3 ∨ (k.tmod 15 + 15).tmod 15 = 4 ∨ (k.tmod 15 + 15).tmod 15 = 5 ∨ (k.tmod 15 + 15).tmod 15 = 6 ∨ (k.tmod 15 + 15).tmod 15 = 7 ∨ (k.tmod 15 + 15).tmod 15 = 8 ∨ (k.tmod 15 + 15).tmod 15 = 9 ∨ (k.tmod 15 + 15).tmod 15 = 10 ∨ (k.tmod 15 + 15).tmod 15 = 11 ∨ (k.tmod 15 + 15).tmod 15 = 12 ∨ (k.tmod 15 + 15).tmod 15 = 13 ∨ (k.tmod 15 + 15).tmod 15 = 14 by omega) with h | h | h | h | h | h | h | h | h | h | h | h | h | h | h
  · exact law_does_k 0 k a b c _ _ h w (does_0 a b c) (refDoes_0 a b c a0 a1 b0 b1)
  · exact law_does_k 1 k a b c _ _ h w (does_1 a b c) (refDoes_1 a b c a0 a1 b0 b1)
  · exact law_does_k 2 k a b c _ _ h w (does_2 a b c) (refDoes_2 a b c a0 a1 b0 b1)
  · exact law_does_k 3 k a b c _ _ h w (does_3 a b c) (refDoes_3 a b c a0 a1 b0 b1)
  · exact law_does_k 4 k a b c _ _ h w (does_4 a b c) (refDoes_4 a b c a0 a1 b0 b1)
  · exact law_does_k 5 k a b c _ _ h w (does_5 a b c) (refDoes_5 a b c a0 a1 b0 b1)
  · exact law_does_k 6 k a b c _ _ h w (does_6 a b c) (refDoes_6 a b c a0 a1 b0 b1)
  · exact law_does_k 7 k a b c _ _ h w (does_7 a b c) (refDoes_7 a b c a0 a1 b0 b1)
  · exact law_does_k 8 k a b c _ _ h w (does_8 a b c) (refDoes_8 a b c a0 a1 b0 b1 c0 c1)
  · exact law_does_k 9 k a b c _ _ h w (does_9 a b c) (refDoes_9 a b c a0 a1 b0 b1 c0 c1)
  · exact law_does_k 10 k a b c _ _ h w (does_10 a b c) (refDoes_10 a b c a0 a1 b0 b1)
  · exact law_does_k 11 k a b c _ _ h w (does_11 a b c) (refDoes_11 a b c a0 a1 b0 b1)
  · exact law_does_k 12 k a b c _ _ h w (does_12 a b c) (refDoes_12 a b c a0 a1 b0 b1)
  · exact law_does_k 13 k a b c _ _ h w (does_13 a b c) (refDoes_13 a b c a0 a1 b0 b1)
  · exact law_does_k 14 k a b c _ _ h w (does_14 a b c) (refDoes_14 a b c a0 a1 b0 b1)
end Go.Proofs.Ytinnamogmiobkaa
