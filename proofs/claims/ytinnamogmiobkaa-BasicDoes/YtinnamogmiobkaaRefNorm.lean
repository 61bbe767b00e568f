/- The contract of the reference's Norm, and the walk of BasicNorms. -/
import Derived.Test.YtinnamogmiobkaaLSats
import Derived.Test.YtinnamogmiobkaaNormMath
namespace Go.Proofs.Ytinnamogmiobkaa
open Go.RowKit
set_option linter.unusedVariables false
set_option maxHeartbeats 1000000

theorem P_pow (q : Nat) : P q = 2 ^ (32 * q) := by
  unfold P
  rw [show (4294967296 : Int) = 2 ^ 32 from rfl, ← Int.pow_mul]
theorem lshN_any (bz bx : Nat) (x : Int) (m : Nat) (hm : m ≤ 255) (w : World) (hz : Struct w bz) (hx : IsI w bx x) (h1 : -P 8 < x * 2 ^ m) (h2 : x * 2 ^ m < P 8) :
    Calls Try.prog 54 #[.pointer (some ⟨bz, 0, none⟩), .pointer (some ⟨bx, 0, none⟩), .int .u64 m] w (Makes w bz (x * 2 ^ m)) := by
  have e : x * 2 ^ (m % 32) * P (m / 32) = x * 2 ^ m := by
    rw [P_pow, Int.mul_assoc, ← Int.pow_add, show m % 32 + 32 * (m / 32) = m by omega]
  have := bigLsh_any bz bx x (m / 32) (m % 32) (by omega) (by omega) w hz hx (by rw [e]; exact h1) (by rw [e]; exact h2)
  rw [e, show (32 * ((m / 32 : Nat) : Int) + ((m % 32 : Nat) : Int)) = m by omega] at this
  exact this
theorem pow_le_pow (j n : Nat) (h : j ≤ n) : (2 : Int) ^ j ≤ 2 ^ n := by
  have h1 : (2 : Nat) ^ j ≤ 2 ^ n := Nat.pow_le_pow_right (by omega) h
  rw [← pow_int, ← pow_int]; omega
theorem fits_below (X : Int) (j n : Nat) (h : j ≤ n) (h1 : -2147483648 ≤ X * 2 ^ n) (h2 : X * 2 ^ n ≤ 2147483647) : -2147483648 ≤ X * 2 ^ j ∧ X * 2 ^ j ≤ 2147483647 := by
  have hp := pow_le_pow j n h
  have hj : (0 : Int) < 2 ^ j := Int.pow_pos (by decide)
  by_cases hX : 0 ≤ X
  · have e1 : 0 ≤ X * 2 ^ j := Int.mul_nonneg hX (by omega)
    have e2 : X * 2 ^ j ≤ X * 2 ^ n := Int.mul_le_mul_of_nonneg_left hp hX
    omega
  · have e1 : 0 ≤ (-X) * 2 ^ j := Int.mul_nonneg (by omega) (by omega)
    have e2 : (-X) * 2 ^ j ≤ (-X) * 2 ^ n := Int.mul_le_mul_of_nonneg_left hp (by omega)
    rw [Int.neg_mul] at e1 e2
    rw [Int.neg_mul] at e2
    omega
/-- What one round of the reference's Norm asks: does the number moved by k + 1 stop? -/
theorem norm_rounds (X : Int) (h1 : -2147483648 ≤ X) (h2 : X ≤ 2147483647) (h0 : X ≠ 0) : ∃ n : Nat, n ≤ 31 ∧ normN X = n ∧ (∀ k, k < n → o32 (X * 2 ^ (k + 1)) = false) ∧ o32 (X * 2 ^ (n + 1)) = true ∧ ∀ k, k ≤ n → -8589934592 ≤ X * 2 ^ (k + 1) ∧ X * 2 ^ (k + 1) ≤ 8589934592 := by
  obtain ⟨n, n1, n2, n3, n4, n5⟩ := normal_math X h1 h2 h0
  refine ⟨n, n1, n2, fun k hk => ?_, ?_, fun k hk => ?_⟩
  · obtain ⟨a, b⟩ := fits_below X (k + 1) n (by omega) n3 n4
    unfold o32; rw [c32_id _ a b]; simp
  · unfold o32 c32
    rw [Int.pow_succ, ← Int.mul_assoc]
    generalize X * 2 ^ n = z at *
    simp only [bne_iff_ne, ne_eq]
    split <;> (try split) <;> omega
  · obtain ⟨a, b⟩ := fits_below X k n hk n3 n4
    rw [Int.pow_succ, ← Int.mul_assoc]
    omega
theorem normN_c32 (a : Int) : normN (c32 a) = normN a := by
  unfold normN
  rw [c32_c32]
  by_cases h : a = 0
  · subst h; rfl
  · have h' : c32 a ≠ 0 := by unfold c32; split <;> (try split) <;> omega
    rw [if_neg h, if_neg h']

theorem refNorm_any (a : Int) (w : World) (h0 : -9223372036854775808 ≤ a) (h1 : a ≤ 9223372036854775807) :
    Calls Try.prog 17 #[.int .i64 a] w (Tells w (.int .i64 (normN a))) := by
  rw [← normN_c32]
  obtain ⟨b1, b2⟩ := c32_bd a
  go_enter Try.func17, Try.ntmps17
  go_wp2_with fail
  refine (refL_any a w h0 h1).mono ?_
  rintro e w1 ⟨rfl, g1⟩
  have G1 := hide g1
  clear g1
  generalize c32 a = X at *
  go_wp2_with fail
  refine (whole_any X w1 (by omega) (by omega)).mono ?_
  rintro e w2 ⟨bx, rfl, hbx, i2, g2⟩
  have G2 := hide (grown_none G1.out g2)
  have SG := hide (sign_any bx X w2 i2)
  clear g2 G1
  go_wp2_with fail
  refine SG.out.mono ?_
  rintro e w3 ⟨rfl, rfl⟩
  by_cases hX : X = 0
  · rw [if_pos hX]
    have F := hide (show Tells w (.int .i64 (normN X)) (.returned (.int .i64 0)) w3 from ⟨by subst hX; rfl, G2.out⟩)
    generalize Tells w (.int .i64 (normN X)) = T at *
    clear SG hX i2 G2
    go_wp2_with fail
    exact F.out
  · rw [if_neg hX]
    obtain ⟨n, n1, n2, n3, n4, n5⟩ := norm_rounds X b1 b2 hX
    obtain ⟨z, hz⟩ : ∃ z : Int, Hid (z = if X < 0 then -1 else 1) := ⟨_, rfl⟩
    have hz0 : (z == 0) = false := by rw [hz.out]; split <;> rfl
    rw [← hz.out]
    have N3 := hide n3
    have N4 := hide n4
    have N5 := hide n5
    have FIN := hide (show ∀ w4, w.grownBy w4 none → Tells w (.int .i64 (normN X)) (.returned (.int .i64 n)) w4 from fun w4 h => ⟨by rw [n2], h⟩)
    have H8 := hide P8_big
    clear SG hX hz n2 n3 n4 n5 b1 b2
    go_wp2_with fail
    go_loopw [4] (fun i wr => ∃ k : Nat, i = .int .i64 k ∧ k ≤ n ∧ Hid (IsI wr bx X ∧ w.grownBy wr none)) (fun i _ => 32 - (intOf i).toNat)
    case atStart => exact ⟨0, rfl, Nat.zero_le _, i2, G2.out⟩
    case round =>
      obtain ⟨k, rfl, hk, hI⟩ := hrel
      have LSt := (lshN_any wr.heap.size bx X (k + 1) (by omega) (wr.alloc int0) (struct_new wr) (IsI_new hI.out.1 (grown_alloc wr int0 none)) (by have := N5.out k hk; have := H8.out; omega) (by have := N5.out k hk; have := H8.out; omega))
      rw [show (((k + 1 : Nat)) : Int) = (k : Int) + 1 by omega] at LSt
      have LS := hide LSt
      have hbw := IsI_lt hI.out.1
      clear i2 LSt
      go_wp2_with fail
      refine LS.out.mono ?_
      rintro e w4 ⟨rfl, i4, g4⟩
      have xi4 := IsI_other (IsI_new hI.out.1 (grown_alloc wr int0 none)) g4 (struct_new wr) (by omega)
      have G4 := hide (grown_own (grown_none hI.out.2 (grown_alloc wr int0 none)) g4 (by have := hI.out.2.size; omega))
      have C := hide (clip32_any wr.heap.size (X * 2 ^ (k + 1)) w4 i4)
      clear LS i4 g4 hI
      by_cases hkn : k < n
      · have ho := N3.out k hkn
        rw [ho] at C
        clear ho
        go_wp2_with fail
        refine C.out.mono ?_
        rintro e w5 ⟨rfl, g5⟩
        have HI := hide (show IsI w5 bx X ∧ w.grownBy w5 none from ⟨IsI_new xi4 g5, grown_none G4.out g5⟩)
        clear C g5 G4 xi4
        go_wp2_with fail
        go_roundw
        case rel => exact ⟨k + 1, by go_num, by omega, HI.out⟩
        case measure => simp [intOf]; omega
      · have hkk : k = n := by omega
        subst hkk
        rw [N4.out] at C
        go_wp2_with fail
        refine C.out.mono ?_
        rintro e w5 ⟨rfl, g5⟩
        have F := hide (FIN.out w5 (grown_none G4.out g5))
        clear C g5 G4 xi4 FIN
        go_wp2_with fail
        go_ret
        exact F.out

theorem norm1 : normN 1 = 30 := by decide +kernel
theorem law_norms (x : Int) (w0 : (Lit.int .i64 x).wf = true) (w : World) :
    Calls Try.prog 5 #[.int .i64 x] w fun e w' => e = .returned (.bool true) ∧ Below w.heap.size w w' := by
  obtain ⟨h0, h1⟩ := bounds_i64 w0
  go_enter Try.func5, Try.ntmps5
  go_wp2_with fail
  refine (norm_any x _).mono ?_
  rintro e w1 ⟨rfl, rfl⟩
  go_wp2_with fail
  refine (refNorm_any x _ h0 h1).mono ?_
  rintro e w2 ⟨rfl, g2⟩
  have G2 := hide (below_of_grown g2)
  clear g2
  go_wp2_with fail
  refine (norm_any 1 _).mono ?_
  rintro e w3 ⟨rfl, rfl⟩
  rw [norm1]
  go_wp2_with fail
  go_ret
  exact ⟨rfl, G2.out⟩
end Go.Proofs.Ytinnamogmiobkaa
