/- How many bits a number has (length, BitLen). -/
import Derived.Test.YtjgdkinnpgiabaaDoorBigE
import Derived.Test.YtjgdkinnpgiabaaDoorLshN
import Derived.Laws.CopyOwn
namespace Go.Proofs.YtjgdkinnpgiabaaDoor
open Go.RowKit
set_option linter.unusedVariables false
set_option linter.unusedSimpArgs false
set_option maxHeartbeats 1000000

theorem pow_pos' (n : Nat) : (0 : Int) < 2 ^ n := Int.pow_pos (by decide)
theorem half_pow (u : Int) (j : Nat) : u / 2 ^ j / 2 = u / 2 ^ (j + 1) := by rw [Int.pow_succ, Int.ediv_ediv_of_nonneg (Int.le_of_lt (pow_pos' j))]
/-- The top word has j bits. -/
theorem bits_top (l : List Int) (hw : WF l) (m : Nat) (hm : l.length = m + 1) (j : Nat) (h1 : nth l m < 2 ^ j) (h3 : 1 ≤ j) (h4 : 2 ^ (j - 1) ≤ nth l m) : Bits (val l) (m * 32 + j) := by
  have hv : val l = valTo l m + nth l m * P m := by unfold val; rw [hm]; rfl
  obtain ⟨b1, b2⟩ := valTo_bd l hw m
  have hp := P_pos m
  have hq := pow_pos' (j - 1)
  have e : P m = 2 ^ (m * 32) := by rw [P_pow, Nat.mul_comm]
  have e1 : 0 ≤ (2 ^ j - 1 - nth l m) * P m := Int.mul_nonneg (by omega) (by omega)
  have e2 : 0 ≤ (nth l m - 2 ^ (j - 1)) * P m := Int.mul_nonneg (by omega) (by omega)
  have e3 : (2 : Int) ^ (m * 32 + j) = 2 ^ j * P m := by rw [Int.pow_add, e, Int.mul_comm]
  have e4 : (2 : Int) ^ (m * 32 + j - 1) = 2 ^ (j - 1) * P m := by rw [show m * 32 + j - 1 = m * 32 + (j - 1) by omega, Int.pow_add, e, Int.mul_comm]
  have e5 : 0 < nth l m * P m := Int.mul_pos (by omega) hp
  simp only [Int.sub_mul, Int.one_mul] at e1 e2
  refine ⟨by omega, fun h => by omega, fun _ => ⟨by omega, by omega⟩⟩
theorem shr_steps (u : Int) (j : Nat) (u0 : 0 ≤ u) : (u / 2 ^ j = 0 → u < 2 ^ j) ∧ (u / 2 ^ j ≠ 0 → 2 ^ j ≤ u) ∧ 0 ≤ u / 2 ^ j ∧ u / 2 ^ j ≤ u := by
  have hp := pow_pos' j
  refine ⟨fun h => ?_, fun h => ?_, Int.ediv_nonneg u0 (by omega), Int.ediv_le_self _ u0⟩
  · rcases Int.lt_or_le u (2 ^ j) with g | g
    · exact g
    · have := (Int.le_ediv_iff_mul_le (a := 1) (b := u) hp).2 (by omega); omega
  · rcases Int.lt_or_le u (2 ^ j) with g | g
    · exact absurd (Int.ediv_eq_zero_of_lt u0 g) h
    · exact g
theorem pow_lt32 (j : Nat) (u : Int) (h : 2 ^ j ≤ u) (u1 : u < 4294967296) : j < 32 := by
  rcases Nat.lt_or_ge j 32 with g | g
  · exact g
  · have h1 : (2 : Nat) ^ 32 ≤ 2 ^ j := Nat.pow_le_pow_right (by omega) g
    have e : ((2 ^ j : Nat) : Int) = (2 : Int) ^ j := by simp
    omega
theorem length_any (v : Value) (l : List Int) (w : World) (hsl : Sl w v l) (hw : WF l) (ht : Top l) (hl : l.length ≤ 40) :
    Calls Tryd.prog 58 #[v] w fun e w' => ∃ n : Nat, n ≤ 1280 ∧ Bits (val l) n ∧ e = .returned (.int .i64 n) ∧ w' = w := by
  obtain ⟨ad, c, rfl, hv⟩ := Sl_view hsl
  by_cases h0 : l.length = 0
  · have hb0 : ((l.length : Int) == 0) = true := by simp [h0]
    have F := hide (show Bits (val l) 0 from by rw [List.length_eq_zero_iff.1 h0, val_nil]; exact ⟨by decide, fun _ => rfl, fun h => by omega⟩)
    clear hv hsl ht
    go_enter Tryd.func58, Tryd.ntmps58
    go_wp2_with fail
    go_ret
    exact ⟨0, by omega, F.out, rfl, rfl⟩
  · obtain ⟨b, rfl, hb, hcell⟩ := hv (by omega)
    have hb0 : ((l.length : Int) == 0) = false := beq_eq_false_iff_ne.2 (by omega)
    have hc := hcell (l.length - 1) (by omega)
    obtain ⟨u0, u1⟩ := hw (l.length - 1)
    have hu : nth l (l.length - 1) ≠ 0 := by rcases ht with rfl | h; simp at h0; exact h
    have FIN := hide (bits_top l hw (l.length - 1) (by omega))
    generalize nth l (l.length - 1) = u at *
    clear hcell hv hsl ht hw
    go_enter Tryd.func58, Tryd.ntmps58
    go_wp2_with fail
    go_loop [3, 4] (fun n t => ∃ j : Nat, n = .int .i64 j ∧ t = .int .u32 (u / 2 ^ j) ∧ j ≤ 32 ∧ Hid (j = 0 ∨ 2 ^ (j - 1) ≤ u)) (fun n _ => 33 - (intOf n).toNat)
    case atStart => exact ⟨0, rfl, by simp, by omega, .inl rfl⟩
    case round =>
      obtain ⟨j, rfl, rfl, hj, hJ⟩ := hrel
      obtain ⟨s1, s2, s3, s4⟩ := shr_steps u j u0
      have S1 := hide s1
      have S2 := hide s2
      have HH := hide (half_pow u j)
      clear s1 s2
      generalize hT : u / 2 ^ j = t at *
      have HT := hide hT
      clear hT
      by_cases ht : t = 0
      · have lt := S1.out ht
        have hj1 : 1 ≤ j := by
          rcases Nat.eq_zero_or_pos j with rfl | h
          · simp at lt; omega
          · exact h
        have F := hide (FIN.out j lt hj1 (by rcases hJ.out with h | h; omega; exact h))
        subst ht
        clear S1 S2 HH HT lt FIN hJ
        go_wp2_with fail
        go_ret
        exact ⟨(l.length - 1) * 32 + j, by omega, F.out, by first | rfl | (simp; omega), rfl⟩
      · have le := hide (S2.out ht)
        have hb1 : (t == 0) = false := beq_eq_false_iff_ne.2 ht
        have lt := pow_lt32 j u le.out u1
        clear S1 S2 FIN hJ
        go_wp2_with fail
        go_round
        case rel => exact ⟨j + 1, by go_num, by rw [← HH.out], by omega, .inr (by simpa using le.out)⟩
        case measure => simp [intOf]; omega
end Go.Proofs.YtjgdkinnpgiabaaDoor
