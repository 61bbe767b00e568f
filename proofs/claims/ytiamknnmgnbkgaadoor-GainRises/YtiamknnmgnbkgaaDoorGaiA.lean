/- Contracts of package gain: Level, One, where the list of dual's growths reads as the program's text lays it. -/
import Derived.Test.YtiamknnmgnbkgaaDoorGainMath
import Derived.Test.YtiamknnmgnbkgaaDoorGrow
import Derived.Test.YtiamknnmgnbkgaaDoorPow
import Derived.WalkKit
import Derived.WalkSpells
import Derived.WalkLawsBesides
namespace Go.Proofs.YtiamknnmgnbkgaaDoor
open Go.RowKit
set_option linter.unusedVariables false
set_option linter.unusedSimpArgs false
set_option maxHeartbeats 1000000

theorem gaiLevel_any (n : Int) (w : World) (hG : Grows w) : Calls Tryd.prog 7 #[.int .i64 n] w fun e w' => e = .returned (.tuple #[.int .i64 (glV n), .int .i64 (glE n)]) ∧ w' = w := by
  by_cases h : 0 ≤ n ∧ n ≤ 31
  · obtain ⟨k, rfl⟩ : ∃ k : Nat, n = (k : Int) := ⟨n.toNat, by omega⟩
    have hk : k ≤ 31 := by omega
    rw [(glV_nat k hk).1, (glV_nat k hk).2]
    have P := hide (pow_yes (3 + 3 * k / 8) ((3 * k % 8 * 4096 : Nat) : Int) (by omega) (by omega) (by omega) w hG)
    rw [gsz_pow k (by omega)] at P
    have e1 : (3 * (k : Int)).tdiv 8 = ((3 * k / 8 : Nat) : Int) := by rw [Int.tdiv_eq_ediv_of_nonneg (by omega)]; omega
    have e2 : (3 * (k : Int)) / 8 = ((3 * k / 8 : Nat) : Int) := by omega
    have e3 : (3 * (k : Int)).tmod 8 = ((3 * k % 8 : Nat) : Int) := by rw [Int.tmod_eq_emod_of_nonneg (by omega)]; omega
    have e4 : (3 * (k : Int)) % 8 = ((3 * k % 8 : Nat) : Int) := by omega
    rw [show ((3 + 3 * k / 8 : Nat) : Int) = 3 + ((3 * k / 8 : Nat) : Int) by omega, show ((3 * k % 8 * 4096 : Nat) : Int) = ((3 * k % 8 : Nat) : Int) * 4096 by omega] at P
    have b1 : 3 * k / 8 ≤ 11 := by omega
    have b2 : 3 * k % 8 ≤ 7 := by omega
    generalize 3 * k / 8 = q at *
    generalize 3 * k % 8 = r at *
    generalize gszN k = z at *
    have c1 : (q : Int) ≤ 11 := by omega
    have c2 : (r : Int) ≤ 7 := by omega
    have c3 : (k : Int) ≤ 31 := by omega
    clear hG h b1 b2
    go_enter Tryd.func7, Tryd.ntmps7
    go_wp2_with fail
    refine P.out.mono ?_
    rintro e w1 ⟨rfl, rfl⟩
    clear P
    go_wp2_with fail
    go_ret2
    exact ⟨rfl, rfl⟩
  · rw [show glV n = 0 from if_neg h, show glE n = 2 from if_neg h]
    clear hG
    by_cases h1 : n < 0
    · clear h
      go_enter Tryd.func7, Tryd.ntmps7
      go_wp2_with fail
      go_ret2
      exact ⟨rfl, rfl⟩
    · have h2 : 32 ≤ n := by omega
      clear h
      go_enter Tryd.func7, Tryd.ntmps7
      go_wp2_with fail
      go_ret2
      exact ⟨rfl, rfl⟩
theorem gaiOne_yes (c e : Int) (w : World) (hG : Grows w) (c0 : 0 < c) (c9 : c ≤ 9223372036854775807) (e0 : 0 < e) (e9 : e ≤ 9223372036854775807) :
    Calls Tryd.prog 9 #[.int .i64 c, .int .i64 e] w fun x w' => x = .returned (.int .i64 (goN (capC c) (capE e) 31 : Int)) ∧ w' = w := by
  have L := hide (fun n => gaiLevel_any n w hG)
  have e1 : min c 1152921504606846976 = capC c := by unfold capC; split <;> omega
  have e2 : min e 17592186044416 = capE e := by unfold capE; split <;> omega
  have e3 : (if 1152921504606846976 < c then 1152921504606846976 else c) = capC c := rfl
  have e4 : (if 17592186044416 < e then 17592186044416 else e) = capE e := rfl
  obtain ⟨b1, b2⟩ := capC_bd c c0
  obtain ⟨b3, b4⟩ := capE_bd e e0
  have L0 := hide (L.out 0)
  rw [glV0.1, glV0.2] at L0
  clear hG
  go_enter Tryd.func9, Tryd.ntmps9
  go_wp2_with fail
  refine L0.out.mono ?_
  rintro x w1 ⟨rfl, rfl⟩
  clear L0 e1 e2 e3 e4
  generalize hC : capC c = C at *
  generalize hE : capE e = E at *
  have HC := hide hC
  have HE := hide hE
  clear hC hE
  clear c0 c9 e0 e9
  go_wp2_with fail
  go_loop [5, 6, 8] (fun s b i => ∃ m : Nat, i = .int .i64 ((m + 1 : Nat) : Int) ∧ s = .int .i64 (goN C E m : Int) ∧ b = .int .i64 (gszN m) ∧ m ≤ 31) (fun _ _ i => 40 - (intOf i).toNat)
  case atStart => exact ⟨0, rfl, rfl, rfl, by omega⟩
  case round =>
    obtain ⟨m, rfl, rfl, rfl, hm⟩ := hrel
    by_cases hm31 : m < 31
    · have LL := hide (L.out ((m + 1 : Nat) : Int))
      rw [(glV_nat (m + 1) (by omega)).1, (glV_nat (m + 1) (by omega)).2] at LL
      have NY := hide (goN_yes C E m)
      have NN := hide (goN_no C E m)
      obtain ⟨g1, g2⟩ := gszN_bd (m + 1)
      obtain ⟨g3, g4⟩ := gszN_bd m
      have i1 : ((m + 1 : Nat) : Int) < 32 := by omega
      clear L
      generalize goN C E m = s at *
      generalize gszN m = y at *
      have q1 : 0 ≤ (gszN (m + 1) + y) * E := Int.mul_nonneg (by omega) (by omega)
      have q2 : (gszN (m + 1) + y) * E ≤ 50534 * 17592186044416 := Int.mul_le_mul (by omega) (by omega) (by omega) (by omega)
      generalize hJ : m + 1 = J at *
      generalize hX : gszN J = x at *
      have HX := hide hX
      clear hX
      by_cases hd : (x + y) * E < 2 * C
      · have HEN := hide (NY.out hd)
        clear NY NN
        go_wp2_with fail
        refine LL.out.mono ?_
        rintro ee w2 ⟨rfl, rfl⟩
        clear LL
        go_wp2_with fail
        go_round
        case rel => exact ⟨J, by go_num, by rw [HEN.out], by rw [HX.out], by omega⟩
        case measure => simp [intOf]; omega
      · have HEN := hide (NN.out hd)
        clear NY NN
        go_wp2_with fail
        refine LL.out.mono ?_
        rintro ee w2 ⟨rfl, rfl⟩
        clear LL
        go_wp2_with fail
        go_round
        case rel => exact ⟨J, by go_num, by rw [HEN.out], by rw [HX.out], by omega⟩
        case measure => simp [intOf]; omega
    · obtain rfl : m = 31 := by omega
      rw [show ((31 + 1 : Nat) : Int) = 32 from rfl]
      generalize hS : goN C E 31 = s at *
      have HS := hide hS
      clear hS L
      generalize gszN 31 = z at *
      go_wp2_with fail
      go_ret
      exact ⟨by rw [HC.out, HE.out, HS.out]; rfl, rfl⟩
theorem gaiOne_any (c e : Int) (w : World) (hG : Grows w) (c9 : c ≤ 9223372036854775807) (e9 : e ≤ 9223372036854775807) :
    Calls Tryd.prog 9 #[.int .i64 c, .int .i64 e] w fun x w' => x = .returned (.int .i64 (goV c e)) ∧ w' = w := by
  by_cases hc : c ≤ 0
  · rw [show goV c e = 0 from if_pos (.inl hc)]
    clear hG
    go_enter Tryd.func9, Tryd.ntmps9
    go_wp2_with fail
    go_ret
    exact ⟨rfl, rfl⟩
  · by_cases he : e ≤ 0
    · rw [show goV c e = 0 from if_pos (.inr he)]
      clear hG
      go_enter Tryd.func9, Tryd.ntmps9
      go_wp2_with fail
      go_ret
      exact ⟨rfl, rfl⟩
    · rw [show goV c e = (goN (capC c) (capE e) 31 : Int) from if_neg (fun x => x.elim hc he)]
      exact gaiOne_yes c e w hG (by omega) c9 (by omega) e9
end Go.Proofs.YtiamknnmgnbkgaaDoor
