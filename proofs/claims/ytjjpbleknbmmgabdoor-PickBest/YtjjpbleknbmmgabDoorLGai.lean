/- The walks of PitchGains, PitchNearests, NearestGain and PastRepeats out of contracts of package pitch that are handed in. -/
import Derived.Test.YtjjpbleknbmmgabDoorPitchMath
import Derived.Test.YtjjpbleknbmmgabDoorLpcA
import Derived.Test.YtjjpbleknbmmgabDoorBaseB
import Derived.Test.YtjjpbleknbmmgabDoorSynW
import Derived.BigQuiet
import Derived.Deep.QuietTactic
namespace Go.Proofs.YtjjpbleknbmmgabDoor
open Go.RowKit
set_option linter.unusedVariables false
set_option linter.unusedSimpArgs false
set_option maxHeartbeats 1000000

/-- What Gain and Nearest answer, wherever memory has only grown. -/
def PGain (f : Nat) (w : World) : Prop := ∀ (m : Int) (wr : World), w.grownBy wr none → Calls Tryd.prog f #[.int .i64 m] wr (AnsG wr (.tuple #[.int .i64 (gaV m), .int .i64 (gaE m)]))
def PNear (f : Nat) (w : World) : Prop := ∀ (c e : Int) (wr : World), w.grownBy wr none → -9223372036854775808 ≤ c → c ≤ 9223372036854775807 → -9223372036854775808 ≤ e → e ≤ 9223372036854775807 → Calls Tryd.prog f #[.int .i64 c, .int .i64 e] wr (AnsG wr (.int .i64 (neV c e)))
theorem gaV6 : gaV 6 = 16384 ∧ gaE 6 = 0 := ⟨rfl, rfl⟩
theorem neV11 : neV 1 1 = 6 := by decide
theorem hears_any (w : World) (pg : PGain 18 w) (pn : PNear 17 w) (wr : World) (g : w.grownBy wr none) :
    Calls Tryd.prog 11 #[] wr (AnsG wr (.bool true)) := by
  have A := hide (pg 6 wr g)
  rw [gaV6.1, gaV6.2] at A
  have C := hide (fun wx (h : wr.grownBy wx none) => pn 1 1 wx (grown_none g h) (by omega) (by omega) (by omega) (by omega))
  rw [neV11] at C
  clear pg pn g
  go_enter Tryd.func11, Tryd.ntmps11
  go_wp2_with fail
  refine A.out.mono ?_
  rintro e w1 ⟨rfl, g1⟩
  have G1 := hide g1
  clear g1 A
  go_wp2_with fail
  refine (C.out _ G1.out).mono ?_
  rintro e w2 ⟨rfl, g2⟩
  have G2 := hide (grown_none G1.out g2)
  clear g2 C G1
  go_wp2_with fail
  go_ret
  exact ⟨rfl, G2.out⟩
theorem gaV_nat (n : Nat) (h : n ≤ 7) : gaV n = gainN n ∧ gaE n = 0 := by
  have hh : 0 ≤ (n : Int) ∧ (n : Int) ≤ 7 := by omega
  exact ⟨by rw [show gaV n = gainN (n : Int).toNat from if_pos hh, Int.toNat_natCast], if_pos hh⟩
theorem neV_in (c e : Int) (c0 : 0 < c) (c9 : c ≤ 1099511627776) (e0 : 0 < e) (e9 : e ≤ 1099511627776) : neV c e = (neN c e 7 : Int) := by
  unfold neV cap40
  rw [if_neg (by omega), if_neg (by omega), if_neg (by omega)]
theorem max_abs (x y : Int) (h1 : x ≤ y ∨ x ≤ -y) (h2 : -x ≤ y ∨ -x ≤ -y) : max x (-x) ≤ max y (-y) := by omega
theorem law_nearGain (w : World) (pg : PGain 18 w) (pn : PNear 17 w) (c e n : Int) :
    Calls Tryd.prog 5 #[.int .i64 c, .int .i64 e, .int .i64 n] w fun e w' => e = .returned (.bool true) ∧ Below w.heap.size w w' := by
  have HE := hide (hears_any w pg pn)
  have S1 := hide (fun w' => spot_any c 1099511627776 (by omega) (by omega) w')
  have S2 := hide (fun w' => spot_any e 1099511627776 (by omega) (by omega) w')
  have S3 := hide (fun w' => spot_any n 8 (by omega) (by omega) w')
  have b1 : 0 ≤ spotN c 1099511627776 ∧ spotN c 1099511627776 < 1099511627776 := by unfold spotN; omega
  have b2 : 0 ≤ spotN e 1099511627776 ∧ spotN e 1099511627776 < 1099511627776 := by unfold spotN; omega
  have b3 : 0 ≤ spotN n 8 ∧ spotN n 8 < 8 := by unfold spotN; omega
  generalize spotN c 1099511627776 = C at *
  generalize spotN e 1099511627776 = E at *
  obtain ⟨N, hN⟩ : ∃ N : Nat, spotN n 8 = (N : Int) := ⟨(spotN n 8).toNat, by omega⟩
  rw [hN] at S3 b3
  clear hN
  have PN := hide (fun wr g => pn (1 + C) (1 + E) wr g (by omega) (by omega) (by omega) (by omega))
  rw [neV_in (1 + C) (1 + E) (by omega) (by omega) (by omega) (by omega)] at PN
  have hk := neN_le (1 + C) (1 + E) 7
  have P1 := hide (pg (neN (1 + C) (1 + E) 7 : Int))
  rw [(gaV_nat _ hk).1, (gaV_nat _ hk).2] at P1
  have P2 := hide (pg (N : Int))
  rw [(gaV_nat N (by omega)).1, (gaV_nat N (by omega)).2] at P2
  obtain ⟨X, Y, hX, hY, m1, m2⟩ := near_best (1 + C) (1 + E) (by omega) N (by omega)
  have g1 := gainN_bd (neN (1 + C) (1 + E) 7)
  have g2 := gainN_bd N
  have hmx := max_abs X Y m1 m2
  clear pg pn hk m1 m2
  generalize gainN (neN (1 + C) (1 + E) 7) = g at *
  generalize gainN N = h at *
  generalize neN (1 + C) (1 + E) 7 = K at *
  obtain ⟨q1, q2⟩ : 0 ≤ g * (1 + E) ∧ g * (1 + E) ≤ 18022 * 1099511627776 := ⟨Int.mul_nonneg (by omega) (by omega), Int.mul_le_mul (by omega) (by omega) (by omega) (by omega)⟩
  obtain ⟨q3, q4⟩ : 0 ≤ h * (1 + E) ∧ h * (1 + E) ≤ 18022 * 1099511627776 := ⟨Int.mul_nonneg (by omega) (by omega), Int.mul_le_mul (by omega) (by omega) (by omega) (by omega)⟩
  have X1 : -36028797018963968 ≤ X ∧ X ≤ 36028797018963968 := by omega
  have Y1 : -36028797018963968 ≤ Y ∧ Y ≤ 36028797018963968 := by omega
  obtain ⟨x1, x2⟩ := X1
  obtain ⟨y1, y2⟩ := Y1
  obtain ⟨c1, c2⟩ := b1
  obtain ⟨e1, e2⟩ := b2
  have HX := hide hX
  have HY := hide hY
  go_enter Tryd.func5, Tryd.ntmps5
  go_wp2_with fail
  refine (S1.out _).mono ?_
  rintro ee wa ⟨rfl, rfl⟩
  clear S1
  go_wp2_with fail
  refine (S2.out _).mono ?_
  rintro ee wb ⟨rfl, rfl⟩
  clear S2
  go_wp2_with fail
  refine (PN.out _ (grown_refl _ _)).mono ?_
  rintro ee w1 ⟨rfl, g1⟩
  have G1 := hide g1
  clear g1 PN
  go_wp2_with fail
  refine (P1.out _ G1.out).mono ?_
  rintro ee w2 ⟨rfl, g2⟩
  have G2 := hide (grown_none G1.out g2)
  clear g2 P1 G1
  go_wp2_with fail
  refine (S3.out _).mono ?_
  rintro ee w3 ⟨rfl, rfl⟩
  clear S3
  go_wp2_with fail
  refine (P2.out _ G2.out).mono ?_
  rintro ee w4 ⟨rfl, g4⟩
  have G4 := hide (grown_none G2.out g4)
  clear g4 P2 G2
  go_wp2_with fail
  refine (HE.out _ G4.out).mono ?_
  rintro ee w5 ⟨rfl, g5⟩
  have G5 := hide (grown_none G4.out g5)
  clear g5 HE G4
  go_wp2_with fail
  all_goals
    go_ret
    refine ⟨?_, below_of_grown G5.out⟩
    first | rfl | (show Ending.returned (Value.bool (decide _)) = _; rw [decide_eq_true (by omega)])
theorem size80h : (Tryd.prog.info? 22).map (·.size) = some 80 := by kernel_rfl
def PPast (f : Nat) (w : World) : Prop := ∀ (h : List Int) (hh : h.length = 80) (lag : Int) (wr : World), w.grownBy wr none → -9223372036854775808 ≤ lag → lag ≤ 9223372036854775807 → Calls Tryd.prog f #[.agg (arrI h), .int .i64 lag] wr (ListE wr (pasL h lag) (pasE lag))
end Go.Proofs.YtjjpbleknbmmgabDoor
