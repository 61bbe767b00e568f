/- Contracts of package pitch's Gain and Nearest, out of the table that the program's text lays. -/
import Derived.Test.YtjjpbleknbmmgabDoorPitA
import Derived.Test.YtjjpbleknbmmgabDoorTabF
import Derived.BigQuiet
import Derived.Deep.QuietTactic
namespace Go.Proofs.YtjjpbleknbmmgabDoor
open Go.RowKit
set_option linter.unusedVariables false
set_option linter.unusedSimpArgs false
set_option maxHeartbeats 1000000

theorem pitGain_any (n : Int) (w : World) (ht : TabA w 0 gains 8) : Calls Tryd.prog 18 #[.int .i64 n] w (Ans w (.tuple #[.int .i64 (gaV n), .int .i64 (gaE n)])) := by
  have WI := hide (pitWithin_any n 0 7 w)
  by_cases h : 0 ≤ n ∧ n ≤ 7
  · rw [decide_eq_true h] at WI
    rw [show gaV n = gainN n.toNat from if_pos h, show gaE n = 0 from if_pos h]
    obtain ⟨k, rfl⟩ : ∃ k : Nat, n = (k : Int) := ⟨n.toNat, by omega⟩
    rw [Int.toNat_natCast]
    have ck := ht k (by omega)
    rw [show gains.getD k 0 = gainN k from rfl] at ck
    have i1 : (k : Int) < 8 := by omega
    clear ht h
    generalize gainN k = z at *
    go_enter Tryd.func18, Tryd.ntmps18
    go_wp2_with fail
    refine WI.out.mono ?_
    rintro e w1 ⟨rfl, rfl⟩
    clear WI
    go_wp2_with fail
    go_ret2
    exact ⟨rfl, rfl⟩
  · rw [decide_eq_false h] at WI
    rw [show gaV n = 0 from if_neg h, show gaE n = 2 from if_neg h]
    clear ht h
    go_enter Tryd.func18, Tryd.ntmps18
    go_wp2_with fail
    refine WI.out.mono ?_
    rintro e w1 ⟨rfl, rfl⟩
    clear WI
    go_wp2_with fail
    go_ret2
    exact ⟨rfl, rfl⟩
theorem neN_yes (c e : Int) (m : Nat) (h8 : m + 1 < 8) (h : (gainN (m + 1) + gainN m) * e < 32768 * c) : neN c e (m + 1) = m + 1 := if_pos ⟨h8, by omega⟩
theorem neN_no (c e : Int) (m : Nat) (h : ¬ (gainN (m + 1) + gainN m) * e < 32768 * c) : neN c e (m + 1) = neN c e m := if_neg (fun x => h (by have := x.2; omega))
theorem pitNear_yes (c e : Int) (w : World) (ht : TabA w 0 gains 8) (c0 : 0 < c) (c9 : c ≤ 9223372036854775807) (e0 : 0 < e) (e9 : e ≤ 9223372036854775807) :
    Calls Tryd.prog 17 #[.int .i64 c, .int .i64 e] w (AnsG w (.int .i64 (neN (cap40 c) (cap40 e) 7 : Int))) := by
  have HT := hide ht
  have e1 : min c 1099511627776 = cap40 c := by unfold cap40; split <;> omega
  have e2 : min e 1099511627776 = cap40 e := by unfold cap40; split <;> omega
  have e3 : (if 1099511627776 < c then 1099511627776 else c) = cap40 c := rfl
  have e4 : (if 1099511627776 < e then 1099511627776 else e) = cap40 e := rfl
  obtain ⟨b1, b2⟩ := cap40_bd c c0
  obtain ⟨b3, b4⟩ := cap40_bd e e0
  clear ht
  go_enter Tryd.func17, Tryd.ntmps17
  go_upto_region 4 with fail
  clear e1 e2 e3 e4
  generalize cap40 c = C at *
  generalize cap40 e = E at *
  clear c0 c9 e0 e9
  go_wp2_with fail
  go_loopw [5, 6] (fun s i wr => ∃ m : Nat, i = .int .i64 ((m + 1 : Nat) : Int) ∧ s = .int .i64 (neN C E m : Int) ∧ m ≤ 7 ∧ Hid (GrownW w wr)) (fun _ i _ => 9 - (intOf i).toNat)
  case atStart => exact ⟨0, rfl, rfl, by omega, grown_refl _ _⟩
  case round =>
    obtain ⟨m, rfl, rfl, hm, hG⟩ := hrel
    by_cases hm7 : m < 7
    · have tw := TabA_keep HT.out hG.out
      have c1 := tw (m + 1) (by omega)
      have c2 := tw m (by omega)
      rw [show gains.getD (m + 1) 0 = gainN (m + 1) from rfl] at c1
      rw [show gains.getD m 0 = gainN m from rfl] at c2
      have NY := hide (neN_yes C E m (by omega))
      have NN := hide (neN_no C E m)
      obtain ⟨g1, g2⟩ := gainN_bd (m + 1)
      obtain ⟨g3, g4⟩ := gainN_bd m
      clear tw
      generalize neN C E m = s at *
      generalize gainN (m + 1) = x at *
      generalize gainN m = y at *
      have q1 : 0 ≤ (x + y) * E := Int.mul_nonneg (by omega) (by omega)
      have q2 : (x + y) * E ≤ 36044 * 1099511627776 := Int.mul_le_mul (by omega) (by omega) (by omega) (by omega)
      have i1 : ((m + 1 : Nat) : Int) < 8 := by omega
      have i2 : ((m + 1 : Nat) : Int) - 1 = (m : Int) := by omega
      have i3 : (m : Int) < 8 := by omega
      have w1 : wrap64 (32768 * C) = 32768 * C := by simp only [wrap64]; omega
      have w2 : wrap64 ((x + y) * E) = (x + y) * E := by simp only [wrap64]; omega
      generalize hJ : m + 1 = J at *
      by_cases hd : (x + y) * E < 32768 * C
      · have HEN := hide (NY.out hd)
        clear NY NN
        go_wp2_with fail
        go_big_quiet (fail)
        go_wp2_with fail
        go_roundw
        case rel => exact ⟨J, by go_num, by rw [HEN.out], by omega, gw_trans hG.out (by first | exact grown_drewN' _ _ none | exact grown_drew (grown_refl _ none))⟩
        case measure => simp [intOf]; omega
      · have HEN := hide (NN.out hd)
        have hd' : 32768 * C ≤ (x + y) * E := by omega
        clear NY NN
        go_wp2_with fail
        go_big_quiet (fail)
        go_wp2_with fail
        go_roundw
        case rel => exact ⟨J, by go_num, by rw [HEN.out], by omega, gw_trans hG.out (by first | exact grown_drewN' _ _ none | exact grown_drew (grown_refl _ none))⟩
        case measure => simp [intOf]; omega
    · obtain rfl : m = 7 := by omega
      rw [show ((7 + 1 : Nat) : Int) = 8 from rfl]
      generalize neN C E 7 = s at *
      go_wp2_with fail
      go_ret
      exact ⟨rfl, hG.out⟩
theorem pitNear_any (c e : Int) (w : World) (ht : TabA w 0 gains 8) (c9 : c ≤ 9223372036854775807) (e9 : e ≤ 9223372036854775807) :
    Calls Tryd.prog 17 #[.int .i64 c, .int .i64 e] w (AnsG w (.int .i64 (neV c e))) := by
  by_cases hc : c ≤ 0
  · rw [show neV c e = 0 from if_pos (.inl hc)]
    clear ht
    go_enter Tryd.func17, Tryd.ntmps17
    go_wp2_with fail
    go_ret
    exact ⟨rfl, grown_refl _ _⟩
  · by_cases he : e ≤ 0
    · rw [show neV c e = 0 from if_pos (.inr he)]
      clear ht
      go_enter Tryd.func17, Tryd.ntmps17
      go_wp2_with fail
      go_ret
      exact ⟨rfl, grown_refl _ _⟩
    · rw [show neV c e = (neN (cap40 c) (cap40 e) 7 : Int) from if_neg (fun x => x.elim hc he)]
      exact pitNear_yes c e w ht (by omega) c9 (by omega) e9
end Go.Proofs.YtjjpbleknbmmgabDoor
