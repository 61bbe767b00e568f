/- The walks of PitchGains, PitchNearests, NearestGain and PastRepeats out of contracts of package pitch that are handed in. -/
import Derived.Test.YtjjpbleknbmmgaaDoorPitchMath
import Derived.Test.YtjjpbleknbmmgaaDoorLpcA
import Derived.Test.YtjjpbleknbmmgaaDoorBaseB
import Derived.Test.YtjjpbleknbmmgaaDoorSynW
import Derived.BigQuiet
import Derived.Deep.QuietTactic
namespace Go.Proofs.YtjjpbleknbmmgaaDoor
open Go.RowKit
set_option linter.unusedVariables false
set_option linter.unusedSimpArgs false
set_option maxHeartbeats 1000000

/-- What Gain and Nearest answer, wherever memory has only grown. -/
def PGain (f : Nat) (w : World) : Prop := ∀ (m : Int) (wr : World), w.grownBy wr none → Calls Tryd.prog f #[.int .i64 m] wr (AnsG wr (.tuple #[.int .i64 (gaV m), .int .i64 (gaE m)]))
def PNear (f : Nat) (w : World) : Prop := ∀ (c e : Int) (wr : World), w.grownBy wr none → -9223372036854775808 ≤ c → c ≤ 9223372036854775807 → -9223372036854775808 ≤ e → e ≤ 9223372036854775807 → Calls Tryd.prog f #[.int .i64 c, .int .i64 e] wr (AnsG wr (.int .i64 (neV c e)))
theorem gaV6 : gaV 6 = 16384 ∧ gaE 6 = 0 := ⟨rfl, rfl⟩
theorem neV11 : neV 1 1 = 6 := by decide
theorem law_pitGains (w : World) (pg : PGain 6 w) (rg : PGain 7 w) (n : Int) :
    Calls Tryd.prog 3 #[.int .i64 n] w fun e w' => e = .returned (.bool true) ∧ Below w.heap.size w w' := by
  have A := hide (pg n)
  have B := hide (rg n)
  have C := hide (pg 6)
  rw [gaV6.1, gaV6.2] at C
  clear pg rg
  generalize gaV n = x at *
  generalize gaE n = y at *
  go_enter Tryd.func3, Tryd.ntmps3
  go_wp2_with fail
  refine (A.out _ (grown_refl _ _)).mono ?_
  rintro e w1 ⟨rfl, g1⟩
  have G1 := hide g1
  clear g1 A
  go_wp2_with fail
  refine (B.out _ G1.out).mono ?_
  rintro e w2 ⟨rfl, g2⟩
  have G2 := hide (grown_none G1.out g2)
  clear g2 B G1
  go_wp2_with fail
  refine (C.out _ G2.out).mono ?_
  rintro e w3 ⟨rfl, g3⟩
  have G3 := hide (grown_none G2.out g3)
  clear g3 C G2
  go_wp2_with fail
  go_ret
  exact ⟨rfl, below_of_grown G3.out⟩
theorem law_pitNearests (w : World) (pn : PNear 8 w) (rn : PNear 9 w) (c e : Int) (c0 : -9223372036854775808 ≤ c) (c9 : c ≤ 9223372036854775807) (e0 : -9223372036854775808 ≤ e) (e9 : e ≤ 9223372036854775807) :
    Calls Tryd.prog 4 #[.int .i64 c, .int .i64 e] w fun e w' => e = .returned (.bool true) ∧ Below w.heap.size w w' := by
  have A := hide (fun wr g => pn c e wr g c0 c9 e0 e9)
  have B := hide (fun wr g => rn c e wr g c0 c9 e0 e9)
  have C := hide (fun wr g => pn 1 1 wr g (by omega) (by omega) (by omega) (by omega))
  rw [neV11] at C
  clear pn rn
  generalize neV c e = x at *
  go_enter Tryd.func4, Tryd.ntmps4
  go_wp2_with fail
  refine (A.out _ (grown_refl _ _)).mono ?_
  rintro ee w1 ⟨rfl, g1⟩
  have G1 := hide g1
  clear g1 A
  go_wp2_with fail
  refine (B.out _ G1.out).mono ?_
  rintro ee w2 ⟨rfl, g2⟩
  have G2 := hide (grown_none G1.out g2)
  clear g2 B G1
  go_wp2_with fail
  refine (C.out _ G2.out).mono ?_
  rintro ee w3 ⟨rfl, g3⟩
  have G3 := hide (grown_none G2.out g3)
  clear g3 C G2
  go_wp2_with fail
  go_ret
  exact ⟨rfl, below_of_grown G3.out⟩
theorem hears_any (w : World) (pg : PGain 6 w) (pn : PNear 8 w) (wr : World) (g : w.grownBy wr none) :
    Calls Tryd.prog 12 #[] wr (AnsG wr (.bool true)) := by
  have A := hide (pg 6 wr g)
  rw [gaV6.1, gaV6.2] at A
  have C := hide (fun wx (h : wr.grownBy wx none) => pn 1 1 wx (grown_none g h) (by omega) (by omega) (by omega) (by omega))
  rw [neV11] at C
  clear pg pn g
  go_enter Tryd.func12, Tryd.ntmps12
  go_wp2_with fail
  refine A.out.mono ?_
  rintro e w1 ⟨rfl, g1⟩
  have G1 := hide g1
  clear g1 A
  go_wp2_with fail
  refine (C.out _ G1.out).mono ?_
  rintro e w2 ⟨rfl, g2⟩
  have G2 := hide (grown_none G1.out g2)
  clear g2 C G1
  go_wp2_with fail
  go_ret
  exact ⟨rfl, G2.out⟩
theorem size80h : (Tryd.prog.info? 28).map (·.size) = some 80 := by kernel_rfl
def PPast (f : Nat) (w : World) : Prop := ∀ (h : List Int) (hh : h.length = 80) (lag : Int) (wr : World), w.grownBy wr none → -9223372036854775808 ≤ lag → lag ≤ 9223372036854775807 → Calls Tryd.prog f #[.agg (arrI h), .int .i64 lag] wr (ListE wr (pasL h lag) (pasE lag))
theorem pasN_lt (h : List Int) (L i : Nat) (hi : i < L) : pasN h L i = nth h (80 - L + i) := by unfold pasN; rw [Nat.mod_eq_of_lt hi]
theorem pasN_ge (h : List Int) (L i : Nat) (hi : L ≤ i) : pasN h L i = pasN h L (i - L) := by unfold pasN; rw [Nat.mod_eq_sub_mod hi]
set_option maxRecDepth 100000 in
theorem law_pastRepeats (w : World) (pg : PGain 6 w) (pn : PNear 8 w) (pp : PPast 11 w) (h : List Int) (hh : h.length = 80) (lag : Int) :
    Calls Tryd.prog 5 #[.agg (arrI h), .int .i64 lag] w fun e w' => e = .returned (.bool true) ∧ Below w.heap.size w w' := by
  have HE := hide (hears_any w pg pn)
  have S1 := hide (fun w' => spot_any lag 60 (by omega) (by omega) w')
  have b1 : 0 ≤ spotN lag 60 ∧ spotN lag 60 < 60 := by unfold spotN; omega
  generalize spotN lag 60 = s at *
  obtain ⟨b1, b2⟩ := b1
  obtain ⟨L, hL⟩ : ∃ L : Nat, 20 + s = (L : Int) := ⟨(20 + s).toNat, by omega⟩
  have l1 : 20 ≤ L := by omega
  have l2 : L ≤ 79 := by omega
  have PA := hide (fun wr g => pp h hh (L : Int) wr g (by omega) (by omega))
  rw [(pasL_yes h L l1 l2).1, (pasL_yes h L l1 l2).2] at PA
  have VL := pasV_len h L
  have VN := hide (fun i (hi : i < 40) => show nth (pasV h L) i = pasN h L i from tab_nth _ _ _ hi)
  have NL := hide (pasN_lt h L)
  have NG := hide (pasN_ge h L)
  have B0 := hide (Blk.new w 28 h)
  have G0 := hide (grown_alloc w (.cells (arrI h) 28) none)
  clear pg pn pp
  go_enter Tryd.func5, Tryd.ntmps5
  go_wp2_with fail
  generalize w.alloc (.cells (arrI h) 28) = W0 at *
  refine (S1.out _).mono ?_
  rintro ee wa ⟨rfl, rfl⟩
  clear S1
  go_wp2_with (first | refine wpList_load_arr rfl 28 _ rfl _ rfl _ B0.out _ Tryd.underlying28 rfl (by rw [hh]; exact size80h) ?_)
  refine (PA.out _ G0.out).mono ?_
  rintro ee w1 ⟨v', rfl, o1, g1⟩
  obtain ⟨gb, cap, rfl, hb, hlt, hcap⟩ := o1.form (by rw [VL]; omega)
  rw [VL] at o1 hcap ⊢
  have O1 := hide o1
  have B1 := hide (B0.out.keep g1)
  have G1 := hide (grown_none G0.out g1)
  clear o1 g1 B0 G0 PA hL b1 b2
  go_wp2_with fail
  refine (HE.out _ G1.out).mono ?_
  rintro ee w2 ⟨rfl, g2⟩
  have O2 := hide (O1.out.keep g2)
  have B2 := hide (B1.out.keep g2)
  have G2 := hide (grown_none G1.out g2)
  clear g2 HE O1 B1 G1
  go_wp2_with fail
  go_loopw [7] (fun i wr => ∃ m : Nat, i = .int .i64 m ∧ m ≤ 40 ∧ Hid (GrownW w2 wr)) (fun i _ => 40 - (intOf i).toNat)
  case atStart => exact ⟨0, rfl, Nat.zero_le _, grown_refl _ _⟩
  case round =>
    obtain ⟨m, rfl, hm, hg⟩ := hrel
    have O3 := hide (O2.out.keep hg.out)
    have B3 := hide (B2.out.keep hg.out)
    by_cases hm40 : m < 40
    · have cv := O3.out.cell (by rw [VL]) m (by rw [VL]; omega)
      rw [VN.out m hm40] at cv
      have i1 : (m : Int) < 40 := by omega
      by_cases hmL : m < L
      · have ch := B3.out.cell (80 - L + m) (by omega)
        rw [← NL.out m hmL] at ch
        have hJ : (80 : Int) - (L : Int) + (m : Int) = ((80 - L + m : Nat) : Int) := by omega
        have hw1 : IntKind.i64.wrap ((80 : Int) - (L : Int)) = 80 - (L : Int) := wrapI _ (by omega) (by omega)
        have hw2 : IntKind.i64.wrap ((80 - L + m : Nat) : Int) = ((80 - L + m : Nat) : Int) := wrapI _ (by omega) (by omega)
        have j1 : 80 - L + m < 80 := by omega
        have j2 : ((80 - L + m : Nat) : Int) < 80 := by omega
        have i2 : (m : Int) < L := by omega
        have i3 : ¬ (L : Int) ≤ m := by omega
        have i4 : ¬ L ≤ m := by omega
        have hd2 : decide (L ≤ m) = false := decide_eq_false i4
        clear VN NL NG
        generalize pasN h L m = z at *
        generalize 80 - L + m = J at *
        clear O3 B3
        go_wp2_with fail
        go_big_quiet (fail)
        go_wp2_with fail
        go_roundw
        case rel => exact ⟨m + 1, by go_num, by omega, gw_trans hg.out (by first | exact grown_drewN' _ _ none | exact grown_drew (grown_refl _ none))⟩
        case measure => simp [intOf]; omega
      · have cw := O3.out.cell (by rw [VL]) (m - L) (by rw [VL]; omega)
        rw [VN.out (m - L) (by omega), ← NG.out m (by omega)] at cw
        have hJ : (m : Int) - (L : Int) = ((m - L : Nat) : Int) := by omega
        have hw1 : IntKind.i64.wrap ((m - L : Nat) : Int) = ((m - L : Nat) : Int) := wrapI _ (by omega) (by omega)
        have j1 : m - L < 40 := by omega
        have j2 : ((m - L : Nat) : Int) < 40 := by omega
        have i2 : ¬ (m : Int) < L := by omega
        have hd2 : decide (m < L) = false := decide_eq_false hmL
        have i4 : L ≤ m := by omega
        have i3 : (L : Int) ≤ m := by omega
        clear VN NL NG
        generalize pasN h L m = z at *
        generalize m - L = J at *
        clear O3 B3
        go_wp2_with fail
        go_big_quiet (fail)
        go_wp2_with fail
        go_roundw
        case rel => exact ⟨m + 1, by go_num, by omega, gw_trans hg.out (by first | exact grown_drewN' _ _ none | exact grown_drew (grown_refl _ none))⟩
        case measure => simp [intOf]; omega
    · obtain rfl : m = 40 := by omega
      clear VN NL NG
      go_wp2_with fail
      go_ret
      exact ⟨rfl, below_of_grown (grown_none G2.out hg.out)⟩
end Go.Proofs.YtjjpbleknbmmgaaDoor
