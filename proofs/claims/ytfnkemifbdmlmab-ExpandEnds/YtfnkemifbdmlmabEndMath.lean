/- Plain arithmetic: where Expand and Mix end. -/
import Derived.Test.YtfnkemifbdmlmabLevMath
namespace Go.Proofs.Ytfnkemifbdmlmab
open Go.RowKit
set_option linter.unusedVariables false
set_option linter.unusedSimpArgs false

def quarter (v : Int) : Int := (spotN v 4294967296 - 2147483648).tdiv 4
theorem quarter_bd (v : Int) : -536870912 ≤ quarter v ∧ quarter v ≤ 536870912 := by
  have h1 : 0 ≤ spotN v 4294967296 := by unfold spotN; omega
  have h2 : spotN v 4294967296 < 4294967296 := by unfold spotN; omega
  unfold quarter
  have : -2147483648 ≤ spotN v 4294967296 - 2147483648 ∧ spotN v 4294967296 - 2147483648 < 2147483648 := by omega
  generalize spotN v 4294967296 - 2147483648 = S at *
  rcases Int.le_total 0 S with h | h
  · rw [Int.tdiv_eq_ediv_of_nonneg h]; omega
  · have e : S.tdiv 4 = -((-S).tdiv 4) := by rw [Int.neg_tdiv]; omega
    rw [e, Int.tdiv_eq_ediv_of_nonneg (by omega)]; omega
theorem quarter_wide (a : List Int) (ha : a.length = 9) : wideB (tab 9 (fun i => quarter (nth a i))) = true := by
  rw [wideB_iff, tab_len]
  intro i hi
  rw [tab_nth _ _ _ hi]
  have := quarter_bd (nth a i)
  omega
theorem fac_one : ∀ i, fac 32768 i = 32768
  | 0 => rfl
  | i + 1 => by show (fac 32768 i * 32768 + 16384) / 32768 = 32768; rw [fac_one i]; decide
theorem fac_nought (i : Nat) : fac 0 (i + 1) = 0 := by show (fac 0 i * 0 + 16384) / 32768 = 0; simp
theorem exp_one {a : List Int} (ha : a.length = 9) (hw : wideB a = true) : expL a 32768 = a ∧ expE a 32768 = 0 := by
  have ok : okX a 32768 = true := by unfold okX; simp [hw]
  refine ⟨?_, by simp [expE, ok]⟩
  rw [expL, if_pos ok]
  symm
  apply fillN_all (n := 9)
  refine ⟨ha, fun j hj => ?_⟩
  unfold expN
  rw [fac_one]
  omega
theorem exp_nought {a : List Int} (ha : a.length = 9) (hw : wideB a = true) : expL a 0 = [nth a 0, 0, 0, 0, 0, 0, 0, 0, 0] ∧ expE a 0 = 0 := by
  have ok : okX a 0 = true := by unfold okX; simp [hw]
  refine ⟨?_, by simp [expE, ok]⟩
  rw [expL, if_pos ok]
  symm
  apply fillN_all (n := 9)
  refine ⟨rfl, fun j hj => ?_⟩
  unfold expN
  match j, hj with
  | 0, _ => show nth a 0 = (nth a 0 * 32768 + 16384) / 32768; omega
  | j + 1, hj =>
    rw [fac_nought]
    have : nth [nth a 0, 0, 0, 0, 0, 0, 0, 0, 0] (j + 1) = 0 := by
      match j, hj with
      | 0, _ | 1, _ | 2, _ | 3, _ | 4, _ | 5, _ | 6, _ | 7, _ => rfl
    rw [this]; omega
def refl (v : Int) : Int := spotN v 65535 - 32767
theorem refl_bd (v : Int) : -32767 ≤ refl v ∧ refl v ≤ 32767 := by unfold refl spotN; omega
theorem refl_steady (a : List Int) (ha : a.length = 8) : steadyB (tab 8 (fun i => refl (nth a i))) = true := by
  rw [steadyB_iff, tab_len]
  intro i hi
  rw [tab_nth _ _ _ hi]
  have := refl_bd (nth a i)
  omega
theorem tdiv4_le (S lo hi : Int) (h1 : 4 * lo ≤ S) (h2 : S ≤ 4 * hi) : lo ≤ S.tdiv 4 ∧ S.tdiv 4 ≤ hi := by
  rcases Int.le_total 0 S with h | h
  · rw [Int.tdiv_eq_ediv_of_nonneg h]; omega
  · have e : S.tdiv 4 = -((-S).tdiv 4) := by rw [Int.neg_tdiv]; omega
    rw [e, Int.tdiv_eq_ediv_of_nonneg (by omega)]; omega
theorem mixN_between (a b : List Int) (num : Int) (h0 : 0 ≤ num) (h4 : num ≤ 4) (i : Nat) : min (nth a i) (nth b i) ≤ mixN a b num i ∧ mixN a b num i ≤ max (nth a i) (nth b i) := by
  unfold mixN
  generalize nth a i = x
  generalize nth b i = y
  apply tdiv4_le
  all_goals
    have h : num = 0 ∨ num = 1 ∨ num = 2 ∨ num = 3 ∨ num = 4 := by omega
    rcases h with rfl | rfl | rfl | rfl | rfl <;> omega
theorem mix_ok {a b : List Int} (sa : steadyB a = true) (sb : steadyB b = true) {num : Int} (h0 : 0 ≤ num) (h4 : num ≤ 4) : okM a b num = true := by unfold okM; simp [sa, sb, h0, h4]
theorem mix_yesL {a b : List Int} (sa : steadyB a = true) (sb : steadyB b = true) {num : Int} (h0 : 0 ≤ num) (h4 : num ≤ 4) : mixL a b num = tab 8 (mixN a b num) ∧ mixE a b num = 0 := by
  have ok := mix_ok sa sb h0 h4
  exact ⟨by rw [mixL, if_pos ok]; rfl, by simp [mixE, ok]⟩
theorem mix_first {a b : List Int} (ha : a.length = 8) (sa : steadyB a = true) (sb : steadyB b = true) : mixL a b 0 = a ∧ mixE a b 0 = 0 := by
  obtain ⟨e1, e2⟩ := mix_yesL sa sb (num := 0) (by omega) (by omega)
  refine ⟨?_, e2⟩
  rw [e1]
  symm
  apply tab_ext ha
  intro i hi
  have := tdiv4_le (nth a i * (4 - 0) + nth b i * 0) (nth a i) (nth a i) (by omega) (by omega)
  unfold mixN
  omega
theorem mix_second {a b : List Int} (hb : b.length = 8) (sa : steadyB a = true) (sb : steadyB b = true) : mixL a b 4 = b ∧ mixE a b 4 = 0 := by
  obtain ⟨e1, e2⟩ := mix_yesL sa sb (num := 4) (by omega) (by omega)
  refine ⟨?_, e2⟩
  rw [e1]
  symm
  apply tab_ext hb
  intro i hi
  have := tdiv4_le (nth a i * (4 - 4) + nth b i * 4) (nth b i) (nth b i) (by omega) (by omega)
  unfold mixN
  omega
theorem mix_self {a : List Int} (ha : a.length = 8) (sa : steadyB a = true) {num : Int} (h0 : 0 ≤ num) (h4 : num ≤ 4) : mixL a a num = a ∧ mixE a a num = 0 := by
  obtain ⟨e1, e2⟩ := mix_yesL sa sa h0 h4
  refine ⟨?_, e2⟩
  rw [e1]
  symm
  apply tab_ext ha
  intro i hi
  have := mixN_between a a num h0 h4 i
  omega
end Go.Proofs.Ytfnkemifbdmlmab
