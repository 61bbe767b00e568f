/- Plain arithmetic: where Expand and Mix end. -/
import Derived.Test.YtjgdkinnpgiabaaDoorLevMath
namespace Go.Proofs.YtjgdkinnpgiabaaDoor
open Go.RowKit
set_option linter.unusedVariables false
set_option linter.unusedSimpArgs false

def quarter (v : Int) : Int := (spotN v 4294967296 - 2147483648).tdiv 4
theorem quarter_bd (v : Int) : -536870912 ≤ quarter v ∧ quarter v ≤ 536870912 := by
  have h1 : 0 ≤ spotN v 4294967296 := by unfold spotN; omega
  have h2 : spotN v 4294967296 < 4294967296 := by unfold spotN; omega
  unfold quarter
  have : -2147483648 ≤ spotN v 4294967296 - 2147483648 ∧ spotN v 4294967296 - 2147483648 < 2147483648 := by omega
  generalize spotN v 4294967296 - 2147483648 = S at *
  rcases Int.le_total 0 S with h | h
  · rw [Int.tdiv_eq_ediv_of_nonneg h]; omega
  · have e : S.tdiv 4 = -((-S).tdiv 4) := by rw [Int.neg_tdiv]; omega
    rw [e, Int.tdiv_eq_ediv_of_nonneg (by omega)]; omega
theorem quarter_wide (a : List Int) (ha : a.length = 9) : wideB (tab 9 (fun i => quarter (nth a i))) = true := by
  rw [wideB_iff, tab_len]
  intro i hi
  rw [tab_nth _ _ _ hi]
  have := quarter_bd (nth a i)
  omega
theorem fac_one : ∀ i, fac 32768 i = 32768
  | 0 => rfl
  | i + 1 => by show (fac 32768 i * 32768 + 16384) / 32768 = 32768; rw [fac_one i]; decide
theorem fac_nought (i : Nat) : fac 0 (i + 1) = 0 := by show (fac 0 i * 0 + 16384) / 32768 = 0; simp
theorem exp_one {a : List Int} (ha : a.length = 9) (hw : wideB a = true) : expL a 32768 = a ∧ expE a 32768 = 0 := by
  have ok : okX a 32768 = true := by unfold okX; simp [hw]
  refine ⟨?_, by simp [expE, ok]⟩
  rw [expL, if_pos ok]
  symm
  apply fillN_all (n := 9)
  refine ⟨ha, fun j hj => ?_⟩
  unfold expN
  rw [fac_one]
  omega
theorem exp_nought {a : List Int} (ha : a.length = 9) (hw : wideB a = true) : expL a 0 = [nth a 0, 0, 0, 0, 0, 0, 0, 0, 0] ∧ expE a 0 = 0 := by
  have ok : okX a 0 = true := by unfold okX; simp [hw]
  refine ⟨?_, by simp [expE, ok]⟩
  rw [expL, if_pos ok]
  symm
  apply fillN_all (n := 9)
  refine ⟨rfl, fun j hj => ?_⟩
  unfold expN
  match j, hj with
  | 0, _ => show nth a 0 = (nth a 0 * 32768 + 16384) / 32768; omega
  | j + 1, hj =>
    rw [fac_nought]
    have : nth [nth a 0, 0, 0, 0, 0, 0, 0, 0, 0] (j + 1) = 0 := by
      match j, hj with
      | 0, _ | 1, _ | 2, _ | 3, _ | 4, _ | 5, _ | 6, _ | 7, _ => rfl
    rw [this]; omega
def refl (v : Int) : Int := spotN v 65535 - 32767
theorem refl_bd (v : Int) : -32767 ≤ refl v ∧ refl v ≤ 32767 := by unfold refl spotN; omega
theorem refl_steady (a : List Int) (ha : a.length = 8) : steadyB (tab 8 (fun i => refl (nth a i))) = true := by
  rw [steadyB_iff, tab_len]
  intro i hi
  rw [tab_nth _ _ _ hi]
  have := refl_bd (nth a i)
  omega
theorem tdiv4_le (S lo hi : Int) (h1 : 4 * lo ≤ S) (h2 : S ≤ 4 * hi) : lo ≤ S.tdiv 4 ∧ S.tdiv 4 ≤ hi := by
  rcases Int.le_total 0 S with h | h
  · rw [Int.tdiv_eq_ediv_of_nonneg h]; omega
  · have e : S.tdiv 4 = -((-S).tdiv 4) := by rw [Int.neg_tdiv]; omega
    rw [e, Int.tdiv_eq_ediv_of_nonneg (by omega)]; omega
theorem mixN_between (a b : List Int) (num : Int) (h0 : 0 ≤ num) (h4 : num ≤ 4) (i : Nat) : min (nth a i) (nth b i) ≤ mixN a b num i ∧ mixN a b num i ≤ max (nth a i) (nth b i) := by
  unfold mixN
  generalize nth a i = x
  generalize nth b i = y
  apply tdiv4_le
  all_goals
    have h : num = 0 ∨ num = 1 ∨ num = 2 ∨ num = 3 ∨ num = 4 := by omega
    rcases h with rfl | rfl | rfl | rfl | rfl <;> omega
theorem mix_ok {a b : List Int} (sa : steadyB a = true) (sb : steadyB b = true) {num : Int} (h0 : 0 ≤ num) (h4 : num ≤ 4) : okM a b num = true := by unfold okM; simp [sa, sb, h0, h4]
theorem mix_yesL {a b : List Int} (sa : steadyB a = true) (sb : steadyB b = true) {num : Int} (h0 : 0 ≤ num) (h4 : num ≤ 4) : mixL a b num = tab 8 (mixN a b num) ∧ mixE a b num = 0 := by
  have ok := mix_ok sa sb h0 h4
  exact ⟨by rw [mixL, if_pos ok]; rfl, by simp [mixE, ok]⟩
theorem mix_first {a b : List Int} (ha : a.length = 8) (sa : steadyB a = true) (sb : steadyB b = true) : mixL a b 0 = a ∧ mixE a b 0 = 0 := by
  obtain ⟨e1, e2⟩ := mix_yesL sa sb (num := 0) (by omega) (by omega)
  refine ⟨?_, e2⟩
  rw [e1]
  symm
  apply tab_ext ha
  intro i hi
  have := tdiv4_le (nth a i * (4 - 0) + nth b i * 0) (nth a i) (nth a i) (by omega) (by omega)
  unfold mixN
  omega
theorem mix_second {a b : List Int} (hb : b.length = 8) (sa : steadyB a = true) (sb : steadyB b = true) : mixL a b 4 = b ∧ mixE a b 4 = 0 := by
  obtain ⟨e1, e2⟩ := mix_yesL sa sb (num := 4) (by omega) (by omega)
  refine ⟨?_, e2⟩
  rw [e1]
  symm
  apply tab_ext hb
  intro i hi
  have := tdiv4_le (nth a i * (4 - 4) + nth b i * 4) (nth b i) (nth b i) (by omega) (by omega)
  unfold mixN
  omega
theorem mix_self {a : List Int} (ha : a.length = 8) (sa : steadyB a = true) {num : Int} (h0 : 0 ≤ num) (h4 : num ≤ 4) : mixL a a num = a ∧ mixE a a num = 0 := by
  obtain ⟨e1, e2⟩ := mix_yesL sa sa h0 h4
  refine ⟨?_, e2⟩
  rw [e1]
  symm
  apply tab_ext ha
  intro i hi
  have := mixN_between a a num h0 h4 i
  omega
/-- One array, made place by place. -/
def Mem1 (w wr : World) (T : TypeId) (a : List Int) : Prop := Blk wr w.heap.size T a ∧ w.grownBy wr none
theorem Mem1.set {w wr : World} {T : TypeId} {a : List Int} (h : Mem1 w wr T a) (k : Nat) (z : Int) : Mem1 w (wr.setCell ⟨w.heap.size, k, none⟩ (.int .i64 z)) T (a.set k z) :=
  ⟨h.1.set k z, grown_own h.2 (grown_setCell _ ⟨w.heap.size, k, none⟩ _) (by simp)⟩
def PartN (n : Nat) (f : Int → Int) (a : List Int) (k : Nat) (rs : List Int) : Prop := FillN n (fun i => f (nth a i)) k rs ∧ ∀ j, k ≤ j → nth rs j = nth a j
theorem partN_step {n : Nat} {f : Int → Int} {a : List Int} {k : Nat} {rs : List Int} (h : PartN n f a k rs) (hk : k < n) : PartN n f a (k + 1) (rs.set k (f (nth a k))) := by
  refine ⟨fillN_step h.1 hk, fun j hj => ?_⟩
  rw [← h.2 j (by omega)]
  simp [nth, List.getD, List.getElem?_set, show ¬ k = j by omega]
theorem mis_zero (p r : Nat → Int) (hz : ∀ i, 1 ≤ i → r i = 0) (m : Nat) : ∀ i, i ≤ m → mis p r m i = 0
  | 0, _ => rfl
  | i + 1, h => by
    show mis p r m i + _ = 0
    rw [mis_zero p r hz m i (by omega), hz (m - i) (by omega)]
    simp
theorem lev_goes (r : Nat → Int) (hz : ∀ i, 1 ≤ i → r i = 0) : ∀ m, (lev r m).go = true
  | 0 => rfl
  | m + 1 => by
    have h := lev_goes r hz m
    have q : levQ r m (lev r m) = 0 := by
      unfold levQ
      rw [mis_zero _ _ hz _ _ (Nat.le_refl _)]
      simp
    show (levStep r m (lev r m)).go = true
    unfold levStep
    rw [if_pos h, if_pos (by rw [q]; decide)]
def top9 : List Int := [1073741824, 0, 0, 0, 0, 0, 0, 0, 0]
theorem top9_goes : levG top9 = true := by
  have ok : okL top9 = true := by decide
  rw [levG, if_pos ok]
  apply lev_goes
  intro i hi
  match i, hi with
  | 1, _ | 2, _ | 3, _ | 4, _ | 5, _ | 6, _ | 7, _ | 8, _ => rfl
  | i + 9, _ => exact getD_out _ _ (by simp [top9])
theorem prd_nought (k : Nat → Int) (hk : ∀ i, k i = 0) : ∀ m, prd k m = one24
  | 0 => rfl
  | m + 1 => by
    show gr (prd k m) (m + 1) (k m) = one24
    rw [prd_nought k hk m, hk m]
    funext i
    unfold gr
    split <;> simp
theorem dir_nought : dirL (zeros 8) = [4096, 0, 0, 0, 0, 0, 0, 0, 0] := by
  have ok : steadyB (zeros 8) = true := by decide
  rw [dirL, if_pos ok]
  symm
  apply tab_ext rfl
  intro i hi
  unfold dirN
  rw [prd_nought _ (zeros_nth 8)]
  match i, hi with
  | 0, _ | 1, _ | 2, _ | 3, _ | 4, _ | 5, _ | 6, _ | 7, _ | 8, _ => rfl
end Go.Proofs.YtjgdkinnpgiabaaDoor
