/- Plain arithmetic for package pitch: what was spoken a lag ago, the lag that goes best, gains; no Go in sight. -/
import Derived.Test.YtiamknnmgnbkgaaDoorSynthMath
import Derived.Test.YtiamknnmgnbkgaaDoorBtr
namespace Go.Proofs.YtiamknnmgnbkgaaDoor
open Go.RowKit
set_option linter.unusedVariables false
set_option linter.unusedSimpArgs false

/-- The forty that stand a lag ahead of the end. -/
def pasN (h : List Int) (lag i : Nat) : Int := nth h (80 - lag + i % lag)
def pasV (h : List Int) (lag : Nat) : List Int := tab 40 (pasN h lag)
def pasL (h : List Int) (lag : Int) : List Int := if 20 ≤ lag ∧ lag ≤ 79 then pasV h lag.toNat else []
def pasE (lag : Int) : Int := if 20 ≤ lag ∧ lag ≤ 79 then 0 else 2
theorem pasV_len (h : List Int) (lag : Nat) : (pasV h lag).length = 40 := tab_len _ _
theorem pasL_yes (h : List Int) (lag : Nat) (h1 : 20 ≤ lag) (h2 : lag ≤ 79) : pasL h lag = pasV h lag ∧ pasE lag = 0 :=
  ⟨by unfold pasL; rw [if_pos (by omega)]; rfl, by unfold pasE; rw [if_pos (by omega)]⟩
theorem pasV_right (h : List Int) (lag : Nat) (hr : rightB h = true) : rightB (pasV h lag) = true := by
  rw [rightB_iff, pasV_len]
  intro i hi
  unfold pasV
  rw [tab_nth _ _ _ hi]
  exact nth_in _ _ _ (by omega) (by omega) ((rightB_iff h).1 hr) _
theorem pasL_len (h : List Int) (lag : Int) : (pasL h lag).length ≤ 40 := by unfold pasL; split; rw [pasV_len]; exact Nat.le_refl _; simp
/-- A sum of products. -/
def dotS (a b : List Int) (n : Nat) : Int := sumT (fun i => nth a i * nth b i) n
theorem dotS_bd (a b : List Int) (ha : rightB a = true) (hb : rightB b = true) (n : Nat) : -1073741824 * (n : Int) ≤ dotS a b n ∧ dotS a b n ≤ 1073741824 * (n : Int) :=
  sumT_bd _ (fun i => by
    have h1 := nth_in _ _ _ (by omega) (by omega) ((rightB_iff a).1 ha) i
    have h2 := nth_in _ _ _ (by omega) (by omega) ((rightB_iff b).1 hb) i
    exact p16_bd _ _ h1.1 h1.2 h2.1 h2.2) n
theorem sqr_nonneg (x : Int) : 0 ≤ x * x := by
  rcases Int.le_total 0 x with h | h
  · exact Int.mul_nonneg h h
  · exact Int.mul_nonneg_of_nonpos_of_nonpos h h
theorem dotS_self (a : List Int) : ∀ n, 0 ≤ dotS a a n
  | 0 => Int.le_refl _
  | n + 1 => by
    have := dotS_self a n
    have := sqr_nonneg (nth a n)
    show 0 ≤ dotS a a n + nth a n * nth a n
    omega
theorem dotS_congr (a b a' b' : List Int) (n : Nat) (h : ∀ i, i < n → nth a i = nth a' i ∧ nth b i = nth b' i) : dotS a b n = dotS a' b' n :=
  sumT_congr _ _ n (fun i hi => by rw [(h i hi).1, (h i hi).2])
/-- The lag that is kept behind m lags, and its sums. -/
def pkN (C E : Nat → Int) : Nat → Nat × Int × Int
  | 0 => (20, 0, 0)
  | m + 1 => if 0 < C (20 + m) ∧ btr (C (20 + m)) (E (20 + m)) (pkN C E m).2.1 (pkN C E m).2.2 = true then (20 + m, C (20 + m), E (20 + m)) else pkN C E m
theorem pkN_yes (C E : Nat → Int) (m : Nat) (h : 0 < C (20 + m) ∧ btr (C (20 + m)) (E (20 + m)) (pkN C E m).2.1 (pkN C E m).2.2 = true) : pkN C E (m + 1) = (20 + m, C (20 + m), E (20 + m)) := if_pos h
theorem pkN_no (C E : Nat → Int) (m : Nat) (h : ¬(0 < C (20 + m) ∧ btr (C (20 + m)) (E (20 + m)) (pkN C E m).2.1 (pkN C E m).2.2 = true)) : pkN C E (m + 1) = pkN C E m := if_neg h
theorem pkN_lag (C E : Nat → Int) : ∀ m, 20 ≤ (pkN C E m).1 ∧ (pkN C E m).1 < 20 + m + 1 ∧ ((pkN C E m).1 = 20 ∨ (pkN C E m).1 < 20 + m)
  | 0 => ⟨Nat.le_refl _, by show 20 < 20 + 0 + 1; omega, .inl rfl⟩
  | m + 1 => by
    have := pkN_lag C E m
    by_cases h : 0 < C (20 + m) ∧ btr (C (20 + m)) (E (20 + m)) (pkN C E m).2.1 (pkN C E m).2.2 = true
    · rw [pkN_yes C E m h]; show 20 ≤ 20 + m ∧ 20 + m < 20 + (m + 1) + 1 ∧ (20 + m = 20 ∨ 20 + m < 20 + (m + 1)); omega
    · rw [pkN_no C E m h]; omega
/-- Its sums are its own, or noughts. -/
theorem pkN_own (C E : Nat → Int) : ∀ m, ((pkN C E m).2.1 = 0 ∧ (pkN C E m).2.2 = 0) ∨ ((pkN C E m).2.1 = C (pkN C E m).1 ∧ (pkN C E m).2.2 = E (pkN C E m).1 ∧ 0 < (pkN C E m).2.1 ∧ 0 < (pkN C E m).2.2)
  | 0 => .inl ⟨rfl, rfl⟩
  | m + 1 => by
    by_cases h : 0 < C (20 + m) ∧ btr (C (20 + m)) (E (20 + m)) (pkN C E m).2.1 (pkN C E m).2.2 = true
    · rw [pkN_yes C E m h]; exact .inr ⟨rfl, rfl, h.1, btr_pos _ _ _ _ h.2⟩
    · rw [pkN_no C E m h]; exact pkN_own C E m
theorem pkN_bd (C E : Nat → Int) (B : Int) (hB : 0 ≤ B) (hC : ∀ k, C k ≤ B) (hE : ∀ k, E k ≤ B) (m : Nat) : 0 ≤ (pkN C E m).2.1 ∧ (pkN C E m).2.1 ≤ B ∧ 0 ≤ (pkN C E m).2.2 ∧ (pkN C E m).2.2 ≤ B := by
  rcases pkN_own C E m with h | h
  · omega
  · have h1 := hC (pkN C E m).1
    have h2 := hE (pkN C E m).1
    omega
/-- No other lag goes better. -/
theorem pkN_best (C E : Nat → Int) : ∀ m j, j < m → 0 < C (20 + j) → btr (C (20 + j)) (E (20 + j)) (pkN C E m).2.1 (pkN C E m).2.2 = false
  | 0, j, h, _ => by omega
  | m + 1, j, h, hc => by
    by_cases hm : 0 < C (20 + m) ∧ btr (C (20 + m)) (E (20 + m)) (pkN C E m).2.1 (pkN C E m).2.2 = true
    · rw [pkN_yes C E m hm]
      by_cases hj : j = m
      · subst hj; exact btr_irrefl _ _
      · have ih := pkN_best C E m j (by omega) hc
        rcases hb : btr (C (20 + j)) (E (20 + j)) (C (20 + m)) (E (20 + m)) with _ | _
        · rfl
        · rw [btr_trans _ _ _ _ _ _ hb hm.2] at ih; cases ih
    · rw [pkN_no C E m hm]
      by_cases hj : j = m
      · subst hj
        rcases hb : btr (C (20 + j)) (E (20 + j)) (pkN C E j).2.1 (pkN C E j).2.2 with _ | _
        · rfl
        · exact absurd ⟨hc, hb⟩ hm
      · exact pkN_best C E m j (by omega) hc
theorem pkN_congr (C E C' E' : Nat → Int) : ∀ m, (∀ j, j < m → C (20 + j) = C' (20 + j) ∧ E (20 + j) = E' (20 + j)) → pkN C E m = pkN C' E' m
  | 0, _ => rfl
  | m + 1, h => by
    have e := pkN_congr C E C' E' m (fun j hj => h j (by omega))
    obtain ⟨e1, e2⟩ := h m (by omega)
    unfold pkN
    rw [e, e1, e2]
/-- Gains. -/
def gains : List Int := [0, 3277, 6554, 9830, 12452, 14746, 16384, 18022]
def gainN (n : Nat) : Int := gains.getD n 0
theorem gainN_bd (n : Nat) : 0 ≤ gainN n ∧ gainN n ≤ 18022 := by
  by_cases h : n < 8
  · have : ∀ n : Fin 8, 0 ≤ gainN n.val ∧ gainN n.val ≤ 18022 := by decide
    exact this ⟨n, h⟩
  · unfold gainN
    rw [show gains.getD n 0 = nth gains n from rfl, getD_out gains n (by show 8 ≤ n; omega)]
    omega
theorem gainN_rises : ∀ n : Fin 7, gainN n.val < gainN (n.val + 1) := by decide
def gaV (n : Int) : Int := if 0 ≤ n ∧ n ≤ 7 then gainN n.toNat else 0
def gaE (n : Int) : Int := if 0 ≤ n ∧ n ≤ 7 then 0 else 2
/-- The nearest gain: the greatest n whose middle below is passed. -/
def neN (c e : Int) : Nat → Nat
  | 0 => 0
  | n + 1 => if n + 1 < 8 ∧ (gainN (n + 1) + gainN n) * e < 2 * 16384 * c then n + 1 else neN c e n
def cap40 (x : Int) : Int := if 1099511627776 < x then 1099511627776 else x
def neV (c e : Int) : Int := if c ≤ 0 ∨ e ≤ 0 then 0 else (neN (cap40 c) (cap40 e) 7 : Int)
theorem cap40_bd (x : Int) (h : 0 < x) : 0 < cap40 x ∧ cap40 x ≤ 1099511627776 := by unfold cap40; split <;> omega
theorem neN_le (c e : Int) : ∀ n, neN c e n ≤ n
  | 0 => Nat.le_refl _
  | n + 1 => by
    have := neN_le c e n
    unfold neN
    split <;> omega
theorem neN_lt (c e : Int) : ∀ n, neN c e n < 8
  | 0 => by show 0 < 8; omega
  | n + 1 => by
    have := neN_lt c e n
    unfold neN
    split <;> omega
theorem neN_spec (c e : Int) : ∀ m, m ≤ 7 → (neN c e m = 0 ∨ (gainN (neN c e m) + gainN (neN c e m - 1)) * e < 2 * 16384 * c) ∧ ∀ n, neN c e m < n → n ≤ m → 2 * 16384 * c ≤ (gainN n + gainN (n - 1)) * e
  | 0, _ => ⟨.inl rfl, fun n h1 h2 => by omega⟩
  | m + 1, hm => by
    obtain ⟨i1, i2⟩ := neN_spec c e m (by omega)
    by_cases h : m + 1 < 8 ∧ (gainN (m + 1) + gainN m) * e < 2 * 16384 * c
    · rw [show neN c e (m + 1) = m + 1 from if_pos h]
      exact ⟨.inr h.2, fun n h1 h2 => by omega⟩
    · rw [show neN c e (m + 1) = neN c e m from if_neg h]
      refine ⟨i1, fun n h1 h2 => ?_⟩
      by_cases hn : n = m + 1
      · subst hn
        rw [show m + 1 - 1 = m by omega]
        have : ¬ (gainN (m + 1) + gainN m) * e < 2 * 16384 * c := fun x => h ⟨by omega, x⟩
        omega
      · exact i2 n h1 (by omega)
theorem gainN_mono (a b : Nat) (h : a ≤ b) (hb : b ≤ 7) : gainN a ≤ gainN b := by
  have : ∀ a b : Fin 8, a.val ≤ b.val → gainN a.val ≤ gainN b.val := by decide
  exact this ⟨a, by omega⟩ ⟨b, by omega⟩ h
/-- No gain is nearer. -/
theorem near_best (c e : Int) (he : 0 < e) (n : Nat) (hn : n ≤ 7) : ∃ X Y : Int, X = gainN (neN c e 7) * e - 16384 * c ∧ Y = gainN n * e - 16384 * c ∧ (X ≤ Y ∨ X ≤ -Y) ∧ (-X ≤ Y ∨ -X ≤ -Y) := by
  refine ⟨_, _, rfl, rfl, ?_⟩
  obtain ⟨h1, h2⟩ := neN_spec c e 7 (Nat.le_refl _)
  have hk := neN_lt c e 7
  generalize neN c e 7 = k at *
  rcases Nat.lt_trichotomy n k with h | h | h
  · rcases h1 with h1 | h1
    · omega
    · have m1 : gainN n ≤ gainN (k - 1) := gainN_mono _ _ (by omega) (by omega)
      have m2 : gainN n ≤ gainN k := gainN_mono _ _ (by omega) (by omega)
      have p1 : 0 ≤ (gainN (k - 1) - gainN n) * e := Int.mul_nonneg (by omega) (by omega)
      have p2 : 0 ≤ (gainN k - gainN n) * e := Int.mul_nonneg (by omega) (by omega)
      rw [Int.sub_mul] at p1 p2
      rw [Int.add_mul] at h1
      generalize gainN k * e = K at *
      generalize gainN (k - 1) * e = K' at *
      generalize gainN n * e = M at *
      omega
  · subst h
    generalize gainN n * e = M at *
    omega
  · have q := h2 (k + 1) (by omega) (by omega)
    rw [show k + 1 - 1 = k by omega] at q
    have m1 : gainN (k + 1) ≤ gainN n := gainN_mono _ _ (by omega) (by omega)
    have m2 : gainN k ≤ gainN n := gainN_mono _ _ (by omega) (by omega)
    have p1 : 0 ≤ (gainN n - gainN (k + 1)) * e := Int.mul_nonneg (by omega) (by omega)
    have p2 : 0 ≤ (gainN n - gainN k) * e := Int.mul_nonneg (by omega) (by omega)
    rw [Int.sub_mul] at p1 p2
    rw [Int.add_mul] at q
    generalize gainN k * e = K at *
    generalize gainN (k + 1) * e = K' at *
    generalize gainN n * e = M at *
    omega
end Go.Proofs.YtiamknnmgnbkgaaDoor
