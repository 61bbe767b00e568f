/- Plain arithmetic of numbers as lists of 32-bit words, the least first: no Go in sight. -/
namespace Go.Proofs.YtjgdkinnpgiabaaDoor

/-- Word i, 0 beyond the end. -/
def nth (l : List Int) (i : Nat) : Int := l.getD i 0
/-- The weight of word k. -/
def P (k : Nat) : Int := 4294967296 ^ k
theorem P_zero : P 0 = 1 := rfl
theorem P_succ (k : Nat) : P (k + 1) = P k * 4294967296 := Int.pow_succ _ _
theorem P_pos (k : Nat) : 0 < P k := Int.pow_pos (by decide)
theorem P_add (j k : Nat) : P (j + k) = P j * P k := Int.pow_add _ _ _
/-- The number in the lowest k words. -/
def valTo (l : List Int) : Nat → Int
  | 0 => 0
  | k + 1 => valTo l k + nth l k * P k
def val (l : List Int) : Int := valTo l l.length
/-- Each word has 32 bits. -/
def WF (l : List Int) : Prop := ∀ i, 0 ≤ nth l i ∧ nth l i < 4294967296
/-- No nought at the upper end. -/
def Top (l : List Int) : Prop := l = [] ∨ nth l (l.length - 1) ≠ 0

theorem getD_out (l : List Int) (k : Nat) (h : l.length ≤ k) : nth l k = 0 := by simp [nth, List.getD, List.getElem?_eq_none h]
theorem valTo_all (l : List Int) (k : Nat) (h : l.length ≤ k) : valTo l k = val l := by
  obtain ⟨d, rfl⟩ : ∃ d, k = l.length + d := ⟨k - l.length, by omega⟩
  induction d with
  | zero => rfl
  | succ d ih =>
    rw [← Nat.add_assoc, valTo, ih (by omega), getD_out l _ (by omega)]; omega
theorem valTo_congr (l m : List Int) (k : Nat) (h : ∀ i, i < k → nth l i = nth m i) : valTo l k = valTo m k := by
  induction k with
  | zero => rfl
  | succ k ih => rw [valTo, valTo, ih (fun i hi => h i (by omega)), h k (by omega)]
theorem valTo_bd (l : List Int) (h : WF l) (k : Nat) : 0 ≤ valTo l k ∧ valTo l k < P k := by
  induction k with
  | zero => exact ⟨Int.le_refl _, (by decide : (0 : Int) < 1)⟩
  | succ k ih =>
    obtain ⟨h1, h2⟩ := h k
    rw [valTo, P_succ]
    have hp := P_pos k
    have e1 : 0 ≤ nth l k * P k := Int.mul_nonneg h1 (by omega)
    have e2 : nth l k * P k ≤ 4294967295 * P k := Int.mul_le_mul_of_nonneg_right (by omega) (by omega)
    generalize nth l k * P k = z at *
    omega
theorem val_bd (l : List Int) (h : WF l) : 0 ≤ val l ∧ val l < P l.length := valTo_bd l h _
theorem P_mono (j k : Nat) (h : j ≤ k) : P j ≤ P k := by
  obtain ⟨d, rfl⟩ : ∃ d, k = j + d := ⟨k - j, by omega⟩
  induction d with
  | zero => exact Int.le_refl _
  | succ d ih => rw [← Nat.add_assoc, P_succ]; have := P_pos (j + d); have := ih (by omega); omega
theorem val_ge (l : List Int) (h : WF l) (ht : Top l) (h0 : l ≠ []) : P (l.length - 1) ≤ val l := by
  rcases ht with ht | ht
  · exact absurd ht h0
  · have hl : 0 < l.length := List.length_pos_iff.2 h0
    unfold val
    obtain ⟨k, hk⟩ : ∃ k, l.length = k + 1 := ⟨l.length - 1, by omega⟩
    rw [hk, Nat.add_sub_cancel] at ht
    rw [hk, valTo, Nat.add_sub_cancel]
    have := (valTo_bd l h k).1
    have h1 := h k
    have e : 1 * P k ≤ nth l k * P k := Int.mul_le_mul_of_nonneg_right (by omega) (by have := P_pos k; omega)
    omega
/-- A number below 2^(32 n) has at most n words. -/
theorem len_le (l : List Int) (h : WF l) (ht : Top l) (n : Nat) (hv : val l < P n) : l.length ≤ n := by
  by_cases h0 : l = []
  · subst h0; simp
  · have := val_ge l h ht h0
    by_cases hn : l.length ≤ n
    · exact hn
    · have := P_mono n (l.length - 1) (by omega); omega
theorem val_nil : val [] = 0 := rfl
theorem val_zero (l : List Int) (h : WF l) (ht : Top l) (hv : val l = 0) : l = [] := by
  by_cases h0 : l = []
  · exact h0
  · have := val_ge l h ht h0; have := P_pos (l.length - 1); omega
theorem take_getD (l : List Int) (k i : Nat) : nth (l.take k) i = if i < k then nth l i else 0 := by
  simp only [nth, List.getD, List.getElem?_take]; split <;> simp
/-- What trim does: noughts at the upper end go. -/
theorem trim_math (l : List Int) (h : WF l) (k : Nat) (hk : k ≤ l.length) (hz : ∀ i, k ≤ i → i < l.length → nth l i = 0) (ht : k = 0 ∨ nth l (k - 1) ≠ 0) :
    WF (l.take k) ∧ Top (l.take k) ∧ val (l.take k) = val l ∧ (l.take k).length = k := by
  have hl : (l.take k).length = k := by rw [List.length_take]; omega
  refine ⟨fun i => ?_, ?_, ?_, hl⟩
  · rw [take_getD]; have := h i; split <;> omega
  · rcases ht with ht | ht
    · left; subst ht; rfl
    · by_cases h0 : k = 0
      · left; subst h0; rfl
      · right; rw [hl, take_getD, if_pos (by omega)]; exact ht
  · have e1 : val (l.take k) = valTo l k := by
      unfold val; rw [hl]
      exact valTo_congr _ _ _ (fun i hi => by rw [take_getD, if_pos hi])
    rw [e1]
    have : ∀ d, k + d ≤ l.length → valTo l (k + d) = valTo l k := by
      intro d
      induction d with
      | zero => intro _; rfl
      | succ d ih => intro hd; rw [← Nat.add_assoc, valTo, ih (by omega), hz (k + d) (by omega) (by omega)]; omega
    have := this (l.length - k) (by omega)
    rw [show k + (l.length - k) = l.length by omega] at this
    exact this.symm
theorem set_getD (l : List Int) (k i : Nat) (v : Int) (hk : k < l.length) : nth (l.set k v) i = if i = k then v else nth l i := by
  simp only [nth, List.getD, List.getElem?_set]
  by_cases h : k = i
  · subst h; simp [hk]
  · have h' : ¬ i = k := fun e => h e.symm
    simp [h, h']
theorem WF_set (l : List Int) (k : Nat) (v : Int) (h : WF l) (hk : k < l.length) (h1 : 0 ≤ v) (h2 : v < 4294967296) : WF (l.set k v) := by
  intro i; rw [set_getD l k i v hk]; have := h i; split <;> omega
theorem WF_zeros (n : Nat) : WF (List.replicate n 0) := by
  intro i; simp only [nth, List.getD, List.getElem?_replicate]; split <;> simp
theorem getD_zeros (n i : Nat) : nth (List.replicate n (0 : Int)) i = 0 := by
  simp only [nth, List.getD, List.getElem?_replicate]; split <;> simp
theorem valTo_zeros (n k : Nat) : valTo (List.replicate n 0) k = 0 := by
  induction k with
  | zero => rfl
  | succ k ih => rw [valTo, ih, getD_zeros]; omega
theorem WF_nil : WF [] := fun i => by simp [nth]
theorem Top_nil : Top [] := Or.inl rfl
theorem WF2 (a b : Int) (h1 : 0 ≤ a) (h2 : a < 4294967296) (h3 : 0 ≤ b) (h4 : b < 4294967296) : WF [a, b] := by
  intro i
  match i with
  | 0 => exact ⟨h1, h2⟩
  | 1 => exact ⟨h3, h4⟩
  | i + 2 => simp [nth]
theorem val2 (a b : Int) : val [a, b] = a + b * 4294967296 := by
  show 0 + a * P 0 + b * P 1 = _
  have : P 1 = 4294967296 := rfl
  rw [this, P_zero]; omega
/-- Comparing from the top: where the upper words are the same and word k differs, it decides. -/
theorem cmp_math (a b : List Int) (ha : WF a) (hb : WF b) (n k : Nat) (hk : k < n) (hs : ∀ i, k < i → i < n → nth a i = nth b i) (hlt : nth a k < nth b k) : valTo a n < valTo b n := by
  obtain ⟨d, rfl⟩ : ∃ d, n = k + 1 + d := ⟨n - (k + 1), by omega⟩
  clear hk
  induction d with
  | zero =>
    show valTo a k + _ < valTo b k + _
    have h1 := valTo_bd a ha k
    have h2 := valTo_bd b hb k
    have e : (nth a k + 1) * P k ≤ nth b k * P k := Int.mul_le_mul_of_nonneg_right (by omega) (by have := P_pos k; omega)
    rw [Int.add_mul] at e
    omega
  | succ d ih =>
    rw [← Nat.add_assoc, valTo, valTo]
    have := ih (fun i h1 h2 => hs i h1 (by omega))
    rw [hs (k + 1 + d) (by omega) (by omega)]
    omega
theorem cmp_same (a b : List Int) (n : Nat) (hs : ∀ i, i < n → nth a i = nth b i) : valTo a n = valTo b n := valTo_congr a b n hs
theorem cmp_short (a b : List Int) (ha : WF a) (hb : WF b) (ht : Top b) (h : a.length < b.length) : val a < val b := by
  have h1 := (val_bd a ha).2
  have h2 := val_ge b hb ht (by intro e; subst e; simp at h)
  have := P_mono a.length (b.length - 1) (by omega)
  omega
/-- n bits are just enough for z. -/
def Bits (z : Int) (n : Nat) : Prop := z < 2 ^ n ∧ (z = 0 → n = 0) ∧ (0 < z → 1 ≤ n ∧ 2 ^ (n - 1) ≤ z)
end Go.Proofs.YtjgdkinnpgiabaaDoor
