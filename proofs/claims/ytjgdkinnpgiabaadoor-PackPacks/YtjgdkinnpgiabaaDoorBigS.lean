/- Plain arithmetic of 'right': the words of a number moved to the right. -/
import Derived.Test.YtjgdkinnpgiabaaDoorBigMath
namespace Go.Proofs.YtjgdkinnpgiabaaDoor

theorem val_split (l : List Int) (h : WF l) (k : Nat) : ∃ V : Int, 0 ≤ V ∧ val l = valTo l k + P k * V := by
  by_cases hk : l.length ≤ k
  · exact ⟨0, by omega, by rw [valTo_all l k hk]; omega⟩
  · have key : ∀ d, ∃ V : Int, 0 ≤ V ∧ valTo l (k + d) = valTo l k + P k * V := by
      intro d
      induction d with
      | zero => exact ⟨0, by omega, by simp⟩
      | succ d ih =>
        obtain ⟨V, v0, hv⟩ := ih
        refine ⟨V + nth l (k + d) * P d, ?_, ?_⟩
        · have := Int.mul_nonneg (h (k + d)).1 (Int.le_of_lt (P_pos d)); omega
        · rw [← Nat.add_assoc, valTo, hv, P_add, Int.mul_add, Int.mul_left_comm (P k)]
          omega
    obtain ⟨V, v0, hv⟩ := key (l.length - k)
    refine ⟨V, v0, ?_⟩
    rw [show k + (l.length - k) = l.length by omega] at hv
    exact hv
/-- What stands from word k on. -/
def upper (l : List Int) (k : Nat) : Int := val l / P k
theorem upper_split (l : List Int) (h : WF l) (k : Nat) : val l = valTo l k + P k * upper l k ∧ 0 ≤ upper l k := by
  obtain ⟨V, v0, hv⟩ := val_split l h k
  obtain ⟨b0, b1⟩ := valTo_bd l h k
  have : upper l k = V := by
    unfold upper
    rw [hv, Int.add_mul_ediv_left _ _ (by have := P_pos k; omega), Int.ediv_eq_zero_of_lt b0 b1]
    omega
  rw [this]; exact ⟨hv, v0⟩
theorem upper_digit (l : List Int) (h : WF l) (k : Nat) : upper l k = nth l k + 4294967296 * upper l (k + 1) := by
  obtain ⟨h1, _⟩ := upper_split l h k
  obtain ⟨h2, _⟩ := upper_split l h (k + 1)
  rw [valTo, P_succ] at h2
  have e : P k * upper l k = P k * (nth l k + 4294967296 * upper l (k + 1)) := by
    rw [Int.mul_add, ← Int.mul_assoc, Int.mul_comm (P k) (nth l k)]
    omega
  exact Int.eq_of_mul_eq_mul_left (by have := P_pos k; omega) e
theorem upper_add (l : List Int) (j k : Nat) : upper l j / P k = upper l (j + k) := by
  unfold upper
  rw [P_add, Int.ediv_ediv_of_nonneg (Int.le_of_lt (P_pos j))]
theorem upper_zero (l : List Int) (k : Nat) (h : WF l) (hk : l.length ≤ k) : upper l k = 0 := by
  have := val_bd l h
  have := P_mono _ _ hk
  unfold upper
  exact Int.ediv_eq_zero_of_lt (by omega) (by omega)
/-- 32 bits out of two words: the words above them make no difference. -/
theorem two_words (a b T : Int) (s : Nat) (hs : s < 32) : (a + 4294967296 * (b + 4294967296 * T)) / 2 ^ s % 4294967296 = (a + b * 4294967296) / 2 ^ s % 4294967296 := by
  have e : (4294967296 : Int) = 2 ^ s * 2 ^ (32 - s) := by rw [← Int.pow_add, show s + (32 - s) = 32 by omega]; rfl
  have hp : (2 : Int) ^ s ≠ 0 := by have : (0 : Int) < 2 ^ s := Int.pow_pos (by decide); omega
  have e1 : a + 4294967296 * (b + 4294967296 * T) = (a + b * 4294967296) + 2 ^ s * (2 ^ (32 - s) * (4294967296 * T)) := by
    rw [← Int.mul_assoc (2 ^ s), ← e, Int.mul_add, Int.mul_comm b]
    omega
  rw [e1, Int.add_mul_ediv_left _ _ hp, ← Int.mul_assoc, Int.mul_comm (2 ^ (32 - s)), Int.mul_assoc, Int.add_mul_emod_self_left]
/-- The words behind k rounds of 'right'. -/
def RightAt (l : List Int) (q s k : Nat) (rs : List Int) : Prop :=
  rs.length = l.length - q ∧ WF rs ∧ valTo rs k = upper l q / 2 ^ s % P k ∧ ∀ j, k ≤ j → nth rs j = 0
theorem right_start (l : List Int) (q s : Nat) : RightAt l q s 0 (List.replicate (l.length - q) 0) :=
  ⟨by simp, WF_zeros _, by rw [P_zero, Int.emod_one]; rfl, fun j _ => getD_zeros _ _⟩
theorem right_round (l : List Int) (q s k : Nat) (rs : List Int) (hl : WF l) (hs : s < 32) (hk : k < l.length - q) (h : RightAt l q s k rs) (v : Int) (hv : v = (nth l (k + q) + nth l (k + q + 1) * 4294967296) / 2 ^ s % 4294967296) :
    RightAt l q s (k + 1) (rs.set k v) := by
  obtain ⟨h1, h2, h3, h4⟩ := h
  have nn : ∀ i, nth (rs.set k v) i = if i = k then v else nth rs i := fun i => set_getD _ _ _ _ (by omega)
  have v0 : 0 ≤ v ∧ v < 4294967296 := by rw [hv]; exact ⟨Int.emod_nonneg _ (by decide), Int.emod_lt_of_pos _ (by decide)⟩
  refine ⟨by simp; omega, WF_set _ _ _ h2 (by omega) v0.1 v0.2, ?_, fun j hj => by rw [nn, if_neg (by omega)]; exact h4 j (by omega)⟩
  rw [valTo, nn, if_pos rfl, valTo_congr _ rs k (fun i hi => by rw [nn, if_neg (by omega)]), h3, P_succ]
  have d1 := upper_digit l hl (q + k)
  have d2 := upper_digit l hl (q + k + 1)
  rw [d2] at d1
  have hp : (0 : Int) ≤ 2 ^ s := Int.le_of_lt (Int.pow_pos (by decide))
  have e1 : upper l q / 2 ^ s / P k % 4294967296 = v := by
    rw [Int.ediv_ediv_of_nonneg hp, Int.mul_comm, ← Int.ediv_ediv_of_nonneg (Int.le_of_lt (P_pos k)), upper_add, d1, two_words _ _ _ s hs, hv, Nat.add_comm q k]
  have e2 : upper l q / 2 ^ s % (P k * 4294967296) = upper l q / 2 ^ s % P k + P k * (upper l q / 2 ^ s / P k % 4294967296) := by
    have a1 := Int.emod_add_mul_ediv (upper l q / 2 ^ s) (P k)
    have a2 := Int.emod_add_mul_ediv (upper l q / 2 ^ s / P k) 4294967296
    have b1 := Int.emod_nonneg (upper l q / 2 ^ s) (b := P k) (by have := P_pos k; omega)
    have b2 := Int.emod_lt_of_pos (upper l q / 2 ^ s) (P_pos k)
    generalize upper l q / 2 ^ s = H at *
    generalize H % P k = r at *
    generalize hD : H / P k = D at *
    have c1 := Int.emod_nonneg D (b := 4294967296) (by decide)
    have c2 := Int.emod_lt_of_pos D (b := 4294967296) (by decide)
    generalize D % 4294967296 = d at *
    have e3 : H = (r + P k * d) + (P k * 4294967296) * (D / 4294967296) := by
      rw [Int.mul_assoc]
      have : P k * D = P k * d + P k * (4294967296 * (D / 4294967296)) := by rw [← Int.mul_add, a2]
      omega
    rw [e3, Int.add_mul_emod_self_left]
    refine Int.emod_eq_of_lt ?_ ?_
    · have := Int.mul_nonneg (Int.le_of_lt (P_pos k)) c1; omega
    · have : P k * d ≤ P k * 4294967295 := Int.mul_le_mul_of_nonneg_left (by omega) (Int.le_of_lt (P_pos k))
      omega
  rw [e2, e1, Int.mul_comm v]
theorem right_end (l : List Int) (q s : Nat) (rs : List Int) (hl : WF l) (hq : q ≤ l.length) (h : RightAt l q s (l.length - q) rs) : WF rs ∧ val rs = val l / (P q * 2 ^ s) ∧ rs.length = l.length - q := by
  obtain ⟨h1, h2, h3, h4⟩ := h
  refine ⟨h2, ?_, h1⟩
  rw [← valTo_all rs (l.length - q) (by omega), h3]
  have hu : upper l q < P (l.length - q) := by
    have h5 := upper_split l hl q
    have h6 := (val_bd l hl).2
    have h7 := (valTo_bd l hl q).1
    have e : P l.length = P q * P (l.length - q) := by rw [← P_add, show q + (l.length - q) = l.length by omega]
    rw [e] at h6
    exact Int.lt_of_mul_lt_mul_left (a := P q) (by omega) (Int.le_of_lt (P_pos q))
  have hp : (1 : Int) ≤ 2 ^ s := by have : (0 : Int) < 2 ^ s := Int.pow_pos (by decide); omega
  have h0 := (upper_split l hl q).2
  have h8 : upper l q / 2 ^ s ≤ upper l q := Int.ediv_le_self _ h0
  rw [Int.emod_eq_of_lt (Int.ediv_nonneg h0 (by omega)) (by omega)]
  unfold upper
  rw [Int.ediv_ediv_of_nonneg (Int.le_of_lt (P_pos q))]
end Go.Proofs.YtjgdkinnpgiabaaDoor
