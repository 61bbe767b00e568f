/- Plain arithmetic for package pack: a packet's numbers as one long number and as bytes, and back; no Go in sight. -/
import Derived.Test.YtjgdkinnpgiabaaDoorLevMath
namespace Go.Proofs.YtjgdkinnpgiabaaDoor
open Go.RowKit
set_option linter.unusedVariables false
set_option linter.unusedSimpArgs false

/-- Bits of the numbers, what they may be at most, where they begin. -/
def wdP : List Nat := [2, 6, 6, 5, 5, 4, 4, 3, 3, 6, 3, 4, 4, 4, 4, 4, 5, 6, 3, 4, 4, 4, 4, 4, 5]
def wdN (i : Nat) : Nat := wdP.getD i 0
def moP : List Int := [2, 63, 63, 31, 31, 15, 15, 7, 7, 59, 7, 9, 9, 9, 9, 15, 31, 59, 7, 9, 9, 9, 9, 15, 31]
def moN (i : Nat) : Int := moP.getD i 0
def sW : Nat → Nat
  | 0 => 0
  | i + 1 => sW i + wdN i
theorem sW25 : sW 25 = 106 := by decide
theorem sW_le (i : Nat) (h : i ≤ 25) : sW i ≤ 106 := by
  have : ∀ i : Fin 26, sW i.val ≤ 106 := by decide
  exact this ⟨i, by omega⟩
theorem wdN_le (i : Nat) (h : i < 25) : 2 ≤ wdN i ∧ wdN i ≤ 6 := by
  have : ∀ i : Fin 25, 2 ≤ wdN i.val ∧ wdN i.val ≤ 6 := by decide
  exact this ⟨i, h⟩
theorem moN_lt (i : Nat) (h : i < 25) : 0 ≤ moN i ∧ moN i < 2 ^ wdN i ∧ moN i ≤ 63 := by
  have : ∀ i : Fin 25, 0 ≤ moN i.val ∧ moN i.val < 2 ^ wdN i.val ∧ moN i.val ≤ 63 := by decide
  exact this ⟨i, h⟩
theorem p2_pos (k : Nat) : (0 : Int) < 2 ^ k := Int.pow_pos (by decide)
def goodB (l : List Int) : Bool := (List.range 25).all fun i => decide (0 ≤ nth l i) && decide (nth l i ≤ moN i)
theorem goodB_iff (l : List Int) : goodB l = true ↔ ∀ i, i < 25 → 0 ≤ nth l i ∧ nth l i ≤ moN i := by
  unfold goodB
  rw [List.all_eq_true]
  constructor
  · intro h i hi
    have := h i (List.mem_range.2 hi)
    simpa using this
  · intro h i hi
    have := h i (List.mem_range.1 hi)
    simpa using this
theorem goodB_no (l : List Int) (i : Nat) (h : i < 25) (hn : ¬ (0 ≤ nth l i ∧ nth l i ≤ moN i)) : goodB l = false := by
  rcases hb : goodB l with _ | _
  · rfl
  · exact absurd ((goodB_iff l).1 hb i h) hn
/-- The first i numbers' bits one behind the other. -/
def nF (l : List Int) : Nat → Int
  | 0 => 0
  | i + 1 => nF l i * 2 ^ wdN i + nth l i
theorem nF_bd (l : List Int) (h : goodB l = true) : ∀ i, i ≤ 25 → 0 ≤ nF l i ∧ nF l i < 2 ^ sW i
  | 0, _ => ⟨Int.le_refl _, by show (0 : Int) < 2 ^ 0; decide⟩
  | i + 1, hi => by
    obtain ⟨h1, h2⟩ := nF_bd l h i (by omega)
    obtain ⟨g1, g2⟩ := (goodB_iff l).1 h i (by omega)
    obtain ⟨m1, m2, m3⟩ := moN_lt i (by omega)
    have hp := p2_pos (wdN i)
    have e1 : 0 ≤ nF l i * 2 ^ wdN i := Int.mul_nonneg h1 (Int.le_of_lt hp)
    have e2 : (nF l i + 1) * 2 ^ wdN i ≤ 2 ^ sW i * 2 ^ wdN i := Int.mul_le_mul_of_nonneg_right (by omega) (Int.le_of_lt hp)
    rw [Int.add_mul, ← Int.pow_add] at e2
    show 0 ≤ nF l i * 2 ^ wdN i + nth l i ∧ nF l i * 2 ^ wdN i + nth l i < 2 ^ (sW i + wdN i)
    omega
/-- Bits that are set, and their parity. -/
def bitS (x : Int) : Nat → Int
  | 0 => 0
  | k + 1 => bitS x k + x / 2 ^ k % 2
theorem bitS_bd (x : Int) : ∀ k : Nat, 0 ≤ bitS x k ∧ bitS x k ≤ k
  | 0 => ⟨Int.le_refl _, Int.le_refl _⟩
  | k + 1 => by
    have := bitS_bd x k
    show 0 ≤ bitS x k + x / 2 ^ k % 2 ∧ bitS x k + x / 2 ^ k % 2 ≤ ((k + 1 : Nat) : Int)
    generalize x / 2 ^ k = y
    omega
def pS (x : Int) : Int := if 0 < x then bitS x 63 else 0
theorem pS_bd (x : Int) : 0 ≤ pS x ∧ pS x ≤ 63 := by
  unfold pS
  split
  · exact bitS_bd x 63
  · omega
def parL (l : List Int) : Int := (pS (nth l 0) + pS (nth l 9) + pS (nth l 17)) % 2
theorem parL_bd (l : List Int) : 0 ≤ parL l ∧ parL l < 2 := by unfold parL; omega
/-- The long number: all numbers, the parity, five noughts. -/
def numP (l : List Int) : Int := (nF l 25 * 2 + parL l) * 32
theorem numP_bd (l : List Int) (h : goodB l = true) : 0 ≤ numP l ∧ numP l < 5192296858534827628530496329220096 := by
  obtain ⟨h1, h2⟩ := nF_bd l h 25 (Nat.le_refl _)
  obtain ⟨h3, h4⟩ := parL_bd l
  rw [sW25, show (2 : Int) ^ 106 = 81129638414606681695789005144064 by decide] at h2
  unfold numP
  omega
/-- Byte k of fourteen. -/
def byN (x : Int) (k : Nat) : Int := x / 256 ^ (13 - k) % 256
theorem byN_bd (x : Int) (k : Nat) : 0 ≤ byN x k ∧ byN x k < 256 := by unfold byN; omega
def sumB (b : List Int) : Nat → Int
  | 0 => 0
  | i + 1 => sumB b i + nth b i
def byB (b : List Int) : Prop := ∀ i, 0 ≤ nth b i ∧ nth b i < 256
theorem sumB_bd (b : List Int) (h : byB b) : ∀ n : Nat, 0 ≤ sumB b n ∧ sumB b n ≤ 256 * (n : Int)
  | 0 => ⟨Int.le_refl _, Int.le_refl _⟩
  | n + 1 => by
    have := sumB_bd b h n
    have := h n
    show 0 ≤ sumB b n + nth b n ∧ sumB b n + nth b n ≤ 256 * ((n + 1 : Nat) : Int)
    omega
theorem sumB_congr (a b : List Int) : ∀ n : Nat, (∀ i, i < n → nth a i = nth b i) → sumB a n = sumB b n
  | 0, _ => rfl
  | n + 1, h => by
    show sumB a n + nth a n = sumB b n + nth b n
    rw [sumB_congr a b n (fun i hi => h i (by omega)), h n (by omega)]
/-- The sum byte of the first n bytes. -/
def chN (b : List Int) (n : Nat) : Int := (90 + sumB b n) % 256
def pkL (x : Int) : List Int := tab 14 (byN x)
theorem pkL_len (x : Int) : (pkL x).length = 14 := tab_len _ _
theorem pkL_nth (x : Int) (i : Nat) (h : i < 14) : nth (pkL x) i = byN x i := tab_nth _ _ _ h
theorem pkL_by (x : Int) : byB (pkL x) := fun i => by
  by_cases h : i < 14
  · rw [pkL_nth x i h]; exact byN_bd x i
  · rw [getD_out _ i (by rw [pkL_len]; omega)]; omega
def pkA (l : List Int) : List Int := pkL (numP l) ++ [chN (pkL (numP l)) 14]
def pkR (l : List Int) : List Int := if goodB l = true then pkA l else []
def pkE (l : List Int) : Int := if goodB l = true then 0 else 2
theorem pkA_len (l : List Int) : (pkA l).length = 15 := by unfold pkA; rw [List.length_append, pkL_len]; rfl
theorem pkA_lo (l : List Int) (i : Nat) (h : i < 14) : nth (pkA l) i = byN (numP l) i := by
  have e : nth (pkA l) i = nth (pkL (numP l)) i := by
    unfold pkA
    simp [nth, List.getD, List.getElem?_append, pkL_len, h]
  rw [e, pkL_nth _ _ h]
theorem pkA_hi (l : List Int) : nth (pkA l) 14 = chN (pkA l) 14 := by
  have e : nth (pkA l) 14 = chN (pkL (numP l)) 14 := by
    unfold pkA
    simp [nth, List.getD, List.getElem?_append, pkL_len]
  rw [e]
  unfold chN
  rw [sumB_congr (pkA l) (pkL (numP l)) 14 (fun i hi => by rw [pkA_lo l i hi, pkL_nth _ _ hi])]
theorem pkA_by (l : List Int) : byB (pkA l) := fun i => by
  rcases Nat.lt_trichotomy i 14 with h | h | h
  · rw [pkA_lo l i h]; exact byN_bd _ _
  · subst h; rw [pkA_hi]; unfold chN; omega
  · rw [getD_out _ i (by rw [pkA_len]; omega)]; omega
/-- The first i bytes as a number. -/
def xB (b : List Int) : Nat → Int
  | 0 => 0
  | i + 1 => xB b i * 256 + nth b i
theorem xB_congr (a b : List Int) : ∀ n : Nat, (∀ i, i < n → nth a i = nth b i) → xB a n = xB b n
  | 0, _ => rfl
  | n + 1, h => by
    show xB a n * 256 + nth a n = xB b n * 256 + nth b n
    rw [xB_congr a b n (fun i hi => h i (by omega)), h n (by omega)]
theorem xB_bd (b : List Int) (h : byB b) : ∀ i : Nat, 0 ≤ xB b i ∧ xB b i < 256 ^ i
  | 0 => ⟨Int.le_refl _, by show (0 : Int) < 256 ^ 0; decide⟩
  | i + 1 => by
    have h1 := xB_bd b h i
    have h2 := h i
    show 0 ≤ xB b i * 256 + nth b i ∧ xB b i * 256 + nth b i < 256 ^ (i + 1)
    rw [Int.pow_succ]
    generalize (256 : Int) ^ i = z at *
    omega
theorem p256_pos (k : Nat) : (0 : Int) < 256 ^ k := Int.pow_pos (by decide)
theorem xB_pk (x : Int) (h0 : 0 ≤ x) (h1 : x < 256 ^ 14) : ∀ i : Nat, i ≤ 14 → xB (pkL x) i = x / 256 ^ (14 - i)
  | 0, _ => by
    show (0 : Int) = x / 256 ^ 14
    rw [Int.ediv_eq_zero_of_lt h0 h1]
  | i + 1, hi => by
    show xB (pkL x) i * 256 + nth (pkL x) i = _
    rw [xB_pk x h0 h1 i (by omega), pkL_nth x i (by omega)]
    unfold byN
    rw [show 14 - i = (13 - i) + 1 by omega, show 14 - (i + 1) = 13 - i by omega, Int.pow_succ, ← Int.ediv_ediv_of_nonneg (Int.le_of_lt (p256_pos _))]
    generalize x / 256 ^ (13 - i) = z
    omega
theorem xB_div (b : List Int) (h : byB b) : ∀ d i : Nat, i + d = 14 → xB b 14 / 256 ^ d = xB b i
  | 0, i, e => by
    obtain rfl : i = 14 := by omega
    rw [show (256 : Int) ^ 0 = 1 from rfl, Int.ediv_one]
  | d + 1, i, e => by
    have := xB_div b h d (i + 1) (by omega)
    have hb := h i
    rw [Int.pow_succ, ← Int.ediv_ediv_of_nonneg (Int.le_of_lt (p256_pos _)), this]
    show (xB b i * 256 + nth b i) / 256 = xB b i
    omega
theorem byN_xB (b : List Int) (h : byB b) (k : Nat) (hk : k < 14) : byN (xB b 14) k = nth b k := by
  unfold byN
  rw [xB_div b h (13 - k) (k + 1) (by omega)]
  have hb := h k
  show (xB b k * 256 + nth b k) % 256 = nth b k
  omega
/-- Number i out of the long number. -/
def fI (X : Int) (i : Nat) : Int := X / 2 ^ (112 - sW (i + 1)) % 2 ^ wdN i
theorem fI_bd (X : Int) (i : Nat) (h : i < 25) : 0 ≤ fI X i ∧ fI X i < 2 ^ wdN i ∧ fI X i ≤ 63 := by
  unfold fI
  have hp := p2_pos (wdN i)
  have h1 := Int.emod_nonneg (X / 2 ^ (112 - sW (i + 1))) (Int.ne_of_gt hp)
  have h2 := Int.emod_lt_of_pos (X / 2 ^ (112 - sW (i + 1))) hp
  have h3 : (2 : Int) ^ wdN i ≤ 64 := by
    have : ∀ i : Fin 25, (2 : Int) ^ wdN i.val ≤ 64 := by decide
    exact this ⟨i, h⟩
  omega
def unF (X : Int) : List Int := tab 25 (fI X)
theorem unF_len (X : Int) : (unF X).length = 25 := tab_len _ _
theorem unF_nth (X : Int) (i : Nat) (h : i < 25) : nth (unF X) i = fI X i := tab_nth _ _ _ h
theorem sW_split (i : Nat) (hi : i < 25) : (2 : Int) ^ (112 - sW i) = 2 ^ (112 - sW (i + 1)) * 2 ^ wdN i := by
  have h1 := sW_le (i + 1) (by omega)
  have h2 : sW (i + 1) = sW i + wdN i := rfl
  rw [← Int.pow_add, show 112 - sW i = 112 - sW (i + 1) + wdN i by omega]
theorem div_split (X : Int) (i : Nat) (hi : i < 25) : X / 2 ^ (112 - sW i) = X / 2 ^ (112 - sW (i + 1)) / 2 ^ wdN i := by
  rw [sW_split i hi, Int.ediv_ediv_of_nonneg (Int.le_of_lt (p2_pos _))]
theorem nF_un (X : Int) (h0 : 0 ≤ X) (h1 : X < 5192296858534827628530496329220096) : ∀ i, i ≤ 25 → nF (unF X) i = X / 2 ^ (112 - sW i)
  | 0, _ => by
    show (0 : Int) = X / 2 ^ 112
    rw [Int.ediv_eq_zero_of_lt h0 (by rw [show (2 : Int) ^ 112 = 5192296858534827628530496329220096 by decide]; exact h1)]
  | i + 1, hi => by
    show nF (unF X) i * 2 ^ wdN i + nth (unF X) i = _
    rw [nF_un X h0 h1 i (by omega), unF_nth X i (by omega), div_split X i (by omega)]
    unfold fI
    rw [Int.mul_comm]
    exact Int.mul_ediv_add_emod _ _
theorem num_div (l : List Int) (h : goodB l = true) : ∀ d i : Nat, i + d = 25 → numP l / 2 ^ (112 - sW i) = nF l i
  | 0, i, e => by
    obtain rfl : i = 25 := by omega
    obtain ⟨h3, h4⟩ := parL_bd l
    rw [sW25, show (2 : Int) ^ (112 - 106) = 64 by decide]
    unfold numP
    omega
  | d + 1, i, e => by
    rw [div_split _ i (by omega), num_div l h d (i + 1) (by omega)]
    obtain ⟨g1, g2⟩ := (goodB_iff l).1 h i (by omega)
    obtain ⟨m1, m2, m3⟩ := moN_lt i (by omega)
    show (nF l i * 2 ^ wdN i + nth l i) / 2 ^ wdN i = nF l i
    rw [Int.add_comm, Int.add_mul_ediv_right _ _ (Int.ne_of_gt (p2_pos _)), Int.ediv_eq_zero_of_lt g1 (by omega), Int.zero_add]
theorem un_num (l : List Int) (hl : l.length = 25) (h : goodB l = true) : unF (numP l) = l := by
  refine (tab_ext hl (fun i hi => ?_)).symm
  unfold fI
  rw [num_div l h (24 - i) (i + 1) (by omega)]
  obtain ⟨g1, g2⟩ := (goodB_iff l).1 h i (by omega)
  obtain ⟨m1, m2, m3⟩ := moN_lt i (by omega)
  show nth l i = (nF l i * 2 ^ wdN i + nth l i) % 2 ^ wdN i
  rw [Int.add_comm, Int.add_mul_emod_self_right, Int.emod_eq_of_lt g1 (by omega)]
/-- The parity's bit. -/
def pB (X : Int) : Int := X / 32 % 2
theorem num_un (X : Int) (h0 : 0 ≤ X) (h1 : X < 5192296858534827628530496329220096) (h5 : X % 32 = 0) (hp : parL (unF X) = pB X) : numP (unF X) = X := by
  unfold numP
  rw [nF_un X h0 h1 25 (Nat.le_refl _), sW25, hp, show (2 : Int) ^ (112 - 106) = 64 by decide]
  unfold pB
  omega
theorem pB_num (l : List Int) : pB (numP l) = parL l ∧ numP l % 32 = 0 := by
  obtain ⟨h3, h4⟩ := parL_bd l
  unfold pB numP
  omega
/-- What Unpack answers. -/
def unE (b : List Int) : Int := if b.length = 15 then (if chN b 14 = nth b 14 then (if xB b 14 % 32 = 0 then (if goodB (unF (xB b 14)) = true then (if parL (unF (xB b 14)) = pB (xB b 14) then 0 else 3) else 2) else 3) else 5) else 1
def unL (b : List Int) : List Int := if unE b = 0 then unF (xB b 14) else tab 25 (fun _ => 0)
theorem unE_size (b : List Int) (h : b.length ≠ 15) : unE b = 1 := if_neg h
theorem unE_sum (b : List Int) (h : b.length = 15) (h1 : chN b 14 ≠ nth b 14) : unE b = 5 := by unfold unE; rw [if_pos h, if_neg h1]
theorem unE_form (b : List Int) (h : b.length = 15) (h1 : chN b 14 = nth b 14) (h2 : xB b 14 % 32 ≠ 0) : unE b = 3 := by unfold unE; rw [if_pos h, if_pos h1, if_neg h2]
theorem unE_range (b : List Int) (h : b.length = 15) (h1 : chN b 14 = nth b 14) (h2 : xB b 14 % 32 = 0) (h3 : goodB (unF (xB b 14)) = false) : unE b = 2 := by
  unfold unE; rw [if_pos h, if_pos h1, if_pos h2, if_neg (by rw [h3]; decide)]
theorem unE_par (b : List Int) (h : b.length = 15) (h1 : chN b 14 = nth b 14) (h2 : xB b 14 % 32 = 0) (h3 : goodB (unF (xB b 14)) = true) (h4 : parL (unF (xB b 14)) ≠ pB (xB b 14)) : unE b = 3 := by
  unfold unE; rw [if_pos h, if_pos h1, if_pos h2, if_pos h3, if_neg h4]
theorem unE_ok (b : List Int) (h : b.length = 15) (h1 : chN b 14 = nth b 14) (h2 : xB b 14 % 32 = 0) (h3 : goodB (unF (xB b 14)) = true) (h4 : parL (unF (xB b 14)) = pB (xB b 14)) : unE b = 0 := by
  unfold unE; rw [if_pos h, if_pos h1, if_pos h2, if_pos h3, if_pos h4]
theorem unE_zero (b : List Int) (e : unE b = 0) : b.length = 15 ∧ chN b 14 = nth b 14 ∧ xB b 14 % 32 = 0 ∧ goodB (unF (xB b 14)) = true ∧ parL (unF (xB b 14)) = pB (xB b 14) := by
  by_cases h : b.length = 15
  · by_cases h1 : chN b 14 = nth b 14
    · by_cases h2 : xB b 14 % 32 = 0
      · rcases h3 : goodB (unF (xB b 14)) with _ | _
        · rw [unE_range b h h1 h2 h3] at e; omega
        · by_cases h4 : parL (unF (xB b 14)) = pB (xB b 14)
          · exact ⟨h, h1, h2, rfl, h4⟩
          · rw [unE_par b h h1 h2 h3 h4] at e; omega
      · rw [unE_form b h h1 h2] at e; omega
    · rw [unE_sum b h h1] at e; omega
  · rw [unE_size b h] at e; omega
theorem xB_pkA (l : List Int) (h : goodB l = true) : xB (pkA l) 14 = numP l := by
  obtain ⟨h0, h1⟩ := numP_bd l h
  rw [xB_congr (pkA l) (pkL (numP l)) 14 (fun i hi => by rw [pkA_lo l i hi, pkL_nth _ _ hi]), xB_pk _ h0 (by rw [show (256 : Int) ^ 14 = 5192296858534827628530496329220096 by decide]; exact h1) 14 (Nat.le_refl _)]
  rw [show (256 : Int) ^ (14 - 14) = 1 from rfl, Int.ediv_one]
/-- What is packed is unpacked as it. -/
theorem un_pk (l : List Int) (hl : l.length = 25) (h : goodB l = true) : unE (pkA l) = 0 ∧ unL (pkA l) = l := by
  have e := xB_pkA l h
  have u := un_num l hl h
  obtain ⟨p1, p2⟩ := pB_num l
  have z : unE (pkA l) = 0 := unE_ok _ (pkA_len l) (pkA_hi l).symm (by rw [e]; exact p2) (by rw [e, u]; exact h) (by rw [e, u, p1])
  refine ⟨z, ?_⟩
  unfold unL
  rw [if_pos z, e, u]
/-- What is unpacked is packed as just these bytes. -/
theorem pk_un (b : List Int) (hb : byB b) (e : unE b = 0) : goodB (unL b) = true ∧ pkA (unL b) = b ∧ (unL b).length = 25 := by
  obtain ⟨h, h1, h2, h3, h4⟩ := unE_zero b e
  have u : unL b = unF (xB b 14) := if_pos e
  obtain ⟨x0, x1⟩ := xB_bd b hb 14
  rw [show (256 : Int) ^ 14 = 5192296858534827628530496329220096 by decide] at x1
  have n := num_un _ x0 x1 h2 h4
  rw [u]
  refine ⟨h3, ?_, unF_len _⟩
  have lo : ∀ i, i < 14 → nth (pkA (unF (xB b 14))) i = nth b i := fun i hi => by rw [pkA_lo _ i hi, n, byN_xB b hb i hi]
  have l1 := pkA_len (unF (xB b 14))
  have hi : nth (pkA (unF (xB b 14))) 14 = nth b 14 := by
    rw [pkA_hi, ← h1]
    unfold chN
    rw [sumB_congr _ b 14 lo]
  have t1 := tab_ext (p := nth b) l1 (fun i hi' => by
    rcases Nat.lt_or_ge i 14 with g | g
    · exact lo i g
    · obtain rfl : i = 14 := by omega
      exact hi)
  have t2 := tab_ext (p := nth b) h (fun i _ => rfl)
  rw [t1, ← t2]
theorem nth_set (l : List Int) (k : Nat) (z : Int) (h : k < l.length) (i : Nat) : nth (l.set k z) i = if i = k then z else nth l i := by
  unfold nth
  by_cases e : i = k
  · subst e; simp [List.getD, h]
  · simp [List.getD, e, List.getElem?_set, Ne.symm e]
theorem sumB_set (l : List Int) (k : Nat) (z : Int) (h : k < l.length) : ∀ n : Nat, sumB (l.set k z) n = if k < n then sumB l n + (z - nth l k) else sumB l n
  | 0 => by simp [sumB]
  | n + 1 => by
    show sumB (l.set k z) n + nth (l.set k z) n = if k < n + 1 then sumB l n + nth l n + (z - nth l k) else sumB l n + nth l n
    rw [sumB_set l k z h n, nth_set l k z h n]
    by_cases e : n = k
    · subst e; rw [if_neg (by omega), if_pos rfl, if_pos (by omega)]; omega
    · rw [if_neg e]
      by_cases e' : k < n
      · rw [if_pos e', if_pos (by omega)]; omega
      · rw [if_neg e', if_neg (by omega)]
/-- One byte that is turned. -/
theorem un_turned (l : List Int) (k : Nat) (hk : k < 15) (z : Int) (z0 : 0 ≤ z) (z1 : z < 256) (hz : z ≠ nth (pkA l) k) : unE ((pkA l).set k z) = 5 := by
  have hl := pkA_len l
  have b1 := pkA_by l k
  refine unE_sum _ (by rw [List.length_set, hl]) ?_
  unfold chN
  rw [sumB_set _ _ _ (by omega), nth_set _ _ _ (by omega)]
  have h14 := pkA_hi l
  unfold chN at h14
  by_cases e : k = 14
  · subst e
    rw [if_neg (by omega), if_pos rfl]
    omega
  · rw [if_pos (by omega), if_neg (fun h => e h.symm), h14]
    omega
end Go.Proofs.YtjgdkinnpgiabaaDoor
