/- Plain arithmetic for dual.Pow: two to a power of fifteen bits behind the point, and why it rises; no Go in sight. -/
import Derived.Test.YtiamknnmgnbkgaaDoorDualMath
namespace Go.Proofs.YtiamknnmgnbkgaaDoor
open Go.RowKit

def gro : List Int := [444758425, 203159592, 97181937, 47538611, 23511884, 11692281, 5830311, 2911209, 1454619, 727063, 363470, 181719, 90856, 45427, 22713]
def groAt (k : Nat) : Int := gro.getD k 0
def powUp (y r : Int) : Int := y + y * r / 1073741824
/-- Whether bit 14 - k of f is set. -/
def powBit (f : Int) (k : Nat) : Int := f / 2 ^ (14 - k) % 2
def pw (f : Int) : Nat → Int
  | 0 => 1073741824
  | k + 1 => if powBit f k = 1 then powUp (pw f k) (groAt k) else pw f k
/-- All bits from here on. -/
def topR : List Int → Int → Int
  | [], y => y
  | r :: l, y => topR l (powUp y r)
def capR : List Int → Int
  | [] => 1073741824
  | r :: l => capR l * (1073741824 + r) / 1073741824 + 1
theorem powUp_le (y r : Int) : 1073741824 * powUp y r ≤ y * (1073741824 + r) := by
  unfold powUp
  have := Int.ediv_mul_le (y * r) (b := 1073741824) (by decide)
  rw [Int.mul_add, Int.mul_add]
  omega
theorem powUp_ge (y r : Int) (hy : 0 ≤ y) (hr : 0 ≤ r) : y ≤ powUp y r := by
  unfold powUp
  have := Int.ediv_nonneg (Int.mul_nonneg hy hr) (b := 1073741824) (by decide)
  omega
theorem powUp_mono (y z r : Int) (h : y ≤ z) (hr : 0 ≤ r) : powUp y r ≤ powUp z r := by
  unfold powUp
  have := Int.ediv_le_ediv (c := 1073741824) (by decide) (Int.mul_le_mul_of_nonneg_right h hr)
  omega
theorem capR_pos : ∀ l : List Int, (∀ r ∈ l, 0 ≤ r) → 0 ≤ capR l
  | [], _ => by decide
  | r :: l, h => by
    have h1 := capR_pos l (fun x hx => h x (List.mem_cons_of_mem _ hx))
    have h2 : 0 ≤ capR l * (1073741824 + r) := Int.mul_nonneg h1 (by have := h r (List.mem_cons_self ..); omega)
    have h3 := Int.ediv_nonneg h2 (b := 1073741824) (by decide)
    show 0 ≤ capR l * (1073741824 + r) / 1073741824 + 1
    omega
theorem topR_le : ∀ (l : List Int) (y : Int), (∀ r ∈ l, 0 ≤ r) → 0 ≤ y → 1073741824 * topR l y ≤ y * capR l
  | [], y, _, _ => by show 1073741824 * y ≤ y * 1073741824; omega
  | r :: l, y, h, hy => by
    have hr := h r (List.mem_cons_self ..)
    have hl : ∀ x ∈ l, 0 ≤ x := fun x hx => h x (List.mem_cons_of_mem _ hx)
    have h1 := topR_le l (powUp y r) hl (by have := powUp_ge y r hy hr; omega)
    have h2 := powUp_le y r
    have h3 := capR_pos l hl
    have e1 : 0 ≤ (y * (1073741824 + r) - 1073741824 * powUp y r) * capR l := Int.mul_nonneg (by omega) h3
    have h4 : capR l * (1073741824 + r) ≤ 1073741824 * (capR l * (1073741824 + r) / 1073741824 + 1) := by
      have := Int.lt_ediv_add_one_mul_self (capR l * (1073741824 + r)) (b := 1073741824) (by decide)
      omega
    have e2 := Int.mul_le_mul_of_nonneg_left h4 hy
    rw [Int.sub_mul] at e1
    have e3 : y * (1073741824 + r) * capR l = y * (capR l * (1073741824 + r)) := by rw [Int.mul_assoc, Int.mul_comm (1073741824 + r)]
    have e4 : 1073741824 * powUp y r * capR l = 1073741824 * (powUp y r * capR l) := Int.mul_assoc ..
    have e5 : y * (1073741824 * (capR l * (1073741824 + r) / 1073741824 + 1)) = 1073741824 * (y * (capR l * (1073741824 + r) / 1073741824 + 1)) := Int.mul_left_comm ..
    show 1073741824 * topR l (powUp y r) ≤ y * (capR l * (1073741824 + r) / 1073741824 + 1)
    omega
theorem topR_ge : ∀ (l : List Int) (y : Int), (∀ r ∈ l, 0 ≤ r) → 0 ≤ y → y ≤ topR l y
  | [], _, _, _ => Int.le_refl _
  | r :: l, y, h, hy => by
    have h0 := powUp_ge y r hy (h r (List.mem_cons_self ..))
    exact Int.le_trans h0 (topR_ge l _ (fun x hx => h x (List.mem_cons_of_mem _ hx)) (by omega))
theorem topR_mono : ∀ (l : List Int) (y z : Int), (∀ r ∈ l, 0 ≤ r) → y ≤ z → topR l y ≤ topR l z
  | [], _, _, _, h => h
  | r :: l, y, z, h, hy => topR_mono l _ _ (fun x hx => h x (List.mem_cons_of_mem _ hx)) (powUp_mono y z r hy (h r (List.mem_cons_self ..)))
theorem gro_nn : ∀ r ∈ gro, 0 ≤ r := by decide
theorem gro_drop (k : Nat) : ∀ r ∈ gro.drop k, 0 ≤ r := fun r h => gro_nn r (List.mem_of_mem_drop h)
theorem gro_cons (k : Nat) (h : k < 15) : gro.drop k = groAt k :: gro.drop (k + 1) := by
  rw [List.drop_eq_getElem_cons (show k < gro.length from h)]
  unfold groAt
  have e : gro[k]? = some (gro[k]'(show k < gro.length from h)) := List.getElem?_eq_getElem _
  rw [List.getD_eq_getElem?_getD, e]
  rfl
theorem groAt_nn (k : Nat) (h : k < 15) : 0 ≤ groAt k := gro_drop k _ (by rw [gro_cons k h]; exact List.mem_cons_self ..)
theorem gro_margin : ∀ k : Fin 15, capR (gro.drop (k.val + 1)) + 1 ≤ 1073741824 + groAt k.val := by decide
/-- One bit more is more than all bits behind it. -/
theorem pow_key (k : Nat) (hk : k < 15) (x : Int) (hx : 1073741824 ≤ x) : topR (gro.drop (k + 1)) x ≤ powUp x (groAt k) := by
  have h1 := topR_le (gro.drop (k + 1)) x (gro_drop _) (by omega)
  have h2 := gro_margin ⟨k, hk⟩
  simp only at h2
  have h3 := Int.mul_le_mul_of_nonneg_left h2 (show 0 ≤ x by omega)
  have h4 := Int.lt_ediv_add_one_mul_self (x * groAt k) (b := 1073741824) (by decide)
  unfold powUp
  rw [Int.mul_add, Int.mul_add] at h3
  omega
theorem pw_bd (f : Int) : ∀ k, k ≤ 15 → 1073741824 ≤ pw f k ∧ topR (gro.drop k) (pw f k) ≤ topR gro 1073741824
  | 0, _ => ⟨by show (1073741824 : Int) ≤ 1073741824; omega, Int.le_refl _⟩
  | k + 1, hk => by
    obtain ⟨h1, h2⟩ := pw_bd f k (by omega)
    have hr := groAt_nn k (by omega)
    have up := powUp_ge (pw f k) (groAt k) (by omega) hr
    rw [gro_cons k (by omega)] at h2
    have h3 : topR (gro.drop (k + 1)) (powUp (pw f k) (groAt k)) ≤ topR gro 1073741824 := h2
    unfold pw
    split
    · exact ⟨by omega, h3⟩
    · exact ⟨h1, Int.le_trans (topR_mono _ _ _ (gro_drop _) up) h3⟩
theorem pw_most (f : Int) (k : Nat) (hk : k ≤ 15) : 1073741824 ≤ pw f k ∧ pw f k ≤ 2147438200 := by
  obtain ⟨h1, h2⟩ := pw_bd f k hk
  have h3 := topR_ge (gro.drop k) (pw f k) (gro_drop _) (by omega)
  have h4 : topR gro 1073741824 = 2147438200 := by decide
  omega
theorem bit_split (f : Int) (k : Nat) (hk : k < 15) : f / 2 ^ (15 - (k + 1)) = 2 * (f / 2 ^ (15 - k)) + powBit f k ∧ (powBit f k = 0 ∨ powBit f k = 1) := by
  unfold powBit
  rw [show 15 - k = (14 - k) + 1 by omega, show 15 - (k + 1) = 14 - k by omega, Int.pow_succ, ← Int.ediv_ediv_of_nonneg (Int.le_of_lt (Int.pow_pos (by decide)))]
  generalize f / 2 ^ (14 - k) = z
  omega
theorem pw_rises (f g : Int) (h0 : 0 ≤ f) (hfg : f ≤ g) (hg : g < 32768) : ∀ k, k ≤ 15 →
    (f / 2 ^ (15 - k) = g / 2 ^ (15 - k) ∧ pw f k = pw g k) ∨ topR (gro.drop k) (pw f k) ≤ pw g k
  | 0, _ => .inl ⟨by rw [show (2 : Int) ^ (15 - 0) = 32768 by decide]; omega, rfl⟩
  | k + 1, hk => by
    have hr := groAt_nn k (by omega)
    obtain ⟨b1, b2⟩ := bit_split f k (by omega)
    obtain ⟨c1, c2⟩ := bit_split g k (by omega)
    have hd : f / 2 ^ (15 - (k + 1)) ≤ g / 2 ^ (15 - (k + 1)) := Int.ediv_le_ediv (Int.pow_pos (by decide)) hfg
    obtain ⟨f1, _⟩ := pw_most f k (by omega)
    obtain ⟨g1, _⟩ := pw_most g k (by omega)
    have upf := powUp_ge (pw f k) (groAt k) (by omega) hr
    have upg := powUp_ge (pw g k) (groAt k) (by omega) hr
    rcases pw_rises f g h0 hfg hg k (by omega) with ⟨i1, i2⟩ | i
    · rw [b1, c1, i1] at hd
      rcases b2 with b2 | b2 <;> rcases c2 with c2 | c2
      · left
        refine ⟨by rw [b1, c1, i1, b2, c2], ?_⟩
        unfold pw; rw [if_neg (by omega), if_neg (by omega), i2]
      · right
        unfold pw; rw [if_neg (by omega), if_pos c2, i2]
        exact pow_key k (by omega) _ g1
      · omega
      · left
        refine ⟨by rw [b1, c1, i1, b2, c2], ?_⟩
        unfold pw; rw [if_pos b2, if_pos c2, i2]
    · right
      rw [gro_cons k (by omega)] at i
      have i' : topR (gro.drop (k + 1)) (powUp (pw f k) (groAt k)) ≤ pw g k := i
      have j : topR (gro.drop (k + 1)) (pw f (k + 1)) ≤ topR (gro.drop (k + 1)) (powUp (pw f k) (groAt k)) := by
        refine topR_mono _ _ _ (gro_drop _) ?_
        show (if powBit f k = 1 then powUp (pw f k) (groAt k) else pw f k) ≤ _
        split <;> omega
      have l : pw g k ≤ pw g (k + 1) := by
        show _ ≤ (if powBit g k = 1 then powUp (pw g k) (groAt k) else pw g k)
        split <;> omega
      omega
theorem pw_mono (f g : Int) (h0 : 0 ≤ f) (hfg : f ≤ g) (hg : g < 32768) : pw f 15 ≤ pw g 15 := by
  rcases pw_rises f g h0 hfg hg 15 (Nat.le_refl _) with ⟨_, h⟩ | h
  · omega
  · exact h
/-- What Pow answers. -/
def powN (n : Nat) (f : Int) : Int := pw f 15 / 2 ^ (30 - n)
theorem powN_ge (n : Nat) (f : Int) (hn : n ≤ 30) : (2 : Int) ^ n ≤ powN n f ∧ powN n f < 2 ^ (n + 1) ∧ powN n f ≤ 2147438200 := by
  obtain ⟨h1, h2⟩ := pw_most f 15 (Nat.le_refl _)
  have hp : (0 : Int) < 2 ^ (30 - n) := Int.pow_pos (by decide)
  have e : (2 : Int) ^ n * 2 ^ (30 - n) = 1073741824 := by rw [← Int.pow_add, show n + (30 - n) = 30 by omega]; decide
  have e' : (2 : Int) ^ (n + 1) * 2 ^ (30 - n) = 2147483648 := by rw [Int.pow_succ, Int.mul_right_comm, e]; decide
  unfold powN
  refine ⟨(Int.le_ediv_iff_mul_le hp).2 (by omega), Int.ediv_lt_of_lt_mul hp (by omega), ?_⟩
  exact Int.le_trans (Int.ediv_le_self _ (by omega)) h2
theorem powN_rises (n m : Nat) (f g : Int) (hn : n ≤ 30) (hm : m ≤ 30) (hf : 0 ≤ f) (hg : g < 32768) (h : n < m ∨ (n = m ∧ f ≤ g)) : powN n f ≤ powN m g := by
  rcases h with h | ⟨rfl, h⟩
  · have a := powN_ge n f hn
    have b := powN_ge m g hm
    have c := (pow_le (n + 1) m h).2
    omega
  · exact Int.ediv_le_ediv (Int.pow_pos (by decide)) (pw_mono f g hf h hg)
end Go.Proofs.YtiamknnmgnbkgaaDoor
