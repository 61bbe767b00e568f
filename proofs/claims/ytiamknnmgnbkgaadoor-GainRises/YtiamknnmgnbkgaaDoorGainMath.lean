/- Plain arithmetic for package gain: sizes, the nearest one, how gains fade, noise; no Go in sight. -/
import Derived.Test.YtiamknnmgnbkgaaDoorPowMath
namespace Go.Proofs.YtiamknnmgnbkgaaDoor
open Go.RowKit
set_option linter.unusedVariables false

/-- Sizes. -/
def gsz : List Int := [8, 10, 13, 17, 22, 29, 38, 49, 64, 82, 107, 139, 181, 234, 304, 394, 512, 663, 861, 1116, 1448, 1878, 2435, 3158, 4096, 5311, 6888, 8933, 11585, 15024, 19483, 25267]
def gszN (n : Nat) : Int := gsz.getD n 0
theorem gsz_pow32 : ∀ n : Fin 32, powN (3 + 3 * n.val / 8) (((3 * n.val % 8 * 4096 : Nat)) : Int) = gszN n.val := by decide +kernel
theorem gsz_pow (n : Nat) (h : n < 32) : powN (3 + 3 * n / 8) (((3 * n % 8 * 4096 : Nat)) : Int) = gszN n := gsz_pow32 ⟨n, h⟩
theorem gszN_bd (n : Nat) : 0 ≤ gszN n ∧ gszN n ≤ 25267 := by
  by_cases h : n < 32
  · have : ∀ n : Fin 32, 0 ≤ gszN n.val ∧ gszN n.val ≤ 25267 := by decide +kernel
    exact this ⟨n, h⟩
  · unfold gszN
    rw [List.getD_eq_getElem?_getD, List.getElem?_eq_none (show gsz.length ≤ n from by show 32 ≤ n; omega)]
    exact ⟨Int.le_refl _, by show (0 : Int) ≤ 25267; omega⟩
theorem gszN_mono (a b : Nat) (h : a ≤ b) (hb : b ≤ 31) : gszN a ≤ gszN b := by
  have : ∀ a b : Fin 32, a.val ≤ b.val → gszN a.val ≤ gszN b.val := by decide +kernel
  exact this ⟨a, by omega⟩ ⟨b, by omega⟩ h
theorem gszN_rises (a : Nat) (h : a < 31) : 8 ≤ gszN a ∧ gszN a < gszN (a + 1) ∧ gszN (a + 1) ≤ 32767 := by
  have : ∀ a : Fin 31, 8 ≤ gszN a.val ∧ gszN a.val < gszN (a.val + 1) ∧ gszN (a.val + 1) ≤ 32767 := by decide +kernel
  exact this ⟨a, h⟩
/-- What Level answers. -/
def glV (n : Int) : Int := if 0 ≤ n ∧ n ≤ 31 then gszN n.toNat else 0
def glE (n : Int) : Int := if 0 ≤ n ∧ n ≤ 31 then 0 else 2
theorem glV_nat (n : Nat) (h : n ≤ 31) : glV n = gszN n ∧ glE n = 0 := by
  have hh : 0 ≤ (n : Int) ∧ (n : Int) ≤ 31 := by omega
  exact ⟨by rw [show glV n = gszN (n : Int).toNat from if_pos hh, Int.toNat_natCast], if_pos hh⟩
theorem glV0 : glV 0 = 8 ∧ glE 0 = 0 := ⟨rfl, rfl⟩
theorem glV8 : glV 8 = 64 ∧ glE 8 = 0 := ⟨rfl, rfl⟩
/-- The nearest size: the greatest number whose middle below is passed. -/
def goN (c e : Int) : Nat → Nat
  | 0 => 0
  | n + 1 => if (gszN (n + 1) + gszN n) * e < 2 * c then n + 1 else goN c e n
def capC (x : Int) : Int := if 1152921504606846976 < x then 1152921504606846976 else x
def capE (x : Int) : Int := if 17592186044416 < x then 17592186044416 else x
def goV (c e : Int) : Int := if c ≤ 0 ∨ e ≤ 0 then 0 else (goN (capC c) (capE e) 31 : Int)
theorem capC_bd (x : Int) (h : 0 < x) : 0 < capC x ∧ capC x ≤ 1152921504606846976 := by unfold capC; split <;> omega
theorem capE_bd (x : Int) (h : 0 < x) : 0 < capE x ∧ capE x ≤ 17592186044416 := by unfold capE; split <;> omega
theorem goN_le (c e : Int) : ∀ n, goN c e n ≤ n
  | 0 => Nat.le_refl _
  | n + 1 => by
    have := goN_le c e n
    unfold goN
    split <;> omega
theorem goN_yes (c e : Int) (m : Nat) (h : (gszN (m + 1) + gszN m) * e < 2 * c) : goN c e (m + 1) = m + 1 := if_pos h
theorem goN_no (c e : Int) (m : Nat) (h : ¬ (gszN (m + 1) + gszN m) * e < 2 * c) : goN c e (m + 1) = goN c e m := if_neg h
theorem goN_spec (c e : Int) : ∀ m, (goN c e m = 0 ∨ (gszN (goN c e m) + gszN (goN c e m - 1)) * e < 2 * c) ∧ ∀ n, goN c e m < n → n ≤ m → 2 * c ≤ (gszN n + gszN (n - 1)) * e
  | 0 => ⟨.inl rfl, fun n h1 h2 => by omega⟩
  | m + 1 => by
    obtain ⟨i1, i2⟩ := goN_spec c e m
    by_cases h : (gszN (m + 1) + gszN m) * e < 2 * c
    · rw [goN_yes c e m h]
      exact ⟨.inr h, fun n h1 h2 => by omega⟩
    · rw [goN_no c e m h]
      refine ⟨i1, fun n h1 h2 => ?_⟩
      by_cases hn : n = m + 1
      · subst hn
        rw [show m + 1 - 1 = m by omega]
        omega
      · exact i2 n h1 (by omega)
theorem goV_in (c e : Int) (c0 : 0 < c) (c9 : c ≤ 1152921504606846976) (e0 : 0 < e) (e9 : e ≤ 17592186044416) : goV c e = (goN c e 31 : Int) := by
  unfold goV capC capE
  rw [if_neg (by omega), if_neg (by omega), if_neg (by omega)]
theorem goV31 : goV 1073741824 1 = 31 := by decide +kernel
/-- No size is nearer. -/
theorem go_best (c e : Int) (he : 0 < e) (n : Nat) (hn : n ≤ 31) : ∃ X Y : Int, X = gszN (goN c e 31) * e - c ∧ Y = gszN n * e - c ∧ (X ≤ Y ∨ X ≤ -Y) ∧ (-X ≤ Y ∨ -X ≤ -Y) := by
  refine ⟨_, _, rfl, rfl, ?_⟩
  obtain ⟨h1, h2⟩ := goN_spec c e 31
  have hk := goN_le c e 31
  generalize goN c e 31 = k at *
  rcases Nat.lt_trichotomy n k with h | h | h
  · rcases h1 with h1 | h1
    · omega
    · have m1 : gszN n ≤ gszN (k - 1) := gszN_mono _ _ (by omega) (by omega)
      have m2 : gszN n ≤ gszN k := gszN_mono _ _ (by omega) (by omega)
      have p1 : 0 ≤ (gszN (k - 1) - gszN n) * e := Int.mul_nonneg (by omega) (by omega)
      have p2 : 0 ≤ (gszN k - gszN n) * e := Int.mul_nonneg (by omega) (by omega)
      rw [Int.sub_mul] at p1 p2
      rw [Int.add_mul] at h1
      generalize gszN k * e = K at *
      generalize gszN (k - 1) * e = K' at *
      generalize gszN n * e = M at *
      omega
  · subst h
    generalize gszN n * e = M at *
    omega
  · have q := h2 (k + 1) (by omega) (by omega)
    rw [show k + 1 - 1 = k by omega] at q
    have m1 : gszN (k + 1) ≤ gszN n := gszN_mono _ _ (by omega) (by omega)
    have m2 : gszN k ≤ gszN n := gszN_mono _ _ (by omega) (by omega)
    have p1 : 0 ≤ (gszN n - gszN (k + 1)) * e := Int.mul_nonneg (by omega) (by omega)
    have p2 : 0 ≤ (gszN n - gszN k) * e := Int.mul_nonneg (by omega) (by omega)
    rw [Int.sub_mul] at p1 p2
    rw [Int.add_mul] at q
    generalize gszN k * e = K at *
    generalize gszN (k + 1) * e = K' at *
    generalize gszN n * e = M at *
    omega
/-- A gain that many lost frames later. -/
def fdN (g : Int) : Nat → Int
  | 0 => if 32767 < g then 32767 else g
  | n + 1 => fdN g n * 26214 / 32768
def fdV (g k : Int) : Int := if g < 0 ∨ 6 ≤ k then 0 else fdN g k.toNat
theorem fdN_bd (g : Int) (h : 0 ≤ g) : ∀ n, 0 ≤ fdN g n ∧ fdN g n ≤ 32767
  | 0 => by show 0 ≤ (if 32767 < g then 32767 else g) ∧ (if 32767 < g then 32767 else g) ≤ 32767; split <;> omega
  | n + 1 => by
    have := fdN_bd g h n
    show 0 ≤ fdN g n * 26214 / 32768 ∧ fdN g n * 26214 / 32768 ≤ 32767
    omega
theorem fdN_falls (g : Int) (h : 0 ≤ g) (n : Nat) : fdN g (n + 1) ≤ fdN g n ∧ (fdN g n = 0 ∨ fdN g (n + 1) < fdN g n) := by
  have := fdN_bd g h n
  show fdN g n * 26214 / 32768 ≤ fdN g n ∧ (fdN g n = 0 ∨ fdN g n * 26214 / 32768 < fdN g n)
  omega
theorem fdN_le (g : Int) (h : 0 ≤ g) : ∀ n, fdN g n ≤ g
  | 0 => by show (if 32767 < g then 32767 else g) ≤ g; split <;> omega
  | n + 1 => by
    have := fdN_falls g h n
    have := fdN_le g h n
    omega
theorem fdV_bd (g k : Int) : 0 ≤ fdV g k ∧ fdV g k ≤ 32767 := by
  unfold fdV
  split
  · omega
  · exact fdN_bd g (by omega) _
theorem fdV_falls (g : Int) (n : Nat) (h : 0 ≤ g) : fdV g ((n : Int) + 1) ≤ fdV g n ∧ 0 ≤ fdV g ((n : Int) + 1) ∧ fdV g n ≤ g ∧ (fdV g n = 0 ∨ fdV g ((n : Int) + 1) < fdV g n) := by
  have b1 := fdN_falls g h n
  have b2 := fdN_bd g h (n + 1)
  have b3 := fdN_le g h n
  by_cases h1 : n + 1 < 6
  · have e1 : fdV g ((n : Int) + 1) = fdN g (n + 1) := by
      rw [show fdV g ((n : Int) + 1) = fdN g ((n : Int) + 1).toNat from if_neg (by omega), show ((n : Int) + 1).toNat = n + 1 by omega]
    have e2 : fdV g (n : Int) = fdN g n := by rw [show fdV g (n : Int) = fdN g ((n : Int)).toNat from if_neg (by omega), Int.toNat_natCast]
    rw [e1, e2]
    omega
  · rw [show fdV g ((n : Int) + 1) = 0 from if_pos (by omega)]
    by_cases h2 : n < 6
    · have e2 : fdV g (n : Int) = fdN g n := by rw [show fdV g (n : Int) = fdN g ((n : Int)).toNat from if_neg (by omega), Int.toNat_natCast]
      have b4 := fdN_bd g h n
      rw [e2]
      omega
    · rw [show fdV g (n : Int) = 0 from if_pos (by omega)]
      omega
theorem fdV6 (g : Int) : fdV g 6 = 0 := if_pos (.inr (Int.le_refl _))
theorem fdV50 : fdV 5 0 = 5 := by decide
theorem fdV90 : fdV 9 0 = 9 := by decide
/-- Noise: the next seed, the size within its bounds, the number. -/
def noS (s : Int) : Int := (s * 31821 + 13849) % 65536
def noZ (x : Int) : Int := if x < 0 then 0 else if 32767 < x then 32767 else x
def noX (s x : Int) : Int := (noS s - 32768) * noZ x / 32768
theorem noS_bd (s : Int) : 0 ≤ noS s ∧ noS s < 65536 := by unfold noS; omega
theorem noZ_bd (x : Int) : 0 ≤ noZ x ∧ noZ x ≤ 32767 := by unfold noZ; split <;> (try split) <;> omega
theorem noP_bd (s x : Int) : -1073709056 ≤ (noS s - 32768) * noZ x ∧ (noS s - 32768) * noZ x ≤ 1073676289 := by
  obtain ⟨a1, a2⟩ := noS_bd s
  obtain ⟨b1, b2⟩ := noZ_bd x
  generalize noZ x = z at *
  generalize noS s = t at *
  have p1 : 0 ≤ (t - 0) * z := Int.mul_nonneg (by omega) b1
  have p2 : 0 ≤ (65535 - t) * z := Int.mul_nonneg (by omega) b1
  rw [Int.sub_mul] at p1 p2 ⊢
  omega
theorem noX_bd (s x : Int) : -noZ x ≤ noX s x ∧ noX s x ≤ noZ x := by
  obtain ⟨a1, a2⟩ := noS_bd s
  obtain ⟨b1, b2⟩ := noZ_bd x
  unfold noX
  generalize noZ x = z at *
  generalize noS s = t at *
  have p1 : 0 ≤ (t - 0) * z := Int.mul_nonneg (by omega) b1
  have p2 : 0 ≤ (65535 - t) * z := Int.mul_nonneg (by omega) b1
  rw [Int.sub_mul] at p1 p2 ⊢
  omega
theorem noS_low (s : Int) : noS (s % 65536) = noS s := by unfold noS; omega
theorem noX_low (s x : Int) : noX (s % 65536) x = noX s x := by unfold noX; rw [noS_low]
theorem noS0 : noS 0 = 13849 := by decide
theorem wrap_and16 (x y : Int) (h : x % 65536 = y % 65536) : bits .and .i64 x 65535 = y % 65536 := by
  show IntKind.i64.wrap ((BitVec.ofInt 64 x &&& BitVec.ofInt 64 65535).toNat : Int) = _
  rw [BitVec.toNat_and, BitVec.toNat_ofInt, show (BitVec.ofInt 64 65535).toNat = 2 ^ 16 - 1 by decide, Nat.and_two_pow_sub_one_eq_mod]
  have e : (((x % ((2 ^ 64 : Nat) : Int)).toNat % 2 ^ 16 : Nat) : Int) = y % 65536 := by omega
  rw [e]
  have b0 : 0 ≤ y % 65536 := by omega
  have b1 : y % 65536 < 65536 := by omega
  generalize y % 65536 = n at *
  have e : n % 2 ^ 64 = n := Int.emod_eq_of_lt (by omega) (by omega)
  simp only [IntKind.wrap, IntKind.bits, IntKind.signed, e]
  rw [if_neg (by simp; omega)]
end Go.Proofs.YtiamknnmgnbkgaaDoor
