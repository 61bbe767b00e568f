/- The library's contract of bits.Len, at this translation's numbers. -/
import Derived.Test.YtjjpbleknbmmgabProg
import Derived.Shelf.Small.Bits
namespace Go.Proofs.Ytjjpbleknbmmgab

def lenbRen : Go.Shelf.Ren := ⟨fun n => if n = 125 then 29 else if n = 128 then 38 else 39, fun n => if n = 3 then 3 else if n = 4 then 4 else if n = 5 then 5 else if n = 9 then 9 else if n = 46 then 58 else if n = 51 then 67 else 69, fun n => n⟩
theorem lenbLays : Go.Proofs.Lays.n125 Try.prog lenbRen where
  mixed := by kernel_rfl
  f125 := by kernel_rfl
  f128 := by kernel_rfl
  f129 := by kernel_rfl
  t3 := by kernel_rfl
  a3 := fun _ => by kernel_rfl
  z3 := fun _ => by kernel_rfl
  v3 := fun _ => by kernel_rfl
  t4 := by kernel_rfl
  a4 := fun _ => by kernel_rfl
  z4 := fun _ => by kernel_rfl
  v4 := fun _ => by kernel_rfl
  t5 := by kernel_rfl
  a5 := fun _ => by kernel_rfl
  z5 := fun _ => by kernel_rfl
  v5 := fun _ => by kernel_rfl
  t9 := by kernel_rfl
  a9 := fun _ => by kernel_rfl
  z9 := fun _ => by kernel_rfl
  v9 := fun _ => by kernel_rfl
  t46 := by kernel_rfl
  a46 := fun _ => by kernel_rfl
  z46 := fun _ => by kernel_rfl
  v46 := fun _ => by kernel_rfl
  t51 := by kernel_rfl
  a51 := fun _ => by kernel_rfl
  z51 := fun _ => by kernel_rfl
  v51 := fun _ => by kernel_rfl
  t53 := by kernel_rfl
  a53 := fun _ => by kernel_rfl
  z53 := fun _ => by kernel_rfl
  v53 := fun _ => by kernel_rfl
theorem len_any (x : Int) (w : World) (h0 : 0 ≤ x) (h1 : x ≤ 18446744073709551615) :
    Calls Try.prog 29 #[.int .u64 x] w fun e w' => e = .returned (.int .i64 (Lib.bitLen x.toNat)) ∧ w' = w :=
  Any.bits_Len lenbLays x w h0 h1
theorem bitLen_pow : ∀ (n x : Nat), 2 ^ n ≤ x → x < 2 ^ (n + 1) → x < 2 ^ 64 → Lib.bitLen x = n + 1
  | 0, x, h1, h2, _ => by
    have : x = 1 := by omega
    subst this; decide
  | n + 1, x, h1, h2, h3 => by
    have p : 1 ≤ 2 ^ n := Nat.one_le_two_pow
    rw [Nat.pow_succ] at h1 h2
    rw [Lib.bitLen_half x (by omega) h3, bitLen_pow n (x / 2) (by omega) (by omega) (by omega)]; omega
/-- The highest bit of a number of 31 bits. -/
theorem top_bit : ∀ (n : Nat) (x : Nat), 1 ≤ x → x < 2 ^ n → ∃ k, k < n ∧ 2 ^ k ≤ x ∧ x < 2 ^ (k + 1)
  | 0, x, h1, h2 => by omega
  | n + 1, x, h1, h2 => by
    by_cases h : x < 2 ^ n
    · obtain ⟨k, a, b⟩ := top_bit n x h1 h
      exact ⟨k, by omega, b⟩
    · exact ⟨n, by omega, by omega, h2⟩
end Go.Proofs.Ytjjpbleknbmmgab
