/- The contract of dual.Pow, where the list of its growths reads as the program's text lays it. -/
import Derived.Test.YtiamknnmgnbkgaaDoorDual
import Derived.Test.YtiamknnmgnbkgaaDoorPowMath
import Derived.Test.YtiamknnmgnbkgaaDoorGrow
namespace Go.Proofs.YtiamknnmgnbkgaaDoor
open Go.RowKit
set_option maxHeartbeats 1000000

theorem pow_no (n f : Int) (h : n < 0 ∨ 30 < n ∨ f < 0 ∨ 32767 < f) (w : World) :
    Calls Tryd.prog 13 #[.int .i64 n, .int .i64 f] w fun e w' => e = .returned (.tuple #[.int .i64 0, .int .i64 2]) ∧ w' = w := by
  by_cases h1 : n < 0 ∨ 30 < n
  · go_enter Tryd.func13, Tryd.ntmps13
    go_wp2_with fail
    refine (within_no _ _ _ h1 _).mono ?_
    rintro e w1 ⟨rfl, rfl⟩
    go_wp2_with fail
    go_ret2
    exact ⟨rfl, rfl⟩
  · go_enter Tryd.func13, Tryd.ntmps13
    go_wp2_with fail
    refine (within_yes _ _ _ (by omega) (by omega) _).mono ?_
    rintro e w1 ⟨rfl, rfl⟩
    go_wp2_with fail
    refine (within_no _ _ _ (by omega) _).mono ?_
    rintro e w1 ⟨rfl, rfl⟩
    go_wp2_with fail
    go_ret2
    exact ⟨rfl, rfl⟩
theorem wrap_i64_at (n : Int) (h0 : 0 ≤ n) (h1 : n < 9223372036854775808) : IntKind.i64.wrap n = n := by
  have e : n % 2 ^ 64 = n := Int.emod_eq_of_lt (by omega) (by omega)
  simp only [IntKind.wrap, IntKind.bits, IntKind.signed, e]
  rw [if_neg (by simp; omega)]
theorem and_low1 (x : Int) : bits .and .i64 x 1 = x % 2 := by
  show IntKind.i64.wrap ((BitVec.ofInt 64 x &&& BitVec.ofInt 64 1).toNat : Int) = _
  rw [BitVec.toNat_and, BitVec.toNat_ofInt, show (BitVec.ofInt 64 1).toNat = 2 ^ 1 - 1 by decide, Nat.and_two_pow_sub_one_eq_mod]
  rw [wrap_i64_at _ (by omega) (by omega)]
  omega
def groV : Value := .agg #[.int .i64 444758425, .int .i64 203159592, .int .i64 97181937, .int .i64 47538611, .int .i64 23511884, .int .i64 11692281, .int .i64 5830311, .int .i64 2911209, .int .i64 1454619, .int .i64 727063, .int .i64 363470, .int .i64 181719, .int .i64 90856, .int .i64 45427, .int .i64 22713]
theorem index_gro (k : Nat) (hk : k < 15) (w : World) : Sem.run Tryd.prog (Instr.index 33 groV (.int .i64 k)) w = .ok (.int .i64 (groAt k)) w := by
  have h : k = 0 ∨ k = 1 ∨ k = 2 ∨ k = 3 ∨ k = 4 ∨ k = 5 ∨ k = 6 ∨ k = 7 ∨ k = 8 ∨ k = 9 ∨ k = 10 ∨ k = 11 ∨ k = 12 ∨ k = 13 ∨ k = 14 := by omega
  rcases h with rfl | rfl | rfl | rfl | rfl | rfl | rfl | rfl | rfl | rfl | rfl | rfl | rfl | rfl | rfl
  all_goals simp [Instr.index, go_sem, groV, groAt, gro]
theorem groAt_bd (k : Nat) (h : k < 15) : 0 ≤ groAt k ∧ groAt k ≤ 444758425 := by
  have : ∀ k : Fin 15, 0 ≤ groAt k.val ∧ groAt k.val ≤ 444758425 := by decide
  exact this ⟨k, h⟩
theorem up_bd (x r : Int) (h1 : 1073741824 ≤ x) (h2 : x ≤ 2147438200) (h3 : 0 ≤ r) (h4 : r ≤ 444758425) : 0 ≤ x * r ∧ x * r ≤ 955091231616835000 := by
  have e1 := Int.mul_le_mul h2 h4 h3 (by decide)
  exact ⟨Int.mul_nonneg (by omega) h3, by omega⟩
/-- The list of growths lies in block 0, as the program's text lays it. -/
def Grows (w : World) : Prop := ∀ i, i < 15 → w.cell? ⟨0, i, none⟩ = some (.int .i64 (groAt i))
theorem pow_yes (n : Nat) (f : Int) (hn : n ≤ 30) (h1 : 0 ≤ f) (h2 : f ≤ 32767) (w : World) (hG : Grows w) :
    Calls Tryd.prog 13 #[.int .i64 n, .int .i64 f] w fun e w' => e = .returned (.tuple #[.int .i64 (powN n f), .int .i64 0]) ∧ w' = w := by
  have c0 : w.cell? ⟨0, 0, none⟩ = some (.int .i64 444758425) := hG 0 (by omega)
  have c1 : w.cell? ⟨0, 1, none⟩ = some (.int .i64 203159592) := hG 1 (by omega)
  have c2 : w.cell? ⟨0, 2, none⟩ = some (.int .i64 97181937) := hG 2 (by omega)
  have c3 : w.cell? ⟨0, 3, none⟩ = some (.int .i64 47538611) := hG 3 (by omega)
  have c4 : w.cell? ⟨0, 4, none⟩ = some (.int .i64 23511884) := hG 4 (by omega)
  have c5 : w.cell? ⟨0, 5, none⟩ = some (.int .i64 11692281) := hG 5 (by omega)
  have c6 : w.cell? ⟨0, 6, none⟩ = some (.int .i64 5830311) := hG 6 (by omega)
  have c7 : w.cell? ⟨0, 7, none⟩ = some (.int .i64 2911209) := hG 7 (by omega)
  have c8 : w.cell? ⟨0, 8, none⟩ = some (.int .i64 1454619) := hG 8 (by omega)
  have c9 : w.cell? ⟨0, 9, none⟩ = some (.int .i64 727063) := hG 9 (by omega)
  have c10 : w.cell? ⟨0, 10, none⟩ = some (.int .i64 363470) := hG 10 (by omega)
  have c11 : w.cell? ⟨0, 11, none⟩ = some (.int .i64 181719) := hG 11 (by omega)
  have c12 : w.cell? ⟨0, 12, none⟩ = some (.int .i64 90856) := hG 12 (by omega)
  have c13 : w.cell? ⟨0, 13, none⟩ = some (.int .i64 45427) := hG 13 (by omega)
  have c14 : w.cell? ⟨0, 14, none⟩ = some (.int .i64 22713) := hG 14 (by omega)
  clear hG
  go_enter Tryd.func13, Tryd.ntmps13
  go_wp2_with fail
  refine (within_yes _ _ _ (by omega) (by omega) _).mono ?_
  rintro e w1 ⟨rfl, rfl⟩
  go_wp2_with fail
  refine (within_yes _ _ _ h1 h2 _).mono ?_
  rintro e w1 ⟨rfl, rfl⟩
  go_wp2_with fail
  have IX := hide index_gro
  have eV : (.agg #[.int .i64 444758425, .int .i64 203159592, .int .i64 97181937, .int .i64 47538611, .int .i64 23511884, .int .i64 11692281, .int .i64 5830311, .int .i64 2911209, .int .i64 1454619, .int .i64 727063, .int .i64 363470, .int .i64 181719, .int .i64 90856, .int .i64 45427, .int .i64 22713] : Value) = groV := rfl
  rw [eV]
  clear eV
  clear c0 c1 c2 c3 c4 c5 c6 c7 c8 c9 c10 c11 c12 c13 c14
  generalize groV = V at *
  have HB := hide (pw_most f)
  have HN := hide (powN_ge n f hn)
  go_loop [6, 18] (fun x i => ∃ k : Nat, i = .int .i64 k ∧ x = .int .i64 (pw f k) ∧ k ≤ 15) (fun _ i => 15 - (intOf i).toNat)
  case atStart => exact ⟨0, rfl, rfl, by omega⟩
  case round =>
    obtain ⟨k, rfl, rfl, hk⟩ := hrel
    by_cases hk' : k = 15
    · subst hk'
      have x1 := (HN.out).2.2
      have HP := hide (show powN n f = pw f 15 / 2 ^ (30 - n) from rfl)
      rw [HP.out] at x1
      generalize pw f 15 = x at *
      go_wp2_with fail
      go_ret2
      exact ⟨by rw [HP.out]; rfl, rfl⟩
    · have ix := IX.out k (by omega) w1
      obtain ⟨x1, x2⟩ := HB.out k hk
      obtain ⟨r1, r2⟩ := groAt_bd k (by omega)
      obtain ⟨m1, m2⟩ := up_bd _ _ x1 x2 r1 r2
      obtain ⟨y1, y2⟩ := HB.out (k + 1) (by omega)
      have b := and_low1 (f / 2 ^ (14 - k))
      by_cases hb : powBit f k = 1
      · have e := hide (show pw f (k + 1) = pw f k + pw f k * groAt k / 1073741824 by show (if powBit f k = 1 then _ else _) = _; rw [if_pos hb]; rfl)
        rw [e.out] at y1 y2
        rw [show f / 2 ^ (14 - k) % 2 = powBit f k from rfl, hb] at b
        have E : pw f (k + 1) = pw f k + pw f k * groAt k / 1073741824 := e.out
        have E' := hide E
        clear E e hb IX HN HB
        generalize pw f k = x at *
        generalize groAt k = r at *
        go_wp2_with fail
        go_round
        case rel => exact ⟨k + 1, by go_num, by rw [E'.out], by omega⟩
        case measure => simp [intOf]; omega
      · have e := hide (show pw f (k + 1) = pw f k by show (if powBit f k = 1 then _ else _) = _; rw [if_neg hb])
        have hb0 : powBit f k = 0 := by
          unfold powBit at *
          omega
        rw [show f / 2 ^ (14 - k) % 2 = powBit f k from rfl, hb0] at b
        clear hb hb0 IX HN HB y1 y2
        generalize pw f k = x at *
        generalize groAt k = r at *
        go_wp2_with fail
        go_round
        case rel => exact ⟨k + 1, by go_num, by rw [e.out], by omega⟩
        case measure => simp [intOf]; omega
end Go.Proofs.YtiamknnmgnbkgaaDoor
