/- The contract of basic.Better: crosswise products of three words, compared. -/
import Derived.Test.YtdeappknlcmbbaaProg
import Derived.Test.YtdeappknlcmbbaaBtr
import Derived.WalkKit
import Derived.WalkSpells
import Derived.WalkLawsBesides
import Derived.Laws.Externs
import Derived.Shelf.Bits.Mul64
import Derived.RowKit3
namespace Go.Proofs.Ytdeappknlcmbbaa
open Go.RowKit
set_option maxHeartbeats 1000000

/-- The library's contract of bits.Mul64, at this translation's numbers. -/
def mulRen : Go.Shelf.Ren := ⟨fun _ => 79, fun n => if n = 46 then 44 else 80, fun n => n⟩
theorem mulLays : Go.Proofs.Lays.n264 Try.prog mulRen where
  mixed := by kernel_rfl
  f264 := by kernel_rfl
  t46 := by kernel_rfl
  a46 := fun _ => by kernel_rfl
  z46 := fun _ => by kernel_rfl
  v46 := fun _ => by kernel_rfl
  t53 := by kernel_rfl
  a53 := fun _ => by kernel_rfl
  z53 := fun _ => by kernel_rfl
  v53 := fun _ => by kernel_rfl
theorem mul64_nat (x y : Nat) (hx : x < 18446744073709551616) (hy : y < 18446744073709551616) (w : World) :
    Calls Try.prog 79 #[.int .u64 x, .int .u64 y] w fun e w' => e = .returned (.tuple #[.int .u64 ((x * y / 18446744073709551616 : Nat) : Int), .int .u64 ((x * y % 18446744073709551616 : Nat) : Int)]) ∧ w' = w :=
  Any.bits_Mul64 mulLays x y hx hy w
theorem mul64_any (x y : Int) (hx0 : 0 ≤ x) (hy0 : 0 ≤ y) (hx : x < 18446744073709551616) (hy : y < 18446744073709551616) (w : World) :
    Calls Try.prog 79 #[.int .u64 x, .int .u64 y] w fun e w' => ∃ h l : Int, 0 ≤ h ∧ h < 18446744073709551616 ∧ 0 ≤ l ∧ l < 18446744073709551616 ∧ Hid (h * 18446744073709551616 + l = x * y) ∧ e = .returned (.tuple #[.int .u64 h, .int .u64 l]) ∧ w' = w := by
  obtain ⟨x, rfl⟩ := Int.eq_ofNat_of_zero_le hx0
  obtain ⟨y, rfl⟩ := Int.eq_ofNat_of_zero_le hy0
  refine (mul64_nat x y (by omega) (by omega) w).mono fun e w' h => ?_
  have hm : x * y ≤ 18446744073709551615 * 18446744073709551615 := Nat.mul_le_mul (by omega) (by omega)
  have hc : (x : Int) * y = ((x * y : Nat) : Int) := by simp
  refine ⟨_, _, ?_, ?_, ?_, ?_, ?_, h.1, h.2⟩
  all_goals (try unfold Hid)
  all_goals (try rw [hc])
  all_goals (generalize x * y = z at *)
  all_goals omega
theorem add64_0 (x y : Int) (hx : 0 ≤ x) (hy : 0 ≤ y) (w : World) : (callFunc 80 #[.int .u64 x, .int .u64 y, .int .u64 0]).run Try.prog w =
    .ok (.value (.tuple #[.int .u64 ((x + y) % 18446744073709551616), .int .u64 ((x + y) / 18446744073709551616)])) w := by
  rw [run_callFunc_extern Try.func80 (by kernel_rfl) (by kernel_rfl) (by kernel_rfl) (e := add64Entry) (by kernel_rfl), run_add64 x y 0 hx hy (by omega) (by omega)]
  simp only [Result.andThen, Int.add_zero]

theorem square_math (u v h l c la f m cy mm : Int) (hu : 0 ≤ u) (hu' : u < 9223372036854775808) (hv : 0 ≤ v) (hv' : v < 9223372036854775808)
    (e1 : h * 18446744073709551616 + l = u * u) (e2 : c * 18446744073709551616 + la = l * v) (e3 : f * 18446744073709551616 + m = h * v)
    (l0 : 0 ≤ l) (l1 : l < 18446744073709551616) (hf : 0 ≤ f) (hm : 0 ≤ m) (hm' : m < 18446744073709551616) (hc : 0 ≤ c) (hc' : c < 18446744073709551616)
    (e4 : cy = (m + c) / 18446744073709551616) (e5 : mm = (m + c) % 18446744073709551616) :
    (f + cy) * 340282366920938463463374607431768211456 + mm * 18446744073709551616 + la = u * u * v ∧ 0 ≤ f + cy ∧ f + cy < 18446744073709551616 ∧ 0 ≤ mm ∧ mm < 18446744073709551616 := by
  have hv2 : u * u * v = (h * v) * 18446744073709551616 + l * v := by
    rw [← e1, Int.add_mul, Int.mul_right_comm]
  have hb : h ≤ 4611686018427387903 := by
    have : u * u ≤ 9223372036854775807 * 9223372036854775807 := Int.mul_le_mul (by omega) (by omega) hu (by omega)
    omega
  have hf2 : f < 18446744073709551616 - 1 := by
    have : h * v ≤ 4611686018427387903 * 9223372036854775807 := Int.mul_le_mul hb (by omega) hv (by omega)
    omega
  generalize u * u * v = R at *
  generalize h * v = S at *
  generalize l * v = T at *
  subst e4 e5
  refine ⟨by omega, by omega, by omega, by omega, by omega⟩

theorem square_any (x y : Int) (hx : x ≤ 9223372036854775807) (hy : 0 ≤ y) (hy' : y ≤ 9223372036854775807) (w : World) :
    Calls Try.prog 68 #[.int .i64 x, .int .i64 y] w fun e w' => ∃ p0 p1 p2 : Int, ∃ (o : Array Value) (t : TypeId), (0 ≤ p0 ∧ p0 < 18446744073709551616 ∧ 0 ≤ p1 ∧ p1 < 18446744073709551616 ∧ 0 ≤ p2 ∧ p2 < 18446744073709551616) ∧
      p0 * 340282366920938463463374607431768211456 + p1 * 18446744073709551616 + p2 = pos0 x * pos0 x * y ∧
      e = .returned (.agg #[.int .u64 p0, .int .u64 p1, .int .u64 p2]) ∧ w' = w.alloc (.cells o t) := by
  by_cases hn : x < 0
  · have hp : pos0 x = 0 := by unfold pos0; rw [if_pos hn]
    rw [hp]; clear hp
    go_enter Try.func68, Try.ntmps68
    go_wp2_with fail
    refine (mul64_any _ _ (by omega) (by omega) (by omega) (by omega) _).mono ?_
    rintro e w1 ⟨h, l, h0, h1, l0, l1, E1, rfl, rfl⟩
    go_wp2_with fail
    refine (mul64_any _ _ (by omega) (by omega) (by omega) (by omega) _).mono ?_
    rintro e w2 ⟨c, la, c0, c1, la0, la1, E2, rfl, rfl⟩
    go_wp2_with fail
    refine (mul64_any _ _ (by omega) (by omega) (by omega) (by omega) _).mono ?_
    rintro e w3 ⟨f, m, f0, f1, m0, m1, E3, rfl, rfl⟩
    obtain ⟨q1, q2, q3, q4, q5⟩ := square_math 0 y h l c la f m _ _ (by omega) (by omega) hy (by omega) E1.out E2.out E3.out l0 l1 f0 m0 m1 c0 c1 rfl rfl
    have Q1 : Hid _ := q1
    clear q1
    go_wp2_with (simp only [add64_0 m c m0 c0])
    refine bodyPost_ret (v := .agg #[.int .u64 (f + (m + c) / 18446744073709551616), .int .u64 ((m + c) % 18446744073709551616), .int .u64 la]) (by simp [results, Try.results68, go_sem]) rfl ?_
    exact ⟨_, _, _, _, _, ⟨q2, q3, q4, q5, la0, la1⟩, Q1.out, rfl, rfl⟩
  · have hp : pos0 x = x := by unfold pos0; rw [if_neg hn]
    rw [hp]; clear hp
    go_enter Try.func68, Try.ntmps68
    go_wp2_with fail
    refine (mul64_any _ _ (by omega) (by omega) (by omega) (by omega) _).mono ?_
    rintro e w1 ⟨h, l, h0, h1, l0, l1, E1, rfl, rfl⟩
    go_wp2_with fail
    refine (mul64_any _ _ (by omega) (by omega) (by omega) (by omega) _).mono ?_
    rintro e w2 ⟨c, la, c0, c1, la0, la1, E2, rfl, rfl⟩
    go_wp2_with fail
    refine (mul64_any _ _ (by omega) (by omega) (by omega) (by omega) _).mono ?_
    rintro e w3 ⟨f, m, f0, f1, m0, m1, E3, rfl, rfl⟩
    obtain ⟨q1, q2, q3, q4, q5⟩ := square_math x y h l c la f m _ _ (by omega) (by omega) hy (by omega) E1.out E2.out E3.out l0 l1 f0 m0 m1 c0 c1 rfl rfl
    have Q1 : Hid _ := q1
    clear q1
    go_wp2_with (simp only [add64_0 m c m0 c0])
    refine bodyPost_ret (v := .agg #[.int .u64 (f + (m + c) / 18446744073709551616), .int .u64 ((m + c) % 18446744073709551616), .int .u64 la]) (by simp [results, Try.results68, go_sem]) rfl ?_
    exact ⟨_, _, _, _, _, ⟨q2, q3, q4, q5, la0, la1⟩, Q1.out, rfl, rfl⟩

end Go.Proofs.Ytdeappknlcmbbaa
