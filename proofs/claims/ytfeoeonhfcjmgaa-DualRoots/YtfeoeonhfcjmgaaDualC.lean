/- The contracts of package dual: Root, Log. -/
import Derived.Test.YtfeoeonhfcjmgaaDual
import Derived.Test.YtfeoeonhfcjmgaaLenB
import Derived.Test.YtfeoeonhfcjmgaaGrow
namespace Go.Proofs.Ytfeoeonhfcjmgaa
open Go.RowKit
set_option maxHeartbeats 1000000

def IsRoot (a r : Int) : Prop := 0 ≤ r ∧ r * r ≤ a ∧ a < (r + 1) * (r + 1)
theorem root_no (a : Int) (h : a < 0 ∨ 2147483647 < a) (w : World) :
    Calls Try.prog 16 #[.int .i64 a] w fun e w' => e = .returned (.tuple #[.int .i64 0, .int .i64 2]) ∧ w' = w := by
  go_enter Try.func16, Try.ntmps16
  go_wp2_with fail
  refine (within_no _ _ _ h _).mono ?_
  rintro e w1 ⟨rfl, rfl⟩
  go_wp2_with fail
  go_ret2
  exact ⟨rfl, rfl⟩
theorem root_yes (a : Int) (h1 : 0 ≤ a) (h2 : a ≤ 2147483647) (w : World) :
    Calls Try.prog 16 #[.int .i64 a] w fun e w' => ∃ r, IsRoot a r ∧ e = .returned (.tuple #[.int .i64 r, .int .i64 0]) ∧ w' = w := by
  have R0 := hide (rooted_start a h1 h2)
  go_enter Try.func16, Try.ntmps16
  go_wp2_with fail
  refine (within_yes _ _ _ h1 h2 _).mono ?_
  rintro e w1 ⟨rfl, rfl⟩
  go_wp2_with fail
  go_loop [4, 5] (fun r b => ∃ (k : Nat) (R : Int), r = .int .i64 R ∧ b = .int .i64 (half2 k) ∧ k ≤ 16 ∧ Hid (Rooted a k R)) (fun _ b => (intOf b).toNat)
  case atStart => exact ⟨16, 0, rfl, by rw [show half2 16 = 32768 by decide], by omega, R0⟩
  case round =>
    obtain ⟨k, R, rfl, rfl, hk, hR⟩ := hrel
    cases k with
    | zero =>
      rw [half2_zero]
      go_wp2_with fail
      go_ret2
      exact ⟨R, hR.out, rfl, rfl⟩
    | succ k =>
      obtain ⟨p1, p2⟩ := pow_le k 15 (by omega)
      obtain ⟨r0, r1⟩ := (⟨hR.out.1, root_bd a R hR.out.2.1 h2⟩ : 0 ≤ R ∧ R ≤ 46340)
      have UP := hide (rooted_up a k R hR.out)
      have ST := hide (rooted_stay a k R hR.out)
      have HH := hide (show half2 k = (2 : Int) ^ k / 2 from rfl)
      have m1 := sq_le 0 (R + 2 ^ k) (by omega) (by omega)
      have m2 := sq_le (R + 2 ^ k) 79108 (by omega) (by omega)
      rw [half2_succ]
      generalize (2 : Int) ^ k = p at *
      clear hR
      by_cases hm : (R + p) * (R + p) ≤ a
      · go_wp2_with fail
        go_round
        case rel => exact ⟨k, R + p, by go_num, by rw [HH.out], by omega, UP.out hm⟩
        case measure => simp [intOf]; omega
      · go_wp2_with fail
        go_round
        case rel => exact ⟨k, R, by go_num, by rw [HH.out], by omega, ST.out hm⟩
        case measure => simp [intOf]; omega
theorem log_no (a : Int) (h : a < 1 ∨ 2147483647 < a) (w : World) :
    Calls Try.prog 18 #[.int .i64 a] w fun e w' => e = .returned (.tuple #[.int .i64 0, .int .i64 0, .int .i64 2]) ∧ w' = w := by
  go_enter Try.func18, Try.ntmps18
  go_wp2_with fail
  refine (within_no _ _ _ h _).mono ?_
  rintro e w1 ⟨rfl, rfl⟩
  go_wp2_with fail
  go_ret3
  exact ⟨rfl, rfl⟩
/-- Of a number of n + 1 bits. -/
theorem log_yes (a : Int) (n : Nat) (hn : n ≤ 30) (h1 : 2 ^ n ≤ a) (h2 : a < 2 ^ (n + 1)) (w : World) :
    Calls Try.prog 18 #[.int .i64 a] w fun e w' => e = .returned (.tuple #[.int .i64 n, .int .i64 (logF (a * 2 ^ (30 - n)) 15), .int .i64 0]) ∧ w' = w := by
  obtain ⟨x1, x2⟩ := lift_bd a n hn h1 h2
  have p1 := pow_le n 30 hn
  have p2 := pow_le (n + 1) 31 (by omega)
  have L := len_any a w (by omega) (by omega)
  rw [bitLen_pow n a.toNat (by have := pow_nat n; omega) (by have := pow_nat (n + 1); omega) (by omega)] at L
  have a1 : 1 ≤ a := by omega
  have a2 : a ≤ 2147483647 := by omega
  have B := hide (log_bd _ x1 x2)
  have HL := hide L
  clear L h1 h2 p1 p2
  go_enter Try.func18, Try.ntmps18
  go_wp2_with fail
  refine (within_yes _ _ _ a1 a2 _).mono ?_
  rintro e w1 ⟨rfl, rfl⟩
  go_wp2_with fail
  refine HL.out.mono ?_
  rintro e w2 ⟨rfl, rfl⟩
  clear HL
  go_wp2_with fail
  generalize hX : a * 2 ^ (30 - n) = X at *
  have HX := hide hX
  clear hX
  go_loop [6, 7, 19] (fun x f i => ∃ k : Nat, i = .int .i64 k ∧ x = .int .i64 (logX X k) ∧ f = .int .i64 (logF X k) ∧ k ≤ 15) (fun _ _ i => 15 - (intOf i).toNat)
  case atStart => exact ⟨0, rfl, rfl, rfl, by omega⟩
  case round =>
    obtain ⟨k, rfl, rfl, rfl, hk⟩ := hrel
    obtain ⟨b1, b2, b3, b4⟩ := B.out k
    obtain ⟨s1, s2⟩ := sq_bd _ b1 b2
    have b5 := (pow_le k 15 hk).2
    have b6 : logF X k < 32768 := by omega
    have UP := hide (log_up X k)
    have ST := hide (log_stay X k)
    clear b4 b5 x1 x2 B
    by_cases hk' : k = 15
    · subst hk'
      generalize hx : logX X 15 = x at *
      generalize hf : logF X 15 = f at *
      go_wp2_with fail
      go_ret3
      exact ⟨by rw [HX.out, hf]; rfl, rfl⟩
    · generalize logX X k = x at *
      generalize logF X k = f at *
      by_cases hm : 2147483648 ≤ x * x / 1073741824
      · go_wp2_with fail
        go_round
        case rel => exact ⟨k + 1, by go_num, by rw [(UP.out hm).1], by rw [(UP.out hm).2], by omega⟩
        case measure => simp [intOf]; omega
      · go_wp2_with fail
        go_round
        case rel => exact ⟨k + 1, by go_num, by rw [(ST.out hm).1], by rw [(ST.out hm).2], by omega⟩
        case measure => simp [intOf]; omega
end Go.Proofs.Ytfeoeonhfcjmgaa
