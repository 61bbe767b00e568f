/- Contracts of package quant: level, Level, One. -/
import Derived.Test.YtilomkjjflcdjaaDoorQuantA
namespace Go.Proofs.YtilomkjjflcdjaaDoor
open Go.RowKit
set_option linter.unusedVariables false
set_option maxHeartbeats 1000000

theorem two_pow (b : Nat) : (2 : Int) ^ (2 * b) = (many b : Int) * (many b : Int) := by
  unfold many
  rw [Nat.two_mul, Int.pow_add]
  simp
theorem level_up (i : Nat) (h : i < 8) (n : Int) (h1 : (many (wid i) : Int) ≤ 2 * n) (h2 : n < many (wid i)) (w : World) (hW : Wide w) :
    Calls Tryd.prog 24 #[.int .i64 i, .int .i64 n] w fun e w' => e = .returned (.int .i64 (upL (many (wid i)) n)) ∧ w' = w := by
  have C := hide (count_any i h w hW)
  have hc := hW i h
  have hb := hide (upL_bd (wid i) n (okW i) h1 h2)
  obtain ⟨q, hq⟩ := many_even (wid i) (okW i)
  obtain ⟨m1, m2⟩ := many_bd (wid i) (okW i)
  have hs := sq_bd (many (wid i)) (2 * ((many (wid i) : Int) - n) - 1) (by omega) (by omega) (by omega) (by omega)
  have hU := hide (show upL (many (wid i)) n = 31000 - 31000 * (2 * ((many (wid i) : Int) - n) - 1) * (2 * ((many (wid i) : Int) - n) - 1) / (many (wid i) * many (wid i)) from rfl)
  have hp := two_pow (wid i)
  have hb' : wid i ≤ 6 := by rcases okW i with e | e | e | e <;> omega
  clear hW
  generalize upL (many (wid i)) n = U at *
  generalize hM : many (wid i) = M at *
  generalize hB : wid i = b at *
  clear hM hq
  have hlt : ¬ n < (M : Int) / 2 := by omega
  obtain ⟨s1, s2, s3, s4, s5, s6⟩ := hs
  go_enter Tryd.func24, Tryd.ntmps24
  go_wp2_with fail
  refine C.out.mono ?_
  rintro e w1 ⟨rfl, rfl⟩
  clear C
  go_wp2_with fail
  go_ret
  exact ⟨by rw [hU.out]; rfl, rfl⟩
theorem level_any (i : Nat) (h : i < 8) (n : Int) (h1 : 0 ≤ n) (h2 : n < many (wid i)) (w : World) (hW : Wide w) :
    Calls Tryd.prog 24 #[.int .i64 i, .int .i64 n] w fun e w' => e = .returned (.int .i64 (lvl (wid i) n)) ∧ w' = w := by
  by_cases hn : 2 * n < many (wid i)
  · rw [lvl_low _ _ hn]
    obtain ⟨q, hq⟩ := many_even (wid i) (okW i)
    obtain ⟨m1, m2⟩ := many_bd (wid i) (okW i)
    have C := hide (count_any i h w hW)
    have L := hide (level_up i h ((many (wid i) : Int) - 1 - n) (by omega) (by omega) w hW)
    obtain ⟨u1, u2⟩ := upL_bd (wid i) ((many (wid i) : Int) - 1 - n) (okW i) (by omega) (by omega)
    clear hW
    have hlt : n < (many (wid i) : Int) / 2 := by omega
    clear hq
    generalize upL (many (wid i)) ((many (wid i) : Int) - 1 - n) = U at *
    generalize many (wid i) = M at *
    go_enter Tryd.func24, Tryd.ntmps24
    go_wp2_with fail
    refine C.out.mono ?_
    rintro e w1 ⟨rfl, rfl⟩
    clear C
    go_wp2_with fail
    refine L.out.mono ?_
    rintro e w1 ⟨rfl, rfl⟩
    clear L
    go_wp2_with fail
    go_ret
    exact ⟨rfl, rfl⟩
  · rw [lvl_high _ _ hn]
    exact level_up i h n (by omega) h2 w hW
theorem Level_kind (i n : Int) (h : i < 0 ∨ 7 < i) (w : World) :
    Calls Tryd.prog 9 #[.int .i64 i, .int .i64 n] w fun e w' => e = .returned (.tuple #[.int .i64 0, .int .i64 4]) ∧ w' = w := by
  go_enter Tryd.func9, Tryd.ntmps9
  go_wp2_with fail
  refine (known_no i h _).mono ?_
  rintro e w1 ⟨rfl, rfl⟩
  go_wp2_with fail
  go_ret2
  exact ⟨rfl, rfl⟩
theorem Level_range (i : Nat) (h : i < 8) (n : Int) (hn : n < 0 ∨ (many (wid i) : Int) - 1 < n) (w : World) (hW : Wide w) :
    Calls Tryd.prog 9 #[.int .i64 i, .int .i64 n] w fun e w' => e = .returned (.tuple #[.int .i64 0, .int .i64 2]) ∧ w' = w := by
  have C := hide (count_any i h w hW)
  obtain ⟨m1, m2⟩ := many_bd (wid i) (okW i)
  clear hW
  generalize many (wid i) = M at *
  go_enter Tryd.func9, Tryd.ntmps9
  go_wp2_with fail
  refine (known_yes i h _).mono ?_
  rintro e w1 ⟨rfl, rfl⟩
  go_wp2_with fail
  refine C.out.mono ?_
  rintro e w1 ⟨rfl, rfl⟩
  clear C
  go_wp2_with fail
  refine (qin_no _ _ _ hn _).mono ?_
  rintro e w1 ⟨rfl, rfl⟩
  go_wp2_with fail
  go_ret2
  exact ⟨rfl, rfl⟩
theorem Level_yes (i : Nat) (h : i < 8) (n : Int) (h1 : 0 ≤ n) (h2 : n < many (wid i)) (w : World) (hW : Wide w) :
    Calls Tryd.prog 9 #[.int .i64 i, .int .i64 n] w fun e w' => e = .returned (.tuple #[.int .i64 (lvl (wid i) n), .int .i64 0]) ∧ w' = w := by
  have C := hide (count_any i h w hW)
  have L := hide (level_any i h n h1 h2 w hW)
  obtain ⟨m1, m2⟩ := many_bd (wid i) (okW i)
  clear hW
  generalize lvl (wid i) n = U at *
  generalize many (wid i) = M at *
  go_enter Tryd.func9, Tryd.ntmps9
  go_wp2_with fail
  refine (known_yes i h _).mono ?_
  rintro e w1 ⟨rfl, rfl⟩
  go_wp2_with fail
  refine C.out.mono ?_
  rintro e w1 ⟨rfl, rfl⟩
  clear C
  go_wp2_with fail
  refine (qin_yes _ _ _ h1 (by omega) _).mono ?_
  rintro e w1 ⟨rfl, rfl⟩
  go_wp2_with fail
  refine L.out.mono ?_
  rintro e w1 ⟨rfl, rfl⟩
  go_wp2_with fail
  go_ret2
  exact ⟨rfl, rfl⟩
theorem One_kind (i k : Int) (h : i < 0 ∨ 7 < i) (w : World) :
    Calls Tryd.prog 13 #[.int .i64 i, .int .i64 k] w fun e w' => e = .returned (.tuple #[.int .i64 0, .int .i64 4]) ∧ w' = w := by
  go_enter Tryd.func13, Tryd.ntmps13
  go_wp2_with fail
  refine (known_no i h _).mono ?_
  rintro e w1 ⟨rfl, rfl⟩
  go_wp2_with fail
  go_ret2
  exact ⟨rfl, rfl⟩
theorem One_range (i : Nat) (h : i < 8) (k : Int) (hk : k < -32768 ∨ 32768 < k) (w : World) :
    Calls Tryd.prog 13 #[.int .i64 i, .int .i64 k] w fun e w' => e = .returned (.tuple #[.int .i64 0, .int .i64 2]) ∧ w' = w := by
  go_enter Tryd.func13, Tryd.ntmps13
  go_wp2_with fail
  refine (known_yes i h _).mono ?_
  rintro e w1 ⟨rfl, rfl⟩
  go_wp2_with fail
  refine (qin_no _ _ _ hk _).mono ?_
  rintro e w1 ⟨rfl, rfl⟩
  go_wp2_with fail
  go_ret2
  exact ⟨rfl, rfl⟩
theorem One_yes (i : Nat) (h : i < 8) (k : Int) (h1 : -32768 ≤ k) (h2 : k ≤ 32768) (w : World) (hW : Wide w) :
    Calls Tryd.prog 13 #[.int .i64 i, .int .i64 k] w fun e w' => e = .returned (.tuple #[.int .i64 (one (wid i) k : Int), .int .i64 0]) ∧ w' = w := by
  have C := hide (count_any i h w hW)
  obtain ⟨m1, m2⟩ := many_bd (wid i) (okW i)
  have LV := hide (fun (n : Nat) (hn : n < many (wid i)) => level_any i h n (by omega) (by omega) w hW)
  have BD := hide (fun (n : Nat) (hn : n < many (wid i)) => lvl_bd (wid i) n (okW i) (by omega) (by omega))
  have hone := hide (show one (wid i) k = best (wid i) k (many (wid i)) from rfl)
  clear hW
  generalize one (wid i) k = R at *
  generalize wid i = b at *
  generalize many b = M at *
  go_enter Tryd.func13, Tryd.ntmps13
  go_wp2_with fail
  refine (known_yes i h _).mono ?_
  rintro e w1 ⟨rfl, rfl⟩
  go_wp2_with fail
  refine (qin_yes _ _ _ h1 h2 _).mono ?_
  rintro e w1 ⟨rfl, rfl⟩
  go_wp2_with fail
  refine C.out.mono ?_
  rintro e w1 ⟨rfl, rfl⟩
  clear C
  go_wp2_with fail
  go_loop [6, 16] (fun x j => ∃ n : Nat, j = .int .i64 n ∧ x = .int .i64 (best b k n : Int) ∧ n ≤ M) (fun _ j => M - (intOf j).toNat)
  case atStart => exact ⟨0, rfl, rfl, by omega⟩
  case round =>
    obtain ⟨n, rfl, rfl, hn⟩ := hrel
    by_cases hn' : n = M
    · subst hn'
      rw [← hone.out]
      clear hone
      go_wp2_with fail
      go_ret2
      exact ⟨rfl, rfl⟩
    · have hbl := best_in b k n M hn (by omega)
      have L1 := hide (LV.out n (by omega))
      have L2 := hide (LV.out (best b k n) hbl)
      obtain ⟨a1, a2⟩ := BD.out n (by omega)
      obtain ⟨c1, c2⟩ := BD.out (best b k n) hbl
      clear BD hone LV
      by_cases hg : gap b k n < gap b k (best b k n)
      · have e := hide (best_yes b k n hg)
        have hg' : far (lvl b n) k < far (lvl b (best b k n)) k := hg
        clear hg
        generalize best b k n = B at *
        generalize lvl b n = X at *
        generalize lvl b B = Y at *
        have F1 := hide (apart_any X k (by omega) (by omega) (by omega) (by omega) w1)
        have F2 := hide (apart_any Y k (by omega) (by omega) (by omega) (by omega) w1)
        generalize far X k = U at *
        generalize far Y k = V at *
        go_wp2_with fail
        refine L1.out.mono ?_
        rintro e w2 ⟨rfl, rfl⟩
        go_wp2_with fail
        refine F1.out.mono ?_
        rintro e w2 ⟨rfl, rfl⟩
        go_wp2_with fail
        refine L2.out.mono ?_
        rintro e w2 ⟨rfl, rfl⟩
        go_wp2_with fail
        refine F2.out.mono ?_
        rintro e w2 ⟨rfl, rfl⟩
        go_wp2_with fail
        go_round
        case rel => exact ⟨n + 1, by go_num, by rw [e.out], by omega⟩
        case measure => simp [intOf]; omega
      · have e := hide (best_no b k n hg)
        have hg' : ¬ far (lvl b n) k < far (lvl b (best b k n)) k := hg
        clear hg
        generalize best b k n = B at *
        generalize lvl b n = X at *
        generalize lvl b B = Y at *
        have F1 := hide (apart_any X k (by omega) (by omega) (by omega) (by omega) w1)
        have F2 := hide (apart_any Y k (by omega) (by omega) (by omega) (by omega) w1)
        generalize far X k = U at *
        generalize far Y k = V at *
        go_wp2_with fail
        refine L1.out.mono ?_
        rintro e w2 ⟨rfl, rfl⟩
        go_wp2_with fail
        refine F1.out.mono ?_
        rintro e w2 ⟨rfl, rfl⟩
        go_wp2_with fail
        refine L2.out.mono ?_
        rintro e w2 ⟨rfl, rfl⟩
        go_wp2_with fail
        refine F2.out.mono ?_
        rintro e w2 ⟨rfl, rfl⟩
        go_wp2_with fail
        go_round
        case rel => exact ⟨n + 1, by go_num, by rw [e.out], by omega⟩
        case measure => simp [intOf]; omega
end Go.Proofs.YtilomkjjflcdjaaDoor
