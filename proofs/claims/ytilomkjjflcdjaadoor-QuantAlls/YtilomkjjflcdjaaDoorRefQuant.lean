/- Contracts of the reference's Width, Level, One, where its table of widths reads as the program's text lays it. -/
import Derived.Test.YtilomkjjflcdjaaDoorBigC
import Derived.Test.YtilomkjjflcdjaaDoorQuantB
import Derived.Deep.RegionHeld3
namespace Go.Proofs.YtilomkjjflcdjaaDoor
open Go.RowKit
set_option linter.unusedVariables false
set_option maxHeartbeats 1000000

theorem cmpAbs_any (bx by' : Nat) (x y : Int) (w : World) (hx : IsI w bx x) (hy : IsI w by' y) :
    Calls Tryd.prog 27 #[.pointer (some ⟨bx, 0, none⟩), .pointer (some ⟨by', 0, none⟩)] w (Asks w (.int .i64 (cmp3 (x.natAbs : Int) (y.natAbs : Int)))) := by
  obtain ⟨vx, lx, hx0, xs, xw, xt, xv, xl⟩ := hx
  obtain ⟨vy, ly, hy0, ys, yw, yt, yv, yl⟩ := hy
  have x1 : w.cell? ⟨bx, 1, none⟩ = some vx := by rw [cell_of_heap hx0]; rfl
  have y1 : w.cell? ⟨by', 1, none⟩ = some vy := by rw [cell_of_heap hy0]; rfl
  have CMP := hide (show ∀ n, Calls Tryd.prog 30 #[vx, vy] (w.drewN n) (fun e w' => e = .returned (.int .i64 (cmp3 (val lx) (val ly))) ∧ ∃ m, w' = w.drewN m) from fun n => (bcmp_any vx vy lx ly (w.drewN n) (Sl_new xs (grown_drewN' w n none)) (Sl_new ys (grown_drewN' w n none)) xw yw xt yt (by omega) (by omega)).mono fun e w' h => ⟨h.1, by obtain ⟨m, hm⟩ := h.2; exact ⟨n + m, by rw [hm, World.drewN_drewN]⟩⟩)
  rw [← xv, ← yv]
  clear hx0 hy0 xs ys xw yw xt yt xv yv xl yl
  have F := hide (show ∀ m, Asks w (.int .i64 (cmp3 (val lx) (val ly))) (.returned (.int .i64 (cmp3 (val lx) (val ly)))) (w.drewN m) from fun m => ⟨rfl, m, rfl⟩)
  generalize Asks w (.int .i64 (cmp3 (val lx) (val ly))) = T at *
  generalize cmp3 (val lx) (val ly) = c at *
  go_enter Tryd.func27, Tryd.ntmps27
  go_wp2_with fail
  go_region_held3 (fun w' => w'.cell? ⟨bx, 1, none⟩ = some vx ∧ w'.cell? ⟨by', 1, none⟩ = some vy) (simp [*])
    (first | (go_at_call 30; refine (CMP.out _).mono ?_; rintro e w1 ⟨rfl, m, rfl⟩))
  go_wp2_with fail
  exact F.out _

/-- The reference's table of widths lies behind block 1. -/
def WideR (w : World) (a : Addr) (c : Nat) : Prop := TabS w 1 a c wids 8
theorem WideR_keep {w w' : World} {a : Addr} {c : Nat} (h : WideR w a c) (g : w.grownBy w' none) : WideR w' a c := TabS_keep h g
theorem refWidth_yes (i : Nat) (h : i < 8) (a : Addr) (c : Nat) (w : World) (hW : WideR w a c) :
    Calls Tryd.prog 12 #[.int .i64 i] w fun e w' => e = .returned (.int .i64 (wid i : Int)) ∧ w' = w := by
  obtain ⟨h1, h2, h3⟩ := hW
  have h4 := h3 i h
  rw [wids_at i h] at h4
  clear h3
  generalize wid i = b at *
  go_enter Tryd.func12, Tryd.ntmps12
  go_wp2_with fail
  go_ret
  exact ⟨rfl, rfl⟩
theorem refWidth_no (i : Int) (h : i < 0 ∨ 7 < i) (w : World) :
    Calls Tryd.prog 12 #[.int .i64 i] w fun e w' => e = .returned (.int .i64 0) ∧ w' = w := by
  by_cases h1 : i < 0
  · clear h
    go_enter Tryd.func12, Tryd.ntmps12
    go_wp2_with fail
    go_ret
    exact ⟨rfl, rfl⟩
  · have h2 : 7 < i := by omega
    clear h
    go_enter Tryd.func12, Tryd.ntmps12
    go_wp2_with fail
    go_ret
    exact ⟨rfl, rfl⟩
theorem refLevel_kind (i n : Int) (h : i < 0 ∨ 7 < i) (w : World) :
    Calls Tryd.prog 10 #[.int .i64 i, .int .i64 n] w fun e w' => e = .returned (.tuple #[.int .i64 0, .int .i64 4]) ∧ w' = w := by
  go_enter Tryd.func10, Tryd.ntmps10
  go_wp2_with fail
  refine (refWidth_no i h _).mono ?_
  rintro e w1 ⟨rfl, rfl⟩
  go_wp2_with fail
  go_ret2
  exact ⟨rfl, rfl⟩
theorem many_pow' (b : Nat) : (2 : Int) ^ b = (many b : Int) := by unfold many; simp
theorem okB_bd' (b : Nat) (h : okB b) : 3 ≤ b ∧ b ≤ 6 := by rcases h with e | e | e | e <;> omega
theorem refLevel_range (i : Nat) (h : i < 8) (n : Int) (hn : n < 0 ∨ (many (wid i) : Int) - 1 < n) (a : Addr) (c : Nat) (w : World) (hW : WideR w a c) :
    Calls Tryd.prog 10 #[.int .i64 i, .int .i64 n] w fun e w' => e = .returned (.tuple #[.int .i64 0, .int .i64 2]) ∧ w' = w := by
  have WI := hide (refWidth_yes i h a c w hW)
  obtain ⟨b1, b2⟩ := okB_bd' _ (okW i)
  obtain ⟨m1, m2⟩ := many_bd (wid i) (okW i)
  have hp := many_pow' (wid i)
  clear hW
  generalize many (wid i) = M at *
  generalize wid i = b at *
  by_cases hn1 : n < 0
  · clear hn
    go_enter Tryd.func10, Tryd.ntmps10
    go_wp2_with fail
    refine WI.out.mono ?_
    rintro e w1 ⟨rfl, rfl⟩
    go_wp2_with fail
    refine WI.out.mono ?_
    rintro e w1 ⟨rfl, rfl⟩
    go_wp2_with fail
    go_ret2
    exact ⟨rfl, rfl⟩
  · have hn2 : (M : Int) ≤ n := by omega
    clear hn
    go_enter Tryd.func10, Tryd.ntmps10
    go_wp2_with fail
    refine WI.out.mono ?_
    rintro e w1 ⟨rfl, rfl⟩
    go_wp2_with fail
    refine WI.out.mono ?_
    rintro e w1 ⟨rfl, rfl⟩
    go_wp2_with fail
    go_ret2
    exact ⟨rfl, rfl⟩
theorem refLevel_up (i : Nat) (h : i < 8) (n : Int) (h1 : (many (wid i) : Int) ≤ 2 * n) (h2 : n < many (wid i)) (a : Addr) (c : Nat) (w : World) (hW : WideR w a c) :
    Calls Tryd.prog 10 #[.int .i64 i, .int .i64 n] w fun e w' => e = .returned (.tuple #[.int .i64 (upL (many (wid i)) n), .int .i64 0]) ∧ w' = w := by
  have WI := hide (refWidth_yes i h a c w hW)
  obtain ⟨b1, b2⟩ := okB_bd' _ (okW i)
  obtain ⟨q, hq⟩ := many_even (wid i) (okW i)
  obtain ⟨m1, m2⟩ := many_bd (wid i) (okW i)
  have hs := sq_bd (many (wid i)) (2 * ((many (wid i) : Int) - n) - 1) (by omega) (by omega) (by omega) (by omega)
  have hU := hide (show upL (many (wid i)) n = 31000 - 31000 * (2 * ((many (wid i) : Int) - n) - 1) * (2 * ((many (wid i) : Int) - n) - 1) / (many (wid i) * many (wid i)) from rfl)
  have hp := many_pow' (wid i)
  clear hW hq
  generalize upL (many (wid i)) n = U at *
  generalize many (wid i) = M at *
  generalize wid i = b at *
  obtain ⟨s1, s2, s3, s4, s5, s6⟩ := hs
  have hd : (31000 * (2 * ((M : Int) - n) - 1) * (2 * ((M : Int) - n) - 1)).tdiv ((M : Int) * M) = 31000 * (2 * ((M : Int) - n) - 1) * (2 * ((M : Int) - n) - 1) / ((M : Int) * M) := Int.tdiv_eq_ediv_of_nonneg s3
  go_enter Tryd.func10, Tryd.ntmps10
  go_wp2_with fail
  refine WI.out.mono ?_
  rintro e w1 ⟨rfl, rfl⟩
  go_wp2_with fail
  refine WI.out.mono ?_
  rintro e w1 ⟨rfl, rfl⟩
  go_wp2_with fail
  go_ret2
  exact ⟨by rw [hU.out]; rfl, rfl⟩
theorem refLevel_yes (i : Nat) (h : i < 8) (n : Int) (h1 : 0 ≤ n) (h2 : n < many (wid i)) (a : Addr) (c : Nat) (w : World) (hW : WideR w a c) :
    Calls Tryd.prog 10 #[.int .i64 i, .int .i64 n] w fun e w' => e = .returned (.tuple #[.int .i64 (lvl (wid i) n), .int .i64 0]) ∧ w' = w := by
  by_cases hn : 2 * n < many (wid i)
  · rw [lvl_low _ _ hn]
    obtain ⟨q, hq⟩ := many_even (wid i) (okW i)
    obtain ⟨m1, m2⟩ := many_bd (wid i) (okW i)
    obtain ⟨b1, b2⟩ := okB_bd' _ (okW i)
    have WI := hide (refWidth_yes i h a c w hW)
    have L := hide (refLevel_up i h ((many (wid i) : Int) - 1 - n) (by omega) (by omega) a c w hW)
    obtain ⟨u1, u2⟩ := upL_bd (wid i) ((many (wid i) : Int) - 1 - n) (okW i) (by omega) (by omega)
    have hp := many_pow' (wid i)
    clear hW hq
    generalize upL (many (wid i)) ((many (wid i) : Int) - 1 - n) = U at *
    generalize many (wid i) = M at *
    generalize wid i = b at *
    go_enter Tryd.func10, Tryd.ntmps10
    go_wp2_with fail
    refine WI.out.mono ?_
    rintro e w1 ⟨rfl, rfl⟩
    go_wp2_with fail
    refine WI.out.mono ?_
    rintro e w1 ⟨rfl, rfl⟩
    go_wp2_with fail
    refine L.out.mono ?_
    rintro e w1 ⟨rfl, rfl⟩
    clear L
    go_wp2_with fail
    go_ret2
    exact ⟨rfl, rfl⟩
  · rw [lvl_high _ _ hn]
    exact refLevel_up i h n (by omega) h2 a c w hW
theorem refOne_kind (i k : Int) (h : i < 0 ∨ 7 < i) (w : World) :
    Calls Tryd.prog 14 #[.int .i64 i, .int .i64 k] w fun e w' => e = .returned (.tuple #[.int .i64 0, .int .i64 4]) ∧ w' = w := by
  go_enter Tryd.func14, Tryd.ntmps14
  go_wp2_with fail
  refine (refWidth_no i h _).mono ?_
  rintro e w1 ⟨rfl, rfl⟩
  go_wp2_with fail
  go_ret2
  exact ⟨rfl, rfl⟩
theorem refOne_range (i : Nat) (h : i < 8) (k : Int) (hk : k < -32768 ∨ 32768 < k) (a : Addr) (c : Nat) (w : World) (hW : WideR w a c) :
    Calls Tryd.prog 14 #[.int .i64 i, .int .i64 k] w fun e w' => e = .returned (.tuple #[.int .i64 0, .int .i64 2]) ∧ w' = w := by
  have WI := hide (refWidth_yes i h a c w hW)
  obtain ⟨b1, b2⟩ := okB_bd' _ (okW i)
  clear hW
  generalize wid i = b at *
  by_cases hk1 : k < -32768
  · clear hk
    go_enter Tryd.func14, Tryd.ntmps14
    go_wp2_with fail
    refine WI.out.mono ?_
    rintro e w1 ⟨rfl, rfl⟩
    go_wp2_with fail
    go_ret2
    exact ⟨rfl, rfl⟩
  · have hk2 : 32768 < k := by omega
    clear hk
    go_enter Tryd.func14, Tryd.ntmps14
    go_wp2_with fail
    refine WI.out.mono ?_
    rintro e w1 ⟨rfl, rfl⟩
    go_wp2_with fail
    go_ret2
    exact ⟨rfl, rfl⟩
end Go.Proofs.YtilomkjjflcdjaaDoor
