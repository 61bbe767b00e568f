/- Contracts of package voxsatbig: Abs, Sign, Cmp, Uint64, Int64. -/
import Derived.Test.YtiamknnmgnbkgaaDoorBigF
import Derived.Deep.RegionHeld3
namespace Go.Proofs.YtiamknnmgnbkgaaDoor
open Go.RowKit
set_option linter.unusedVariables false
set_option maxHeartbeats 1000000

theorem cmp3_signs (x y : Int) (lx ly : List Int) (xw : WF lx) (yw : WF ly) (hx : val lx = x.natAbs) (hy : val ly = y.natAbs) :
    cmp3 x y = if x < 0 then (if y < 0 then cmp3 (val ly) (val lx) else -1) else (if y < 0 then 1 else cmp3 (val lx) (val ly)) := by
  unfold cmp3
  rw [hx, hy]
  repeat' split
  all_goals omega
theorem cmp3_neg (x y : Int) : -cmp3 x y = cmp3 y x := by unfold cmp3; repeat' split; all_goals omega
theorem cmp3_bd (x y : Int) : -1 ≤ cmp3 x y ∧ cmp3 x y ≤ 1 := by unfold cmp3; repeat' split; all_goals omega

theorem bigCmp_any (bx by' : Nat) (x y : Int) (w : World) (hx : IsI w bx x) (hy : IsI w by' y) :
    Calls Tryd.prog 24 #[.pointer (some ⟨bx, 0, none⟩), .pointer (some ⟨by', 0, none⟩)] w (Asks w (.int .i64 (cmp3 x y))) := by
  obtain ⟨vx, lx, x0, x1, xb, xs, xw, xt, xv, xl⟩ := IsI_cells hx
  obtain ⟨vy, ly, y0, y1, yb, ys, yw, yt, yv, yl⟩ := IsI_cells hy
  clear hx hy
  rw [cmp3_signs x y lx ly xw yw xv yv]
  have CMP := hide (show ∀ n, Calls Tryd.prog 33 #[vx, vy] (w.drewN n) (fun e w' => e = .returned (.int .i64 (cmp3 (val lx) (val ly))) ∧ ∃ m, w' = w.drewN m) from fun n => (bcmp_any vx vy lx ly (w.drewN n) (Sl_new xs (grown_drewN w n none)) (Sl_new ys (grown_drewN w n none)) xw yw xt yt (by omega) (by omega)).mono fun e w' h => ⟨h.1, by obtain ⟨m, hm⟩ := h.2; exact ⟨n + m, by rw [hm, World.drewN_drewN]⟩⟩)
  obtain ⟨b1, b2⟩ := cmp3_bd (val lx) (val ly)
  have HN := hide (cmp3_neg (val lx) (val ly))
  clear xs ys xw yw xt yt xv yv xl yl
  by_cases hxn : x < 0
  · rw [if_pos hxn]
    have dx : decide (x < 0) = true := decide_eq_true hxn
    rw [dx] at x0
    clear dx hxn
    by_cases hyn : y < 0
    · rw [if_pos hyn]
      have dy : decide (y < 0) = true := decide_eq_true hyn
      rw [dy] at y0
      clear dy hyn
      have F := hide (show ∀ m, Asks w (.int .i64 (cmp3 (val ly) (val lx))) (.returned (.int .i64 (-cmp3 (val lx) (val ly)))) (w.drewN m) from fun m => ⟨by rw [HN.out], m, rfl⟩)
      generalize Asks w (.int .i64 (cmp3 (val ly) (val lx))) = T at *
      clear HN
      go_enter Tryd.func24, Tryd.ntmps24
      go_wp2_with fail
      go_quiet (fail)
      go_wp2_with fail
      go_region_held3 (fun w' => w'.cell? ⟨bx, 0, none⟩ = some (.bool true) ∧ w'.cell? ⟨bx, 1, none⟩ = some vx ∧ w'.cell? ⟨by', 1, none⟩ = some vy) (simp [*])
        (first | (go_at_call 33; refine (CMP.out _).mono ?_; rintro e w1 ⟨rfl, m, rfl⟩))
      go_wp2_with fail
      exact F.out _
    · rw [if_neg hyn]
      have dy : decide (y < 0) = false := decide_eq_false hyn
      rw [dy] at y0
      clear dy hyn HN
      have F := hide (show ∀ m, Asks w (.int .i64 (-1)) (.returned (.int .i64 (-1))) (w.drewN m) from fun m => ⟨rfl, m, rfl⟩)
      generalize Asks w (.int .i64 (-1)) = T at *
      go_enter Tryd.func24, Tryd.ntmps24
      go_wp2_with fail
      go_quiet (fail)
      go_wp2_with fail
      exact F.out _
  · rw [if_neg hxn]
    have dx : decide (x < 0) = false := decide_eq_false hxn
    rw [dx] at x0
    clear dx hxn HN
    by_cases hyn : y < 0
    · rw [if_pos hyn]
      have dy : decide (y < 0) = true := decide_eq_true hyn
      rw [dy] at y0
      clear dy hyn
      have F := hide (show ∀ m, Asks w (.int .i64 1) (.returned (.int .i64 1)) (w.drewN m) from fun m => ⟨rfl, m, rfl⟩)
      generalize Asks w (.int .i64 1) = T at *
      go_enter Tryd.func24, Tryd.ntmps24
      go_wp2_with fail
      go_quiet (fail)
      go_wp2_with fail
      exact F.out _
    · rw [if_neg hyn]
      have dy : decide (y < 0) = false := decide_eq_false hyn
      rw [dy] at y0
      clear dy hyn
      have F := hide (show ∀ m, Asks w (.int .i64 (cmp3 (val lx) (val ly))) (.returned (.int .i64 (cmp3 (val lx) (val ly)))) (w.drewN m) from fun m => ⟨rfl, m, rfl⟩)
      generalize Asks w (.int .i64 (cmp3 (val lx) (val ly))) = T at *
      go_enter Tryd.func24, Tryd.ntmps24
      go_wp2_with fail
      go_quiet (fail)
      go_wp2_with fail
      go_region_held3 (fun w' => w'.cell? ⟨bx, 0, none⟩ = some (.bool false) ∧ w'.cell? ⟨bx, 1, none⟩ = some vx ∧ w'.cell? ⟨by', 1, none⟩ = some vy) (simp [*])
        (first | (go_at_call 33; refine (CMP.out _).mono ?_; rintro e w1 ⟨rfl, m, rfl⟩))
      go_wp2_with fail
      exact F.out _

end Go.Proofs.YtiamknnmgnbkgaaDoor
