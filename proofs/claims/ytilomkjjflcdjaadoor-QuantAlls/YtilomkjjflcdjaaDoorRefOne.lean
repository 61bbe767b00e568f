/- The contract of the reference's One. -/
import Derived.Test.YtilomkjjflcdjaaDoorRefQuant
namespace Go.Proofs.YtilomkjjflcdjaaDoor
open Go.RowKit
set_option linter.unusedVariables false
set_option maxHeartbeats 1000000

theorem cmp_far (x y k : Int) : (cmp3 ((x - k).natAbs : Int) ((y - k).natAbs : Int) < 0) ↔ far x k < far y k := by
  unfold cmp3 far
  repeat' split
  all_goals omega
theorem cmp3_in (x y : Int) : -1 ≤ cmp3 x y ∧ cmp3 x y ≤ 1 := by unfold cmp3; repeat' split; all_goals omega
theorem refOne_yes (i : Nat) (h : i < 8) (k : Int) (h1 : -32768 ≤ k) (h2 : k ≤ 32768) (a : Addr) (c : Nat) (w : World) (hW : WideR w a c) :
    Calls Tryd.prog 14 #[.int .i64 i, .int .i64 k] w fun e w' => e = .returned (.tuple #[.int .i64 (one (wid i) k : Int), .int .i64 0]) ∧ w.grownBy w' none := by
  have WI := hide (fun wr (g : w.grownBy wr none) => refWidth_yes i h a c wr (WideR_keep hW g))
  obtain ⟨b1, b2⟩ := okB_bd' _ (okW i)
  obtain ⟨m1, m2⟩ := many_bd (wid i) (okW i)
  have LV := hide (fun (n : Nat) (hn : n < many (wid i)) wr (g : w.grownBy wr none) => refLevel_yes i h n (by omega) (by omega) a c wr (WideR_keep hW g))
  have BD := hide (fun (n : Nat) (hn : n < many (wid i)) => lvl_bd (wid i) n (okW i) (by omega) (by omega))
  have hone := hide (show one (wid i) k = best (wid i) k (many (wid i)) from rfl)
  have hp := many_pow' (wid i)
  clear hW
  generalize one (wid i) k = R at *
  generalize many (wid i) = M at *
  generalize wid i = b at *
  go_enter Tryd.func14, Tryd.ntmps14
  go_wp2_with fail
  refine (WI.out _ (grown_refl _ _)).mono ?_
  rintro e w1 ⟨rfl, rfl⟩
  go_wp2_with fail
  go_loopw [6, 7] (fun x j wr => ∃ n : Nat, j = .int .i64 n ∧ x = .int .i64 (best b k n : Int) ∧ 1 ≤ n ∧ n ≤ M ∧ Hid (w1.grownBy wr none)) (fun _ j _ => M - (intOf j).toNat)
  case atStart => exact ⟨1, rfl, by rw [best_one]; rfl, by omega, by omega, grown_refl _ _⟩
  case round =>
    obtain ⟨n, rfl, rfl, hn1, hn, hg⟩ := hrel
    by_cases hn' : n = M
    · subst hn'
      rw [← hone.out]
      clear hone LV BD
      go_wp2_with fail
      refine (WI.out _ hg.out).mono ?_
      rintro e w2 ⟨rfl, rfl⟩
      go_wp2_with fail
      go_ret2
      exact ⟨rfl, hg.out⟩
    · have hbl := best_in b k n M hn (by omega)
      obtain ⟨a1, a2⟩ := BD.out n (by omega)
      obtain ⟨c1, c2⟩ := BD.out (best b k n) hbl
      have L1 := hide (LV.out n (by omega) wr hg.out)
      have L2 := hide (LV.out (best b k n) hbl wr hg.out)
      have W1 := hide (WI.out wr hg.out)
      have hbn : best b k (n + 1) = if cmp3 ((lvl b n - k).natAbs : Int) ((lvl b (best b k n) - k).natAbs : Int) < 0 then n else best b k n := by
        simp only [cmp_far]
        rfl
      clear BD hone LV WI
      have HB := hide hbn
      clear hbn
      generalize best b k n = B at *
      generalize lvl b n = X at *
      generalize lvl b B = Y at *
      go_wp2_with fail
      refine W1.out.mono ?_
      rintro e w2 ⟨rfl, rfl⟩
      go_wp2_with fail
      refine L2.out.mono ?_
      rintro e w2 ⟨rfl, rfl⟩
      go_wp2_with fail
      refine L1.out.mono ?_
      rintro e w2 ⟨rfl, rfl⟩
      go_wp2_with fail
      refine (whole_any _ _ (by omega) (by omega)).mono ?_
      rintro e w3 ⟨bx, rfl, hbx, ix, gx⟩
      have G3 := hide (show IsI w3 bx (X - k) ∧ w2.grownBy w3 none from ⟨ix, gx⟩)
      clear ix gx
      go_wp2_with fail
      refine (whole_any _ _ (by omega) (by omega)).mono ?_
      rintro e w4 ⟨by', rfl, hby, iy, gy⟩
      have CA := hide (cmpAbs_any bx by' _ _ w4 (IsI_new G3.out.1 gy) iy)
      have G4 := hide (grown_trans hg.out (grown_trans G3.out.2 gy none (fun i e _ => by cases e) (fun i e _ => by cases e)) none (fun i e _ => by cases e) (fun i e _ => by cases e))
      clear iy gy G3
      go_wp2_with fail
      refine CA.out.mono ?_
      rintro e w5 ⟨rfl, m, rfl⟩
      have G5 := hide (grown_trans G4.out (grown_drewN' w4 m none) none (fun i e _ => by cases e) (fun i e _ => by cases e))
      clear CA G4
      obtain ⟨d1, d2⟩ := cmp3_in ((X - k).natAbs : Int) ((Y - k).natAbs : Int)
      generalize cmp3 ((X - k).natAbs : Int) ((Y - k).natAbs : Int) = C at *
      by_cases hC : C < 0
      · have e := HB.out
        rw [if_pos hC] at e
        have E := hide e
        clear e HB
        go_wp2_with fail
        go_roundw
        case rel => exact ⟨n + 1, by go_num, by rw [E.out], by omega, by omega, G5.out⟩
        case measure => simp [intOf]; omega
      · have e := HB.out
        rw [if_neg hC] at e
        have E := hide e
        clear e HB
        go_wp2_with fail
        go_roundw
        case rel => exact ⟨n + 1, by go_num, by rw [E.out], by omega, by omega, G5.out⟩
        case measure => simp [intOf]; omega
end Go.Proofs.YtilomkjjflcdjaaDoor
