/- Contracts of package pulses' within, at, sign, places, samples, product, stopped, energies. -/
import Derived.Test.YtdeappknlcmbbabLpcA
import Derived.Test.YtdeappknlcmbbabPulMath
import Derived.Test.YtdeappknlcmbbabSynW
import Derived.BigQuiet
import Derived.Deep.QuietTactic
namespace Go.Proofs.Ytdeappknlcmbbab
open Go.RowKit
set_option linter.unusedVariables false
set_option linter.unusedSimpArgs false
set_option maxHeartbeats 1000000

theorem build4 (u : World) : Sem.run Try.prog (Instr.build 22 #[]) u = .ok (.agg (arrI (zeros 4))) u := run_build u 22 #[] (arrI (zeros 4)) (by kernel_rfl)
theorem size4 : (Try.prog.info? 22).map (·.size) = some 4 := by kernel_rfl
theorem pulWithin_any (x a b : Int) (w : World) : Calls Try.prog 18 #[.int .i64 x, .int .i64 a, .int .i64 b] w (Ans w (.bool (decide (a ≤ x ∧ x ≤ b)))) := by
  by_cases h1 : a ≤ x
  · by_cases h2 : x ≤ b
    · rw [decide_eq_true (show a ≤ x ∧ x ≤ b from ⟨h1, h2⟩)]
      go_enter Try.func18, Try.ntmps18
      go_wp2_with fail
      go_ret
      exact ⟨rfl, rfl⟩
    · rw [decide_eq_false (show ¬ (a ≤ x ∧ x ≤ b) from fun h => h2 h.2)]
      go_enter Try.func18, Try.ntmps18
      go_wp2_with fail
      go_ret
      exact ⟨rfl, rfl⟩
  · rw [decide_eq_false (show ¬ (a ≤ x ∧ x ≤ b) from fun h => h1 h.1)]
    go_enter Try.func18, Try.ntmps18
    go_wp2_with fail
    go_ret
    exact ⟨rfl, rfl⟩
theorem pulAt_any (t p : Int) (h1 : 0 ≤ t) (h2 : t ≤ 3) (h3 : 0 ≤ p) (h4 : p ≤ 9) (w : World) : Calls Try.prog 20 #[.int .i64 t, .int .i64 p] w (Ans w (.int .i64 (t + 4 * p))) := by
  have F := hide (show Ans w (.int .i64 (t + 4 * p)) (.returned (.int .i64 (t + 4 * p))) w from ⟨rfl, rfl⟩)
  generalize Ans w (.int .i64 (t + 4 * p)) = T at *
  go_enter Try.func20, Try.ntmps20
  go_wp2_with fail
  exact F.out
theorem pulSign_any (x : Int) (w : World) : Calls Try.prog 35 #[.int .i64 x] w (Ans w (.int .i64 (sg x))) := by
  rcases sg_cases x with ⟨h, e⟩ | ⟨h, e⟩
  · rw [e]; clear e
    go_enter Try.func35, Try.ntmps35
    go_wp2_with fail
    go_ret
    exact ⟨rfl, rfl⟩
  · rw [e]; clear e
    go_enter Try.func35, Try.ntmps35
    go_wp2_with fail
    go_ret
    exact ⟨rfl, rfl⟩
theorem pulPlaces_any (x : List Int) (hx : x.length = 4) (w : World) : Calls Try.prog 19 #[.agg (arrI x)] w (AnsG w (.bool (goodX x))) := by
  have B0 := hide (Blk.new w 22 x)
  have G0 := hide (grown_alloc w (.cells (arrI x) 22) none)
  have Y := hide (fun (hh : ∀ i, i < 4 → 0 ≤ nth x i ∧ nth x i ≤ 9) => (show AnsG w (.bool (goodX x)) (.returned (.bool true)) (w.alloc (.cells (arrI x) 22)) from ⟨by rw [(goodX_iff x).2 (by rw [hx]; exact hh)], G0.out⟩))
  have N := hide (fun i (hi' : i < 4) (hh : ¬ (0 ≤ nth x i ∧ nth x i ≤ 9)) => (show AnsG w (.bool (goodX x)) (.returned (.bool false)) (w.alloc (.cells (arrI x) 22)) from ⟨by
    rcases hb : goodX x with _ | _
    · rfl
    · exact absurd ((goodX_iff x).1 hb i (by omega)) hh, G0.out⟩))
  have IX := hide (fun (k : Nat) (hk : k < 4) => index_arr x Try.underlying22 k (by omega) hx)
  generalize AnsG w (.bool (goodX x)) = T at *
  clear G0
  go_enter Try.func19, Try.ntmps19
  go_wp2_with (first | refine wpList_load_arr rfl 22 _ rfl _ rfl _ B0.out _ Try.underlying22 rfl (by rw [hx]; exact size4) ?_)
  clear B0
  generalize w.alloc (.cells (arrI x) 22) = W0 at *
  go_loop [4, 6] (fun _ i => ∃ k : Nat, i = .int .i64 k ∧ k ≤ 4 ∧ Hid (∀ i, i < k → 0 ≤ nth x i ∧ nth x i ≤ 9)) (fun _ i => 4 - (intOf i).toNat)
  case atStart => exact ⟨0, rfl, Nat.zero_le _, fun i hi => by omega⟩
  case round =>
    obtain ⟨k, rfl, hk, hG⟩ := hrel
    by_cases hk4 : k < 4
    · have hix := IX.out k hk4
      have NK := hide (N.out k hk4)
      have GK := hide (fun (hh : 0 ≤ nth x k ∧ nth x k ≤ 9) => (show ∀ i, i < k + 1 → 0 ≤ nth x i ∧ nth x i ≤ 9 from fun i hi => by
        rcases Nat.lt_or_ge i k with g | g
        · exact hG.out i g
        · obtain rfl : i = k := by omega
          exact hh))
      clear Y N hG IX
      generalize nth x k = z at *
      have kl1 : (k : Int) < 4 := by omega
      have ST := hide (pulWithin_any z 0 9 W0)
      by_cases hz : 0 ≤ z ∧ z ≤ 9
      · have F := hide (GK.out hz)
        rw [decide_eq_true hz] at ST
        clear NK GK hz
        go_wp2_with fail
        refine ST.out.mono ?_
        rintro e w1 ⟨rfl, rfl⟩
        clear ST
        go_wp2_with fail
        go_round
        case rel => exact ⟨k + 1, by go_num, by omega, F.out⟩
        case measure => simp [intOf]; omega
      · have F := hide (NK.out hz)
        rw [decide_eq_false hz] at ST
        clear NK GK hz
        go_wp2_with fail
        refine ST.out.mono ?_
        rintro e w1 ⟨rfl, rfl⟩
        clear ST
        go_wp2_with fail
        exact F.out
    · obtain rfl : k = 4 := by omega
      have F := hide (Y.out hG.out)
      clear Y N hG IX
      go_wp2_with fail
      exact F.out
end Go.Proofs.Ytdeappknlcmbbab
