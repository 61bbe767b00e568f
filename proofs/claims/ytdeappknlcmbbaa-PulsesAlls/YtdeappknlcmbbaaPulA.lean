/- Contracts of package pulses' within, at, sign, places, samples, product, stopped, energies. -/
import Derived.Test.YtdeappknlcmbbaaLpcA
import Derived.Test.YtdeappknlcmbbaaPulMath
import Derived.Test.YtdeappknlcmbbaaSynW
import Derived.BigQuiet
import Derived.Deep.QuietTactic
namespace Go.Proofs.Ytdeappknlcmbbaa
open Go.RowKit
set_option linter.unusedVariables false
set_option linter.unusedSimpArgs false
set_option maxHeartbeats 1000000

theorem build4 (u : World) : Sem.run Try.prog (Instr.build 22 #[]) u = .ok (.agg (arrI (zeros 4))) u := run_build u 22 #[] (arrI (zeros 4)) (by kernel_rfl)
theorem size4 : (Try.prog.info? 22).map (·.size) = some 4 := by kernel_rfl
theorem pulWithin_any (x a b : Int) (w : World) : Calls Try.prog 26 #[.int .i64 x, .int .i64 a, .int .i64 b] w (Ans w (.bool (decide (a ≤ x ∧ x ≤ b)))) := by
  by_cases h1 : a ≤ x
  · by_cases h2 : x ≤ b
    · rw [decide_eq_true (show a ≤ x ∧ x ≤ b from ⟨h1, h2⟩)]
      go_enter Try.func26, Try.ntmps26
      go_wp2_with fail
      go_ret
      exact ⟨rfl, rfl⟩
    · rw [decide_eq_false (show ¬ (a ≤ x ∧ x ≤ b) from fun h => h2 h.2)]
      go_enter Try.func26, Try.ntmps26
      go_wp2_with fail
      go_ret
      exact ⟨rfl, rfl⟩
  · rw [decide_eq_false (show ¬ (a ≤ x ∧ x ≤ b) from fun h => h1 h.1)]
    go_enter Try.func26, Try.ntmps26
    go_wp2_with fail
    go_ret
    exact ⟨rfl, rfl⟩
theorem pulAt_any (t p : Int) (h1 : 0 ≤ t) (h2 : t ≤ 3) (h3 : 0 ≤ p) (h4 : p ≤ 9) (w : World) : Calls Try.prog 27 #[.int .i64 t, .int .i64 p] w (Ans w (.int .i64 (t + 4 * p))) := by
  have F := hide (show Ans w (.int .i64 (t + 4 * p)) (.returned (.int .i64 (t + 4 * p))) w from ⟨rfl, rfl⟩)
  generalize Ans w (.int .i64 (t + 4 * p)) = T at *
  go_enter Try.func27, Try.ntmps27
  go_wp2_with fail
  exact F.out
theorem pulSign_any (x : Int) (w : World) : Calls Try.prog 55 #[.int .i64 x] w (Ans w (.int .i64 (sg x))) := by
  rcases sg_cases x with ⟨h, e⟩ | ⟨h, e⟩
  · rw [e]; clear e
    go_enter Try.func55, Try.ntmps55
    go_wp2_with fail
    go_ret
    exact ⟨rfl, rfl⟩
  · rw [e]; clear e
    go_enter Try.func55, Try.ntmps55
    go_wp2_with fail
    go_ret
    exact ⟨rfl, rfl⟩
theorem pulPlaces_any (x : List Int) (hx : x.length = 4) (w : World) : Calls Try.prog 28 #[.agg (arrI x)] w (AnsG w (.bool (goodX x))) := by
  have B0 := hide (Blk.new w 22 x)
  have G0 := hide (grown_alloc w (.cells (arrI x) 22) none)
  have Y := hide (fun (hh : ∀ i, i < 4 → 0 ≤ nth x i ∧ nth x i ≤ 9) => (show AnsG w (.bool (goodX x)) (.returned (.bool true)) (w.alloc (.cells (arrI x) 22)) from ⟨by rw [(goodX_iff x).2 (by rw [hx]; exact hh)], G0.out⟩))
  have N := hide (fun i (hi' : i < 4) (hh : ¬ (0 ≤ nth x i ∧ nth x i ≤ 9)) => (show AnsG w (.bool (goodX x)) (.returned (.bool false)) (w.alloc (.cells (arrI x) 22)) from ⟨by
    rcases hb : goodX x with _ | _
    · rfl
    · exact absurd ((goodX_iff x).1 hb i (by omega)) hh, G0.out⟩))
  have IX := hide (fun (k : Nat) (hk : k < 4) => index_arr x Try.underlying22 k (by omega) hx)
  generalize AnsG w (.bool (goodX x)) = T at *
  clear G0
  go_enter Try.func28, Try.ntmps28
  go_wp2_with (first | refine wpList_load_arr rfl 22 _ rfl _ rfl _ B0.out _ Try.underlying22 rfl (by rw [hx]; exact size4) ?_)
  clear B0
  generalize w.alloc (.cells (arrI x) 22) = W0 at *
  go_loop [4, 6] (fun _ i => ∃ k : Nat, i = .int .i64 k ∧ k ≤ 4 ∧ Hid (∀ i, i < k → 0 ≤ nth x i ∧ nth x i ≤ 9)) (fun _ i => 4 - (intOf i).toNat)
  case atStart => exact ⟨0, rfl, Nat.zero_le _, fun i hi => by omega⟩
  case round =>
    obtain ⟨k, rfl, hk, hG⟩ := hrel
    by_cases hk4 : k < 4
    · have hix := IX.out k hk4
      have NK := hide (N.out k hk4)
      have GK := hide (fun (hh : 0 ≤ nth x k ∧ nth x k ≤ 9) => (show ∀ i, i < k + 1 → 0 ≤ nth x i ∧ nth x i ≤ 9 from fun i hi => by
        rcases Nat.lt_or_ge i k with g | g
        · exact hG.out i g
        · obtain rfl : i = k := by omega
          exact hh))
      clear Y N hG IX
      generalize nth x k = z at *
      have kl1 : (k : Int) < 4 := by omega
      have ST := hide (pulWithin_any z 0 9 W0)
      by_cases hz : 0 ≤ z ∧ z ≤ 9
      · have F := hide (GK.out hz)
        rw [decide_eq_true hz] at ST
        clear NK GK hz
        go_wp2_with fail
        refine ST.out.mono ?_
        rintro e w1 ⟨rfl, rfl⟩
        clear ST
        go_wp2_with fail
        go_round
        case rel => exact ⟨k + 1, by go_num, by omega, F.out⟩
        case measure => simp [intOf]; omega
      · have F := hide (NK.out hz)
        rw [decide_eq_false hz] at ST
        clear NK GK hz
        go_wp2_with fail
        refine ST.out.mono ?_
        rintro e w1 ⟨rfl, rfl⟩
        clear ST
        go_wp2_with fail
        exact F.out
    · obtain rfl : k = 4 := by omega
      have F := hide (Y.out hG.out)
      clear Y N hG IX
      go_wp2_with fail
      exact F.out
theorem pulSamples_any (v : Value) (l : List Int) (w : World) (h : Ints w v l) (hl : l.length ≤ 1000000000000000000) :
    Calls Try.prog 30 #[v] w (Ans w (.bool (rightB l))) := by
  obtain ⟨ad, c, rfl, hc, hcell⟩ := h
  have Y := hide (fun (hh : ∀ i, i < l.length → -32768 ≤ nth l i ∧ nth l i ≤ 32767) => (show Ans w (.bool (rightB l)) (.returned (.bool true)) w from ⟨by rw [(rightB_iff l).2 hh], rfl⟩))
  have N := hide (fun i (hi' : i < l.length) (hh : ¬ (-32768 ≤ nth l i ∧ nth l i ≤ 32767)) => (show Ans w (.bool (rightB l)) (.returned (.bool false)) w from ⟨by
    rcases hb : rightB l with _ | _
    · rfl
    · exact absurd ((rightB_iff l).1 hb i hi') hh, rfl⟩))
  generalize Ans w (.bool (rightB l)) = T at *
  go_enter Try.func30, Try.ntmps30
  go_wp2_with fail
  go_loop [7] (fun i => ∃ k : Nat, i = .int .i64 k ∧ k ≤ l.length ∧ Hid (∀ i, i < k → -32768 ≤ nth l i ∧ nth l i ≤ 32767)) (fun i => l.length - (intOf i).toNat)
  case atStart => exact ⟨0, rfl, Nat.zero_le _, fun i hi => by omega⟩
  case round =>
    obtain ⟨k, rfl, hk, hG⟩ := hrel
    by_cases hkl : k < l.length
    · obtain ⟨a, rfl, hv⟩ := hcell (by omega)
      have hck := hv k hkl
      have NK := hide (N.out k hkl)
      have GK := hide (fun (hh : -32768 ≤ nth l k ∧ nth l k ≤ 32767) => (show ∀ i, i < k + 1 → -32768 ≤ nth l i ∧ nth l i ≤ 32767 from fun i hi => by
        rcases Nat.lt_or_ge i k with g | g
        · exact hG.out i g
        · obtain rfl : i = k := by omega
          exact hh))
      clear hcell hv Y N hG
      generalize nth l k = z at *
      have kl1 : (k : Int) < l.length := by omega
      have ST := hide (pulWithin_any z (-32768) 32767 w)
      by_cases hz : -32768 ≤ z ∧ z ≤ 32767
      · have F := hide (GK.out hz)
        rw [decide_eq_true hz] at ST
        clear NK GK hz
        go_wp2_with fail
        refine ST.out.mono ?_
        rintro e w1 ⟨rfl, rfl⟩
        clear ST
        go_wp2_with fail
        go_round
        case rel => exact ⟨k + 1, by go_num, by omega, F.out⟩
        case measure => simp [intOf]; omega
      · have F := hide (NK.out hz)
        rw [decide_eq_false hz] at ST
        clear NK GK hz
        go_wp2_with fail
        refine ST.out.mono ?_
        rintro e w1 ⟨rfl, rfl⟩
        clear ST
        go_wp2_with fail
        exact F.out
    · obtain rfl : k = l.length := by omega
      have F := hide (Y.out hG.out)
      clear hcell Y N hG
      go_wp2_with fail
      exact F.out
theorem dotS_stepP (a b : List Int) (n : Nat) : dotS a b (n + 1) = dotS a b n + nth a n * nth b n := rfl
theorem pulProduct_any (v u : Value) (a b : List Int) (w : World) (ha : Ints w v a) (hb : Ints w u b) (hl : a.length ≤ b.length) (hn : a.length ≤ 100) (ra : rightB a = true) (rb : rightB b = true) :
    Calls Try.prog 31 #[v, u] w (Ans w (.int .i64 (dotS a b a.length))) := by
  have F := hide (show Ans w (.int .i64 (dotS a b a.length)) (.returned (.int .i64 (dotS a b a.length))) w from ⟨rfl, rfl⟩)
  have DB := hide (dotS_bd a b ra rb)
  have RA := hide (nth_in a (-32768) 32767 (by omega) (by omega) ((rightB_iff a).1 ra))
  have RB := hide (nth_in b (-32768) 32767 (by omega) (by omega) ((rightB_iff b).1 rb))
  obtain ⟨ad, c, rfl, hc, hva⟩ := ha
  obtain ⟨bd, d, rfl, hd, hvb⟩ := hb
  have VA := hide hva
  have VB := hide hvb
  clear hva hvb ra rb
  generalize Ans w (.int .i64 (dotS a b a.length)) = T at *
  go_enter Try.func31, Try.ntmps31
  go_wp2_with fail
  go_loop [5, 10] (fun s i => ∃ m : Nat, i = .int .i64 m ∧ s = .int .i64 (dotS a b m) ∧ m ≤ a.length) (fun _ i => a.length - (intOf i).toNat)
  case atStart => exact ⟨0, rfl, rfl, Nat.zero_le _⟩
  case round =>
    obtain ⟨m, rfl, rfl, hm⟩ := hrel
    by_cases hml : m < a.length
    · obtain ⟨pa, rfl, ca⟩ := VA.out (by omega)
      obtain ⟨pb, rfl, cb⟩ := VB.out (by omega)
      have cx := ca m hml
      have cy := cb m (by omega)
      obtain ⟨x1, x2⟩ := RA.out m
      obtain ⟨y1, y2⟩ := RB.out m
      have pq := p16_bd _ _ x1 x2 y1 y2
      have dd := DB.out m
      have ST := dotS_stepP a b m
      have i1 : (m : Int) < a.length := by omega
      have i2 : (m : Int) < b.length := by omega
      have HS := hide ST
      clear ca cb DB RA RB VA VB ST F
      obtain ⟨p1, p2⟩ := pq
      obtain ⟨d1, d2⟩ := dd
      have d3 : -107374182400 ≤ dotS a b m := by omega
      have d4 : dotS a b m ≤ 107374182400 := by omega
      clear d1 d2
      generalize dotS a b m = s at *
      generalize nth a m = x at *
      generalize nth b m = y at *
      go_wp2_with fail
      go_round
      case rel => exact ⟨m + 1, by go_num, by rw [HS.out], by omega⟩
      case measure => simp [intOf]; omega
    · obtain rfl : m = a.length := by omega
      clear VA VB RA RB DB
      generalize dotS a b a.length = s at *
      go_wp2_with fail
      exact F.out
end Go.Proofs.Ytdeappknlcmbbaa
