/- Contracts of package synth's stopped, rounded, samples, predictor, guess, after. -/
import Derived.Test.YtjjpbleknbmmgabLpcA
import Derived.Test.YtjjpbleknbmmgabBase
import Derived.Test.YtjjpbleknbmmgabSynW
import Derived.Laws.CopyOwn
import Derived.BigQuiet
import Derived.Deep.QuietTactic
namespace Go.Proofs.Ytjjpbleknbmmgab
open Go.RowKit
set_option linter.unusedVariables false
set_option linter.unusedSimpArgs false
set_option maxHeartbeats 1000000

theorem stopped_any (x : Int) (w : World) : Calls Try.prog 21 #[.int .i64 x] w (Ans w (.int .i64 (c16 x))) := by
  have F := hide (show Ans w (.int .i64 (c16 x)) (.returned (.int .i64 (c16 x))) w from ⟨rfl, rfl⟩)
  have S := hide (sat16_any x w)
  generalize Ans w (.int .i64 (c16 x)) = T at *
  go_enter Try.func21, Try.ntmps21
  go_wp2_with fail
  refine S.out.mono ?_
  rintro e w1 ⟨rfl, rfl⟩
  clear S
  go_wp2_with fail
  exact F.out
theorem synRounded_any (x : Int) (h1 : -4611686018427387904 ≤ x) (h2 : x ≤ 4611686018427387904) (w : World) : Calls Try.prog 24 #[.int .i64 x] w (Ans w (.int .i64 ((x + 2048) / 4096))) := by
  have F := hide (show Ans w (.int .i64 ((x + 2048) / 4096)) (.returned (.int .i64 ((x + 2048) / 4096))) w from ⟨rfl, rfl⟩)
  generalize Ans w (.int .i64 ((x + 2048) / 4096)) = T at *
  go_enter Try.func24, Try.ntmps24
  go_wp2_with fail
  exact F.out
theorem c16_out (z : Int) (h : ¬ (-32768 ≤ z ∧ z ≤ 32767)) : ¬ c16 z = z := by
  unfold c16
  split
  · omega
  · split <;> omega
theorem synSamples_any (v : Value) (l : List Int) (w : World) (h : Ints w v l) (hl : l.length ≤ 1000000000000000000) :
    Calls Try.prog 20 #[v] w (Ans w (.bool (rightB l))) := by
  obtain ⟨ad, c, rfl, hc, hcell⟩ := h
  have Y := hide (fun (hh : ∀ i, i < l.length → -32768 ≤ nth l i ∧ nth l i ≤ 32767) => (show Ans w (.bool (rightB l)) (.returned (.bool true)) w from ⟨by rw [(rightB_iff l).2 hh], rfl⟩))
  have N := hide (fun i (hi' : i < l.length) (hh : ¬ (-32768 ≤ nth l i ∧ nth l i ≤ 32767)) => (show Ans w (.bool (rightB l)) (.returned (.bool false)) w from ⟨by
    rcases hb : rightB l with _ | _
    · rfl
    · exact absurd ((rightB_iff l).1 hb i hi') hh, rfl⟩))
  generalize Ans w (.bool (rightB l)) = T at *
  go_enter Try.func20, Try.ntmps20
  go_wp2_with fail
  go_loop [7] (fun i => ∃ k : Nat, i = .int .i64 k ∧ k ≤ l.length ∧ Hid (∀ i, i < k → -32768 ≤ nth l i ∧ nth l i ≤ 32767)) (fun i => l.length - (intOf i).toNat)
  case atStart => exact ⟨0, rfl, Nat.zero_le _, fun i hi => by omega⟩
  case round =>
    obtain ⟨k, rfl, hk, hG⟩ := hrel
    by_cases hkl : k < l.length
    · obtain ⟨a, rfl, hv⟩ := hcell (by omega)
      have hck := hv k hkl
      have NK := hide (N.out k hkl)
      have GK := hide (fun (hh : -32768 ≤ nth l k ∧ nth l k ≤ 32767) => (show ∀ i, i < k + 1 → -32768 ≤ nth l i ∧ nth l i ≤ 32767 from fun i hi => by
        rcases Nat.lt_or_ge i k with g | g
        · exact hG.out i g
        · obtain rfl : i = k := by omega
          exact hh))
      clear hcell hv Y N hG
      generalize nth l k = z at *
      have kl1 : (k : Int) < l.length := by omega
      have ST := hide (stopped_any z w)
      by_cases hz : -32768 ≤ z ∧ z ≤ 32767
      · have F := hide (GK.out hz)
        rw [c16_id z hz.1 hz.2] at ST
        clear NK GK hz
        go_wp2_with fail
        refine ST.out.mono ?_
        rintro e w1 ⟨rfl, rfl⟩
        clear ST
        go_wp2_with fail
        go_round
        case rel => exact ⟨k + 1, by go_num, by omega, F.out⟩
        case measure => simp [intOf]; omega
      · have F := hide (NK.out hz)
        have hne := c16_out z hz
        have hne' : (c16 z == z) = false := by simpa using hne
        generalize c16 z = y at *
        clear NK GK hz
        go_wp2_with fail
        refine ST.out.mono ?_
        rintro e w1 ⟨rfl, rfl⟩
        clear ST
        go_wp2_with fail
        exact F.out
    · obtain rfl : k = l.length := by omega
      have F := hide (Y.out hG.out)
      clear hcell Y N hG
      go_wp2_with fail
      exact F.out
/-- A predictor. -/
def prdB (a : List Int) : Bool := wide20 a && decide (nth a 0 = 4096)
theorem okF_prd (a p l : List Int) : okF a p l = (prdB a && rightB p && rightB l) := rfl
set_option maxRecDepth 100000 in
theorem predictor_any (a : List Int) (ha : a.length = 9) (w : World) : Calls Try.prog 19 #[.agg (arrI a)] w (AnsG w (.bool (prdB a))) := by
  have B0 := hide (Blk.new w 22 a)
  have G0 := hide (grown_alloc w (.cells (arrI a) 22) none)
  have IX := hide (fun j hj => index_arr a Try.underlying22 j hj ha)
  go_enter Try.func19, Try.ntmps19
  go_wp2_with (refine wpList_load_arr rfl 22 _ rfl _ rfl _ B0.out _ Try.underlying22 rfl (by rw [ha]; exact size9') ?_)
  generalize w.alloc (.cells (arrI a) 22) = W0 at *
  go_loop [6] (fun i => ∃ m : Nat, i = .int .i64 m ∧ m ≤ 9 ∧ Hid (∀ j, j < m → -1048576 ≤ nth a j ∧ nth a j ≤ 1048576)) (fun i => 9 - (intOf i).toNat)
  case atStart => exact ⟨0, rfl, Nat.zero_le _, fun j hj => by omega⟩
  case round =>
    obtain ⟨m, rfl, hm, hF⟩ := hrel
    by_cases hm9 : m < 9
    · have ix := IX.out m (by omega)
      have i1 : (m : Int) < 9 := by omega
      by_cases hx : -1048576 ≤ nth a m ∧ nth a m ≤ 1048576
      · have NF := hide (show ∀ j, j < m + 1 → -1048576 ≤ nth a j ∧ nth a j ≤ 1048576 from fun j hj => by
          by_cases h : j = m
          · subst h; exact hx
          · exact hF.out j (by omega))
        obtain ⟨x1, x2⟩ := hx
        clear hF IX
        generalize nth a m = x at *
        go_wp2_with fail
        go_round
        case rel => exact ⟨m + 1, by go_num, by omega, NF.out⟩
        case measure => simp [intOf]; omega
      · have OK := hide (show prdB a = false from by
          have : wide20 a = false := by
            rcases hb : wide20 a with _ | _
            · rfl
            · exact absurd ((wide20_iff a).1 hb m (by omega)) hx
          unfold prdB; rw [this]; rfl)
        clear hF IX
        generalize nth a m = x at *
        by_cases hx1 : x < -1048576
        · go_wp2_with fail
          go_ret
          exact ⟨by rw [OK.out]; rfl, G0.out⟩
        · have hx2 : 1048576 < x := by omega
          go_wp2_with fail
          go_ret
          exact ⟨by rw [OK.out]; rfl, G0.out⟩
    · obtain rfl : m = 9 := by omega
      have W20 := hide (show wide20 a = true from (wide20_iff a).2 (fun i hi => hF.out i (by omega)))
      have c0 := B0.out.cell 0 (by omega)
      have OK := hide (show prdB a = decide (nth a 0 = 4096) from by unfold prdB; rw [W20.out]; rfl)
      clear hF IX B0 W20
      generalize nth a 0 = x at *
      by_cases hx : x = 4096
      · subst hx
        go_wp2_with fail
        go_ret
        exact ⟨by rw [OK.out]; rfl, G0.out⟩
      · have HX := hide (decide_eq_false hx)
        have hx' : (x == 4096) = false := by simpa using hx
        go_wp2_with fail
        go_ret
        exact ⟨by rw [OK.out, HX.out]; rfl, G0.out⟩
/-- The guess without its half. -/
def gsum0 (a h : List Int) (n : Nat) : Int := gsum a h n - 2048
theorem gsum0_step (a h : List Int) (n : Nat) : gsum0 a h (n + 1) = gsum0 a h n + nth a (n + 1) * nth h n := by
  unfold gsum0
  show gsum a h n + nth a (n + 1) * nth h n - 2048 = _
  omega
theorem gsum0_gs (a h : List Int) : (gsum0 a h 8 + 2048) / 4096 = gs a h := by unfold gsum0 gs; congr 1; omega
set_option maxRecDepth 100000 in
theorem pguess_any (a p : List Int) (ha : a.length = 9) (hp : p.length = 8) (w : World) (wa : wide20 a = true) (rp : rightB p = true) :
    Calls Try.prog 22 #[.agg (arrI a), .agg (arrI p)] w (AnsG w (.int .i64 (gs a p))) := by
  have L0 := hide (laid2 w 22 23 a p)
  have IX := hide (fun j hj => index_arr p Try.underlying23 j hj hp)
  have AB := hide (nth_in a (-1048576) 1048576 (by omega) (by omega) ((wide20_iff a).1 wa))
  have PB := hide (nth_in p _ _ (by omega) (by omega) ((rightB_iff p).1 rp))
  have SB := hide (gsum_bd a p AB.out PB.out)
  have HS := hide (gsum0_step a p)
  have HG := hide (gsum0_gs a p)
  have S0 := hide (fun n => show gsum0 a p n = gsum a p n - 2048 from rfl)
  clear wa rp
  generalize gs a p = G at *
  go_enter Try.func22, Try.ntmps22
  go_wp2_with (refine wpList_load_arr rfl 23 _ rfl _ rfl _ L0.out.2.1 _ Try.underlying23 rfl (by rw [hp]; exact size8') ?_)
  have BA := hide L0.out.1
  have G0 := hide L0.out.2.2
  clear L0
  generalize (w.alloc (.cells (arrI a) 22)).alloc _ = W0 at *
  go_loop [5, 9] (fun s i => ∃ m : Nat, i = .int .i64 m ∧ s = .int .i64 (gsum0 a p m) ∧ m ≤ 8) (fun _ i => 8 - (intOf i).toNat)
  case atStart => exact ⟨0, rfl, rfl, Nat.zero_le _⟩
  case round =>
    obtain ⟨m, rfl, rfl, hm⟩ := hrel
    by_cases hm8 : m < 8
    · have ix := IX.out m (by omega)
      have ca := BA.out.cell (m + 1) (by omega)
      obtain ⟨a1, a2⟩ := AB.out (m + 1)
      obtain ⟨p1, p2⟩ := PB.out m
      obtain ⟨s1, s2⟩ := SB.out m
      have s0 := S0.out m
      have hs := HS.out m
      have HS1 := hide hs
      obtain ⟨q1, q2⟩ := prd20_bd _ _ a1 a2 p1 p2
      have i1 : (m : Int) < 8 := by omega
      have t1 : -600000000000 ≤ gsum0 a p m := by omega
      have t2 : gsum0 a p m ≤ 600000000000 := by omega
      clear hs s0 s1 s2 IX AB PB SB HS HG S0
      generalize gsum0 a p m = S at *
      generalize nth a (m + 1) = x at *
      generalize nth p m = y at *
      go_wp2_with fail
      go_round
      case rel => exact ⟨m + 1, by go_num, by rw [HS1.out], by omega⟩
      case measure => simp [intOf]; omega
    · obtain rfl : m = 8 := by omega
      obtain ⟨s1, s2⟩ := SB.out 8
      have s0 := S0.out 8
      have RD := hide (fun w' => synRounded_any (gsum0 a p 8) (by omega) (by omega) w')
      rw [HG.out] at RD
      clear s0 s1 s2 IX AB PB SB HS HG S0
      generalize gsum0 a p 8 = S at *
      go_wp2_with fail
      refine (RD.out _).mono ?_
      rintro e w1 ⟨rfl, rfl⟩
      clear RD
      go_wp2_with fail
      go_ret
      exact ⟨rfl, G0.out⟩
end Go.Proofs.Ytjjpbleknbmmgab
