/- Contracts of the reference's newest and rightFilter. -/
import Derived.Test.YtkkalbogcnojmaaRefDown
import Derived.Test.YtkkalbogcnojmaaSynthMath
import Derived.BigQuiet
import Derived.Deep.QuietTactic
namespace Go.Proofs.Ytkkalbogcnojmaa
open Go.RowKit
set_option linter.unusedVariables false
set_option linter.unusedSimpArgs false
set_option maxHeartbeats 1000000

set_option maxRecDepth 100000 in
theorem newest_any (p : List Int) (hp : p.length = 8) (v : Value) (l : List Int) (w : World) (h : Ints w v l) (hl : l.length ≤ 1000000000000000000) :
    Calls Try.prog 34 #[.agg (arrI p), v] w (Tells w (.agg (arrI (newL p l)))) := by
  obtain ⟨ad, c, rfl, hc, hcell⟩ := h
  have L0 := hide (laid3 w 23 23 23 p (zeros 8) (zeros 8))
  rw [z8'] at L0
  have HC := hide hcell
  clear hcell
  go_enter Try.func34, Try.ntmps34
  go_wp2_with fail
  have M0 := hide (show Mem3 w _ 23 23 23 p (zeros 8) (zeros 8) from L0.out)
  clear L0
  generalize ((w.alloc (.cells (arrI p) 23)).alloc _).alloc _ = W0 at *
  go_loopw [7] (fun i wr => ∃ (m : Nat) (rs : List Int), i = .int .i64 m ∧ m ≤ 8 ∧ Hid (FillN 8 (fun i => nth (hist p l) i) m rs) ∧ Hid (Mem3 w wr 23 23 23 p (zeros 8) rs)) (fun i _ => 8 - (intOf i).toNat)
  case atStart => exact ⟨0, zeros 8, rfl, Nat.zero_le _, ⟨zeros_len 8, fun j hj => by omega⟩, M0.out⟩
  case round =>
    obtain ⟨m, rs, rfl, hm, hF, hM⟩ := hrel
    clear M0
    by_cases hm8 : m < 8
    · have hlen : rs.length = 8 := hF.out.1
      have NF := hide (fillN_step hF.out hm8)
      have cd := hM.out.2.2.1.cell m (by omega)
      have fd := hM.out.2.2.1.free m
      have NM := hide (hM.out.set3 m (nth (hist p l) m))
      by_cases hml : m < l.length
      · obtain ⟨a, rfl, hv⟩ := HC.out (by omega)
        have hx := grown_keep hM.out.2.2.2 (hv (l.length - 1 - m) (by omega))
        rw [← hist_lt p l m hml] at hx
        have hJ : (l.length : Int) - 1 - (m : Int) = ((l.length - 1 - m : Nat) : Int) := by omega
        clear hF hM hv HC
        generalize nth (hist p l) m = x at *
        generalize nth rs m = y' at *
        have j1 : l.length - 1 - m < l.length := by omega
        generalize l.length - 1 - m = J at *
        have i1 : (m : Int) < 8 := by omega
        have i2 : (m : Int) < l.length := by omega
        go_wp2_with fail
        go_roundw
        case rel => exact ⟨m + 1, _, by go_num, by omega, NF.out, NM.out⟩
        case measure => simp [intOf]; omega
      · have hx := hM.out.1.cell (m - l.length) (by omega)
        rw [← hist_ge p l m (by omega)] at hx
        have hJ : (m : Int) - (l.length : Int) = ((m - l.length : Nat) : Int) := by omega
        clear hF hM HC
        generalize nth (hist p l) m = x at *
        generalize nth rs m = y' at *
        have j1 : m - l.length < 8 := by omega
        have i1 : (m : Int) < 8 := by omega
        have i2 : ¬ (m : Int) < l.length := by omega
        generalize m - l.length = J at *
        go_wp2_with fail
        go_roundw
        case rel => exact ⟨m + 1, _, by go_num, by omega, NF.out, NM.out⟩
        case measure => simp [intOf]; omega
    · obtain rfl : m = 8 := by omega
      have hlen : rs.length = 8 := hF.out.1
      have EL := hide (show newL p l = rs from (fillN_all hF.out).symm)
      have BA := hide hM.out.2.2.1
      have BB := hide hM.out.2.1
      have GM := hide hM.out.2.2.2
      clear hF hM HC
      go_wp2_with (first | refine wpList_load_arr rfl 23 _ rfl _ rfl _ BA.out _ Try.underlying23 rfl (by rw [hlen]; exact size8') ?_ | refine wpList_store_arr rfl 23 _ _ rfl _ (zeros 8) rs rfl rfl BB.out (by rw [hlen, zeros_len]) (by rw [zeros_len]; exact size8') ?_)
      have PU := put_arr (rs' := rs) BB.out (by rw [hlen, zeros_len])
      have hlv := loadVar_arr PU.1 _ Try.underlying23 rfl (by rw [hlen]; exact size8')
      have GF := hide (grown_own GM.out PU.2 (by omega))
      refine bodyPost_ret (v := .agg (arrI rs)) ?_ rfl ?_
      · simp [results, Try.results34, asAddr, Act.put, hlv]
      · rw [EL.out]; exact ⟨rfl, GF.out⟩
set_option maxRecDepth 100000 in
theorem rightFilter_any (a p : List Int) (ha : a.length = 9) (hp : p.length = 8) (v : Value) (l : List Int) (w : World) (h : Ints w v l) (hl : l.length ≤ 1000000000000000000) :
    Calls Try.prog 31 #[.agg (arrI a), .agg (arrI p), v] w (Tells w (.bool (okF a p l))) := by
  have L0 := hide (laid2 w 22 23 a p)
  have RL := hide (fun wr (g : w.grownBy wr none) => refRight_any v l wr (Ints_keep h g) hl)
  have IX := hide (fun j hj => index_arr a Try.underlying22 j hj ha)
  clear h
  go_enter Try.func31, Try.ntmps31
  go_wp2_with (refine wpList_load_arr rfl 22 _ rfl _ rfl _ L0.out.1 _ Try.underlying22 rfl (by rw [ha]; exact size9') ?_)
  have M0 := hide (show Mem2 w _ 22 23 a p from L0.out)
  clear L0
  generalize (w.alloc (.cells (arrI a) 22)).alloc _ = W0 at *
  go_loop [10] (fun i => ∃ m : Nat, i = .int .i64 m ∧ m ≤ 9 ∧ Hid (∀ j, j < m → -1048576 ≤ nth a j ∧ nth a j ≤ 1048576)) (fun i => 9 - (intOf i).toNat)
  case atStart => exact ⟨0, rfl, Nat.zero_le _, fun j hj => by omega⟩
  case round =>
    obtain ⟨m, rfl, hm, hF⟩ := hrel
    by_cases hm9 : m < 9
    · have ix := IX.out m (by omega)
      have i1 : (m : Int) < 9 := by omega
      by_cases hx : -1048576 ≤ nth a m ∧ nth a m ≤ 1048576
      · have NF := hide (show ∀ j, j < m + 1 → -1048576 ≤ nth a j ∧ nth a j ≤ 1048576 from fun j hj => by
          by_cases h : j = m
          · subst h; exact hx
          · exact hF.out j (by omega))
        obtain ⟨x1, x2⟩ := hx
        clear hF IX RL
        generalize nth a m = x at *
        go_wp2_with fail
        go_round
        case rel => exact ⟨m + 1, by go_num, by omega, NF.out⟩
        case measure => simp [intOf]; omega
      · have OK := hide (show okF a p l = false from by
          have : wide20 a = false := by
            rcases hb : wide20 a with _ | _
            · rfl
            · exact absurd ((wide20_iff a).1 hb m (by omega)) hx
          unfold okF; rw [this]; rfl)
        clear hF IX RL
        generalize nth a m = x at *
        have GF := hide M0.out.2.2
        clear M0
        by_cases hx1 : x < -1048576
        · go_wp2_with fail
          go_ret
          exact ⟨by rw [OK.out]; rfl, GF.out⟩
        · have hx2 : 1048576 < x := by omega
          go_wp2_with fail
          go_ret
          exact ⟨by rw [OK.out]; rfl, GF.out⟩
    · obtain rfl : m = 9 := by omega
      have W20 := hide (show wide20 a = true from (wide20_iff a).2 (fun i hi => hF.out i (by omega)))
      have c0 := M0.out.1.cell 0 (by omega)
      have RP := hide (refRight_any (.slice (some ⟨w.heap.size + 1, 0, none⟩) 8 8) p W0 (by
        refine ⟨some ⟨w.heap.size + 1, 0, none⟩, 8, by rw [hp], by omega, fun _ => ⟨_, rfl, fun i hi => ?_⟩⟩
        rw [Addr.add_mid, Nat.zero_add]
        exact M0.out.2.1.cell i hi) (by omega))
      have R1 := hide (RL.out W0 M0.out.2.2)
      have GF := hide M0.out.2.2
      have OK := hide (show okF a p l = (decide (nth a 0 = 4096) && rightB p && rightB l) from by unfold okF; rw [W20.out]; rfl)
      clear hF IX RL M0 W20
      generalize nth a 0 = x at *
      by_cases hx : x = 4096
      · subst hx
        rcases hr : rightB p with _ | _
        · rw [hr] at RP
          have HR := hide hr
          clear R1 hr
          go_wp2_with fail
          refine RP.out.mono ?_
          rintro e w1 ⟨rfl, rfl⟩
          go_wp2_with fail
          go_ret
          exact ⟨by rw [OK.out, HR.out]; rfl, GF.out⟩
        · rw [hr] at RP
          have HR := hide hr
          clear hr
          rcases hs : rightB l with _ | _
          all_goals
            rw [hs] at R1
            have HS := hide hs
            clear hs
            go_wp2_with fail
            refine RP.out.mono ?_
            rintro e w1 ⟨rfl, rfl⟩
            go_wp2_with fail
            refine R1.out.mono ?_
            rintro e w1 ⟨rfl, rfl⟩
            go_wp2_with fail
            go_ret
            exact ⟨by rw [OK.out, HR.out, HS.out]; rfl, GF.out⟩
      · have HX := hide (decide_eq_false hx)
        clear RP R1
        go_wp2_with fail
        go_ret
        exact ⟨by rw [OK.out, HX.out]; rfl, GF.out⟩
end Go.Proofs.Ytkkalbogcnojmaa
