/- The contracts of package lpc's Mix, Expand. -/
import Derived.Test.YtfnkemifbdmlmabLpcA
import Derived.BigQuiet
import Derived.Deep.QuietTactic
namespace Go.Proofs.Ytfnkemifbdmlmab
open Go.RowKit
set_option linter.unusedVariables false
set_option linter.unusedSimpArgs false
set_option maxHeartbeats 1000000

theorem tdiv4_in (S : Int) (h1 : -262144 ≤ S) (h2 : S ≤ 262144) : -262144 ≤ S.tdiv 4 ∧ S.tdiv 4 ≤ 262144 := by
  rcases Int.le_total 0 S with h | h
  · rw [Int.tdiv_eq_ediv_of_nonneg h]; omega
  · have e : S.tdiv 4 = -((-S).tdiv 4) := by rw [Int.neg_tdiv]; omega
    rw [e, Int.tdiv_eq_ediv_of_nonneg (by omega)]; omega
set_option maxRecDepth 100000 in
theorem mix_no0 (a b : List Int) (num : Int) (hn : ¬ (0 ≤ num ∧ num ≤ 4)) (w : World) : Calls Try.prog 8 #[.agg (arrI a), .agg (arrI b), .int .i64 num] w (ArrE w (zeros 8) 2) := by
  have L0 := hide (laid3 w 28 28 28 a b (zeros 8))
  rw [z8'] at L0
  have hbd := build8
  have W := hide (within_any num 0 4)
  rw [show (decide (0 ≤ num) && decide (num ≤ 4)) = false by simp; omega] at W
  go_enter Try.func8, Try.ntmps8
  go_wp2_with fail
  refine (W.out _).mono ?_
  rintro e w1 ⟨rfl, rfl⟩
  have BB := hide L0.out.2.2.1
  have GM := hide L0.out.2.2.2
  clear L0 W
  go_wp2_with (first | refine wpList_store_arr rfl 28 _ _ rfl _ (zeros 8) (zeros 8) rfl rfl BB.out rfl (by rw [zeros_len]; exact size8') ?_)
  have PU := put_arr (rs' := zeros 8) BB.out rfl
  have hlv := loadVar_arr PU.1 _ Try.underlying28 rfl (by rw [zeros_len]; exact size8')
  have GF := hide (grown_own GM.out PU.2 (by omega))
  refine bodyPost_ret (v := .tuple #[.agg (arrI (zeros 8)), .int .i64 2]) ?_ rfl ⟨rfl, GF.out⟩
  simp [results, Try.results8, asAddr, Act.put, hlv]
set_option maxRecDepth 100000 in
theorem mix_no1 (a b : List Int) (ha : a.length = 8) (num : Int) (hn : 0 ≤ num ∧ num ≤ 4) (sa : steadyB a = false) (w : World) : Calls Try.prog 8 #[.agg (arrI a), .agg (arrI b), .int .i64 num] w (ArrE w (zeros 8) 2) := by
  have L0 := hide (laid3 w 28 28 28 a b (zeros 8))
  rw [z8'] at L0
  have hbd := build8
  have W := hide (within_any num 0 4)
  rw [show (decide (0 ≤ num) && decide (num ≤ 4)) = true by simp; omega] at W
  have SA := hide (reflections_any a ha)
  rw [sa] at SA
  go_enter Try.func8, Try.ntmps8
  go_wp2_with fail
  refine (W.out _).mono ?_
  rintro e w1 ⟨rfl, rfl⟩
  clear W
  go_wp2_with (first | refine wpList_load_arrG (by first | rfl | (simp [Region.wanted, yielded]; omega)) 28 _ rfl _ rfl _ L0.out.1 _ Try.underlying28 rfl (by rw [ha]; exact size8') ?_)
  refine (SA.out _).mono ?_
  rintro e w1 ⟨rfl, g1⟩
  have BB := hide (L0.out.2.2.1.keep g1)
  have GM := hide (grown_none L0.out.2.2.2 g1)
  clear L0 g1 SA
  go_wp2_with (first | refine wpList_store_arr rfl 28 _ _ rfl _ (zeros 8) (zeros 8) rfl rfl BB.out rfl (by rw [zeros_len]; exact size8') ?_)
  have PU := put_arr (rs' := zeros 8) BB.out rfl
  have hlv := loadVar_arr PU.1 _ Try.underlying28 rfl (by rw [zeros_len]; exact size8')
  have GF := hide (grown_own GM.out PU.2 (by omega))
  refine bodyPost_ret (v := .tuple #[.agg (arrI (zeros 8)), .int .i64 2]) ?_ rfl ⟨rfl, GF.out⟩
  simp [results, Try.results8, asAddr, Act.put, hlv]
set_option maxRecDepth 100000 in
theorem mix_no2 (a b : List Int) (ha : a.length = 8) (hb : b.length = 8) (num : Int) (hn : 0 ≤ num ∧ num ≤ 4) (sa : steadyB a = true) (sb : steadyB b = false) (w : World) : Calls Try.prog 8 #[.agg (arrI a), .agg (arrI b), .int .i64 num] w (ArrE w (zeros 8) 2) := by
  have L0 := hide (laid3 w 28 28 28 a b (zeros 8))
  rw [z8'] at L0
  have hbd := build8
  have W := hide (within_any num 0 4)
  rw [show (decide (0 ≤ num) && decide (num ≤ 4)) = true by simp; omega] at W
  have SA := hide (reflections_any a ha)
  have SB := hide (reflections_any b hb)
  rw [sa] at SA
  rw [sb] at SB
  go_enter Try.func8, Try.ntmps8
  go_wp2_with fail
  refine (W.out _).mono ?_
  rintro e w1 ⟨rfl, rfl⟩
  clear W
  go_wp2_with (first | refine wpList_load_arrG (by first | rfl | (simp [Region.wanted, yielded]; omega)) 28 _ rfl _ rfl _ L0.out.1 _ Try.underlying28 rfl (by rw [ha]; exact size8') ?_)
  refine (SA.out _).mono ?_
  rintro e w1 ⟨rfl, g1⟩
  have L1 := hide (L0.out.2.1.keep g1)
  have B1 := hide (L0.out.2.2.1.keep g1)
  have G1 := hide (grown_none L0.out.2.2.2 g1)
  clear L0 g1 SA
  go_wp2_with (first | refine wpList_load_arrG (by first | rfl | (simp [Region.wanted, yielded]; omega)) 28 _ rfl _ rfl _ L1.out _ Try.underlying28 rfl (by rw [hb]; exact size8') ?_)
  refine (SB.out _).mono ?_
  rintro e w2 ⟨rfl, g2⟩
  have BB := hide (B1.out.keep g2)
  have GM := hide (grown_none G1.out g2)
  clear L1 B1 G1 g2 SB
  go_wp2_with (first | refine wpList_store_arr rfl 28 _ _ rfl _ (zeros 8) (zeros 8) rfl rfl BB.out rfl (by rw [zeros_len]; exact size8') ?_)
  have PU := put_arr (rs' := zeros 8) BB.out rfl
  have hlv := loadVar_arr PU.1 _ Try.underlying28 rfl (by rw [zeros_len]; exact size8')
  have GF := hide (grown_own GM.out PU.2 (by omega))
  refine bodyPost_ret (v := .tuple #[.agg (arrI (zeros 8)), .int .i64 2]) ?_ rfl ⟨rfl, GF.out⟩
  simp [results, Try.results8, asAddr, Act.put, hlv]
set_option maxRecDepth 100000 in
theorem mix_yes (a b : List Int) (ha : a.length = 8) (hb : b.length = 8) (num : Int) (n0 : 0 ≤ num) (n4 : num ≤ 4) (sa : steadyB a = true) (sb : steadyB b = true) (w : World) : Calls Try.prog 8 #[.agg (arrI a), .agg (arrI b), .int .i64 num] w (ArrE w (mixL a b num) (mixE a b num)) := by
  have L0 := hide (laid3 w 28 28 28 a b (zeros 8))
  rw [z8'] at L0
  have W := hide (within_any num 0 4)
  rw [show (decide (0 ≤ num) && decide (num ≤ 4)) = true by simp; omega] at W
  have SA := hide (reflections_any a ha)
  have SB := hide (reflections_any b hb)
  rw [sa] at SA
  rw [sb] at SB
  have IX := hide (fun j hj => index_arr a Try.underlying28 j hj ha)
  go_enter Try.func8, Try.ntmps8
  go_wp2_with fail
  refine (W.out _).mono ?_
  rintro e w1 ⟨rfl, rfl⟩
  clear W
  go_wp2_with (first | refine wpList_load_arrG (by first | rfl | (simp [Region.wanted, yielded]; omega)) 28 _ rfl _ rfl _ L0.out.1 _ Try.underlying28 rfl (by rw [ha]; exact size8') ?_)
  refine (SA.out _).mono ?_
  rintro e w1 ⟨rfl, g1⟩
  have M1 := hide (show Mem3 w w1 28 28 28 a b (zeros 8) from Mem3.keep L0.out g1)
  clear L0 g1 SA
  go_wp2_with (first | refine wpList_load_arrG (by first | rfl | (simp [Region.wanted, yielded]; omega)) 28 _ rfl _ rfl _ M1.out.2.1 _ Try.underlying28 rfl (by rw [hb]; exact size8') ?_)
  refine (SB.out _).mono ?_
  rintro e w2 ⟨rfl, g2⟩
  have M2 := hide (M1.out.keep g2)
  clear M1 g2 SB
  go_wp2_with (refine wpList_load_arr rfl 28 _ rfl _ rfl _ M2.out.1 _ Try.underlying28 rfl (by rw [ha]; exact size8') ?_)
  have SY := hide ((steadyB_iff a).1 sa)
  have SZ := hide ((steadyB_iff b).1 sb)
  have OK := hide (show okM a b num = true by unfold okM; simp [n0, n4, sa, sb])
  clear sa sb
  go_loopw [25] (fun i wr => ∃ (m : Nat) (rs : List Int), i = .int .i64 m ∧ m ≤ 8 ∧ Hid (FillN 8 (mixN a b num) m rs) ∧ Hid (Mem3 w wr 28 28 28 rs b (zeros 8))) (fun i _ => 8 - (intOf i).toNat)
  case atStart => exact ⟨0, a, rfl, Nat.zero_le _, ⟨ha, fun j hj => by omega⟩, M2.out⟩
  case round =>
    obtain ⟨m, rs, rfl, hm, hF, hM⟩ := hrel
    clear M2
    by_cases hm8 : m < 8
    · have ix := IX.out m (by omega)
      have cb := hM.out.2.1.cell m (by omega)
      obtain ⟨a1, a2⟩ := SY.out m (by omega)
      obtain ⟨b1, b2⟩ := SZ.out m (by omega)
      have hlen : rs.length = 8 := hF.out.1
      have NF := hide (fillN_step hF.out hm8)
      have MX := hide (show mixN a b num m = (nth a m * (4 - num) + nth b m * num).tdiv 4 from rfl)
      have cd := hM.out.1.cell m (by omega)
      have fd := hM.out.1.free m
      have NM := hide (hM.out.set m (mixN a b num m))
      clear hF OK SY SZ hM IX
      generalize mixN a b num m = z at *
      generalize nth a m = x at *
      generalize nth b m = y at *
      generalize nth rs m = y' at *
      have i0 : (0 : Int) ≤ m := by omega
      have i1 : (m : Int) < 8 := by omega
      have e1 : -131072 ≤ x * (4 - num) ∧ x * (4 - num) ≤ 131072 := by
        have h : num = 0 ∨ num = 1 ∨ num = 2 ∨ num = 3 ∨ num = 4 := by omega
        rcases h with rfl | rfl | rfl | rfl | rfl <;> omega
      have e2 : -131072 ≤ y * num ∧ y * num ≤ 131072 := by
        have h : num = 0 ∨ num = 1 ∨ num = 2 ∨ num = 3 ∨ num = 4 := by omega
        rcases h with rfl | rfl | rfl | rfl | rfl <;> omega
      obtain ⟨e11, e12⟩ := e1
      obtain ⟨e21, e22⟩ := e2
      have hq := tdiv4_in (x * (4 - num) + y * num) (by omega) (by omega)
      obtain ⟨q1, q2⟩ := hq
      go_wp2_with fail
      rw [← MX.out]
      go_roundw
      case rel => exact ⟨m + 1, _, by go_num, by omega, NF.out, NM.out⟩
      case measure => simp [intOf]; omega
    · obtain rfl : m = 8 := by omega
      have hlen : rs.length = 8 := hF.out.1
      have EL := hide (show mixL a b num = rs by rw [fillN_all hF.out]; simp [mixL, OK.out])
      have EE := hide (show mixE a b num = 0 by simp [mixE, OK.out])
      have BA := hide hM.out.1
      have BB := hide hM.out.2.2.1
      have GM := hide hM.out.2.2.2
      clear hF hM OK SY SZ IX
      go_wp2_with (first | refine wpList_load_arr rfl 28 _ rfl _ rfl _ BA.out _ Try.underlying28 rfl (by rw [hlen]; exact size8') ?_ | refine wpList_store_arr rfl 28 _ _ rfl _ (zeros 8) rs rfl rfl BB.out (by rw [hlen, zeros_len]) (by rw [zeros_len]; exact size8') ?_)
      have PU := put_arr (rs' := rs) BB.out (by rw [hlen, zeros_len])
      have hlv := loadVar_arr PU.1 _ Try.underlying28 rfl (by rw [hlen]; exact size8')
      have GF := hide (grown_own GM.out PU.2 (by omega))
      refine bodyPost_ret (v := .tuple #[.agg (arrI rs), .int .i64 0]) ?_ rfl ?_
      · simp [results, Try.results8, asAddr, Act.put, hlv]
      · rw [EL.out, EE.out]; exact ⟨rfl, GF.out⟩
theorem mix_any (a b : List Int) (ha : a.length = 8) (hb : b.length = 8) (num : Int) (w : World) : Calls Try.prog 8 #[.agg (arrI a), .agg (arrI b), .int .i64 num] w (ArrE w (mixL a b num) (mixE a b num)) := by
  have no : okM a b num = false → mixL a b num = zeros 8 ∧ mixE a b num = 2 := fun h => by simp [mixL, mixE, h]
  by_cases hn : 0 ≤ num ∧ num ≤ 4
  · rcases sa : steadyB a with _ | _
    · obtain ⟨e1, e2⟩ := no (by unfold okM; rw [sa]; simp)
      rw [e1, e2]; exact mix_no1 a b ha num hn sa w
    · rcases sb : steadyB b with _ | _
      · obtain ⟨e1, e2⟩ := no (by unfold okM; rw [sb]; simp)
        rw [e1, e2]; exact mix_no2 a b ha hb num hn sa sb w
      · exact mix_yes a b ha hb num hn.1 hn.2 sa sb w
  · obtain ⟨e1, e2⟩ := no (by
      unfold okM
      have : (decide (0 ≤ num) && decide (num ≤ 4)) = false := by simp; omega
      rw [this]; rfl)
    rw [e1, e2]; exact mix_no0 a b num hn w
set_option maxRecDepth 100000 in
theorem expand_no0 (a : List Int) (ha : a.length = 9) (g : Int) (hg : ¬ (0 ≤ g ∧ g ≤ 32768)) (w : World) : Calls Try.prog 6 #[.agg (arrI a), .int .i64 g] w (ArrE w (zeros 9) 2) := by
  have L0 := hide (laid2 w 22 22 a (zeros 9))
  rw [z9'] at L0
  have hbd := build9
  have W := hide (within_any g 0 32768)
  rw [show (decide (0 ≤ g) && decide (g ≤ 32768)) = false by simp; omega] at W
  go_enter Try.func6, Try.ntmps6
  go_wp2_with fail
  refine (W.out _).mono ?_
  rintro e w1 ⟨rfl, rfl⟩
  have BB := hide L0.out.2.1
  have GM := hide L0.out.2.2
  clear L0 W
  go_wp2_with (first | refine wpList_store_arr rfl 22 _ _ rfl _ (zeros 9) (zeros 9) rfl rfl BB.out rfl (by rw [zeros_len]; exact size9') ?_)
  have PU := put_arr (rs' := zeros 9) BB.out rfl
  have hlv := loadVar_arr PU.1 _ Try.underlying22 rfl (by rw [zeros_len]; exact size9')
  have GF := hide (grown_own GM.out PU.2 (by omega))
  refine bodyPost_ret (v := .tuple #[.agg (arrI (zeros 9)), .int .i64 2]) ?_ rfl ⟨rfl, GF.out⟩
  simp [results, Try.results6, asAddr, Act.put, hlv]
set_option maxRecDepth 100000 in
theorem expand_no1 (a : List Int) (ha : a.length = 9) (g : Int) (hg : 0 ≤ g ∧ g ≤ 32768) (hw : wideB a = false) (w : World) : Calls Try.prog 6 #[.agg (arrI a), .int .i64 g] w (ArrE w (zeros 9) 2) := by
  have L0 := hide (laid2 w 22 22 a (zeros 9))
  rw [z9'] at L0
  have hbd := build9
  have W := hide (within_any g 0 32768)
  rw [show (decide (0 ≤ g) && decide (g ≤ 32768)) = true by simp; omega] at W
  have IB := hide (Ints_blk L0.out.1 9 (by omega))
  rw [ha] at IB
  have A := hide (allWithin_any (.slice (some ⟨w.heap.size, 0, none⟩) 9 9) a (-1073741824) 1073741824 _ IB.out (by omega))
  rw [inB_wide, hw] at A
  clear IB
  go_enter Try.func6, Try.ntmps6
  go_wp2_with fail
  refine (W.out _).mono ?_
  rintro e w1 ⟨rfl, rfl⟩
  clear W
  go_wp2_with fail
  refine A.out.mono ?_
  rintro e w1 ⟨rfl, rfl⟩
  have BB := hide L0.out.2.1
  have GM := hide L0.out.2.2
  clear L0 A
  go_wp2_with (first | refine wpList_store_arr rfl 22 _ _ rfl _ (zeros 9) (zeros 9) rfl rfl BB.out rfl (by rw [zeros_len]; exact size9') ?_)
  have PU := put_arr (rs' := zeros 9) BB.out rfl
  have hlv := loadVar_arr PU.1 _ Try.underlying22 rfl (by rw [zeros_len]; exact size9')
  have GF := hide (grown_own GM.out PU.2 (by omega))
  refine bodyPost_ret (v := .tuple #[.agg (arrI (zeros 9)), .int .i64 2]) ?_ rfl ⟨rfl, GF.out⟩
  simp [results, Try.results6, asAddr, Act.put, hlv]
set_option maxRecDepth 100000 in
theorem expand_yes (a : List Int) (ha : a.length = 9) (g : Int) (g0 : 0 ≤ g) (g1 : g ≤ 32768) (hw : wideB a = true) (w : World) : Calls Try.prog 6 #[.agg (arrI a), .int .i64 g] w (ArrE w (expL a g) (expE a g)) := by
  have L0 := hide (laid2 w 22 22 a (zeros 9))
  rw [z9'] at L0
  have W := hide (within_any g 0 32768)
  rw [show (decide (0 ≤ g) && decide (g ≤ 32768)) = true by simp; omega] at W
  have IB := hide (Ints_blk L0.out.1 9 (by omega))
  rw [ha] at IB
  have A := hide (allWithin_any (.slice (some ⟨w.heap.size, 0, none⟩) 9 9) a (-1073741824) 1073741824 _ IB.out (by omega))
  rw [inB_wide, hw] at A
  have IX := hide (fun j hj => index_arr a Try.underlying22 j hj ha)
  have FB := hide (fac_bd g g0 g1)
  have OK := hide (show okX a g = true by unfold okX; simp [g0, g1, hw])
  have WB := hide ((wideB_iff a).1 hw)
  clear IB hw
  go_enter Try.func6, Try.ntmps6
  go_wp2_with fail
  refine (W.out _).mono ?_
  rintro e w1 ⟨rfl, rfl⟩
  clear W
  go_wp2_with fail
  refine A.out.mono ?_
  rintro e w1 ⟨rfl, rfl⟩
  clear A
  go_wp2_with (refine wpList_load_arr rfl 22 _ rfl _ rfl _ L0.out.1 _ Try.underlying22 rfl (by rw [ha]; exact size9') ?_)
  have M0 := hide (show Mem2 w _ 22 22 a (zeros 9) from L0.out)
  clear L0
  generalize (w.alloc (.cells (arrI a) 22)).alloc _ = W0 at *
  go_loopw [6, 19] (fun f i wr => ∃ (m : Nat) (rs : List Int), f = .int .i64 (fac g m) ∧ i = .int .i64 m ∧ m ≤ 9 ∧ Hid (FillN 9 (expN a g) m rs) ∧ Hid (Mem2 w wr 22 22 rs (zeros 9))) (fun _ i _ => 9 - (intOf i).toNat)
  case atStart => exact ⟨0, a, rfl, rfl, Nat.zero_le _, ⟨ha, fun j hj => by omega⟩, M0.out⟩
  case round =>
    obtain ⟨m, rs, rfl, rfl, hm, hF, hM⟩ := hrel
    clear M0
    by_cases hm9 : m < 9
    · have ix := IX.out m (by omega)
      obtain ⟨b1, b2⟩ := WB.out m (by omega)
      obtain ⟨f1, f2⟩ := FB.out m
      obtain ⟨p1, p2⟩ := facmul_bd _ _ b1 b2 f1 f2
      obtain ⟨p3, p4⟩ := facmul_bd g (fac g m) (by omega) (by omega) f1 f2
      rw [Int.mul_comm] at p3 p4
      have D1 := hide (fun u => rounded15 (nth a m * fac g m) (by omega) (by omega) u)
      have D2 := hide (fun u => rounded15 (fac g m * g) (by omega) (by omega) u)
      have E1 := hide (show (nth a m * fac g m + 16384) / 32768 = expN a g m from rfl)
      have E2 := hide (show (fac g m * g + 16384) / 32768 = fac g (m + 1) from rfl)
      rw [E1.out] at D1
      rw [E2.out] at D2
      have NF := hide (fillN_step hF.out hm9)
      have hlen : rs.length = 9 := hF.out.1
      have cd := hM.out.1.cell m (by omega)
      have fd := hM.out.1.free m
      have M2 := hide (hM.out.set m (expN a g m))
      clear hF E1 E2 OK WB hM IX FB
      generalize expN a g m = z at *
      generalize nth a m = c at *
      generalize fac g m = f at *
      generalize nth rs m = y' at *
      have i1 : (m : Int) < 9 := by omega
      go_wp2_with fail
      refine (D1.out _).mono ?_
      rintro e w1 ⟨rfl, rfl⟩
      clear D1
      go_wp2_with fail
      refine (D2.out _).mono ?_
      rintro e w2 ⟨rfl, rfl⟩
      clear D2 cd fd
      go_wp2_with fail
      go_roundw
      case rel => exact ⟨m + 1, _, rfl, by go_num, by omega, NF.out, M2.out⟩
      case measure => simp [intOf]; omega
    · obtain rfl : m = 9 := by omega
      have EL := hide (show expL a g = rs by rw [fillN_all hF.out]; simp [expL, OK.out])
      have EE := hide (show expE a g = 0 by simp [expE, OK.out])
      have hlen : rs.length = 9 := hF.out.1
      have BA := hide hM.out.1
      have BB := hide hM.out.2.1
      have GM := hide hM.out.2.2
      clear hF hM FB OK WB IX
      generalize fac g 9 = f at *
      go_wp2_with (first | refine wpList_load_arr rfl 22 _ rfl _ rfl _ BA.out _ Try.underlying22 rfl (by rw [hlen]; exact size9') ?_ | refine wpList_store_arr rfl 22 _ _ rfl _ (zeros 9) rs rfl rfl BB.out (by rw [hlen, zeros_len]) (by rw [zeros_len]; exact size9') ?_)
      have PU := put_arr (rs' := rs) BB.out (by rw [hlen, zeros_len])
      have hlv := loadVar_arr PU.1 _ Try.underlying22 rfl (by rw [hlen]; exact size9')
      have GF := hide (grown_own GM.out PU.2 (by omega))
      refine bodyPost_ret (v := .tuple #[.agg (arrI rs), .int .i64 0]) ?_ rfl ?_
      · simp [results, Try.results6, asAddr, Act.put, hlv]
      · rw [EL.out, EE.out]; exact ⟨rfl, GF.out⟩
theorem expand_any (a : List Int) (ha : a.length = 9) (g : Int) (w : World) : Calls Try.prog 6 #[.agg (arrI a), .int .i64 g] w (ArrE w (expL a g) (expE a g)) := by
  have no : okX a g = false → expL a g = zeros 9 ∧ expE a g = 2 := fun h => by simp [expL, expE, h]
  by_cases hn : 0 ≤ g ∧ g ≤ 32768
  · rcases sa : wideB a with _ | _
    · obtain ⟨e1, e2⟩ := no (by unfold okX; rw [sa]; simp)
      rw [e1, e2]; exact expand_no1 a ha g hn sa w
    · exact expand_yes a ha g hn.1 hn.2 sa w
  · obtain ⟨e1, e2⟩ := no (by
      unfold okX
      have : (decide (0 ≤ g) && decide (g ≤ 32768)) = false := by simp; omega
      rw [this]; rfl)
    rw [e1, e2]; exact expand_no0 a ha g hn w
end Go.Proofs.Ytfnkemifbdmlmab
