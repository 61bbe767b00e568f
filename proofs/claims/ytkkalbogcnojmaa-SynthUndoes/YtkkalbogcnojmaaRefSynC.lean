/- Contracts of the reference's Make and Undo. -/
import Derived.Test.YtkkalbogcnojmaaRefSynB
import Derived.Test.YtkkalbogcnojmaaSynW
namespace Go.Proofs.Ytkkalbogcnojmaa
open Go.RowKit
set_option linter.unusedVariables false
set_option linter.unusedSimpArgs false
set_option maxHeartbeats 1000000

set_option maxRecDepth 100000 in
theorem refMake_no (a p : List Int) (ha : a.length = 9) (hp : p.length = 8) (v : Value) (l : List Int) (w : World) (h : Ints w v l) (hl : l.length * 8 ≤ 140737488351232) (hk : okF a p l = false) :
    Calls Try.prog 11 #[.agg (arrI a), .agg (arrI p), v] w (Filt w [] (zeros 8) 2) := by
  have L0 := hide (laid3 w 22 23 23 a p (zeros 8))
  rw [z8'] at L0
  have hbd := build8
  have RF := hide (fun wr (g : w.grownBy wr none) => rightFilter_any a p ha hp v l wr (Ints_keep h g) (by omega))
  rw [hk] at RF
  clear h hk
  go_enter Try.func11, Try.ntmps11
  go_wp2_with (first | refine wpList_load_arr rfl 22 _ rfl _ rfl _ L0.out.1 _ Try.underlying22 rfl (by rw [ha]; exact size9') ?_ | refine wpList_load_arr rfl 23 _ rfl _ rfl _ L0.out.2.1 _ Try.underlying23 rfl (by rw [hp]; exact size8') ?_)
  refine (RF.out _ L0.out.2.2.2).mono ?_
  rintro e w1 ⟨rfl, g1⟩
  have BB := hide (L0.out.2.2.1.keep g1)
  have GM := hide (grown_none L0.out.2.2.2 g1)
  clear L0 RF g1
  go_wp2_with (first | refine wpList_store_arr rfl 23 _ _ rfl _ (zeros 8) (zeros 8) rfl rfl BB.out rfl (by rw [zeros_len]; exact size8') ?_)
  have PU := put_arr (rs' := zeros 8) BB.out rfl
  have hlv := loadVar_arr PU.1 _ Try.underlying23 rfl (by rw [zeros_len]; exact size8')
  have GF := hide (grown_own GM.out PU.2 (by omega))
  refine bodyPost_ret (v := .tuple #[.slice none 0 0, .agg (arrI (zeros 8)), .int .i64 2]) ?_ rfl ⟨_, rfl, Own_nil _ _, GF.out⟩
  simp [results, Try.results11, asAddr, Act.put, hlv]
set_option maxRecDepth 100000 in
theorem refMake_yes (a p : List Int) (ha : a.length = 9) (hp : p.length = 8) (v : Value) (l : List Int) (w : World) (h : Ints w v l) (hsh : Shp v l) (hl : l.length * 8 ≤ 140737488351232) (hk : okF a p l = true) :
    Calls Try.prog 11 #[.agg (arrI a), .agg (arrI p), v] w (Filt w (mkN a p l l.length) (newL p (mkN a p l l.length)) 0) := by
  have L0 := hide (laid3 w 22 23 23 a p (zeros 8))
  rw [z8'] at L0
  have RF := hide (fun wr (g : w.grownBy wr none) => rightFilter_any a p ha hp v l wr (Ints_keep h g) (by omega))
  rw [hk] at RF
  unfold okF at hk
  simp only [Bool.and_eq_true] at hk
  obtain ⟨⟨⟨wa, _⟩, rp⟩, rl⟩ := hk
  have HI := hide h
  have SV := hide hsh
  have RL := hide ((rightB_iff l).1 rl)
  have AB := hide (nth_in a (-1048576) 1048576 (by omega) (by omega) ((wide20_iff a).1 wa))
  have RP := hide rp
  have GUE := hide (fun (k : Nat) vo (L : List Int) wr (hL : L.length = k) (hk : k ≤ l.length) (hR : rightB L = true) (o : Ints wr vo L) (s : Shp vo L) => guess_any a p ha hp vo L k (by omega) wr o s (by omega) wa rp hR)
  obtain ⟨ad, c, rfl, hc, hcell⟩ := h
  have HC := hide hcell
  clear hcell hsh
  go_enter Try.func11, Try.ntmps11
  go_wp2_with (first | refine wpList_load_arr rfl 22 _ rfl _ rfl _ L0.out.1 _ Try.underlying22 rfl (by rw [ha]; exact size9') ?_ | refine wpList_load_arr rfl 23 _ rfl _ rfl _ L0.out.2.1 _ Try.underlying23 rfl (by rw [hp]; exact size8') ?_)
  refine (RF.out _ L0.out.2.2.2).mono ?_
  rintro e w1 ⟨rfl, g1⟩
  have M1 := hide (show Mem3 w w1 22 23 23 a p (zeros 8) from Mem3.keep L0.out g1)
  have N1 := hide (show w.heap.size + 1 + 1 + 1 ≤ w1.heap.size from M1.out.2.2.1.lt)
  clear L0 RF g1 wa rp rl
  go_wp2_with fail
  go_loopw [9, 20] (fun vo i wr => ∃ k : Nat, i = .int .i64 k ∧ k ≤ l.length ∧ Hid (Own (w.heap.size + 1 + 1 + 1) wr vo (mkN a p l k)) ∧ Hid (Mem3 w wr 22 23 23 a p (zeros 8)) ∧ Hid (w.heap.size + 1 + 1 + 1 ≤ wr.heap.size)) (fun _ i _ => l.length - (intOf i).toNat)
  case atStart => exact ⟨0, rfl, Nat.zero_le _, Own_nil _ _, M1.out, N1.out⟩
  case round =>
    rename_i vo' _
    obtain ⟨k, rfl, hk, hO, hM, hN⟩ := hrel
    clear M1 N1
    by_cases hkl : k < l.length
    · obtain ⟨ax, rfl, hv⟩ := HC.out (by omega)
      have cx := grown_keep hM.out.2.2.2 (hv k hkl)
      obtain ⟨x1, x2⟩ := RL.out k hkl
      have BA := hide hM.out.1
      have BP := hide hM.out.2.1
      have HR := hide (hist_right p (mkN a p l k) RP.out (mkN_right a p l k))
      have GU := hide (GUE.out k _ (mkN a p l k) wr (mkN_len a p l k) (by omega) (mkN_right a p l k) hO.out.ints hO.out.shp)
      rw [List.take_of_length_le (show (mkN a p l k).length ≤ k by rw [mkN_len]; exact Nat.le_refl _)] at GU
      clear GUE RP HI SV
      obtain ⟨b1, b2⟩ := gs_bd a (hist p (mkN a p l k)) AB.out HR.out
      have EN := hide (show mkN a p l (k + 1) = mkN a p l k ++ [c16 (nth l k - gs a (hist p (mkN a p l k)))] from rfl)
      clear HR HC AB RL
      generalize gs a (hist p (mkN a p l k)) = G at *
      generalize nth l k = x at *
      have SS := hide (fun w' => refS_any (x - G) w' (by omega) (by omega))
      generalize c16 (x - G) = z at *
      have kl1 : (k : Int) < l.length := by omega
      go_wp2_with (first | refine wpList_load_arr rfl 22 _ rfl _ rfl _ BA.out _ Try.underlying22 rfl (by rw [ha]; exact size9') ?_ | refine wpList_load_arr rfl 23 _ rfl _ rfl _ BP.out _ Try.underlying23 rfl (by rw [hp]; exact size8') ?_)
      refine GU.out.mono ?_
      rintro e w3 ⟨rfl, g3⟩
      have O3 := hide (hO.out.keep g3)
      have M3 := hide (hM.out.keep g3)
      have N3 := hide (Nat.le_trans hN.out g3.size)
      clear g3 hO hM hN GU BA BP cx hv
      go_wp2_with fail
      refine (SS.out _).mono ?_
      rintro e w4 ⟨rfl, g4⟩
      have O4 := hide (O3.out.keep g4)
      have M4 := hide (M3.out.keep g4)
      have N4 := hide (Nat.le_trans N3.out g4.size)
      have LN := hide (mkN_len a p l k)
      clear g4 O3 M3 N3 SS
      go_wp2_with (at_builtin; refine wpList_append_both (by rfl) _ _ rfl (w.heap.size + 1 + 1 + 1) _ (.slice (some ⟨w4.heap.size, 0, none⟩) 1 1) (mkN a p l k) [z] rfl rfl (O4.out.keep (grown_alloc _ _ none)) (ints_lit w4 z) (.inr ⟨_, _, rfl⟩) (by rw [LN.out]; simp; omega) (by have := N4.out; simp; omega) ?_)
      intro v5 w5 h5 g5
      rw [← EN.out] at h5
      have O5 := hide h5
      have MG := hide (mem3_own (M4.out.keep (grown_alloc w4 (.cells #[.int .i64 z] 3) none)) g5 (fun b hb => (O4.out.lt b hb).1))
      have N5 := hide (Nat.le_trans (Nat.le_trans N4.out (by simp)) g5.size)
      clear h5 g5 O4 M4 N4 EN LN
      go_wp2_with fail
      go_roundw
      case rel => exact ⟨k + 1, by go_num, by omega, O5.out, MG.out, N5.out⟩
      case measure => simp [intOf]; omega
    · obtain rfl : k = l.length := by omega
      have BP := hide hM.out.2.1
      have LN := hide (mkN_len a p l l.length)
      have NW := hide (newest_any p hp _ (mkN a p l l.length) wr hO.out.ints (by rw [LN.out]; omega))
      clear GUE RP HI SV
      have O1 := hO
      have M1 := hM
      have hq := newL_len p (mkN a p l l.length)
      clear HC AB RL hO hM hN LN
      generalize newL p (mkN a p l l.length) = q at *
      generalize mkN a p l l.length = L at *
      go_wp2_with (first | refine wpList_load_arr rfl 23 _ rfl _ rfl _ BP.out _ Try.underlying23 rfl (by rw [hp]; exact size8') ?_)
      refine NW.out.mono ?_
      rintro e w3 ⟨rfl, g3⟩
      have O3 := hide (O1.out.keep g3)
      have BB := hide (M1.out.2.2.1.keep g3)
      have GM := hide (grown_none M1.out.2.2.2 g3)
      clear g3 O1 M1 NW BP
      go_wp2_with (first | refine wpList_store_arr rfl 23 _ _ rfl _ (zeros 8) q rfl rfl BB.out (by rw [hq, zeros_len]) (by rw [zeros_len]; exact size8') ?_)
      have PU := put_arr (rs' := q) BB.out (by rw [hq, zeros_len])
      have hlv := loadVar_arr PU.1 _ Try.underlying23 rfl (by rw [hq]; exact size8')
      have GF := hide (grown_own GM.out PU.2 (by omega))
      have OF := hide ((O3.out.keepLt PU.2 (by omega)).base (b' := w.heap.size) (by omega))
      refine bodyPost_ret (v := .tuple #[_, .agg (arrI q), .int .i64 0]) ?_ rfl ⟨_, rfl, OF.out, GF.out⟩
      simp [results, Try.results11, asAddr, Act.put, hlv]
theorem refMake_any (a p : List Int) (ha : a.length = 9) (hp : p.length = 8) (v : Value) (l : List Int) (w : World) (h : Ints w v l) (hsh : Shp v l) (hl : l.length * 8 ≤ 140737488351232) :
    Calls Try.prog 11 #[.agg (arrI a), .agg (arrI p), v] w (Filt w (mkL a p l) (mkP a p l) (fiE a p l)) := by
  rcases hk : okF a p l with _ | _
  · rw [show mkL a p l = [] by unfold mkL; rw [hk]; rfl, show mkP a p l = zeros 8 by unfold mkP; rw [hk]; rfl, show fiE a p l = 2 by unfold fiE; rw [hk]; rfl]
    exact refMake_no a p ha hp v l w h hl hk
  · rw [show mkL a p l = mkN a p l l.length from if_pos hk, show mkP a p l = newL p (mkN a p l l.length) from if_pos hk, show fiE a p l = 0 from if_pos hk]
    exact refMake_yes a p ha hp v l w h hsh hl hk
set_option maxRecDepth 100000 in
theorem refUndo_no (a p : List Int) (ha : a.length = 9) (hp : p.length = 8) (v : Value) (l : List Int) (w : World) (h : Ints w v l) (hl : l.length * 8 ≤ 140737488351232) (hk : okF a p l = false) :
    Calls Try.prog 14 #[.agg (arrI a), .agg (arrI p), v] w (Filt w [] (zeros 8) 2) := by
  have L0 := hide (laid3 w 22 23 23 a p (zeros 8))
  rw [z8'] at L0
  have hbd := build8
  have RF := hide (fun wr (g : w.grownBy wr none) => rightFilter_any a p ha hp v l wr (Ints_keep h g) (by omega))
  rw [hk] at RF
  clear h hk
  go_enter Try.func14, Try.ntmps14
  go_wp2_with (first | refine wpList_load_arr rfl 22 _ rfl _ rfl _ L0.out.1 _ Try.underlying22 rfl (by rw [ha]; exact size9') ?_ | refine wpList_load_arr rfl 23 _ rfl _ rfl _ L0.out.2.1 _ Try.underlying23 rfl (by rw [hp]; exact size8') ?_)
  refine (RF.out _ L0.out.2.2.2).mono ?_
  rintro e w1 ⟨rfl, g1⟩
  have BB := hide (L0.out.2.2.1.keep g1)
  have GM := hide (grown_none L0.out.2.2.2 g1)
  clear L0 RF g1
  go_wp2_with (first | refine wpList_store_arr rfl 23 _ _ rfl _ (zeros 8) (zeros 8) rfl rfl BB.out rfl (by rw [zeros_len]; exact size8') ?_)
  have PU := put_arr (rs' := zeros 8) BB.out rfl
  have hlv := loadVar_arr PU.1 _ Try.underlying23 rfl (by rw [zeros_len]; exact size8')
  have GF := hide (grown_own GM.out PU.2 (by omega))
  refine bodyPost_ret (v := .tuple #[.slice none 0 0, .agg (arrI (zeros 8)), .int .i64 2]) ?_ rfl ⟨_, rfl, Own_nil _ _, GF.out⟩
  simp [results, Try.results14, asAddr, Act.put, hlv]
set_option maxRecDepth 100000 in
theorem refUndo_yes (a p : List Int) (ha : a.length = 9) (hp : p.length = 8) (v : Value) (l : List Int) (w : World) (h : Ints w v l) (hsh : Shp v l) (hl : l.length * 8 ≤ 140737488351232) (hk : okF a p l = true) :
    Calls Try.prog 14 #[.agg (arrI a), .agg (arrI p), v] w (Filt w (unN a p l l.length) (newL p l) 0) := by
  have L0 := hide (laid3 w 22 23 23 a p (zeros 8))
  rw [z8'] at L0
  have RF := hide (fun wr (g : w.grownBy wr none) => rightFilter_any a p ha hp v l wr (Ints_keep h g) (by omega))
  rw [hk] at RF
  unfold okF at hk
  simp only [Bool.and_eq_true] at hk
  obtain ⟨⟨⟨wa, _⟩, rp⟩, rl⟩ := hk
  have HI := hide h
  have SV := hide hsh
  have RL := hide ((rightB_iff l).1 rl)
  have AB := hide (nth_in a (-1048576) 1048576 (by omega) (by omega) ((wide20_iff a).1 wa))
  have RP := hide rp
  have RW := hide rl
  have GUE := hide (fun (k : Nat) wr (hk : k ≤ l.length) (g : w.grownBy wr none) => guess_any a p ha hp v l k hk wr (Ints_keep h g) hsh (by omega) wa rp rl)
  obtain ⟨ad, c, rfl, hc, hcell⟩ := h
  have HC := hide hcell
  clear hcell hsh
  go_enter Try.func14, Try.ntmps14
  go_wp2_with (first | refine wpList_load_arr rfl 22 _ rfl _ rfl _ L0.out.1 _ Try.underlying22 rfl (by rw [ha]; exact size9') ?_ | refine wpList_load_arr rfl 23 _ rfl _ rfl _ L0.out.2.1 _ Try.underlying23 rfl (by rw [hp]; exact size8') ?_)
  refine (RF.out _ L0.out.2.2.2).mono ?_
  rintro e w1 ⟨rfl, g1⟩
  have M1 := hide (show Mem3 w w1 22 23 23 a p (zeros 8) from Mem3.keep L0.out g1)
  have N1 := hide (show w.heap.size + 1 + 1 + 1 ≤ w1.heap.size from M1.out.2.2.1.lt)
  clear L0 RF g1 wa rp rl
  go_wp2_with fail
  go_loopw [9, 20] (fun vo i wr => ∃ k : Nat, i = .int .i64 k ∧ k ≤ l.length ∧ Hid (Own (w.heap.size + 1 + 1 + 1) wr vo (unN a p l k)) ∧ Hid (Mem3 w wr 22 23 23 a p (zeros 8)) ∧ Hid (w.heap.size + 1 + 1 + 1 ≤ wr.heap.size)) (fun _ i _ => l.length - (intOf i).toNat)
  case atStart => exact ⟨0, rfl, Nat.zero_le _, Own_nil _ _, M1.out, N1.out⟩
  case round =>
    rename_i vo' _
    obtain ⟨k, rfl, hk, hO, hM, hN⟩ := hrel
    clear M1 N1
    by_cases hkl : k < l.length
    · obtain ⟨ax, rfl, hv⟩ := HC.out (by omega)
      have cx := grown_keep hM.out.2.2.2 (hv k hkl)
      obtain ⟨x1, x2⟩ := RL.out k hkl
      have BA := hide hM.out.1
      have BP := hide hM.out.2.1
      have HR := hide (hist_right p (l.take k) RP.out (right_take l k RW.out))
      have GU := hide (GUE.out k wr (by omega) hM.out.2.2.2)
      clear GUE RP RW HI SV
      obtain ⟨b1, b2⟩ := gs_bd a (hist p (l.take k)) AB.out HR.out
      have EN := hide (show unN a p l (k + 1) = unN a p l k ++ [c16 (nth l k + gs a (hist p (l.take k)))] from rfl)
      clear HR HC AB RL
      generalize gs a (hist p (l.take k)) = G at *
      generalize nth l k = x at *
      have SS := hide (fun w' => refS_any (x + G) w' (by omega) (by omega))
      generalize c16 (x + G) = z at *
      have kl1 : (k : Int) < l.length := by omega
      go_wp2_with (first | refine wpList_load_arr rfl 22 _ rfl _ rfl _ BA.out _ Try.underlying22 rfl (by rw [ha]; exact size9') ?_ | refine wpList_load_arr rfl 23 _ rfl _ rfl _ BP.out _ Try.underlying23 rfl (by rw [hp]; exact size8') ?_)
      refine GU.out.mono ?_
      rintro e w3 ⟨rfl, g3⟩
      have O3 := hide (hO.out.keep g3)
      have M3 := hide (hM.out.keep g3)
      have N3 := hide (Nat.le_trans hN.out g3.size)
      clear g3 hO hM hN GU BA BP cx hv
      go_wp2_with fail
      refine (SS.out _).mono ?_
      rintro e w4 ⟨rfl, g4⟩
      have O4 := hide (O3.out.keep g4)
      have M4 := hide (M3.out.keep g4)
      have N4 := hide (Nat.le_trans N3.out g4.size)
      have LN := hide (unN_len a p l k)
      clear g4 O3 M3 N3 SS
      go_wp2_with (at_builtin; refine wpList_append_both (by rfl) _ _ rfl (w.heap.size + 1 + 1 + 1) _ (.slice (some ⟨w4.heap.size, 0, none⟩) 1 1) (unN a p l k) [z] rfl rfl (O4.out.keep (grown_alloc _ _ none)) (ints_lit w4 z) (.inr ⟨_, _, rfl⟩) (by rw [LN.out]; simp; omega) (by have := N4.out; simp; omega) ?_)
      intro v5 w5 h5 g5
      rw [← EN.out] at h5
      have O5 := hide h5
      have MG := hide (mem3_own (M4.out.keep (grown_alloc w4 (.cells #[.int .i64 z] 3) none)) g5 (fun b hb => (O4.out.lt b hb).1))
      have N5 := hide (Nat.le_trans (Nat.le_trans N4.out (by simp)) g5.size)
      clear h5 g5 O4 M4 N4 EN LN
      go_wp2_with fail
      go_roundw
      case rel => exact ⟨k + 1, by go_num, by omega, O5.out, MG.out, N5.out⟩
      case measure => simp [intOf]; omega
    · obtain rfl : k = l.length := by omega
      have BP := hide hM.out.2.1
      have LN := hide (unN_len a p l l.length)
      have NW := hide (newest_any p hp _ l wr (Ints_keep HI.out hM.out.2.2.2) (by omega))
      clear GUE RP RW HI SV
      have O1 := hO
      have M1 := hM
      have hq := newL_len p l
      clear HC AB RL hO hM hN LN
      generalize newL p l = q at *
      generalize unN a p l l.length = L at *
      go_wp2_with (first | refine wpList_load_arr rfl 23 _ rfl _ rfl _ BP.out _ Try.underlying23 rfl (by rw [hp]; exact size8') ?_)
      refine NW.out.mono ?_
      rintro e w3 ⟨rfl, g3⟩
      have O3 := hide (O1.out.keep g3)
      have BB := hide (M1.out.2.2.1.keep g3)
      have GM := hide (grown_none M1.out.2.2.2 g3)
      clear g3 O1 M1 NW BP
      go_wp2_with (first | refine wpList_store_arr rfl 23 _ _ rfl _ (zeros 8) q rfl rfl BB.out (by rw [hq, zeros_len]) (by rw [zeros_len]; exact size8') ?_)
      have PU := put_arr (rs' := q) BB.out (by rw [hq, zeros_len])
      have hlv := loadVar_arr PU.1 _ Try.underlying23 rfl (by rw [hq]; exact size8')
      have GF := hide (grown_own GM.out PU.2 (by omega))
      have OF := hide ((O3.out.keepLt PU.2 (by omega)).base (b' := w.heap.size) (by omega))
      refine bodyPost_ret (v := .tuple #[_, .agg (arrI q), .int .i64 0]) ?_ rfl ⟨_, rfl, OF.out, GF.out⟩
      simp [results, Try.results14, asAddr, Act.put, hlv]
theorem refUndo_any (a p : List Int) (ha : a.length = 9) (hp : p.length = 8) (v : Value) (l : List Int) (w : World) (h : Ints w v l) (hsh : Shp v l) (hl : l.length * 8 ≤ 140737488351232) :
    Calls Try.prog 14 #[.agg (arrI a), .agg (arrI p), v] w (Filt w (unL a p l) (unP a p l) (fiE a p l)) := by
  rcases hk : okF a p l with _ | _
  · rw [show unL a p l = [] by unfold unL; rw [hk]; rfl, show unP a p l = zeros 8 by unfold unP; rw [hk]; rfl, show fiE a p l = 2 by unfold fiE; rw [hk]; rfl]
    exact refUndo_no a p ha hp v l w h hl hk
  · rw [show unL a p l = unN a p l l.length from if_pos hk, show unP a p l = newL p l from if_pos hk, show fiE a p l = 0 from if_pos hk]
    exact refUndo_yes a p ha hp v l w h hsh hl hk
end Go.Proofs.Ytkkalbogcnojmaa
