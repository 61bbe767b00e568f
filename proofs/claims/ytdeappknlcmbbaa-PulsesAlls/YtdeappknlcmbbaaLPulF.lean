/- The walks of PulsesFews and PulsesAlls out of the contracts. -/
import Derived.Test.YtdeappknlcmbbaaRefPulF
import Derived.Test.YtdeappknlcmbbaaPulH
import Derived.Test.YtdeappknlcmbbaaPulFl
import Derived.Test.YtdeappknlcmbbaaIntsB
import Derived.BigQuiet
import Derived.Deep.QuietTactic
namespace Go.Proofs.Ytdeappknlcmbbaa
open Go.RowKit
set_option linter.unusedVariables false
set_option linter.unusedSimpArgs false
set_option maxHeartbeats 1000000

theorem fift_Few : seG (flatL 1) (flatL 0) (fewX (flatL 1) (flatL 0)) = 15 := by
  have h0 : seE (flatL 1) (flatL 0) = 0 := by decide +kernel
  unfold seG
  rw [if_pos h0]
  have g := (goodX_iff _).1 (fewX_good (flatL 1) (flatL 0)).2
  have hl := (fewX_good (flatL 1) (flatL 0)).1
  have hp := fun t ht => psN_lt (fewX_good (flatL 1) (flatL 0)).2 hl t ht
  have e : ∀ t, t < 4 → sgB (flatL 1) (fewX (flatL 1) (flatL 0)) t = 2 ^ t := fun t ht => by
    unfold sgB
    rw [show nth (flatL 1) (psN (fewX (flatL 1) (flatL 0)) t) = 1 from tab_nth _ _ _ (hp t ht), if_neg (by omega)]
  show 0 + sgB _ _ 0 + sgB _ _ 1 + sgB _ _ 2 + sgB _ _ 3 = 15
  rw [e 0 (by omega), e 1 (by omega), e 2 (by omega), e 3 (by omega)]
  decide
set_option maxRecDepth 100000 in
theorem law_fews (w : World) (v : Value) (d : List Int) (hi : Ints w v d) (hl : d.length * 8 ≤ 140737488351232) (hl64 : In64 d) (hsh : Shp v d) (u : Value) (r : List Int) (hj : Ints w u r) (hk : r.length * 8 ≤ 140737488351232) (hk64 : In64 r) (hsu : Shp u r) :
    Calls Try.prog 7 #[v, u] w fun e w' => e = .returned (.bool true) ∧ Below w.heap.size w w' := by
  have ID := hide (ints_any v d w hi (by omega))
  have IR := hide (fun wr (g : w.grownBy wr none) => ints_any u r wr (Ints_keep hj g) (by omega))
  have HP := hide (fun wr v1 v2 (h1 : Ints wr v1 d) (h2 : Ints wr v2 r) => pulFew_any v1 v2 d r wr h1 h2 (by omega) (by omega))
  have HR := hide (fun wr (g : w.grownBy wr none) => refFew_any v u d r wr (Ints_keep hi g) (Ints_keep hj g) (by omega) (by omega) hl64)
  have HC := hide (fun wr v1 v2 (h1 : Ints wr v1 (flatL 1)) (h2 : Ints wr v2 (flatL 0)) => pulFew_any v1 v2 (flatL 1) (flatL 0) wr h1 h2 (by rw [flatL_len]; omega) (by rw [flatL_len]; omega))
  rw [fift_Few] at HC
  have HX := hide (seX_len d r (fewX d r) (fewX_good d r).1)
  have HY := hide (seX_len (flatL 1) (flatL 0) (fewX (flatL 1) (flatL 0)) (fewX_good (flatL 1) (flatL 0)).1)
  generalize seX (flatL 1) (flatL 0) (fewX (flatL 1) (flatL 0)) = Y at *
  generalize seE (flatL 1) (flatL 0) = e3 at *
  generalize seX d r (fewX d r) = X at *
  generalize seG d r (fewX d r) = G at *
  generalize seE d r = y at *
  have hz4 := zero_arr zArr4
  have heq := eq_arr X Try.underlying22 HX.out 9998
  obtain ⟨ad, c, rfl, _, _⟩ := hi
  obtain ⟨bd, dd, rfl, _, _⟩ := hj
  clear hl hl64 hsh hk hk64 hsu
  go_enter Try.func7, Try.ntmps7
  go_wp2_with fail
  refine ID.out.mono ?_
  rintro e w1 ⟨v1, rfl, o1, g1⟩
  have O1 := hide (show Own w.heap.size w1 v1 d from o1)
  have G1 := hide g1
  clear o1 g1 ID
  go_wp2_with fail
  refine (IR.out w1 G1.out).mono ?_
  rintro e w2 ⟨v2, rfl, o2, g2⟩
  have O1 := hide (O1.out.keep g2)
  have O2 := hide (show Own w1.heap.size w2 v2 r from o2)
  have G2 := hide (grown_none G1.out g2)
  clear o2 g2 IR G1
  go_wp2_with fail
  refine (HP.out w2 v1 v2 O1.out.ints O2.out.ints).mono ?_
  rintro e w3 ⟨rfl, g3⟩
  have FA := fresh_arr w3 22 4 X HX.out
  have BZ := hide FA.1
  have BA := hide FA.2.1
  have G3 := hide (grown_none (grown_none G2.out g3) FA.2.2)
  clear g3 HP G2 O1 O2 FA
  go_upto_region 2 with (first | refine wpList_store_arr rfl 22 _ _ rfl _ (zeros 4) X rfl rfl BZ.out (by rw [HX.out, zeros_len]) (by rw [zeros_len]; exact size4) ?_)
  (try simp only [Act.put])
  generalize putArr (w3.alloc _) w3.heap.size X = W3 at *
  generalize w3.heap.size = b3 at *
  clear BZ
  go_wp2_with fail
  refine (HR.out W3 G3.out).mono ?_
  rintro e w4 ⟨rfl, g4⟩
  have FA := fresh_arr w4 22 4 X HX.out
  have BZ := hide FA.1
  have BB := hide FA.2.1
  have BA := hide ((BA.out.keep g4).keep FA.2.2)
  have G4 := hide (grown_none (grown_none G3.out g4) FA.2.2)
  clear g4 HR G3 FA
  go_upto_region 3 with (first | refine wpList_store_arr rfl 22 _ _ rfl _ (zeros 4) X rfl rfl BZ.out (by rw [HX.out, zeros_len]) (by rw [zeros_len]; exact size4) ?_)
  (try simp only [Act.put])
  generalize putArr (w4.alloc _) w4.heap.size X = W4 at *
  generalize w4.heap.size = b4 at *
  clear BZ
  go_wp2_with fail
  refine (flat_any 1 W4).mono ?_
  rintro e w5 ⟨rfl, f5, g5⟩
  have F5 := hide f5
  have BA := hide (BA.out.keep g5)
  have BB := hide (BB.out.keep g5)
  have G5 := hide (grown_none G4.out g5)
  clear f5 g5 G4
  go_wp2_with fail
  refine (flat_any 0 w5).mono ?_
  rintro e w6 ⟨rfl, f6, g6⟩
  have F5 := hide (F5.out.keep g6)
  have F6 := hide f6
  have BA := hide (BA.out.keep g6)
  have BB := hide (BB.out.keep g6)
  have G6 := hide (grown_none G5.out g6)
  clear f6 g6 G5
  go_wp2_with fail
  refine (HC.out w6 _ _ (flat_ints F5.out) (flat_ints F6.out)).mono ?_
  rintro e w7 ⟨rfl, g7⟩
  have FA := fresh_arr w7 22 4 Y HY.out
  have BZ := hide FA.1
  have BA := hide ((BA.out.keep g7).keep FA.2.2)
  have BB := hide ((BB.out.keep g7).keep FA.2.2)
  have G7 := hide (grown_none (grown_none G6.out g7) FA.2.2)
  clear g7 HC G6 FA F5 F6
  go_upto_region 4 with (first | refine wpList_store_arr rfl 22 _ _ rfl _ (zeros 4) Y rfl rfl BZ.out (by rw [HY.out, zeros_len]) (by rw [zeros_len]; exact size4) ?_)
  (try simp only [Act.put])
  generalize putArr (w7.alloc _) w7.heap.size Y = W7 at *
  clear BZ hz4
  go_wp2_with (first | refine wpList_load_arr rfl 22 _ rfl _ rfl _ BA.out _ Try.underlying22 rfl (by rw [HX.out]; exact size4) ?_ | refine wpList_load_arr rfl 22 _ rfl _ rfl _ BB.out _ Try.underlying22 rfl (by rw [HX.out]; exact size4) ?_)
  go_ret
  exact ⟨rfl, below_of_grown G7.out⟩
theorem fift_All : seG (flatL 1) (flatL 0) (allX (flatL 1) (flatL 0)) = 15 := by
  have h0 : seE (flatL 1) (flatL 0) = 0 := by decide +kernel
  unfold seG
  rw [if_pos h0]
  have g := (goodX_iff _).1 (allX_good (flatL 1) (flatL 0)).2
  have hl := (allX_good (flatL 1) (flatL 0)).1
  have hp := fun t ht => psN_lt (allX_good (flatL 1) (flatL 0)).2 hl t ht
  have e : ∀ t, t < 4 → sgB (flatL 1) (allX (flatL 1) (flatL 0)) t = 2 ^ t := fun t ht => by
    unfold sgB
    rw [show nth (flatL 1) (psN (allX (flatL 1) (flatL 0)) t) = 1 from tab_nth _ _ _ (hp t ht), if_neg (by omega)]
  show 0 + sgB _ _ 0 + sgB _ _ 1 + sgB _ _ 2 + sgB _ _ 3 = 15
  rw [e 0 (by omega), e 1 (by omega), e 2 (by omega), e 3 (by omega)]
  decide
set_option maxRecDepth 100000 in
theorem law_alls8 (w : World) (v : Value) (d : List Int) (hi : Ints w v d) (hl : d.length * 8 ≤ 140737488351232) (hl64 : In64 d) (hsh : Shp v d) (u : Value) (r : List Int) (hj : Ints w u r) (hk : r.length * 8 ≤ 140737488351232) (hk64 : In64 r) (hsu : Shp u r) :
    Calls Try.prog 8 #[v, u] w fun e w' => e = .returned (.bool true) ∧ Below w.heap.size w w' := by
  have ID := hide (ints_any v d w hi (by omega))
  have IR := hide (fun wr (g : w.grownBy wr none) => ints_any u r wr (Ints_keep hj g) (by omega))
  have HP := hide (fun wr v1 v2 (h1 : Ints wr v1 d) (h2 : Ints wr v2 r) => pulAll_any v1 v2 d r wr h1 h2 (by omega) (by omega))
  have HR := hide (fun wr (g : w.grownBy wr none) => refAll_any v u d r wr (Ints_keep hi g) (Ints_keep hj g) (by omega) (by omega) hl64)
  have HC := hide (fun wr v1 v2 (h1 : Ints wr v1 (flatL 1)) (h2 : Ints wr v2 (flatL 0)) => pulAll_any v1 v2 (flatL 1) (flatL 0) wr h1 h2 (by rw [flatL_len]; omega) (by rw [flatL_len]; omega))
  rw [fift_All] at HC
  have HX := hide (seX_len d r (allX d r) (allX_good d r).1)
  have HY := hide (seX_len (flatL 1) (flatL 0) (allX (flatL 1) (flatL 0)) (allX_good (flatL 1) (flatL 0)).1)
  generalize seX (flatL 1) (flatL 0) (allX (flatL 1) (flatL 0)) = Y at *
  generalize seE (flatL 1) (flatL 0) = e3 at *
  generalize seX d r (allX d r) = X at *
  generalize seG d r (allX d r) = G at *
  generalize seE d r = y at *
  have hz4 := zero_arr zArr4
  have heq := eq_arr X Try.underlying22 HX.out 9998
  obtain ⟨ad, c, rfl, _, _⟩ := hi
  obtain ⟨bd, dd, rfl, _, _⟩ := hj
  clear hl hl64 hsh hk hk64 hsu
  go_enter Try.func8, Try.ntmps8
  go_wp2_with fail
  refine ID.out.mono ?_
  rintro e w1 ⟨v1, rfl, o1, g1⟩
  have O1 := hide (show Own w.heap.size w1 v1 d from o1)
  have G1 := hide g1
  clear o1 g1 ID
  go_wp2_with fail
  refine (IR.out w1 G1.out).mono ?_
  rintro e w2 ⟨v2, rfl, o2, g2⟩
  have O1 := hide (O1.out.keep g2)
  have O2 := hide (show Own w1.heap.size w2 v2 r from o2)
  have G2 := hide (grown_none G1.out g2)
  clear o2 g2 IR G1
  go_wp2_with fail
  refine (HP.out w2 v1 v2 O1.out.ints O2.out.ints).mono ?_
  rintro e w3 ⟨rfl, g3⟩
  have FA := fresh_arr w3 22 4 X HX.out
  have BZ := hide FA.1
  have BA := hide FA.2.1
  have G3 := hide (grown_none (grown_none G2.out g3) FA.2.2)
  clear g3 HP G2 O1 O2 FA
  go_upto_region 2 with (first | refine wpList_store_arr rfl 22 _ _ rfl _ (zeros 4) X rfl rfl BZ.out (by rw [HX.out, zeros_len]) (by rw [zeros_len]; exact size4) ?_)
  (try simp only [Act.put])
  generalize putArr (w3.alloc _) w3.heap.size X = W3 at *
  generalize w3.heap.size = b3 at *
  clear BZ
  go_wp2_with fail
  refine (HR.out W3 G3.out).mono ?_
  rintro e w4 ⟨rfl, g4⟩
  have FA := fresh_arr w4 22 4 X HX.out
  have BZ := hide FA.1
  have BB := hide FA.2.1
  have BA := hide ((BA.out.keep g4).keep FA.2.2)
  have G4 := hide (grown_none (grown_none G3.out g4) FA.2.2)
  clear g4 HR G3 FA
  go_upto_region 3 with (first | refine wpList_store_arr rfl 22 _ _ rfl _ (zeros 4) X rfl rfl BZ.out (by rw [HX.out, zeros_len]) (by rw [zeros_len]; exact size4) ?_)
  (try simp only [Act.put])
  generalize putArr (w4.alloc _) w4.heap.size X = W4 at *
  generalize w4.heap.size = b4 at *
  clear BZ
  go_wp2_with fail
  refine (flat_any 1 W4).mono ?_
  rintro e w5 ⟨rfl, f5, g5⟩
  have F5 := hide f5
  have BA := hide (BA.out.keep g5)
  have BB := hide (BB.out.keep g5)
  have G5 := hide (grown_none G4.out g5)
  clear f5 g5 G4
  go_wp2_with fail
  refine (flat_any 0 w5).mono ?_
  rintro e w6 ⟨rfl, f6, g6⟩
  have F5 := hide (F5.out.keep g6)
  have F6 := hide f6
  have BA := hide (BA.out.keep g6)
  have BB := hide (BB.out.keep g6)
  have G6 := hide (grown_none G5.out g6)
  clear f6 g6 G5
  go_wp2_with fail
  refine (HC.out w6 _ _ (flat_ints F5.out) (flat_ints F6.out)).mono ?_
  rintro e w7 ⟨rfl, g7⟩
  have FA := fresh_arr w7 22 4 Y HY.out
  have BZ := hide FA.1
  have BA := hide ((BA.out.keep g7).keep FA.2.2)
  have BB := hide ((BB.out.keep g7).keep FA.2.2)
  have G7 := hide (grown_none (grown_none G6.out g7) FA.2.2)
  clear g7 HC G6 FA F5 F6
  go_upto_region 4 with (first | refine wpList_store_arr rfl 22 _ _ rfl _ (zeros 4) Y rfl rfl BZ.out (by rw [HY.out, zeros_len]) (by rw [zeros_len]; exact size4) ?_)
  (try simp only [Act.put])
  generalize putArr (w7.alloc _) w7.heap.size Y = W7 at *
  clear BZ hz4
  go_wp2_with (first | refine wpList_load_arr rfl 22 _ rfl _ rfl _ BA.out _ Try.underlying22 rfl (by rw [HX.out]; exact size4) ?_ | refine wpList_load_arr rfl 22 _ rfl _ rfl _ BB.out _ Try.underlying22 rfl (by rw [HX.out]; exact size4) ?_)
  go_ret
  exact ⟨rfl, below_of_grown G7.out⟩
end Go.Proofs.Ytdeappknlcmbbaa
