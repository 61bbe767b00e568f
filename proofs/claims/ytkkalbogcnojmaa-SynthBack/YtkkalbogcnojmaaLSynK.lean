/- The walks of SynthBack and SynthCut out of the contracts. -/
import Derived.Test.YtkkalbogcnojmaaKeepL
import Derived.Test.YtkkalbogcnojmaaOrder
import Derived.BigQuiet
import Derived.Deep.QuietTactic
namespace Go.Proofs.Ytkkalbogcnojmaa
open Go.RowKit
set_option linter.unusedVariables false
set_option linter.unusedSimpArgs false
set_option maxHeartbeats 1000000

set_option maxRecDepth 100000 in
theorem law_synBack (w : World) (a : List Int) (ha : a.length = 9) (ha64 : In64 a) (p : List Int) (hp : p.length = 8) (hp64 : In64 p) (v : Value) (l : List Int) (hi : Ints w v l) (hl : l.length * 8 ≤ 140737488351232) (hl64 : In64 l) (hsh : Shp v l) :
    Calls Try.prog 7 #[.agg (arrI a), .agg (arrI p), v] w fun e w' => e = .returned (.bool true) ∧ Below w.heap.size w w' := by
  have PR := hide (pred_any a ha)
  have PA := hide (past_any p hp)
  obtain ⟨N, hN0⟩ : ∃ N : Nat, N = min l.length 200 := ⟨_, rfl⟩
  have hN : min (l.length : Int) 200 = (N : Int) := by omega
  have hN2 : N ≤ 200 := by omega
  have LI := hide (fun wr (g : w.grownBy wr none) => lists_any v l wr (Ints_keep hi g) hl N (by omega))
  have M0 := hide (show Mem2 w _ 22 23 a p from laid2 w 22 23 a p)
  have hA := predL_len a
  have hP := pastL_len p
  have PR' := hide (pastL_right p)
  have OK := hide (fun l h => pred_ok a (pastL p) l (pastL_right p) h)
  obtain ⟨ad, c, rfl, hc, _⟩ := hi
  clear ha64 hp64 hl64 hsh hN0
  generalize predL a = A at *
  generalize pastL p = P at *
  go_enter Try.func7, Try.ntmps7
  go_wp2_with fail
  generalize (w.alloc (.cells (arrI a) 22)).alloc _ = W0 at *
  have HS := hide (Mem2.keep M0.out (gw_start W0))
  clear M0
  refine wp_region_G 9 (fun w' => Mem2 w w' 22 23 a p) 12 (by rfl) #[false, false, false, false, false, false, false, false, false, false, false, false] (by rfl) (by kernel_rfl) (fun hcl => ?_)
  refine wpAnyG_take (i := 0) (v := .agg (arrI a)) rfl (by kernel_rfl) hcl (fun _ _ _ h => h) (Or.inl ⟨by rfl, ?yra0⟩) HS.out (fun hcl => ?rra0)
  case yra0 => (intro w' hSw; exact yields_load_arr rfl rfl hSw.1 _ Try.underlying22 rfl (by rw [ha]; exact size9'))
  (try simp only [Act.put, List.setIfInBounds_toArray, List.set_cons_zero, List.set_cons_succ, List.getElem_toArray, List.getElem_cons_zero, List.getElem_cons_succ])
  refine wpAnyG_take (i := 2) (v := .agg (arrI p)) rfl (by kernel_rfl) hcl (fun _ _ _ h => h) (Or.inl ⟨by rfl, ?yra2⟩) HS.out (fun hcl => ?rra2)
  case yra2 => (intro w' hSw; exact yields_load_arr rfl rfl hSw.2.1 _ Try.underlying23 rfl (by rw [hp]; exact size8'))
  (try simp only [Act.put, List.setIfInBounds_toArray, List.set_cons_zero, List.set_cons_succ, List.getElem_toArray, List.getElem_cons_zero, List.getElem_cons_succ])
  refine wpAnyG_take (i := 4) (v := ?vra4) rfl (by kernel_rfl) hcl (fun _ _ _ h => h) (Or.inl ⟨by rfl, ?yra4⟩) HS.out (fun hcl => ?rra4)
  case yra4 => (intro w' hSw; go_simp; try with_reducible rfl)
  (try simp only [Act.put, List.setIfInBounds_toArray, List.set_cons_zero, List.set_cons_succ, List.getElem_toArray, List.getElem_cons_zero, List.getElem_cons_succ])
  refine wpAnyG_take (i := 5) (v := ?vra5) rfl (by kernel_rfl) hcl (fun _ _ _ h => h) (Or.inl ⟨by rfl, ?yra5⟩) HS.out (fun hcl => ?rra5)
  case yra5 => (intro w' hSw; go_simp; try with_reducible rfl)
  (try simp only [Act.put, List.setIfInBounds_toArray, List.set_cons_zero, List.set_cons_succ, List.getElem_toArray, List.getElem_cons_zero, List.getElem_cons_succ])
  refine wpAnyG_take (i := 6) (v := ?vra6) rfl (by kernel_rfl) hcl (fun _ _ _ h => h) (Or.inl ⟨by rfl, ?yra6⟩) HS.out (fun hcl => ?rra6)
  case yra6 => (intro w' hSw; go_simp; try with_reducible rfl)
  (try simp only [Act.put, List.setIfInBounds_toArray, List.set_cons_zero, List.set_cons_succ, List.getElem_toArray, List.getElem_cons_zero, List.getElem_cons_succ])
  refine wpAnyG_take (i := 7) (v := .int .i64 (N : Int)) rfl (by kernel_rfl) hcl (fun _ _ _ h => h) (Or.inl ⟨by rfl, ?yra7⟩) HS.out (fun hcl => ?rra7)
  case yra7 => (intro w' hSw; go_simp; (try (first | rfl | (rw [hN]; done) | (split <;> omega) | simp [hN])))
  (try simp only [Act.put, List.setIfInBounds_toArray, List.set_cons_zero, List.set_cons_succ, List.getElem_toArray, List.getElem_cons_zero, List.getElem_cons_succ])
  refine wpAnyG_exec (i := 1) rfl (by kernel_rfl) hcl (fun K hK => ?_)
  (try simp only [Act.put, List.setIfInBounds_toArray, List.set_cons_zero, List.set_cons_succ, List.getElem_toArray, List.getElem_cons_zero, List.getElem_cons_succ])
  go_simp
  refine (PR.out _).mono ?_
  rintro e w1 ⟨rfl, g1⟩
  have HS := hide (Mem2.keep HS.out g1)
  clear g1
  go_wp2_with fail
  refine hK.out _ _ (fun _ => HS.out) (fun hcl => ?_)
  clear hK
  (try simp only [Act.put, List.setIfInBounds_toArray, List.set_cons_zero, List.set_cons_succ, List.getElem_toArray, List.getElem_cons_zero, List.getElem_cons_succ])
  refine wpAnyG_exec (i := 3) rfl (by kernel_rfl) hcl (fun K hK => ?_)
  (try simp only [Act.put, List.setIfInBounds_toArray, List.set_cons_zero, List.set_cons_succ, List.getElem_toArray, List.getElem_cons_zero, List.getElem_cons_succ])
  go_simp
  refine (PA.out _).mono ?_
  rintro e w2 ⟨rfl, g2⟩
  have HS := hide (Mem2.keep HS.out g2)
  clear g2
  go_wp2_with fail
  refine hK.out _ _ (fun _ => HS.out) (fun hcl => ?_)
  clear hK
  (try simp only [Act.put, List.setIfInBounds_toArray, List.set_cons_zero, List.set_cons_succ, List.getElem_toArray, List.getElem_cons_zero, List.getElem_cons_succ])
  refine wpAnyG_exec (i := 8) rfl (by kernel_rfl) hcl (fun K hK => ?_)
  (try simp only [Act.put, List.setIfInBounds_toArray, List.set_cons_zero, List.set_cons_succ, List.getElem_toArray, List.getElem_cons_zero, List.getElem_cons_succ])
  go_simp
  refine (LI.out _ HS.out.2.2).mono ?_
  rintro e w3 ⟨bl, L, rfl, bL, hLn, hLr, hbl, g3⟩
  have HS0 := HS
  have HS := hide (Mem2.keep HS.out g3)
  have BL := hide bL
  have LR := hide (right_of_all hLr)
  have NB := hide (Nat.lt_of_lt_of_le (Blk.lt HS0.out.2.1) hbl)
  clear bL hLr hbl
  clear g3
  go_wp2_with fail
  refine hK.out _ _ (fun _ => HS.out) (fun hcl => ?_)
  clear hK
  (try simp only [Act.put, List.setIfInBounds_toArray, List.set_cons_zero, List.set_cons_succ, List.getElem_toArray, List.getElem_cons_zero, List.getElem_cons_succ])
  refine wpAnyG_exec (i := 9) rfl (by kernel_rfl) hcl (fun K hK => ?_)
  (try simp only [Act.put, List.setIfInBounds_toArray, List.set_cons_zero, List.set_cons_succ, List.getElem_toArray, List.getElem_cons_zero, List.getElem_cons_succ])
  refine step_store_arr rfl 22 _ _ rfl (w.heap.size) a A rfl rfl HS.out.1 (by rw [hA, ha]) (by rw [ha]; exact size9') ?_
  have PU := put_arr (rs' := A) HS.out.1 (by rw [hA, ha])
  have HS := hide (show Mem2 w _ 22 23 A p from ⟨PU.1, HS.out.2.1.keepBut PU.2 (by omega), grown_own HS.out.2.2 PU.2 (Nat.le_refl _)⟩)
  have BL := hide (BL.out.keepBut PU.2 (by have := NB.out; omega))
  refine hK.out _ _ (fun h => by cases h) (fun hcl => ?_)
  clear hK PU
  (try simp only [Act.put, List.setIfInBounds_toArray, List.set_cons_zero, List.set_cons_succ, List.getElem_toArray, List.getElem_cons_zero, List.getElem_cons_succ])
  generalize putArr w3 w.heap.size A = w4 at *
  refine wpAnyG_of_any _ _ _ _ (by rfl) ?_
  refine wpAny_ready (rs := [10]) (by kernel_rfl) (by simp) (AllReady.cons rfl (fun K hK => ?_) AllReady.nil)
  (try simp only [Act.put, List.setIfInBounds_toArray, List.set_cons_zero, List.set_cons_succ, List.getElem_toArray, List.getElem_cons_zero, List.getElem_cons_succ])
  have HK := hide hK
  clear hK
  refine step_store_arr rfl 23 _ _ rfl (w.heap.size + 1) p P rfl rfl HS.out.2.1 (by rw [hP, hp]) (by rw [hp]; exact size8') ?_
  have PU := put_arr (rs' := P) HS.out.2.1 (by rw [hP, hp])
  have HS := hide (show Mem2 w _ 22 23 A P from ⟨HS.out.1.keepBut PU.2 (by omega), PU.1, grown_own HS.out.2.2 PU.2 (by omega)⟩)
  have BL := hide (BL.out.keepBut PU.2 (by have := NB.out; omega))
  refine HK.out _ _ ?_
  clear HK PU
  (try simp only [Act.put, List.setIfInBounds_toArray, List.set_cons_zero, List.set_cons_succ, List.getElem_toArray, List.getElem_cons_zero, List.getElem_cons_succ])
  generalize putArr w4 (w.heap.size + 1) P = w5 at *
  refine wpAny_take (i := 11) (v := ?vra11) rfl (by kernel_rfl) (by kernel_rfl) (by kernel_rfl) (fun _ _ _ h => h) (Or.inl ⟨by rfl, ?yra11⟩) ?rra11
  case yra11 => (intro w'; go_simp; try with_reducible rfl)
  (try simp only [Act.put, List.setIfInBounds_toArray, List.set_cons_zero, List.set_cons_succ, List.getElem_toArray, List.getElem_cons_zero, List.getElem_cons_succ])
  refine wpAny_done (by kernel_rfl) ?_ _
  subst hLn
  have okL := OK.out L LR.out
  have RX := mkN_right A P L L.length
  have RU := unN_right A P L L.length
  have okX := OK.out _ RX
  have okU := OK.out _ RU
  have HX := hide (fun wr vi (h : Ints wr vi L) (s : Shp vi L) => make_any A P hA hP vi L wr h s (by omega))
  have HU := hide (fun wr vi (h : Ints wr vi L) (s : Shp vi L) => undo_any A P hA hP vi L wr h s (by omega))
  have hX := mkN_len A P L L.length
  have hU := unN_len A P L L.length
  have HY := hide (fun wr vi (h : Ints wr vi (mkN A P L L.length)) (s : Shp vi (mkN A P L L.length)) => undo_any A P hA hP vi _ wr h s (by rw [hX]; omega))
  have HV := hide (fun wr vi (h : Ints wr vi (unN A P L L.length)) (s : Shp vi (unN A P L L.length)) => make_any A P hA hP vi _ wr h s (by rw [hU]; omega))
  rw [show mkL A P L = mkN A P L L.length from if_pos okL, show fiE A P L = 0 from if_pos okL] at HX
  rw [show unL A P L = unN A P L L.length from if_pos okL, show fiE A P L = 0 from if_pos okL] at HU
  rw [show fiE A P (mkN A P L L.length) = 0 from if_pos okX, show unL A P (mkN A P L L.length) = unN A P (mkN A P L L.length) L.length by unfold unL; rw [if_pos okX, hX]] at HY
  rw [show fiE A P (unN A P L L.length) = 0 from if_pos okU, show mkL A P (unN A P L L.length) = mkN A P (unN A P L L.length) L.length by unfold mkL; rw [if_pos okU, hU]] at HV
  have EY := hide (fun h => (un_mk A P L LR.out h L.length (Nat.le_refl _)).trans (List.take_of_length_le (Nat.le_refl _)))
  have EV := hide (fun h => (mk_un A P L LR.out h L.length (Nat.le_refl _)).trans (List.take_of_length_le (Nat.le_refl _)))
  have hPX := mkP_len A P L
  have hPU := unP_len A P L
  have hPY := unP_len A P (mkN A P L L.length)
  have hPV := mkP_len A P (unN A P L L.length)
  generalize mkP A P L = PX at *
  generalize unP A P L = PU' at *
  generalize unP A P (mkN A P L L.length) = PY at *
  generalize mkP A P (unN A P L L.length) = PV at *
  have hY := unN_len A P (mkN A P L L.length) L.length
  have hV := mkN_len A P (unN A P L L.length) L.length
  generalize unN A P (mkN A P L L.length) L.length = Y at *
  generalize mkN A P (unN A P L L.length) L.length = V at *
  generalize mkN A P L L.length = X at *
  generalize unN A P L L.length = U at *
  clear okL RX RU okX okU OK PR' LR NB PR PA LI
  have SL := hide (show Shp (.slice (some ⟨bl, 0, none⟩) L.length L.length) L from .inr ⟨_, _, rfl⟩)
  go_wp2_with (first | refine wpList_load_arr rfl 22 _ rfl _ rfl _ HS.out.1 _ Try.underlying22 rfl (by rw [hA]; exact size9') ?_ | refine wpList_load_arr rfl 23 _ rfl _ rfl _ HS.out.2.1 _ Try.underlying23 rfl (by rw [hP]; exact size8') ?_)
  refine (HX.out _ _ (Ints_of_blk BL.out) SL.out).mono ?_
  rintro e y3 ⟨v3, rfl, o3, g3⟩
  obtain ⟨b1, b2, b3⟩ := fresh_arr y3 23 8 PX hPX
  have NW := hide b1
  have gg := grown_none g3 b3
  have O3 := hide (o3.keep b3)
  have HS := hide (HS.out.keep gg)
  have BL := hide (BL.out.keep gg)
  rw [z8'] at NW O3 HS BL
  clear b1 b2 b3 gg o3 g3
  go_wp2_with (first | refine wpList_store_arr rfl 23 _ _ rfl _ (zeros 8) PX rfl rfl NW.out (by rw [hPX, zeros_len]) (by rw [zeros_len]; exact size8') ?_ | refine wpList_load_arr rfl 22 _ rfl _ rfl _ HS.out.1 _ Try.underlying22 rfl (by rw [hA]; exact size9') ?_ | refine wpList_load_arr rfl 23 _ rfl _ rfl _ HS.out.2.1 _ Try.underlying23 rfl (by rw [hP]; exact size8') ?_)
  clear NW
  generalize putArr _ y3.heap.size PX = z3 at *
  generalize y3.heap.size = q3 at *
  refine (HY.out _ _ O3.out.ints O3.out.shp).mono ?_
  rintro e w4 ⟨v4, rfl, o4, g4⟩
  obtain ⟨b1, b2, b3⟩ := fresh_arr w4 23 8 PY hPY
  have NW := hide b1
  have gg := grown_none g4 b3
  have O4 := hide (o4.keep b3)
  have HS := hide (HS.out.keep gg)
  have BL := hide (BL.out.keep gg)
  have O3 := hide (O3.out.keep gg)
  rw [z8'] at NW O4 HS BL O3
  clear b1 b2 b3 gg o4 g4
  go_wp2_with (first | refine wpList_store_arr rfl 23 _ _ rfl _ (zeros 8) PY rfl rfl NW.out (by rw [hPY, zeros_len]) (by rw [zeros_len]; exact size8') ?_ | refine wpList_load_arr rfl 22 _ rfl _ rfl _ HS.out.1 _ Try.underlying22 rfl (by rw [hA]; exact size9') ?_ | refine wpList_load_arr rfl 23 _ rfl _ rfl _ HS.out.2.1 _ Try.underlying23 rfl (by rw [hP]; exact size8') ?_)
  clear NW
  generalize putArr _ w4.heap.size PY = z4 at *
  generalize w4.heap.size = q4 at *
  refine (HU.out _ _ (Ints_of_blk BL.out) SL.out).mono ?_
  rintro e w5 ⟨v5, rfl, o5, g5⟩
  obtain ⟨b1, b2, b3⟩ := fresh_arr w5 23 8 PU' hPU
  have NW := hide b1
  have gg := grown_none g5 b3
  have O5 := hide (o5.keep b3)
  have HS := hide (HS.out.keep gg)
  have BL := hide (BL.out.keep gg)
  have O3 := hide (O3.out.keep gg)
  have O4 := hide (O4.out.keep gg)
  rw [z8'] at NW O5 HS BL O3 O4
  clear b1 b2 b3 gg o5 g5
  go_wp2_with (first | refine wpList_store_arr rfl 23 _ _ rfl _ (zeros 8) PU' rfl rfl NW.out (by rw [hPU, zeros_len]) (by rw [zeros_len]; exact size8') ?_ | refine wpList_load_arr rfl 22 _ rfl _ rfl _ HS.out.1 _ Try.underlying22 rfl (by rw [hA]; exact size9') ?_ | refine wpList_load_arr rfl 23 _ rfl _ rfl _ HS.out.2.1 _ Try.underlying23 rfl (by rw [hP]; exact size8') ?_)
  clear NW
  generalize putArr _ w5.heap.size PU' = z5 at *
  generalize w5.heap.size = q5 at *
  refine (HV.out _ _ O5.out.ints O5.out.shp).mono ?_
  rintro e w6 ⟨v6, rfl, o6, g6⟩
  obtain ⟨b1, b2, b3⟩ := fresh_arr w6 23 8 PV hPV
  have NW := hide b1
  have gg := grown_none g6 b3
  have O6 := hide (o6.keep b3)
  have HS := hide (HS.out.keep gg)
  have BL := hide (BL.out.keep gg)
  have O3 := hide (O3.out.keep gg)
  have O4 := hide (O4.out.keep gg)
  have O5 := hide (O5.out.keep gg)
  rw [z8'] at NW O6 HS BL O3 O4 O5
  clear b1 b2 b3 gg o6 g6
  go_wp2_with (first | refine wpList_store_arr rfl 23 _ _ rfl _ (zeros 8) PV rfl rfl NW.out (by rw [hPV, zeros_len]) (by rw [zeros_len]; exact size8') ?_)
  clear NW
  generalize putArr _ w6.heap.size PV = z6 at *
  generalize w6.heap.size = q6 at *
  refine (filters_any z6).mono ?_
  rintro e w9 ⟨rfl, g9⟩
  have IX := hide (O3.out.keep g9).ints
  have IY := hide (O4.out.keep g9).ints
  have IU := hide (O5.out.keep g9).ints
  have IV := hide (O6.out.keep g9).ints
  have IL := hide (Ints_of_blk (BL.out.keep g9))
  have G9 := hide (grown_none HS.out.2.2 g9)
  clear g9 O3 O4 O5 O6 BL HS SL HX HY HU HV
  have EX := hide (ends_any v3 X w9 IX.out (by omega))
  have EU := hide (ends_any v5 U w9 IU.out (by omega))
  have EW := hide (fun k => ends_any v5 U (w9.drewN k) (Ints_keep IU.out (grown_drewN' _ _ none)) (by omega))
  have SY := hide (fun (h : endsB X = false) => keepSame_any v4 (.slice (some ⟨bl, 0, none⟩) L.length L.length) L L w9 (by rw [← EY.out h]; exact IY.out) IL.out (by omega) (by omega))
  have SV := hide (fun (h : endsB U = false) => keepSame_any v6 (.slice (some ⟨bl, 0, none⟩) L.length L.length) L L w9 (by rw [← EV.out h]; exact IV.out) IL.out (by omega) (by omega))
  have SW := hide (fun (h : endsB U = false) k => keepSame_any v6 (.slice (some ⟨bl, 0, none⟩) L.length L.length) L L (w9.drewN k) (by rw [← EV.out h]; exact Ints_keep IV.out (grown_drewN' _ _ none)) (Ints_keep IL.out (grown_drewN' _ _ none)) (by omega) (by omega))
  rw [show decide (L = L) = true by simp] at SY SV SW
  clear IX IY IU IV IL EY EV
  rcases bX : endsB X with _ | _
  · have S1 := hide (SY.out bX)
    rw [bX] at EX
    clear SY bX EU SV
    rcases bU : endsB U with _ | _
    · have S2 := hide (SW.out bU)
      rw [bU] at EW
      clear SW bU
      go_wp2_with fail
      refine EX.out.mono ?_
      rintro e wa ⟨rfl, rfl⟩
      clear EX
      go_wp2_with fail
      refine S1.out.mono ?_
      rintro e wb ⟨rfl, m1, rfl⟩
      clear S1
      go_wp2_with fail
      refine (EW.out m1).mono ?_
      rintro e wc ⟨rfl, rfl⟩
      go_wp2_with fail
      refine (S2.out m1).mono ?_
      rintro e wd ⟨rfl, m2, rfl⟩
      clear S2
      go_wp2_with fail
      go_ret
      exact ⟨rfl, by first | exact below_of_grown (grown_none (grown_none G9.out (grown_drewN' _ _ none)) (grown_drewN' _ _ none)) | exact below_of_grown (grown_none G9.out (grown_drewN' _ _ none))⟩
    · rw [bU] at EW
      clear SW bU
      go_wp2_with fail
      refine EX.out.mono ?_
      rintro e wa ⟨rfl, rfl⟩
      clear EX
      go_wp2_with fail
      refine S1.out.mono ?_
      rintro e wb ⟨rfl, m1, rfl⟩
      clear S1
      go_wp2_with fail
      refine (EW.out m1).mono ?_
      rintro e wc ⟨rfl, rfl⟩
      go_wp2_with fail
      go_ret
      exact ⟨rfl, by first | exact below_of_grown (grown_none G9.out (grown_drewN' _ _ none)) | exact below_of_grown (grown_none G9.out (grown_drewN' _ _ none))⟩
  · rw [bX] at EX
    clear SY bX EW SW
    rcases bU : endsB U with _ | _
    · have S2 := hide (SV.out bU)
      rw [bU] at EU
      clear SV bU
      go_wp2_with fail
      refine EX.out.mono ?_
      rintro e wa ⟨rfl, rfl⟩
      clear EX
      go_wp2_with fail
      refine EU.out.mono ?_
      rintro e wc ⟨rfl, rfl⟩
      go_wp2_with fail
      refine S2.out.mono ?_
      rintro e wd ⟨rfl, m2, rfl⟩
      clear S2
      go_wp2_with fail
      go_ret
      exact ⟨rfl, by first | exact below_of_grown (grown_none G9.out (grown_drewN' _ _ none)) | exact below_of_grown (grown_none G9.out (grown_drewN' _ _ none))⟩
    · rw [bU] at EU
      clear SV bU
      go_wp2_with fail
      refine EX.out.mono ?_
      rintro e wa ⟨rfl, rfl⟩
      clear EX
      go_wp2_with fail
      refine EU.out.mono ?_
      rintro e wc ⟨rfl, rfl⟩
      go_wp2_with fail
      go_ret
      exact ⟨rfl, by first | exact below_of_grown G9.out | exact below_of_grown (grown_none G9.out (grown_drewN' _ _ none))⟩
end Go.Proofs.Ytkkalbogcnojmaa
