/- The walks of PackGoods, PackPacks and PackUnpacks out of contracts that are handed in (by mkPkL.py). -/
import Derived.Test.YtjgdkinnpgiabaaDoorPkW
import Derived.Test.YtjgdkinnpgiabaaDoorPktE
import Derived.BigQuiet
import Derived.Deep.Cut
import Derived.OwnWalk
namespace Go.Proofs.YtjgdkinnpgiabaaDoor
open Go.RowKit
set_option linter.unusedVariables false
set_option linter.unusedSimpArgs false
set_option maxHeartbeats 2000000

set_option maxRecDepth 100000 in
theorem law_packGoods (w : World) (pg : PGd 9 w) (rg : PGd 10 w) (pp : PPar 11 w) (rp : PPar 12 w) (l : List Int) (hl : l.length = 25) (h64 : In64 l) :
    Calls Tryd.prog 3 #[.agg (arrI l)] w fun e w' => e = .returned (.bool true) ∧ Below w.heap.size w w' := by
  have P0 := hide (Blk.new w 28 l)
  have G0 := hide (grown_alloc w (.cells (arrI l) 28) none)
  have A := hide (fun wr g => pg l hl h64 wr g)
  have B := hide (fun wr g => rg l hl h64 wr g)
  have C := hide (fun wr g => pp l hl h64 wr g)
  have D := hide (fun wr g => rp l hl h64 wr g)
  have E := hide (fun wr g => pg (zeros 25) (zeros_len 25) (zeros_64 25) wr g)
  rw [zeros_good] at E
  have hz := zero_arr zPkt
  have HL := hide hl
  clear pg rg pp rp hl h64
  generalize goodB l = gb at *
  generalize parL l = pl at *
  generalize zeros 25 = Z at *
  go_enter Tryd.func3, Tryd.ntmps3
  go_upto_region 1 with fail
  generalize w.alloc (.cells (arrI l) 28) = W0 at *
  refine wp_region_held_drew (S := GrownW W0) (by kernel_rfl) (gw_start _) (fun hHeld => ?_)
  refine wpAnyH_take (i := 0) (v := .agg (arrI l)) rfl (by kernel_rfl) (by kernel_rfl) (by kernel_rfl) (fun _ _ _ h => h) (Or.inl ⟨by rfl, ?y0⟩) hHeld ?r0
  case y0 => (intro w' hSw; exact yields_load_arr rfl rfl (P0.out.keep hSw) _ Tryd.underlying28 rfl (by rw [HL.out]; exact size25))
  (try simp only [Act.put, List.setIfInBounds_toArray, List.set_cons_zero, List.set_cons_succ, List.getElem_toArray, List.getElem_cons_zero, List.getElem_cons_succ])
  refine wpAnyH_take (i := 2) (v := .agg (arrI l)) rfl (by kernel_rfl) (by kernel_rfl) (by kernel_rfl) (fun _ _ _ h => h) (Or.inl ⟨by rfl, ?y2⟩) hHeld ?r2
  case y2 => (intro w' hSw; exact yields_load_arr rfl rfl (P0.out.keep hSw) _ Tryd.underlying28 rfl (by rw [HL.out]; exact size25))
  (try simp only [Act.put, List.setIfInBounds_toArray, List.set_cons_zero, List.set_cons_succ, List.getElem_toArray, List.getElem_cons_zero, List.getElem_cons_succ])
  refine wpAnyH_ready (rs := [1]) (by kernel_rfl) (by simp) (AllReadyH.cons rfl (fun K hK => ?_) AllReadyH.nil)
  (try simp only [Act.put, List.setIfInBounds_toArray, List.set_cons_zero, List.set_cons_succ, List.getElem_toArray, List.getElem_cons_zero, List.getElem_cons_succ])
  go_simp
  refine (A.out _ (grown_none G0.out hHeld)).mono ?_
  rintro e w1 ⟨rfl, g1⟩
  have G1 := hide g1
  clear g1
  go_wp2_with fail
  refine hK.out _ _ (gw_trans hHeld G1.out) (fun hHeld => ?_)
  clear hK G1
  (try simp only [Act.put, List.setIfInBounds_toArray, List.set_cons_zero, List.set_cons_succ, List.getElem_toArray, List.getElem_cons_zero, List.getElem_cons_succ])
  refine wpAnyH_ready (rs := [3]) (by kernel_rfl) (by simp) (AllReadyH.cons rfl (fun K hK => ?_) AllReadyH.nil)
  (try simp only [Act.put, List.setIfInBounds_toArray, List.set_cons_zero, List.set_cons_succ, List.getElem_toArray, List.getElem_cons_zero, List.getElem_cons_succ])
  go_simp
  refine (B.out _ (grown_none G0.out hHeld)).mono ?_
  rintro e w3 ⟨rfl, g3⟩
  have G3 := hide g3
  clear g3
  go_wp2_with fail
  refine hK.out _ _ (gw_trans hHeld G3.out) (fun hHeld => ?_)
  clear hK G3
  (try simp only [Act.put, List.setIfInBounds_toArray, List.set_cons_zero, List.set_cons_succ, List.getElem_toArray, List.getElem_cons_zero, List.getElem_cons_succ])
  refine wpAnyH_take (i := 4) (v := .bool true) rfl (by kernel_rfl) (by kernel_rfl) (by kernel_rfl) (fun _ _ _ h => h) (Or.inl ⟨by rfl, ?y4⟩) hHeld ?r4
  case y4 => (intro w' hSw; go_simp; (first | done | rfl | simp))
  (try simp only [Act.put, List.setIfInBounds_toArray, List.set_cons_zero, List.set_cons_succ, List.getElem_toArray, List.getElem_cons_zero, List.getElem_cons_succ])
  refine wpAnyH_take (i := 5) (v := ?v5) rfl (by kernel_rfl) (by kernel_rfl) (by kernel_rfl) (fun _ _ _ h => h) (Or.inl ⟨by rfl, ?y5⟩) hHeld ?r5
  case y5 => (intro w' hSw; go_simp; (try with_reducible rfl))
  (try simp only [Act.put, List.setIfInBounds_toArray, List.set_cons_zero, List.set_cons_succ, List.getElem_toArray, List.getElem_cons_zero, List.getElem_cons_succ])
  refine wpAnyH_take (i := 6) (v := .agg (arrI l)) rfl (by kernel_rfl) (by kernel_rfl) (by kernel_rfl) (fun _ _ _ h => h) (Or.inl ⟨by rfl, ?y6⟩) hHeld ?r6
  case y6 => (intro w' hSw; exact yields_load_arr rfl rfl (P0.out.keep hSw) _ Tryd.underlying28 rfl (by rw [HL.out]; exact size25))
  (try simp only [Act.put, List.setIfInBounds_toArray, List.set_cons_zero, List.set_cons_succ, List.getElem_toArray, List.getElem_cons_zero, List.getElem_cons_succ])
  refine wpAnyH_take (i := 8) (v := .agg (arrI l)) rfl (by kernel_rfl) (by kernel_rfl) (by kernel_rfl) (fun _ _ _ h => h) (Or.inl ⟨by rfl, ?y8⟩) hHeld ?r8
  case y8 => (intro w' hSw; exact yields_load_arr rfl rfl (P0.out.keep hSw) _ Tryd.underlying28 rfl (by rw [HL.out]; exact size25))
  (try simp only [Act.put, List.setIfInBounds_toArray, List.set_cons_zero, List.set_cons_succ, List.getElem_toArray, List.getElem_cons_zero, List.getElem_cons_succ])
  refine wpAnyH_ready (rs := [7]) (by kernel_rfl) (by simp) (AllReadyH.cons rfl (fun K hK => ?_) AllReadyH.nil)
  (try simp only [Act.put, List.setIfInBounds_toArray, List.set_cons_zero, List.set_cons_succ, List.getElem_toArray, List.getElem_cons_zero, List.getElem_cons_succ])
  go_simp
  refine (C.out _ (grown_none G0.out hHeld)).mono ?_
  rintro e w7 ⟨rfl, g7⟩
  have G7 := hide g7
  clear g7
  go_wp2_with fail
  refine hK.out _ _ (gw_trans hHeld G7.out) (fun hHeld => ?_)
  clear hK G7
  (try simp only [Act.put, List.setIfInBounds_toArray, List.set_cons_zero, List.set_cons_succ, List.getElem_toArray, List.getElem_cons_zero, List.getElem_cons_succ])
  refine wpAnyH_ready (rs := [9]) (by kernel_rfl) (by simp) (AllReadyH.cons rfl (fun K hK => ?_) AllReadyH.nil)
  (try simp only [Act.put, List.setIfInBounds_toArray, List.set_cons_zero, List.set_cons_succ, List.getElem_toArray, List.getElem_cons_zero, List.getElem_cons_succ])
  go_simp
  refine (D.out _ (grown_none G0.out hHeld)).mono ?_
  rintro e w9 ⟨rfl, g9⟩
  have G9 := hide g9
  clear g9
  go_wp2_with fail
  refine hK.out _ _ (gw_trans hHeld G9.out) (fun hHeld => ?_)
  clear hK G9
  (try simp only [Act.put, List.setIfInBounds_toArray, List.set_cons_zero, List.set_cons_succ, List.getElem_toArray, List.getElem_cons_zero, List.getElem_cons_succ])
  refine wpAnyH_take (i := 10) (v := .bool true) rfl (by kernel_rfl) (by kernel_rfl) (by kernel_rfl) (fun _ _ _ h => h) (Or.inl ⟨by rfl, ?y10⟩) hHeld ?r10
  case y10 => (intro w' hSw; go_simp; (first | done | rfl | simp))
  (try simp only [Act.put, List.setIfInBounds_toArray, List.set_cons_zero, List.set_cons_succ, List.getElem_toArray, List.getElem_cons_zero, List.getElem_cons_succ])
  refine wpAnyH_take (i := 11) (v := ?v11) rfl (by kernel_rfl) (by kernel_rfl) (by kernel_rfl) (fun _ _ _ h => h) (Or.inl ⟨by rfl, ?y11⟩) hHeld ?r11
  case y11 => (intro w' hSw; go_simp; (try with_reducible rfl))
  (try simp only [Act.put, List.setIfInBounds_toArray, List.set_cons_zero, List.set_cons_succ, List.getElem_toArray, List.getElem_cons_zero, List.getElem_cons_succ])
  refine wpAnyH_take (i := 12) (v := ?v12) rfl (by kernel_rfl) (by kernel_rfl) (by kernel_rfl) (fun _ _ _ h => h) (Or.inl ⟨by rfl, ?y12⟩) hHeld ?r12
  case y12 => (intro w' hSw; go_simp; (try with_reducible rfl))
  (try simp only [Act.put, List.setIfInBounds_toArray, List.set_cons_zero, List.set_cons_succ, List.getElem_toArray, List.getElem_cons_zero, List.getElem_cons_succ])
  refine wpAnyH_take (i := 13) (v := .agg (arrI Z)) rfl (by kernel_rfl) (by kernel_rfl) (by kernel_rfl) (fun _ _ _ h => h) (Or.inl ⟨by rfl, ?y13⟩) hHeld ?r13
  case y13 => (intro w' hSw; go_simp; (first | done | rfl | simp))
  (try simp only [Act.put, List.setIfInBounds_toArray, List.set_cons_zero, List.set_cons_succ, List.getElem_toArray, List.getElem_cons_zero, List.getElem_cons_succ])
  refine wpAnyH_ready (rs := [14]) (by kernel_rfl) (by simp) (AllReadyH.cons rfl (fun K hK => ?_) AllReadyH.nil)
  (try simp only [Act.put, List.setIfInBounds_toArray, List.set_cons_zero, List.set_cons_succ, List.getElem_toArray, List.getElem_cons_zero, List.getElem_cons_succ])
  go_simp
  refine (E.out _ (grown_none G0.out hHeld)).mono ?_
  rintro e w14 ⟨rfl, g14⟩
  have G14 := hide g14
  clear g14
  go_wp2_with fail
  refine hK.out _ _ (gw_trans hHeld G14.out) (fun hHeld => ?_)
  clear hK G14
  (try simp only [Act.put, List.setIfInBounds_toArray, List.set_cons_zero, List.set_cons_succ, List.getElem_toArray, List.getElem_cons_zero, List.getElem_cons_succ])
  refine wpAnyH_take (i := 15) (v := ?v15) rfl (by kernel_rfl) (by kernel_rfl) (by kernel_rfl) (fun _ _ _ h => h) (Or.inl ⟨by rfl, ?y15⟩) hHeld ?r15
  case y15 => (intro w' hSw; go_simp; (try with_reducible rfl))
  (try simp only [Act.put, List.setIfInBounds_toArray, List.set_cons_zero, List.set_cons_succ, List.getElem_toArray, List.getElem_cons_zero, List.getElem_cons_succ])
  refine wpAnyH_take (i := 16) (v := ?v16) rfl (by kernel_rfl) (by kernel_rfl) (by kernel_rfl) (fun _ _ _ h => h) (Or.inl ⟨by rfl, ?y16⟩) hHeld ?r16
  case y16 => (intro w' hSw; go_simp; (try with_reducible rfl))
  (try simp only [Act.put, List.setIfInBounds_toArray, List.set_cons_zero, List.set_cons_succ, List.getElem_toArray, List.getElem_cons_zero, List.getElem_cons_succ])
  refine wpAnyH_done (by kernel_rfl) ?_ _
  have GF := hide (grown_none G0.out hHeld)
  go_wp2_with fail
  go_ret
  exact ⟨rfl, below_of_grown GF.out⟩
set_option maxRecDepth 100000 in
theorem law_packPacks (w : World) (pk : PPk 13 w) (rk : PPk 14 w) (l : List Int) (hl : l.length = 25) (h64 : In64 l) :
    Calls Tryd.prog 4 #[.agg (arrI l)] w fun e w' => e = .returned (.bool true) ∧ Below w.heap.size w w' := by
  have P0 := hide (Blk.new w 28 l)
  have G0 := hide (grown_alloc w (.cells (arrI l) 28) none)
  have A := hide (fun wr g => pk l hl h64 wr g)
  have B := hide (fun wr g => rk l hl h64 wr g)
  have E := hide (fun wr g => pk (zeros 25) (zeros_len 25) (zeros_64 25) wr g)
  have EZ := hide (And.intro (pkR_yes zeros_good).1 (And.intro (pkR_yes zeros_good).2 (pkA_len (zeros 25))))
  have hz := zero_arr zPkt
  have HL := hide hl
  clear pk rk hl h64
  generalize zeros 25 = Z at *
  go_enter Tryd.func4, Tryd.ntmps4
  go_upto_region 1 with fail
  generalize w.alloc (.cells (arrI l) 28) = W0 at *
  go_wp2_with (first | refine wpList_load_arr rfl 28 _ rfl _ rfl _ P0.out _ Tryd.underlying28 rfl (by rw [HL.out]; exact size25) ?_)
  refine (A.out _ G0.out).mono ?_
  rintro e w1 ⟨v1, rfl, o1, g1⟩
  have P1 := hide (P0.out.keep g1)
  have O1 := hide o1
  have G1 := hide (grown_none G0.out g1)
  clear o1 g1 P0 G0 A
  go_wp2_with (first | refine wpList_load_arr rfl 28 _ rfl _ rfl _ P1.out _ Tryd.underlying28 rfl (by rw [HL.out]; exact size25) ?_)
  refine (B.out _ G1.out).mono ?_
  rintro e w2 ⟨v2, rfl, o2, g2⟩
  have O1 := hide (O1.out.keep g2)
  have O2 := hide o2
  have G2 := hide (grown_none G1.out g2)
  clear o2 g2 P1 G1 B
  go_wp2_with fail
  refine (E.out _ G2.out).mono ?_
  rintro e w3 ⟨v3, rfl, o3, g3⟩
  rw [EZ.out.1] at o3
  obtain ⟨gz, cz, rfl, _, _, _⟩ := o3.form (by rw [EZ.out.2.2]; omega)
  rw [EZ.out.2.1, EZ.out.2.2]
  have O1 := hide (O1.out.keep g3)
  have O2 := hide (O2.out.keep g3)
  have G3 := hide (grown_none G2.out g3)
  have s1 := conv_byts O1.out.byts O1.out.plain
  have s2 := conv_byts O2.out.byts O2.out.plain
  clear o3 g3 G2 E EZ
  generalize strOfNums (pkR l) = S at *
  generalize pkE l = ee at *
  clear O1 O2
  go_wp2_with fail
  go_ret
  exact ⟨rfl, below_of_grown G3.out⟩
theorem two_good : goodB ((zeros 25).set 0 2) = true := set_good 2 (by omega) (by omega)
theorem unL_two : unE (pkA ((zeros 25).set 0 2)) = 0 ∧ unL (pkA ((zeros 25).set 0 2)) = (zeros 25).set 0 2 := un_pk _ (by rw [List.length_set, zeros_len]) two_good
set_option maxRecDepth 100000 in
theorem law_packUnpacks (w : World) (pu : PUn 15 w) (ru : PUn 16 w) (rk : PPk 14 w) (v : Value) (b : List Int) (hb : Byts w v b) (hsz : b.length ≤ 140737488351232) (hby : byB b) (hsh : v = .slice none 0 0 ∨ ∃ a c, v = .slice (some a) b.length c) :
    Calls Tryd.prog 5 #[v] w fun e w' => e = .returned (.bool true) ∧ Below w.heap.size w w' := by
  have HB := hide (fun wr (g : w.grownBy wr none) => Byts_keep hb g)
  have A := hide (fun v' wr g h => pu v' b wr g h hby)
  have B := hide (fun wr g => ru v b wr g (Byts_keep hb g) hby hsh hsz)
  have C := hide (fun wr g => rk ((zeros 25).set 0 2) (by rw [List.length_set, zeros_len]) (set_64 2 (by omega) (by omega)) wr g)
  have D := hide (fun v' wr g h => pu v' (pkA ((zeros 25).set 0 2)) wr g h (pkA_by _))
  have EC := hide (And.intro (pkR_yes two_good).1 (And.intro (pkR_yes two_good).2 (pkA_len ((zeros 25).set 0 2))))
  have ED := hide unL_two
  have NK := hide (show nth ((zeros 25).set 0 2) 0 = 2 by decide)
  have TL := hide (show ((zeros 25).set 0 2).length = 25 by rw [List.length_set, zeros_len])
  have hset := arrI_set (zeros 25) 0 2
  have hzne : ¬ arrI (zeros 25) = #[] := by decide
  have UL := hide (unL_len b)
  have ZL := hide (zeros_len 25)
  have hz := zero_arr zPkt
  have FR := hide (fun wr L hL => fresh_arr wr 28 25 L hL)
  have EQ := hide (bin_pkt (unL b) (unL_len b))
  have EG := hide (fun x y w => guard_pkt x y (unL b) (unL b) w)
  have hs8 : b.length * 1 ≤ 140737488355328 := by omega
  have HSH := hide (show Shp v b from hsh)
  clear pu ru rk hb hby
  generalize (zeros 25).set 0 2 = Q at *
  generalize zeros 25 = Z at *
  go_enter Tryd.func5, Tryd.ntmps5
  go_wp2_with (at_builtin; refine wpList_append_bothB (by rfl) _ _ rfl w.heap.size (.slice none 0 0) v [] b rfl rfl (OwnB_nil _ _) (HB.out w (grown_refl _ _)) HSH.out (by simp; omega) (Nat.le_refl _) ?_)
  intro v1 w1 o1 g1
  have O1 := hide (show OwnB w.heap.size w1 v1 b from o1)
  have G1 := hide (show w.grownBy w1 none from g1)
  clear o1 g1
  go_wp2_with fail
  refine (A.out v1 w1 G1.out O1.out.byts O1.out.shp (by omega)).mono ?_
  rintro e w2 ⟨rfl, g2⟩
  have G2 := hide (grown_none G1.out g2)
  have F2 := FR.out w2 (unL b) UL.out
  have B2 := hide F2.1
  have C2 := hide F2.2.1
  have H2 := hide F2.2.2
  have GG2 := hide (grown_none G2.out F2.2.2)
  clear F2 G2
  go_upto_region 2 with (first | refine wpList_store_arr rfl 28 _ _ rfl _ Z (unL b) rfl rfl B2.out (by rw [UL.out, ZL.out]) (by rw [ZL.out]; exact size25) ?_)
  (try simp only [Act.put])
  clear B2
  generalize putArr (w2.alloc _) w2.heap.size (unL b) = W3 at *
  generalize w2.heap.size = b3 at *
  clear O1 G1 A
  go_wp2_with fail
  refine (B.out W3 GG2.out).mono ?_
  rintro e w4 ⟨rfl, g4⟩
  have G4 := hide (grown_none GG2.out g4)
  have C2 := hide (C2.out.keep g4)
  clear g4 B GG2 H2
  have F4 := FR.out w4 (unL b) UL.out
  have B4 := hide F4.1
  have C4 := hide F4.2.1
  have H4 := hide F4.2.2
  have GG4 := hide (grown_none G4.out F4.2.2)
  have C2 := hide (C2.out.keep F4.2.2)
  clear F4 G4
  go_upto_region 3 with (first | refine wpList_store_arr rfl 28 _ _ rfl _ Z (unL b) rfl rfl B4.out (by rw [UL.out, ZL.out]) (by rw [ZL.out]; exact size25) ?_)
  (try simp only [Act.put])
  clear B4
  generalize putArr (w4.alloc _) w4.heap.size (unL b) = W5 at *
  generalize w4.heap.size = b5 at *
  go_wp2_with fail
  refine (C.out W5 GG4.out).mono ?_
  rintro e w6 ⟨v6, rfl, o6, g6⟩
  rw [EC.out.1] at o6
  have O6 := hide o6
  have G6 := hide (grown_none GG4.out g6)
  have C2 := hide (C2.out.keep g6)
  have C4 := hide (C4.out.keep g6)
  clear g6 o6 C GG4 H4
  go_wp2_with fail
  refine (D.out v6 w6 G6.out O6.out.byts O6.out.shp (by rw [EC.out.2.2]; omega)).mono ?_
  rintro e w7 ⟨rfl, g7⟩
  rw [ED.out.1, ED.out.2]
  have G7 := hide (grown_none G6.out g7)
  have C2 := hide (C2.out.keep g7)
  have C4 := hide (C4.out.keep g7)
  clear g7 O6 D EC ED G6
  have F7 := FR.out w7 Q TL.out
  have B7 := hide F7.1
  have C7 := hide F7.2.1
  have H7 := hide F7.2.2
  have GG7 := hide (grown_none G7.out F7.2.2)
  have C2 := hide (C2.out.keep F7.2.2)
  have C4 := hide (C4.out.keep F7.2.2)
  clear F7 G7
  go_upto_region 5 with (first | refine wpList_store_arr rfl 28 _ _ rfl _ Z Q rfl rfl B7.out (by rw [TL.out, ZL.out]) (by rw [ZL.out]; exact size25) ?_)
  (try simp only [Act.put])
  clear B7
  generalize putArr (w7.alloc _) w7.heap.size Q = W8 at *
  generalize w7.heap.size = b9 at *
  have c9 := C7.out.cell 0 (by rw [TL.out]; omega)
  rw [NK.out] at c9
  have eq := EQ.out W8
  have eg := fun x y => EG.out x y W8
  clear EQ EG
  generalize unL b = U at *
  generalize unE b = ee at *
  obtain ⟨VU, hV⟩ : ∃ V, Value.agg (arrI U) = V := ⟨_, rfl⟩
  rw [hV] at eq eg ⊢
  have HV := hide hV
  clear hV
  go_wp2_with (first | (refine wpList_load_arr rfl 28 _ rfl _ rfl _ C2.out _ Tryd.underlying28 rfl (by rw [UL.out]; exact size25) ?_; rw [HV.out]) | (refine wpList_load_arr rfl 28 _ rfl _ rfl _ C4.out _ Tryd.underlying28 rfl (by rw [UL.out]; exact size25) ?_; rw [HV.out]))
  go_ret
  exact ⟨rfl, below_of_grown GG7.out⟩
end Go.Proofs.YtjgdkinnpgiabaaDoor
