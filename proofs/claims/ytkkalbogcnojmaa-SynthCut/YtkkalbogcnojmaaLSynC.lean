/- The walks of SynthCut out of the contracts. -/
import Derived.Test.YtkkalbogcnojmaaKeepL
import Derived.Test.YtkkalbogcnojmaaOrder
import Derived.BigQuiet
import Derived.Deep.QuietTactic
namespace Go.Proofs.Ytkkalbogcnojmaa
open Go.RowKit
set_option linter.unusedVariables false
set_option linter.unusedSimpArgs false
set_option maxHeartbeats 1000000

/-- What a call of Make leaves in three variables. -/
def FiK (W0 : World) (L P : List Int) (en : Int) (s7 s8 s9 : Value) (wx : World) : Prop :=
  ∃ b, s8 = .pointer (some ⟨b, 0, none⟩) ∧ s9 = .int .i64 en ∧ Own W0.heap.size wx s7 L ∧ Blk wx b 23 P ∧ W0.heap.size ≤ b ∧ W0.grownBy wx none
theorem Blk.keepOwn {w w' : World} {b base : Nat} {P : List Int} {v : Value} {l : List Int} (h : Blk w b 23 P) (o : Own base w v l) (g : w.grownBy w' v.ownBlock) : Blk w' b 23 P := by
  rcases o.2 with ⟨rfl, _⟩ | ⟨g', cap, cur, rfl, _, hg, _⟩
  · exact h.keep g
  · refine h.keepBut g ?_
    intro e
    unfold Blk at h
    rw [e] at h
    rw [hg] at h
    simp at h
set_option maxRecDepth 100000 in
theorem law_synCut (w : World) (a : List Int) (ha : a.length = 9) (ha64 : In64 a) (p : List Int) (hp : p.length = 8) (hp64 : In64 p) (v : Value) (l : List Int) (hi : Ints w v l) (hl : l.length * 8 ≤ 140737488351232) (hl64 : In64 l) (hsh : Shp v l) (k : Int) (wk : (Lit.int .i64 k).wf = true) :
    Calls Try.prog 8 #[.agg (arrI a), .agg (arrI p), v, .int .i64 k] w fun e w' => e = .returned (.bool true) ∧ Below w.heap.size w w' := by
  have OK2 := hide (fun p l h1 h2 => pred_ok a p l h1 h2)
  clear wk
  have PR := hide (pred_any a ha)
  have PA := hide (past_any p hp)
  obtain ⟨N, hN0⟩ : ∃ N : Nat, N = min l.length 200 := ⟨_, rfl⟩
  have hN : min (l.length : Int) 200 = (N : Int) := by omega
  have hN2 : N ≤ 200 := by omega
  have LI := hide (fun wr (g : w.grownBy wr none) => lists_any v l wr (Ints_keep hi g) hl N (by omega))
  have M0 := hide (show Mem2 w _ 22 23 a p from laid2 w 22 23 a p)
  have hA := predL_len a
  have hP := pastL_len p
  have PR' := hide (pastL_right p)
  have OK := hide (fun l h => pred_ok a (pastL p) l (pastL_right p) h)
  obtain ⟨ad, c, rfl, hc, _⟩ := hi
  clear ha64 hp64 hl64 hsh hN0
  generalize predL a = A at *
  generalize pastL p = P at *
  go_enter Try.func8, Try.ntmps8
  go_wp2_with fail
  generalize (w.alloc (.cells (arrI a) 22)).alloc _ = W0 at *
  have HS := hide (Mem2.keep M0.out (gw_start W0))
  clear M0
  refine wp_region_G 9 (fun w' => Mem2 w w' 22 23 a p) 12 (by rfl) #[false, false, false, false, false, false, false, false, false, false, false, false] (by rfl) (by kernel_rfl) (fun hcl => ?_)
  refine wpAnyG_take (i := 0) (v := .agg (arrI a)) rfl (by kernel_rfl) hcl (fun _ _ _ h => h) (Or.inl ⟨by rfl, ?yrc0⟩) HS.out (fun hcl => ?rrc0)
  case yrc0 => (intro w' hSw; exact yields_load_arr rfl rfl hSw.1 _ Try.underlying22 rfl (by rw [ha]; exact size9'))
  (try simp only [Act.put, List.setIfInBounds_toArray, List.set_cons_zero, List.set_cons_succ, List.getElem_toArray, List.getElem_cons_zero, List.getElem_cons_succ])
  refine wpAnyG_take (i := 2) (v := .agg (arrI p)) rfl (by kernel_rfl) hcl (fun _ _ _ h => h) (Or.inl ⟨by rfl, ?yrc2⟩) HS.out (fun hcl => ?rrc2)
  case yrc2 => (intro w' hSw; exact yields_load_arr rfl rfl hSw.2.1 _ Try.underlying23 rfl (by rw [hp]; exact size8'))
  (try simp only [Act.put, List.setIfInBounds_toArray, List.set_cons_zero, List.set_cons_succ, List.getElem_toArray, List.getElem_cons_zero, List.getElem_cons_succ])
  refine wpAnyG_take (i := 4) (v := ?vrc4) rfl (by kernel_rfl) hcl (fun _ _ _ h => h) (Or.inl ⟨by rfl, ?yrc4⟩) HS.out (fun hcl => ?rrc4)
  case yrc4 => (intro w' hSw; go_simp; try with_reducible rfl)
  (try simp only [Act.put, List.setIfInBounds_toArray, List.set_cons_zero, List.set_cons_succ, List.getElem_toArray, List.getElem_cons_zero, List.getElem_cons_succ])
  refine wpAnyG_take (i := 5) (v := ?vrc5) rfl (by kernel_rfl) hcl (fun _ _ _ h => h) (Or.inl ⟨by rfl, ?yrc5⟩) HS.out (fun hcl => ?rrc5)
  case yrc5 => (intro w' hSw; go_simp; try with_reducible rfl)
  (try simp only [Act.put, List.setIfInBounds_toArray, List.set_cons_zero, List.set_cons_succ, List.getElem_toArray, List.getElem_cons_zero, List.getElem_cons_succ])
  refine wpAnyG_take (i := 6) (v := ?vrc6) rfl (by kernel_rfl) hcl (fun _ _ _ h => h) (Or.inl ⟨by rfl, ?yrc6⟩) HS.out (fun hcl => ?rrc6)
  case yrc6 => (intro w' hSw; go_simp; try with_reducible rfl)
  (try simp only [Act.put, List.setIfInBounds_toArray, List.set_cons_zero, List.set_cons_succ, List.getElem_toArray, List.getElem_cons_zero, List.getElem_cons_succ])
  refine wpAnyG_take (i := 7) (v := .int .i64 (N : Int)) rfl (by kernel_rfl) hcl (fun _ _ _ h => h) (Or.inl ⟨by rfl, ?yrc7⟩) HS.out (fun hcl => ?rrc7)
  case yrc7 => (intro w' hSw; go_simp; (try (first | rfl | (rw [hN]; done) | (split <;> omega) | simp [hN])))
  (try simp only [Act.put, List.setIfInBounds_toArray, List.set_cons_zero, List.set_cons_succ, List.getElem_toArray, List.getElem_cons_zero, List.getElem_cons_succ])
  refine wpAnyG_exec (i := 1) rfl (by kernel_rfl) hcl (fun K hK => ?_)
  (try simp only [Act.put, List.setIfInBounds_toArray, List.set_cons_zero, List.set_cons_succ, List.getElem_toArray, List.getElem_cons_zero, List.getElem_cons_succ])
  go_simp
  refine (PR.out _).mono ?_
  rintro e w1 ⟨rfl, g1⟩
  have HS := hide (Mem2.keep HS.out g1)
  clear g1
  go_wp2_with fail
  refine hK.out _ _ (fun _ => HS.out) (fun hcl => ?_)
  clear hK
  (try simp only [Act.put, List.setIfInBounds_toArray, List.set_cons_zero, List.set_cons_succ, List.getElem_toArray, List.getElem_cons_zero, List.getElem_cons_succ])
  refine wpAnyG_exec (i := 3) rfl (by kernel_rfl) hcl (fun K hK => ?_)
  (try simp only [Act.put, List.setIfInBounds_toArray, List.set_cons_zero, List.set_cons_succ, List.getElem_toArray, List.getElem_cons_zero, List.getElem_cons_succ])
  go_simp
  refine (PA.out _).mono ?_
  rintro e w2 ⟨rfl, g2⟩
  have HS := hide (Mem2.keep HS.out g2)
  clear g2
  go_wp2_with fail
  refine hK.out _ _ (fun _ => HS.out) (fun hcl => ?_)
  clear hK
  (try simp only [Act.put, List.setIfInBounds_toArray, List.set_cons_zero, List.set_cons_succ, List.getElem_toArray, List.getElem_cons_zero, List.getElem_cons_succ])
  refine wpAnyG_exec (i := 8) rfl (by kernel_rfl) hcl (fun K hK => ?_)
  (try simp only [Act.put, List.setIfInBounds_toArray, List.set_cons_zero, List.set_cons_succ, List.getElem_toArray, List.getElem_cons_zero, List.getElem_cons_succ])
  go_simp
  refine (LI.out _ HS.out.2.2).mono ?_
  rintro e w3 ⟨bl, L, rfl, bL, hLn, hLr, hbl, g3⟩
  have HS0 := HS
  have HS := hide (Mem2.keep HS.out g3)
  have BL := hide bL
  have LR := hide (right_of_all hLr)
  have NB := hide (Nat.lt_of_lt_of_le (Blk.lt HS0.out.2.1) hbl)
  clear bL hLr hbl
  clear g3
  go_wp2_with fail
  refine hK.out _ _ (fun _ => HS.out) (fun hcl => ?_)
  clear hK
  (try simp only [Act.put, List.setIfInBounds_toArray, List.set_cons_zero, List.set_cons_succ, List.getElem_toArray, List.getElem_cons_zero, List.getElem_cons_succ])
  refine wpAnyG_exec (i := 9) rfl (by kernel_rfl) hcl (fun K hK => ?_)
  (try simp only [Act.put, List.setIfInBounds_toArray, List.set_cons_zero, List.set_cons_succ, List.getElem_toArray, List.getElem_cons_zero, List.getElem_cons_succ])
  refine step_store_arr rfl 22 _ _ rfl (w.heap.size) a A rfl rfl HS.out.1 (by rw [hA, ha]) (by rw [ha]; exact size9') ?_
  have PU := put_arr (rs' := A) HS.out.1 (by rw [hA, ha])
  have HS := hide (show Mem2 w _ 22 23 A p from ⟨PU.1, HS.out.2.1.keepBut PU.2 (by omega), grown_own HS.out.2.2 PU.2 (Nat.le_refl _)⟩)
  have BL := hide (BL.out.keepBut PU.2 (by have := NB.out; omega))
  refine hK.out _ _ (fun h => by cases h) (fun hcl => ?_)
  clear hK PU
  (try simp only [Act.put, List.setIfInBounds_toArray, List.set_cons_zero, List.set_cons_succ, List.getElem_toArray, List.getElem_cons_zero, List.getElem_cons_succ])
  generalize putArr w3 w.heap.size A = w4 at *
  refine wpAnyG_of_any _ _ _ _ (by rfl) ?_
  refine wpAny_ready (rs := [10]) (by kernel_rfl) (by simp) (AllReady.cons rfl (fun K hK => ?_) AllReady.nil)
  (try simp only [Act.put, List.setIfInBounds_toArray, List.set_cons_zero, List.set_cons_succ, List.getElem_toArray, List.getElem_cons_zero, List.getElem_cons_succ])
  have HK := hide hK
  clear hK
  refine step_store_arr rfl 23 _ _ rfl (w.heap.size + 1) p P rfl rfl HS.out.2.1 (by rw [hP, hp]) (by rw [hp]; exact size8') ?_
  have PU := put_arr (rs' := P) HS.out.2.1 (by rw [hP, hp])
  have HS := hide (show Mem2 w _ 22 23 A P from ⟨HS.out.1.keepBut PU.2 (by omega), PU.1, grown_own HS.out.2.2 PU.2 (by omega)⟩)
  have BL := hide (BL.out.keepBut PU.2 (by have := NB.out; omega))
  refine HK.out _ _ ?_
  clear HK PU
  (try simp only [Act.put, List.setIfInBounds_toArray, List.set_cons_zero, List.set_cons_succ, List.getElem_toArray, List.getElem_cons_zero, List.getElem_cons_succ])
  generalize putArr w4 (w.heap.size + 1) P = w5 at *
  refine wpAny_take (i := 11) (v := ?vrc11) rfl (by kernel_rfl) (by kernel_rfl) (by kernel_rfl) (fun _ _ _ h => h) (Or.inl ⟨by rfl, ?yrc11⟩) ?rrc11
  case yrc11 => (intro w'; go_simp; try with_reducible rfl)
  (try simp only [Act.put, List.setIfInBounds_toArray, List.set_cons_zero, List.set_cons_succ, List.getElem_toArray, List.getElem_cons_zero, List.getElem_cons_succ])
  refine wpAny_done (by kernel_rfl) ?_ _
  subst hLn
  have k1 : 0 ≤ spotN k ((L.length : Int) + 1) := Int.emod_nonneg _ (by omega)
  have k2 : spotN k ((L.length : Int) + 1) < (L.length : Int) + 1 := Int.emod_lt_of_pos _ (by omega)
  obtain ⟨kk, hkk⟩ : ∃ kk : Nat, spotN k ((L.length : Int) + 1) = (kk : Int) := ⟨(spotN k ((L.length : Int) + 1)).toNat, by omega⟩
  have hkn : kk ≤ L.length := by omega
  have SP := hide (spot_any k ((L.length : Int) + 1) (by omega) (by omega))
  rw [hkk] at SP k1 k2
  have okL := OK.out L LR.out
  have okT := OK.out _ (right_take L kk LR.out)
  have RY := mkN_right A P L kk
  have RR := newL_right P _ PR'.out RY
  have okD := OK2.out _ _ RR (right_drop L kk LR.out)
  have eC := mk_cut A P L kk (L.length - kk)
  rw [show kk + (L.length - kk) = L.length by omega] at eC
  have eQ := newL_cut P (mkN A P L kk) (mkN A (newL P (mkN A P L kk)) (L.drop kk) (L.length - kk))
  rw [← eC] at eQ
  have hR := newL_len P (mkN A P L kk)
  have HX := hide (fun wr vi (h : Ints wr vi L) (s : Shp vi L) => make_any A P hA hP vi L wr h s (by omega))
  rw [show mkL A P L = mkN A P L L.length from if_pos okL, show mkP A P L = newL P (mkN A P L L.length) from if_pos okL, show fiE A P L = 0 from if_pos okL, eQ, eC] at HX
  have eY : mkN A P (L.take kk) (L.take kk).length = mkN A P L kk := by
    rw [List.length_take, Nat.min_eq_left hkn]
    exact mkN_congr _ _ _ _ _ (fun i hi => nth_take _ _ _ hi)
  have HY := hide (fun wr vi (h : Ints wr vi (L.take kk)) (s : Shp vi (L.take kk)) => make_any A P hA hP vi (L.take kk) wr h s (by rw [List.length_take]; omega))
  rw [show mkL A P (L.take kk) = mkN A P L kk by unfold mkL; rw [if_pos okT, eY], show mkP A P (L.take kk) = newL P (mkN A P L kk) by unfold mkP; rw [if_pos okT, eY], show fiE A P (L.take kk) = 0 from if_pos okT] at HY
  have HZ' := hide (fun wr vi (h : Ints wr vi (L.drop kk)) (s : Shp vi (L.drop kk)) => make_any A (newL P (mkN A P L kk)) hA hR vi (L.drop kk) wr h s (by rw [List.length_drop]; omega))
  rw [show mkL A (newL P (mkN A P L kk)) (L.drop kk) = mkN A (newL P (mkN A P L kk)) (L.drop kk) (L.length - kk) by unfold mkL; rw [if_pos okD, List.length_drop], show mkP A (newL P (mkN A P L kk)) (L.drop kk) = newL (newL P (mkN A P L kk)) (mkN A (newL P (mkN A P L kk)) (L.drop kk) (L.length - kk)) by unfold mkP; rw [if_pos okD, List.length_drop], show fiE A (newL P (mkN A P L kk)) (L.drop kk) = 0 from if_pos okD] at HZ'
  have hY := mkN_len A P L kk
  have hZ := mkN_len A (newL P (mkN A P L kk)) (L.drop kk) (L.length - kk)
  have hQ := newL_len (newL P (mkN A P L kk)) (mkN A (newL P (mkN A P L kk)) (L.drop kk) (L.length - kk))
  clear eC eQ eY okL okT okD RY RR OK OK2 LR NB PR PA LI PR' hkk
  generalize newL (newL P (mkN A P L kk)) (mkN A (newL P (mkN A P L kk)) (L.drop kk) (L.length - kk)) = Q at *
  generalize mkN A (newL P (mkN A P L kk)) (L.drop kk) (L.length - kk) = Z at *
  generalize newL P (mkN A P L kk) = R at *
  generalize mkN A P L kk = Y at *
  have heq := eq_arr Q Try.underlying23 hQ 9998
  have iL := Ints_of_blk BL.out
  have SL := hide (show Shp (.slice (some ⟨bl, 0, none⟩) L.length L.length) L from .inr ⟨_, _, rfl⟩)
  have IL := hide iL
  obtain ⟨vA, hsA, iA, sA⟩ := slice_h iL SL.out kk hkn
  obtain ⟨vB, hsB, iB, sB⟩ := slice_l iL SL.out kk hkn
  have IA := hide iA
  have SA := hide sA
  have IB := hide iB
  have SB := hide sB
  clear iL iA sA iB sB BL
  go_wp2_with fail
  refine (SP.out _).mono ?_
  rintro e wx ⟨rfl, rfl⟩
  clear SP
  go_upto_region 3 with fail
  have BA := hide HS.out.1
  have BP := hide HS.out.2.1
  have GA := hide HS.out.2.2
  clear HS
  go_cut [9, 10, 11] from 32 (fun s9 s10 s11 wx' => FiK wx (Y ++ Z) Q 0 s9 s10 s11 wx')
  case first =>
    refine wp_region_held_drew (S := GrownW wx) (by kernel_rfl) (gw_start _) (fun hHeld => ?_)
    refine wpAnyH_take (i := 0) (v := .agg (arrI A)) rfl (by kernel_rfl) (by kernel_rfl) (by kernel_rfl) (fun _ _ _ h => h) (Or.inl ⟨by rfl, ?yca1⟩) hHeld ?rca1
    case yca1 => (intro w' hSw; exact yields_load_arr rfl rfl (BA.out.keep hSw) _ Try.underlying22 rfl (by rw [hA]; exact size9'))
    (try simp only [Act.put, List.setIfInBounds_toArray, List.set_cons_zero, List.set_cons_succ, List.getElem_toArray, List.getElem_cons_zero, List.getElem_cons_succ])
    refine wpAnyH_take (i := 1) (v := .agg (arrI P)) rfl (by kernel_rfl) (by kernel_rfl) (by kernel_rfl) (fun _ _ _ h => h) (Or.inl ⟨by rfl, ?yca2⟩) hHeld ?rca2
    case yca2 => (intro w' hSw; exact yields_load_arr rfl rfl (BP.out.keep hSw) _ Try.underlying23 rfl (by rw [hP]; exact size8'))
    (try simp only [Act.put, List.setIfInBounds_toArray, List.set_cons_zero, List.set_cons_succ, List.getElem_toArray, List.getElem_cons_zero, List.getElem_cons_succ])
    refine wpAnyH_take (i := 2) (v := ?vca3) rfl (by kernel_rfl) (by kernel_rfl) (by kernel_rfl) (fun _ _ _ h => h) (Or.inl ⟨by rfl, ?yca3⟩) hHeld ?rca3
    case yca3 => (intro w' hSw; go_simp; (try with_reducible rfl))
    (try simp only [Act.put, List.setIfInBounds_toArray, List.set_cons_zero, List.set_cons_succ, List.getElem_toArray, List.getElem_cons_zero, List.getElem_cons_succ])
    refine wpAnyH_ready (rs := [3, 9]) (by kernel_rfl) (by simp) (AllReadyH.cons rfl (fun K hK => ?gca4) (AllReadyH.cons rfl (fun K hK => ?gca5) AllReadyH.nil))
    case gca4 =>
      (try simp only [Act.put, List.setIfInBounds_toArray, List.set_cons_zero, List.set_cons_succ, List.getElem_toArray, List.getElem_cons_zero, List.getElem_cons_succ])
      refine step_ints rfl _ _ rfl rfl (.slice (some ⟨bl, 0, none⟩) L.length L.length) L rfl (Ints_keep IL.out hHeld) SL.out (by omega) ?_
      intro vi wca6 oi gca6
      have Gca6 := hide gca6
      have OI := hide (oi)
      clear gca6 oi
      refine hK.out _ _ (gw_trans hHeld Gca6.out) (fun hHeld => ?_)
      clear hK
      (try simp only [Act.put, List.setIfInBounds_toArray, List.set_cons_zero, List.set_cons_succ, List.getElem_toArray, List.getElem_cons_zero, List.getElem_cons_succ])
      refine wpAnyH_ready (rs := [4, 9]) (by kernel_rfl) (by simp) (AllReadyH.cons rfl (fun K hK => ?gca7) (AllReadyH.cons rfl (fun K hK => ?gca8) AllReadyH.nil))
      case gca7 =>
        (try simp only [Act.put, List.setIfInBounds_toArray, List.set_cons_zero, List.set_cons_succ, List.getElem_toArray, List.getElem_cons_zero, List.getElem_cons_succ])
        go_simp
        refine (HX.out _ vi OI.out.ints OI.out.shp).mono ?_
        rintro e wca9 ⟨vx, rfl, ox, gca9⟩
        have Gca9 := hide gca9
        have OX := hide (ox.base (b' := wx.heap.size) (World.grownBy.size hHeld))
        clear gca9 ox
        go_wp2_with fail
        refine hK.out _ _ (gw_trans hHeld Gca9.out) (fun hHeld => ?_)
        clear hK
        have OI := hide (OI.out.keep Gca9.out)
        (try simp only [Act.put, List.setIfInBounds_toArray, List.set_cons_zero, List.set_cons_succ, List.getElem_toArray, List.getElem_cons_zero, List.getElem_cons_succ])
        refine wpAnyH_take (i := 5) (v := ?vca10) rfl (by kernel_rfl) (by kernel_rfl) (by kernel_rfl) (fun _ _ _ h => h) (Or.inl ⟨by rfl, ?yca10⟩) hHeld ?rca10
        case yca10 => (intro w' hSw; go_simp; (try with_reducible rfl))
        (try simp only [Act.put, List.setIfInBounds_toArray, List.set_cons_zero, List.set_cons_succ, List.getElem_toArray, List.getElem_cons_zero, List.getElem_cons_succ])
        refine wpAnyH_take (i := 6) (v := ?vca11) rfl (by kernel_rfl) (by kernel_rfl) (by kernel_rfl) (fun _ _ _ h => h) (Or.inl ⟨by rfl, ?yca11⟩) hHeld ?rca11
        case yca11 => (intro w' hSw; go_simp; (try with_reducible rfl))
        (try simp only [Act.put, List.setIfInBounds_toArray, List.set_cons_zero, List.set_cons_succ, List.getElem_toArray, List.getElem_cons_zero, List.getElem_cons_succ])
        refine wpAnyH_take (i := 7) (v := ?vca12) rfl (by kernel_rfl) (by kernel_rfl) (by kernel_rfl) (fun _ _ _ h => h) (Or.inl ⟨by rfl, ?yca12⟩) hHeld ?rca12
        case yca12 => (intro w' hSw; go_simp; (try with_reducible rfl))
        (try simp only [Act.put, List.setIfInBounds_toArray, List.set_cons_zero, List.set_cons_succ, List.getElem_toArray, List.getElem_cons_zero, List.getElem_cons_succ])
        refine wpAnyH_take (i := 8) (v := ?vca13) rfl (by kernel_rfl) (by kernel_rfl) (by kernel_rfl) (fun _ _ _ h => h) (Or.inl ⟨by rfl, ?yca13⟩) hHeld ?rca13
        case yca13 => (intro w' hSw; go_simp; (try with_reducible rfl))
        (try simp only [Act.put, List.setIfInBounds_toArray, List.set_cons_zero, List.set_cons_succ, List.getElem_toArray, List.getElem_cons_zero, List.getElem_cons_succ])
        refine wpAnyH_ready (rs := [9]) (by kernel_rfl) (by simp) (AllReadyH.cons rfl (fun K hK => ?_) AllReadyH.nil)
        (try simp only [Act.put, List.setIfInBounds_toArray, List.set_cons_zero, List.set_cons_succ, List.getElem_toArray, List.getElem_cons_zero, List.getElem_cons_succ])
        go_simp
        go_wp2_with fail
        have HB := hide (show wx.heap.size ≤ wca9.heap.size from by first | exact Nat.le_refl _ | exact World.grownBy.size hHeld)
        refine hK.out _ _ (gw_alloc hHeld (.cells #[.int .i64 0, .int .i64 0, .int .i64 0, .int .i64 0, .int .i64 0, .int .i64 0, .int .i64 0, .int .i64 0] 23)) (fun hHeld => ?_)
        clear hK
        have HZ := hide (show Blk (wca9.alloc (.cells #[.int .i64 0, .int .i64 0, .int .i64 0, .int .i64 0, .int .i64 0, .int .i64 0, .int .i64 0, .int .i64 0] 23)) wca9.heap.size 23 (zeros 8) from Blk.new wca9 23 (zeros 8))
        have OI := hide (OI.out.keep (grown_alloc wca9 (.cells #[.int .i64 0, .int .i64 0, .int .i64 0, .int .i64 0, .int .i64 0, .int .i64 0, .int .i64 0, .int .i64 0] 23) none))
        have OX := hide (OX.out.keep (grown_alloc wca9 (.cells #[.int .i64 0, .int .i64 0, .int .i64 0, .int .i64 0, .int .i64 0, .int .i64 0, .int .i64 0, .int .i64 0] 23) none))
        (try simp only [Act.put, List.setIfInBounds_toArray, List.set_cons_zero, List.set_cons_succ, List.getElem_toArray, List.getElem_cons_zero, List.getElem_cons_succ])
        refine wpAnyH_take (i := 10) (v := ?vca15) rfl (by kernel_rfl) (by kernel_rfl) (by kernel_rfl) (fun _ _ _ h => h) (Or.inl ⟨by rfl, ?yca15⟩) hHeld ?rca15
        case yca15 => (intro w' hSw; go_simp; (try with_reducible rfl))
        (try simp only [Act.put, List.setIfInBounds_toArray, List.set_cons_zero, List.set_cons_succ, List.getElem_toArray, List.getElem_cons_zero, List.getElem_cons_succ])
        refine wpAnyH_ready (rs := [11]) (by kernel_rfl) (by simp) (AllReadyH.cons rfl (fun K hK => ?_) AllReadyH.nil)
        (try simp only [Act.put, List.setIfInBounds_toArray, List.set_cons_zero, List.set_cons_succ, List.getElem_toArray, List.getElem_cons_zero, List.getElem_cons_succ])
        refine step_store_arr rfl 23 _ _ rfl (wca9.heap.size) (zeros 8) Q rfl rfl HZ.out (by rw [hQ, zeros_len]) (by rw [zeros_len]; exact size8') ?_
        have PU := put_arr (rs' := Q) HZ.out (by rw [hQ, zeros_len])
        refine hK.out _ _ (gw_own hHeld PU.2 HB.out) (fun hHeld => ?_)
        clear hK
        have OI := hide (OI.out.keepBut PU.2 HZ.out (by decide))
        have OX := hide (OX.out.keepBut PU.2 HZ.out (by decide))
        (try simp only [Act.put, List.setIfInBounds_toArray, List.set_cons_zero, List.set_cons_succ, List.getElem_toArray, List.getElem_cons_zero, List.getElem_cons_succ])
        refine wpAnyH_take (i := 12) (v := ?vca17) rfl (by kernel_rfl) (by kernel_rfl) (by kernel_rfl) (fun _ _ _ h => h) (Or.inl ⟨by rfl, ?yca17⟩) hHeld ?rca17
        case yca17 => (intro w' hSw; go_simp; (try with_reducible rfl))
        (try simp only [Act.put, List.setIfInBounds_toArray, List.set_cons_zero, List.set_cons_succ, List.getElem_toArray, List.getElem_cons_zero, List.getElem_cons_succ])
        refine wpAnyH_done (by kernel_rfl) ?_ _
        go_wp2_with fail
        go_meet
        exact ⟨wca9.heap.size, rfl, rfl, OX.out, PU.1, HB.out, hHeld⟩
      case gca8 =>
        (try simp only [Act.put, List.setIfInBounds_toArray, List.set_cons_zero, List.set_cons_succ, List.getElem_toArray, List.getElem_cons_zero, List.getElem_cons_succ])
        go_simp
        go_wp2_with fail
        have HB := hide (show wx.heap.size ≤ wca6.heap.size from by first | exact Nat.le_refl _ | exact World.grownBy.size hHeld)
        refine hK.out _ _ (gw_alloc hHeld (.cells #[.int .i64 0, .int .i64 0, .int .i64 0, .int .i64 0, .int .i64 0, .int .i64 0, .int .i64 0, .int .i64 0] 23)) (fun hHeld => ?_)
        clear hK
        have HZ := hide (show Blk (wca6.alloc (.cells #[.int .i64 0, .int .i64 0, .int .i64 0, .int .i64 0, .int .i64 0, .int .i64 0, .int .i64 0, .int .i64 0] 23)) wca6.heap.size 23 (zeros 8) from Blk.new wca6 23 (zeros 8))
        have OI := hide (OI.out.keep (grown_alloc wca6 (.cells #[.int .i64 0, .int .i64 0, .int .i64 0, .int .i64 0, .int .i64 0, .int .i64 0, .int .i64 0, .int .i64 0] 23) none))
        (try simp only [Act.put, List.setIfInBounds_toArray, List.set_cons_zero, List.set_cons_succ, List.getElem_toArray, List.getElem_cons_zero, List.getElem_cons_succ])
        refine wpAnyH_ready (rs := [4]) (by kernel_rfl) (by simp) (AllReadyH.cons rfl (fun K hK => ?_) AllReadyH.nil)
        (try simp only [Act.put, List.setIfInBounds_toArray, List.set_cons_zero, List.set_cons_succ, List.getElem_toArray, List.getElem_cons_zero, List.getElem_cons_succ])
        go_simp
        refine (HX.out _ vi OI.out.ints OI.out.shp).mono ?_
        rintro e wca19 ⟨vx, rfl, ox, gca19⟩
        have Gca19 := hide gca19
        have OX := hide (ox.base (b' := wx.heap.size) (World.grownBy.size hHeld))
        clear gca19 ox
        go_wp2_with fail
        refine hK.out _ _ (gw_trans hHeld Gca19.out) (fun hHeld => ?_)
        clear hK
        have HZ := hide (HZ.out.keep Gca19.out)
        have OI := hide (OI.out.keep Gca19.out)
        (try simp only [Act.put, List.setIfInBounds_toArray, List.set_cons_zero, List.set_cons_succ, List.getElem_toArray, List.getElem_cons_zero, List.getElem_cons_succ])
        refine wpAnyH_take (i := 5) (v := ?vca20) rfl (by kernel_rfl) (by kernel_rfl) (by kernel_rfl) (fun _ _ _ h => h) (Or.inl ⟨by rfl, ?yca20⟩) hHeld ?rca20
        case yca20 => (intro w' hSw; go_simp; (try with_reducible rfl))
        (try simp only [Act.put, List.setIfInBounds_toArray, List.set_cons_zero, List.set_cons_succ, List.getElem_toArray, List.getElem_cons_zero, List.getElem_cons_succ])
        refine wpAnyH_take (i := 6) (v := ?vca21) rfl (by kernel_rfl) (by kernel_rfl) (by kernel_rfl) (fun _ _ _ h => h) (Or.inl ⟨by rfl, ?yca21⟩) hHeld ?rca21
        case yca21 => (intro w' hSw; go_simp; (try with_reducible rfl))
        (try simp only [Act.put, List.setIfInBounds_toArray, List.set_cons_zero, List.set_cons_succ, List.getElem_toArray, List.getElem_cons_zero, List.getElem_cons_succ])
        refine wpAnyH_take (i := 7) (v := ?vca22) rfl (by kernel_rfl) (by kernel_rfl) (by kernel_rfl) (fun _ _ _ h => h) (Or.inl ⟨by rfl, ?yca22⟩) hHeld ?rca22
        case yca22 => (intro w' hSw; go_simp; (try with_reducible rfl))
        (try simp only [Act.put, List.setIfInBounds_toArray, List.set_cons_zero, List.set_cons_succ, List.getElem_toArray, List.getElem_cons_zero, List.getElem_cons_succ])
        refine wpAnyH_take (i := 8) (v := ?vca23) rfl (by kernel_rfl) (by kernel_rfl) (by kernel_rfl) (fun _ _ _ h => h) (Or.inl ⟨by rfl, ?yca23⟩) hHeld ?rca23
        case yca23 => (intro w' hSw; go_simp; (try with_reducible rfl))
        (try simp only [Act.put, List.setIfInBounds_toArray, List.set_cons_zero, List.set_cons_succ, List.getElem_toArray, List.getElem_cons_zero, List.getElem_cons_succ])
        refine wpAnyH_take (i := 10) (v := ?vca24) rfl (by kernel_rfl) (by kernel_rfl) (by kernel_rfl) (fun _ _ _ h => h) (Or.inl ⟨by rfl, ?yca24⟩) hHeld ?rca24
        case yca24 => (intro w' hSw; go_simp; (try with_reducible rfl))
        (try simp only [Act.put, List.setIfInBounds_toArray, List.set_cons_zero, List.set_cons_succ, List.getElem_toArray, List.getElem_cons_zero, List.getElem_cons_succ])
        refine wpAnyH_ready (rs := [11]) (by kernel_rfl) (by simp) (AllReadyH.cons rfl (fun K hK => ?_) AllReadyH.nil)
        (try simp only [Act.put, List.setIfInBounds_toArray, List.set_cons_zero, List.set_cons_succ, List.getElem_toArray, List.getElem_cons_zero, List.getElem_cons_succ])
        refine step_store_arr rfl 23 _ _ rfl (wca6.heap.size) (zeros 8) Q rfl rfl HZ.out (by rw [hQ, zeros_len]) (by rw [zeros_len]; exact size8') ?_
        have PU := put_arr (rs' := Q) HZ.out (by rw [hQ, zeros_len])
        refine hK.out _ _ (gw_own hHeld PU.2 HB.out) (fun hHeld => ?_)
        clear hK
        have OI := hide (OI.out.keepBut PU.2 HZ.out (by decide))
        have OX := hide (OX.out.keepBut PU.2 HZ.out (by decide))
        (try simp only [Act.put, List.setIfInBounds_toArray, List.set_cons_zero, List.set_cons_succ, List.getElem_toArray, List.getElem_cons_zero, List.getElem_cons_succ])
        refine wpAnyH_take (i := 12) (v := ?vca26) rfl (by kernel_rfl) (by kernel_rfl) (by kernel_rfl) (fun _ _ _ h => h) (Or.inl ⟨by rfl, ?yca26⟩) hHeld ?rca26
        case yca26 => (intro w' hSw; go_simp; (try with_reducible rfl))
        (try simp only [Act.put, List.setIfInBounds_toArray, List.set_cons_zero, List.set_cons_succ, List.getElem_toArray, List.getElem_cons_zero, List.getElem_cons_succ])
        refine wpAnyH_done (by kernel_rfl) ?_ _
        go_wp2_with fail
        go_meet
        exact ⟨wca6.heap.size, rfl, rfl, OX.out, PU.1, HB.out, hHeld⟩
    case gca5 =>
      (try simp only [Act.put, List.setIfInBounds_toArray, List.set_cons_zero, List.set_cons_succ, List.getElem_toArray, List.getElem_cons_zero, List.getElem_cons_succ])
      go_simp
      go_wp2_with fail
      have HB := hide (show wx.heap.size ≤ wx.heap.size from by first | exact Nat.le_refl _ | exact World.grownBy.size hHeld)
      refine hK.out _ _ (gw_alloc hHeld (.cells #[.int .i64 0, .int .i64 0, .int .i64 0, .int .i64 0, .int .i64 0, .int .i64 0, .int .i64 0, .int .i64 0] 23)) (fun hHeld => ?_)
      clear hK
      have HZ := hide (show Blk (wx.drew.alloc (.cells #[.int .i64 0, .int .i64 0, .int .i64 0, .int .i64 0, .int .i64 0, .int .i64 0, .int .i64 0, .int .i64 0] 23)) wx.heap.size 23 (zeros 8) from Blk.new wx.drew 23 (zeros 8))
      (try simp only [Act.put, List.setIfInBounds_toArray, List.set_cons_zero, List.set_cons_succ, List.getElem_toArray, List.getElem_cons_zero, List.getElem_cons_succ])
      refine wpAnyH_ready (rs := [3]) (by kernel_rfl) (by simp) (AllReadyH.cons rfl (fun K hK => ?_) AllReadyH.nil)
      (try simp only [Act.put, List.setIfInBounds_toArray, List.set_cons_zero, List.set_cons_succ, List.getElem_toArray, List.getElem_cons_zero, List.getElem_cons_succ])
      refine step_ints rfl _ _ rfl rfl (.slice (some ⟨bl, 0, none⟩) L.length L.length) L rfl (Ints_keep IL.out hHeld) SL.out (by omega) ?_
      intro vi wca28 oi gca28
      have Gca28 := hide gca28
      have OI := hide (oi)
      clear gca28 oi
      refine hK.out _ _ (gw_trans hHeld Gca28.out) (fun hHeld => ?_)
      clear hK
      have HZ := hide (HZ.out.keep Gca28.out)
      (try simp only [Act.put, List.setIfInBounds_toArray, List.set_cons_zero, List.set_cons_succ, List.getElem_toArray, List.getElem_cons_zero, List.getElem_cons_succ])
      refine wpAnyH_ready (rs := [4]) (by kernel_rfl) (by simp) (AllReadyH.cons rfl (fun K hK => ?_) AllReadyH.nil)
      (try simp only [Act.put, List.setIfInBounds_toArray, List.set_cons_zero, List.set_cons_succ, List.getElem_toArray, List.getElem_cons_zero, List.getElem_cons_succ])
      go_simp
      refine (HX.out _ vi OI.out.ints OI.out.shp).mono ?_
      rintro e wca29 ⟨vx, rfl, ox, gca29⟩
      have Gca29 := hide gca29
      have OX := hide (ox.base (b' := wx.heap.size) (World.grownBy.size hHeld))
      clear gca29 ox
      go_wp2_with fail
      refine hK.out _ _ (gw_trans hHeld Gca29.out) (fun hHeld => ?_)
      clear hK
      have HZ := hide (HZ.out.keep Gca29.out)
      have OI := hide (OI.out.keep Gca29.out)
      (try simp only [Act.put, List.setIfInBounds_toArray, List.set_cons_zero, List.set_cons_succ, List.getElem_toArray, List.getElem_cons_zero, List.getElem_cons_succ])
      refine wpAnyH_take (i := 5) (v := ?vca30) rfl (by kernel_rfl) (by kernel_rfl) (by kernel_rfl) (fun _ _ _ h => h) (Or.inl ⟨by rfl, ?yca30⟩) hHeld ?rca30
      case yca30 => (intro w' hSw; go_simp; (try with_reducible rfl))
      (try simp only [Act.put, List.setIfInBounds_toArray, List.set_cons_zero, List.set_cons_succ, List.getElem_toArray, List.getElem_cons_zero, List.getElem_cons_succ])
      refine wpAnyH_take (i := 6) (v := ?vca31) rfl (by kernel_rfl) (by kernel_rfl) (by kernel_rfl) (fun _ _ _ h => h) (Or.inl ⟨by rfl, ?yca31⟩) hHeld ?rca31
      case yca31 => (intro w' hSw; go_simp; (try with_reducible rfl))
      (try simp only [Act.put, List.setIfInBounds_toArray, List.set_cons_zero, List.set_cons_succ, List.getElem_toArray, List.getElem_cons_zero, List.getElem_cons_succ])
      refine wpAnyH_take (i := 7) (v := ?vca32) rfl (by kernel_rfl) (by kernel_rfl) (by kernel_rfl) (fun _ _ _ h => h) (Or.inl ⟨by rfl, ?yca32⟩) hHeld ?rca32
      case yca32 => (intro w' hSw; go_simp; (try with_reducible rfl))
      (try simp only [Act.put, List.setIfInBounds_toArray, List.set_cons_zero, List.set_cons_succ, List.getElem_toArray, List.getElem_cons_zero, List.getElem_cons_succ])
      refine wpAnyH_take (i := 8) (v := ?vca33) rfl (by kernel_rfl) (by kernel_rfl) (by kernel_rfl) (fun _ _ _ h => h) (Or.inl ⟨by rfl, ?yca33⟩) hHeld ?rca33
      case yca33 => (intro w' hSw; go_simp; (try with_reducible rfl))
      (try simp only [Act.put, List.setIfInBounds_toArray, List.set_cons_zero, List.set_cons_succ, List.getElem_toArray, List.getElem_cons_zero, List.getElem_cons_succ])
      refine wpAnyH_take (i := 10) (v := ?vca34) rfl (by kernel_rfl) (by kernel_rfl) (by kernel_rfl) (fun _ _ _ h => h) (Or.inl ⟨by rfl, ?yca34⟩) hHeld ?rca34
      case yca34 => (intro w' hSw; go_simp; (try with_reducible rfl))
      (try simp only [Act.put, List.setIfInBounds_toArray, List.set_cons_zero, List.set_cons_succ, List.getElem_toArray, List.getElem_cons_zero, List.getElem_cons_succ])
      refine wpAnyH_ready (rs := [11]) (by kernel_rfl) (by simp) (AllReadyH.cons rfl (fun K hK => ?_) AllReadyH.nil)
      (try simp only [Act.put, List.setIfInBounds_toArray, List.set_cons_zero, List.set_cons_succ, List.getElem_toArray, List.getElem_cons_zero, List.getElem_cons_succ])
      refine step_store_arr rfl 23 _ _ rfl (wx.heap.size) (zeros 8) Q rfl rfl HZ.out (by rw [hQ, zeros_len]) (by rw [zeros_len]; exact size8') ?_
      have PU := put_arr (rs' := Q) HZ.out (by rw [hQ, zeros_len])
      refine hK.out _ _ (gw_own hHeld PU.2 HB.out) (fun hHeld => ?_)
      clear hK
      have OI := hide (OI.out.keepBut PU.2 HZ.out (by decide))
      have OX := hide (OX.out.keepBut PU.2 HZ.out (by decide))
      (try simp only [Act.put, List.setIfInBounds_toArray, List.set_cons_zero, List.set_cons_succ, List.getElem_toArray, List.getElem_cons_zero, List.getElem_cons_succ])
      refine wpAnyH_take (i := 12) (v := ?vca36) rfl (by kernel_rfl) (by kernel_rfl) (by kernel_rfl) (fun _ _ _ h => h) (Or.inl ⟨by rfl, ?yca36⟩) hHeld ?rca36
      case yca36 => (intro w' hSw; go_simp; (try with_reducible rfl))
      (try simp only [Act.put, List.setIfInBounds_toArray, List.set_cons_zero, List.set_cons_succ, List.getElem_toArray, List.getElem_cons_zero, List.getElem_cons_succ])
      refine wpAnyH_done (by kernel_rfl) ?_ _
      go_wp2_with fail
      go_meet
      exact ⟨wx.heap.size, rfl, rfl, OX.out, PU.1, HB.out, hHeld⟩
  case rest =>
  obtain ⟨b10, rfl, rfl, o9, z10, hb10, g10⟩ := hcut
  have O9 := hide o9
  have Z10 := hide z10
  have LT := hide (fun g (hg : u9.ownBlock = some g) => (o9.lt g hg).2)
  have BA := hide (BA.out.keep g10)
  have BP := hide (BP.out.keep g10)
  have IA := hide (Ints_keep IA.out g10)
  have IB := hide (Ints_keep IB.out g10)
  have GA := hide (grown_none GA.out g10)
  clear o9 z10 hb10 g10 HX IL SL
  generalize wc = W1 at *
  go_upto_region 4 with fail
  go_cut [12, 13, 14] from 41 (fun s12 s13 s14 wx' => FiK W1 Y R 0 s12 s13 s14 wx')
  case first =>
    refine wp_region_held_drew (S := GrownW W1) (by kernel_rfl) (gw_start _) (fun hHeld => ?_)
    refine wpAnyH_take (i := 0) (v := .agg (arrI A)) rfl (by kernel_rfl) (by kernel_rfl) (by kernel_rfl) (fun _ _ _ h => h) (Or.inl ⟨by rfl, ?ycb1⟩) hHeld ?rcb1
    case ycb1 => (intro w' hSw; exact yields_load_arr rfl rfl (BA.out.keep hSw) _ Try.underlying22 rfl (by rw [hA]; exact size9'))
    (try simp only [Act.put, List.setIfInBounds_toArray, List.set_cons_zero, List.set_cons_succ, List.getElem_toArray, List.getElem_cons_zero, List.getElem_cons_succ])
    refine wpAnyH_take (i := 1) (v := .agg (arrI P)) rfl (by kernel_rfl) (by kernel_rfl) (by kernel_rfl) (fun _ _ _ h => h) (Or.inl ⟨by rfl, ?ycb2⟩) hHeld ?rcb2
    case ycb2 => (intro w' hSw; exact yields_load_arr rfl rfl (BP.out.keep hSw) _ Try.underlying23 rfl (by rw [hP]; exact size8'))
    (try simp only [Act.put, List.setIfInBounds_toArray, List.set_cons_zero, List.set_cons_succ, List.getElem_toArray, List.getElem_cons_zero, List.getElem_cons_succ])
    refine wpAnyH_take (i := 2) (v := ?vcb3) rfl (by kernel_rfl) (by kernel_rfl) (by kernel_rfl) (fun _ _ _ h => h) (Or.inl ⟨by rfl, ?ycb3⟩) hHeld ?rcb3
    case ycb3 => (intro w' hSw; go_simp; (try with_reducible rfl))
    (try simp only [Act.put, List.setIfInBounds_toArray, List.set_cons_zero, List.set_cons_succ, List.getElem_toArray, List.getElem_cons_zero, List.getElem_cons_succ])
    refine wpAnyH_take (i := 3) (v := ?vcb4) rfl (by kernel_rfl) (by kernel_rfl) (by kernel_rfl) (fun _ _ _ h => h) (Or.inl ⟨by rfl, ?ycb4⟩) hHeld ?rcb4
    case ycb4 => (intro w' hSw; go_simp; (try with_reducible rfl))
    (try simp only [Act.put, List.setIfInBounds_toArray, List.set_cons_zero, List.set_cons_succ, List.getElem_toArray, List.getElem_cons_zero, List.getElem_cons_succ])
    refine wpAnyH_take (i := 4) (v := vA) rfl (by kernel_rfl) (by kernel_rfl) (by kernel_rfl) (fun _ _ _ h => h) (Or.inl ⟨by rfl, ?ycb5⟩) hHeld ?rcb5
    case ycb5 => (intro w' hSw; go_simp; (try with_reducible rfl))
    (try simp only [Act.put, List.setIfInBounds_toArray, List.set_cons_zero, List.set_cons_succ, List.getElem_toArray, List.getElem_cons_zero, List.getElem_cons_succ])
    refine wpAnyH_ready (rs := [5, 11]) (by kernel_rfl) (by simp) (AllReadyH.cons rfl (fun K hK => ?gcb6) (AllReadyH.cons rfl (fun K hK => ?gcb7) AllReadyH.nil))
    case gcb6 =>
      (try simp only [Act.put, List.setIfInBounds_toArray, List.set_cons_zero, List.set_cons_succ, List.getElem_toArray, List.getElem_cons_zero, List.getElem_cons_succ])
      refine step_ints rfl _ _ rfl rfl vA (L.take kk) rfl (Ints_keep IA.out hHeld) SA.out (by rw [List.length_take]; omega) ?_
      intro vi wcb8 oi gcb8
      have Gcb8 := hide gcb8
      have OI := hide (oi)
      clear gcb8 oi
      refine hK.out _ _ (gw_trans hHeld Gcb8.out) (fun hHeld => ?_)
      clear hK
      (try simp only [Act.put, List.setIfInBounds_toArray, List.set_cons_zero, List.set_cons_succ, List.getElem_toArray, List.getElem_cons_zero, List.getElem_cons_succ])
      refine wpAnyH_ready (rs := [6, 11]) (by kernel_rfl) (by simp) (AllReadyH.cons rfl (fun K hK => ?gcb9) (AllReadyH.cons rfl (fun K hK => ?gcb10) AllReadyH.nil))
      case gcb9 =>
        (try simp only [Act.put, List.setIfInBounds_toArray, List.set_cons_zero, List.set_cons_succ, List.getElem_toArray, List.getElem_cons_zero, List.getElem_cons_succ])
        go_simp
        refine (HY.out _ vi OI.out.ints OI.out.shp).mono ?_
        rintro e wcb11 ⟨vx, rfl, ox, gcb11⟩
        have Gcb11 := hide gcb11
        have OX := hide (ox.base (b' := W1.heap.size) (World.grownBy.size hHeld))
        clear gcb11 ox
        go_wp2_with fail
        refine hK.out _ _ (gw_trans hHeld Gcb11.out) (fun hHeld => ?_)
        clear hK
        have OI := hide (OI.out.keep Gcb11.out)
        (try simp only [Act.put, List.setIfInBounds_toArray, List.set_cons_zero, List.set_cons_succ, List.getElem_toArray, List.getElem_cons_zero, List.getElem_cons_succ])
        refine wpAnyH_take (i := 7) (v := ?vcb12) rfl (by kernel_rfl) (by kernel_rfl) (by kernel_rfl) (fun _ _ _ h => h) (Or.inl ⟨by rfl, ?ycb12⟩) hHeld ?rcb12
        case ycb12 => (intro w' hSw; go_simp; (try with_reducible rfl))
        (try simp only [Act.put, List.setIfInBounds_toArray, List.set_cons_zero, List.set_cons_succ, List.getElem_toArray, List.getElem_cons_zero, List.getElem_cons_succ])
        refine wpAnyH_take (i := 8) (v := ?vcb13) rfl (by kernel_rfl) (by kernel_rfl) (by kernel_rfl) (fun _ _ _ h => h) (Or.inl ⟨by rfl, ?ycb13⟩) hHeld ?rcb13
        case ycb13 => (intro w' hSw; go_simp; (try with_reducible rfl))
        (try simp only [Act.put, List.setIfInBounds_toArray, List.set_cons_zero, List.set_cons_succ, List.getElem_toArray, List.getElem_cons_zero, List.getElem_cons_succ])
        refine wpAnyH_take (i := 9) (v := ?vcb14) rfl (by kernel_rfl) (by kernel_rfl) (by kernel_rfl) (fun _ _ _ h => h) (Or.inl ⟨by rfl, ?ycb14⟩) hHeld ?rcb14
        case ycb14 => (intro w' hSw; go_simp; (try with_reducible rfl))
        (try simp only [Act.put, List.setIfInBounds_toArray, List.set_cons_zero, List.set_cons_succ, List.getElem_toArray, List.getElem_cons_zero, List.getElem_cons_succ])
        refine wpAnyH_take (i := 10) (v := ?vcb15) rfl (by kernel_rfl) (by kernel_rfl) (by kernel_rfl) (fun _ _ _ h => h) (Or.inl ⟨by rfl, ?ycb15⟩) hHeld ?rcb15
        case ycb15 => (intro w' hSw; go_simp; (try with_reducible rfl))
        (try simp only [Act.put, List.setIfInBounds_toArray, List.set_cons_zero, List.set_cons_succ, List.getElem_toArray, List.getElem_cons_zero, List.getElem_cons_succ])
        refine wpAnyH_ready (rs := [11]) (by kernel_rfl) (by simp) (AllReadyH.cons rfl (fun K hK => ?_) AllReadyH.nil)
        (try simp only [Act.put, List.setIfInBounds_toArray, List.set_cons_zero, List.set_cons_succ, List.getElem_toArray, List.getElem_cons_zero, List.getElem_cons_succ])
        go_simp
        go_wp2_with fail
        have HB := hide (show W1.heap.size ≤ wcb11.heap.size from by first | exact Nat.le_refl _ | exact World.grownBy.size hHeld)
        refine hK.out _ _ (gw_alloc hHeld (.cells #[.int .i64 0, .int .i64 0, .int .i64 0, .int .i64 0, .int .i64 0, .int .i64 0, .int .i64 0, .int .i64 0] 23)) (fun hHeld => ?_)
        clear hK
        have HZ := hide (show Blk (wcb11.alloc (.cells #[.int .i64 0, .int .i64 0, .int .i64 0, .int .i64 0, .int .i64 0, .int .i64 0, .int .i64 0, .int .i64 0] 23)) wcb11.heap.size 23 (zeros 8) from Blk.new wcb11 23 (zeros 8))
        have OI := hide (OI.out.keep (grown_alloc wcb11 (.cells #[.int .i64 0, .int .i64 0, .int .i64 0, .int .i64 0, .int .i64 0, .int .i64 0, .int .i64 0, .int .i64 0] 23) none))
        have OX := hide (OX.out.keep (grown_alloc wcb11 (.cells #[.int .i64 0, .int .i64 0, .int .i64 0, .int .i64 0, .int .i64 0, .int .i64 0, .int .i64 0, .int .i64 0] 23) none))
        (try simp only [Act.put, List.setIfInBounds_toArray, List.set_cons_zero, List.set_cons_succ, List.getElem_toArray, List.getElem_cons_zero, List.getElem_cons_succ])
        refine wpAnyH_take (i := 12) (v := ?vcb17) rfl (by kernel_rfl) (by kernel_rfl) (by kernel_rfl) (fun _ _ _ h => h) (Or.inl ⟨by rfl, ?ycb17⟩) hHeld ?rcb17
        case ycb17 => (intro w' hSw; go_simp; (try with_reducible rfl))
        (try simp only [Act.put, List.setIfInBounds_toArray, List.set_cons_zero, List.set_cons_succ, List.getElem_toArray, List.getElem_cons_zero, List.getElem_cons_succ])
        refine wpAnyH_ready (rs := [13]) (by kernel_rfl) (by simp) (AllReadyH.cons rfl (fun K hK => ?_) AllReadyH.nil)
        (try simp only [Act.put, List.setIfInBounds_toArray, List.set_cons_zero, List.set_cons_succ, List.getElem_toArray, List.getElem_cons_zero, List.getElem_cons_succ])
        refine step_store_arr rfl 23 _ _ rfl (wcb11.heap.size) (zeros 8) R rfl rfl HZ.out (by rw [hR, zeros_len]) (by rw [zeros_len]; exact size8') ?_
        have PU := put_arr (rs' := R) HZ.out (by rw [hR, zeros_len])
        refine hK.out _ _ (gw_own hHeld PU.2 HB.out) (fun hHeld => ?_)
        clear hK
        have OI := hide (OI.out.keepBut PU.2 HZ.out (by decide))
        have OX := hide (OX.out.keepBut PU.2 HZ.out (by decide))
        (try simp only [Act.put, List.setIfInBounds_toArray, List.set_cons_zero, List.set_cons_succ, List.getElem_toArray, List.getElem_cons_zero, List.getElem_cons_succ])
        refine wpAnyH_take (i := 14) (v := ?vcb19) rfl (by kernel_rfl) (by kernel_rfl) (by kernel_rfl) (fun _ _ _ h => h) (Or.inl ⟨by rfl, ?ycb19⟩) hHeld ?rcb19
        case ycb19 => (intro w' hSw; go_simp; (try with_reducible rfl))
        (try simp only [Act.put, List.setIfInBounds_toArray, List.set_cons_zero, List.set_cons_succ, List.getElem_toArray, List.getElem_cons_zero, List.getElem_cons_succ])
        refine wpAnyH_done (by kernel_rfl) ?_ _
        go_wp2_with fail
        go_meet
        exact ⟨wcb11.heap.size, rfl, rfl, OX.out, PU.1, HB.out, hHeld⟩
      case gcb10 =>
        (try simp only [Act.put, List.setIfInBounds_toArray, List.set_cons_zero, List.set_cons_succ, List.getElem_toArray, List.getElem_cons_zero, List.getElem_cons_succ])
        go_simp
        go_wp2_with fail
        have HB := hide (show W1.heap.size ≤ wcb8.heap.size from by first | exact Nat.le_refl _ | exact World.grownBy.size hHeld)
        refine hK.out _ _ (gw_alloc hHeld (.cells #[.int .i64 0, .int .i64 0, .int .i64 0, .int .i64 0, .int .i64 0, .int .i64 0, .int .i64 0, .int .i64 0] 23)) (fun hHeld => ?_)
        clear hK
        have HZ := hide (show Blk (wcb8.alloc (.cells #[.int .i64 0, .int .i64 0, .int .i64 0, .int .i64 0, .int .i64 0, .int .i64 0, .int .i64 0, .int .i64 0] 23)) wcb8.heap.size 23 (zeros 8) from Blk.new wcb8 23 (zeros 8))
        have OI := hide (OI.out.keep (grown_alloc wcb8 (.cells #[.int .i64 0, .int .i64 0, .int .i64 0, .int .i64 0, .int .i64 0, .int .i64 0, .int .i64 0, .int .i64 0] 23) none))
        (try simp only [Act.put, List.setIfInBounds_toArray, List.set_cons_zero, List.set_cons_succ, List.getElem_toArray, List.getElem_cons_zero, List.getElem_cons_succ])
        refine wpAnyH_ready (rs := [6]) (by kernel_rfl) (by simp) (AllReadyH.cons rfl (fun K hK => ?_) AllReadyH.nil)
        (try simp only [Act.put, List.setIfInBounds_toArray, List.set_cons_zero, List.set_cons_succ, List.getElem_toArray, List.getElem_cons_zero, List.getElem_cons_succ])
        go_simp
        refine (HY.out _ vi OI.out.ints OI.out.shp).mono ?_
        rintro e wcb21 ⟨vx, rfl, ox, gcb21⟩
        have Gcb21 := hide gcb21
        have OX := hide (ox.base (b' := W1.heap.size) (World.grownBy.size hHeld))
        clear gcb21 ox
        go_wp2_with fail
        refine hK.out _ _ (gw_trans hHeld Gcb21.out) (fun hHeld => ?_)
        clear hK
        have HZ := hide (HZ.out.keep Gcb21.out)
        have OI := hide (OI.out.keep Gcb21.out)
        (try simp only [Act.put, List.setIfInBounds_toArray, List.set_cons_zero, List.set_cons_succ, List.getElem_toArray, List.getElem_cons_zero, List.getElem_cons_succ])
        refine wpAnyH_take (i := 7) (v := ?vcb22) rfl (by kernel_rfl) (by kernel_rfl) (by kernel_rfl) (fun _ _ _ h => h) (Or.inl ⟨by rfl, ?ycb22⟩) hHeld ?rcb22
        case ycb22 => (intro w' hSw; go_simp; (try with_reducible rfl))
        (try simp only [Act.put, List.setIfInBounds_toArray, List.set_cons_zero, List.set_cons_succ, List.getElem_toArray, List.getElem_cons_zero, List.getElem_cons_succ])
        refine wpAnyH_take (i := 8) (v := ?vcb23) rfl (by kernel_rfl) (by kernel_rfl) (by kernel_rfl) (fun _ _ _ h => h) (Or.inl ⟨by rfl, ?ycb23⟩) hHeld ?rcb23
        case ycb23 => (intro w' hSw; go_simp; (try with_reducible rfl))
        (try simp only [Act.put, List.setIfInBounds_toArray, List.set_cons_zero, List.set_cons_succ, List.getElem_toArray, List.getElem_cons_zero, List.getElem_cons_succ])
        refine wpAnyH_take (i := 9) (v := ?vcb24) rfl (by kernel_rfl) (by kernel_rfl) (by kernel_rfl) (fun _ _ _ h => h) (Or.inl ⟨by rfl, ?ycb24⟩) hHeld ?rcb24
        case ycb24 => (intro w' hSw; go_simp; (try with_reducible rfl))
        (try simp only [Act.put, List.setIfInBounds_toArray, List.set_cons_zero, List.set_cons_succ, List.getElem_toArray, List.getElem_cons_zero, List.getElem_cons_succ])
        refine wpAnyH_take (i := 10) (v := ?vcb25) rfl (by kernel_rfl) (by kernel_rfl) (by kernel_rfl) (fun _ _ _ h => h) (Or.inl ⟨by rfl, ?ycb25⟩) hHeld ?rcb25
        case ycb25 => (intro w' hSw; go_simp; (try with_reducible rfl))
        (try simp only [Act.put, List.setIfInBounds_toArray, List.set_cons_zero, List.set_cons_succ, List.getElem_toArray, List.getElem_cons_zero, List.getElem_cons_succ])
        refine wpAnyH_take (i := 12) (v := ?vcb26) rfl (by kernel_rfl) (by kernel_rfl) (by kernel_rfl) (fun _ _ _ h => h) (Or.inl ⟨by rfl, ?ycb26⟩) hHeld ?rcb26
        case ycb26 => (intro w' hSw; go_simp; (try with_reducible rfl))
        (try simp only [Act.put, List.setIfInBounds_toArray, List.set_cons_zero, List.set_cons_succ, List.getElem_toArray, List.getElem_cons_zero, List.getElem_cons_succ])
        refine wpAnyH_ready (rs := [13]) (by kernel_rfl) (by simp) (AllReadyH.cons rfl (fun K hK => ?_) AllReadyH.nil)
        (try simp only [Act.put, List.setIfInBounds_toArray, List.set_cons_zero, List.set_cons_succ, List.getElem_toArray, List.getElem_cons_zero, List.getElem_cons_succ])
        refine step_store_arr rfl 23 _ _ rfl (wcb8.heap.size) (zeros 8) R rfl rfl HZ.out (by rw [hR, zeros_len]) (by rw [zeros_len]; exact size8') ?_
        have PU := put_arr (rs' := R) HZ.out (by rw [hR, zeros_len])
        refine hK.out _ _ (gw_own hHeld PU.2 HB.out) (fun hHeld => ?_)
        clear hK
        have OI := hide (OI.out.keepBut PU.2 HZ.out (by decide))
        have OX := hide (OX.out.keepBut PU.2 HZ.out (by decide))
        (try simp only [Act.put, List.setIfInBounds_toArray, List.set_cons_zero, List.set_cons_succ, List.getElem_toArray, List.getElem_cons_zero, List.getElem_cons_succ])
        refine wpAnyH_take (i := 14) (v := ?vcb28) rfl (by kernel_rfl) (by kernel_rfl) (by kernel_rfl) (fun _ _ _ h => h) (Or.inl ⟨by rfl, ?ycb28⟩) hHeld ?rcb28
        case ycb28 => (intro w' hSw; go_simp; (try with_reducible rfl))
        (try simp only [Act.put, List.setIfInBounds_toArray, List.set_cons_zero, List.set_cons_succ, List.getElem_toArray, List.getElem_cons_zero, List.getElem_cons_succ])
        refine wpAnyH_done (by kernel_rfl) ?_ _
        go_wp2_with fail
        go_meet
        exact ⟨wcb8.heap.size, rfl, rfl, OX.out, PU.1, HB.out, hHeld⟩
    case gcb7 =>
      (try simp only [Act.put, List.setIfInBounds_toArray, List.set_cons_zero, List.set_cons_succ, List.getElem_toArray, List.getElem_cons_zero, List.getElem_cons_succ])
      go_simp
      go_wp2_with fail
      have HB := hide (show W1.heap.size ≤ W1.heap.size from by first | exact Nat.le_refl _ | exact World.grownBy.size hHeld)
      refine hK.out _ _ (gw_alloc hHeld (.cells #[.int .i64 0, .int .i64 0, .int .i64 0, .int .i64 0, .int .i64 0, .int .i64 0, .int .i64 0, .int .i64 0] 23)) (fun hHeld => ?_)
      clear hK
      have HZ := hide (show Blk (W1.drew.alloc (.cells #[.int .i64 0, .int .i64 0, .int .i64 0, .int .i64 0, .int .i64 0, .int .i64 0, .int .i64 0, .int .i64 0] 23)) W1.heap.size 23 (zeros 8) from Blk.new W1.drew 23 (zeros 8))
      (try simp only [Act.put, List.setIfInBounds_toArray, List.set_cons_zero, List.set_cons_succ, List.getElem_toArray, List.getElem_cons_zero, List.getElem_cons_succ])
      refine wpAnyH_ready (rs := [5]) (by kernel_rfl) (by simp) (AllReadyH.cons rfl (fun K hK => ?_) AllReadyH.nil)
      (try simp only [Act.put, List.setIfInBounds_toArray, List.set_cons_zero, List.set_cons_succ, List.getElem_toArray, List.getElem_cons_zero, List.getElem_cons_succ])
      refine step_ints rfl _ _ rfl rfl vA (L.take kk) rfl (Ints_keep IA.out hHeld) SA.out (by rw [List.length_take]; omega) ?_
      intro vi wcb30 oi gcb30
      have Gcb30 := hide gcb30
      have OI := hide (oi)
      clear gcb30 oi
      refine hK.out _ _ (gw_trans hHeld Gcb30.out) (fun hHeld => ?_)
      clear hK
      have HZ := hide (HZ.out.keep Gcb30.out)
      (try simp only [Act.put, List.setIfInBounds_toArray, List.set_cons_zero, List.set_cons_succ, List.getElem_toArray, List.getElem_cons_zero, List.getElem_cons_succ])
      refine wpAnyH_ready (rs := [6]) (by kernel_rfl) (by simp) (AllReadyH.cons rfl (fun K hK => ?_) AllReadyH.nil)
      (try simp only [Act.put, List.setIfInBounds_toArray, List.set_cons_zero, List.set_cons_succ, List.getElem_toArray, List.getElem_cons_zero, List.getElem_cons_succ])
      go_simp
      refine (HY.out _ vi OI.out.ints OI.out.shp).mono ?_
      rintro e wcb31 ⟨vx, rfl, ox, gcb31⟩
      have Gcb31 := hide gcb31
      have OX := hide (ox.base (b' := W1.heap.size) (World.grownBy.size hHeld))
      clear gcb31 ox
      go_wp2_with fail
      refine hK.out _ _ (gw_trans hHeld Gcb31.out) (fun hHeld => ?_)
      clear hK
      have HZ := hide (HZ.out.keep Gcb31.out)
      have OI := hide (OI.out.keep Gcb31.out)
      (try simp only [Act.put, List.setIfInBounds_toArray, List.set_cons_zero, List.set_cons_succ, List.getElem_toArray, List.getElem_cons_zero, List.getElem_cons_succ])
      refine wpAnyH_take (i := 7) (v := ?vcb32) rfl (by kernel_rfl) (by kernel_rfl) (by kernel_rfl) (fun _ _ _ h => h) (Or.inl ⟨by rfl, ?ycb32⟩) hHeld ?rcb32
      case ycb32 => (intro w' hSw; go_simp; (try with_reducible rfl))
      (try simp only [Act.put, List.setIfInBounds_toArray, List.set_cons_zero, List.set_cons_succ, List.getElem_toArray, List.getElem_cons_zero, List.getElem_cons_succ])
      refine wpAnyH_take (i := 8) (v := ?vcb33) rfl (by kernel_rfl) (by kernel_rfl) (by kernel_rfl) (fun _ _ _ h => h) (Or.inl ⟨by rfl, ?ycb33⟩) hHeld ?rcb33
      case ycb33 => (intro w' hSw; go_simp; (try with_reducible rfl))
      (try simp only [Act.put, List.setIfInBounds_toArray, List.set_cons_zero, List.set_cons_succ, List.getElem_toArray, List.getElem_cons_zero, List.getElem_cons_succ])
      refine wpAnyH_take (i := 9) (v := ?vcb34) rfl (by kernel_rfl) (by kernel_rfl) (by kernel_rfl) (fun _ _ _ h => h) (Or.inl ⟨by rfl, ?ycb34⟩) hHeld ?rcb34
      case ycb34 => (intro w' hSw; go_simp; (try with_reducible rfl))
      (try simp only [Act.put, List.setIfInBounds_toArray, List.set_cons_zero, List.set_cons_succ, List.getElem_toArray, List.getElem_cons_zero, List.getElem_cons_succ])
      refine wpAnyH_take (i := 10) (v := ?vcb35) rfl (by kernel_rfl) (by kernel_rfl) (by kernel_rfl) (fun _ _ _ h => h) (Or.inl ⟨by rfl, ?ycb35⟩) hHeld ?rcb35
      case ycb35 => (intro w' hSw; go_simp; (try with_reducible rfl))
      (try simp only [Act.put, List.setIfInBounds_toArray, List.set_cons_zero, List.set_cons_succ, List.getElem_toArray, List.getElem_cons_zero, List.getElem_cons_succ])
      refine wpAnyH_take (i := 12) (v := ?vcb36) rfl (by kernel_rfl) (by kernel_rfl) (by kernel_rfl) (fun _ _ _ h => h) (Or.inl ⟨by rfl, ?ycb36⟩) hHeld ?rcb36
      case ycb36 => (intro w' hSw; go_simp; (try with_reducible rfl))
      (try simp only [Act.put, List.setIfInBounds_toArray, List.set_cons_zero, List.set_cons_succ, List.getElem_toArray, List.getElem_cons_zero, List.getElem_cons_succ])
      refine wpAnyH_ready (rs := [13]) (by kernel_rfl) (by simp) (AllReadyH.cons rfl (fun K hK => ?_) AllReadyH.nil)
      (try simp only [Act.put, List.setIfInBounds_toArray, List.set_cons_zero, List.set_cons_succ, List.getElem_toArray, List.getElem_cons_zero, List.getElem_cons_succ])
      refine step_store_arr rfl 23 _ _ rfl (W1.heap.size) (zeros 8) R rfl rfl HZ.out (by rw [hR, zeros_len]) (by rw [zeros_len]; exact size8') ?_
      have PU := put_arr (rs' := R) HZ.out (by rw [hR, zeros_len])
      refine hK.out _ _ (gw_own hHeld PU.2 HB.out) (fun hHeld => ?_)
      clear hK
      have OI := hide (OI.out.keepBut PU.2 HZ.out (by decide))
      have OX := hide (OX.out.keepBut PU.2 HZ.out (by decide))
      (try simp only [Act.put, List.setIfInBounds_toArray, List.set_cons_zero, List.set_cons_succ, List.getElem_toArray, List.getElem_cons_zero, List.getElem_cons_succ])
      refine wpAnyH_take (i := 14) (v := ?vcb38) rfl (by kernel_rfl) (by kernel_rfl) (by kernel_rfl) (fun _ _ _ h => h) (Or.inl ⟨by rfl, ?ycb38⟩) hHeld ?rcb38
      case ycb38 => (intro w' hSw; go_simp; (try with_reducible rfl))
      (try simp only [Act.put, List.setIfInBounds_toArray, List.set_cons_zero, List.set_cons_succ, List.getElem_toArray, List.getElem_cons_zero, List.getElem_cons_succ])
      refine wpAnyH_done (by kernel_rfl) ?_ _
      go_wp2_with fail
      go_meet
      exact ⟨W1.heap.size, rfl, rfl, OX.out, PU.1, HB.out, hHeld⟩
  case rest =>
  obtain ⟨b13, rfl, rfl, o12, z13, hb13, g13⟩ := hcut
  have N1 := hide (World.grownBy.size GA.out)
  have O9 := hide (O9.out.keep g13)
  have O12 := hide o12
  have Z10 := hide (Z10.out.keep g13)
  have Z13 := hide z13
  have BA := hide (BA.out.keep g13)
  have IB := hide (Ints_keep IB.out g13)
  have GA := hide (grown_none GA.out g13)
  have N2 := hide (World.grownBy.size g13)
  clear o12 z13 hb13 g13 HY BP IA SA hsA
  generalize wc = W2 at *
  go_upto_region 5 with fail
  go_cut [15, 16, 17] from 52 (fun s15 s16 s17 wx' => FiK W2 Z Q 0 s15 s16 s17 wx')
  case first =>
    refine wp_region_held_drew (S := GrownW W2) (by kernel_rfl) (gw_start _) (fun hHeld => ?_)
    refine wpAnyH_take (i := 0) (v := .agg (arrI A)) rfl (by kernel_rfl) (by kernel_rfl) (by kernel_rfl) (fun _ _ _ h => h) (Or.inl ⟨by rfl, ?ycc1⟩) hHeld ?rcc1
    case ycc1 => (intro w' hSw; exact yields_load_arr rfl rfl (BA.out.keep hSw) _ Try.underlying22 rfl (by rw [hA]; exact size9'))
    (try simp only [Act.put, List.setIfInBounds_toArray, List.set_cons_zero, List.set_cons_succ, List.getElem_toArray, List.getElem_cons_zero, List.getElem_cons_succ])
    refine wpAnyH_take (i := 1) (v := .agg (arrI R)) rfl (by kernel_rfl) (by kernel_rfl) (by kernel_rfl) (fun _ _ _ h => h) (Or.inl ⟨by rfl, ?ycc2⟩) hHeld ?rcc2
    case ycc2 => (intro w' hSw; exact yields_load_arr rfl rfl (Z13.out.keep hSw) _ Try.underlying23 rfl (by rw [hR]; exact size8'))
    (try simp only [Act.put, List.setIfInBounds_toArray, List.set_cons_zero, List.set_cons_succ, List.getElem_toArray, List.getElem_cons_zero, List.getElem_cons_succ])
    refine wpAnyH_take (i := 2) (v := ?vcc3) rfl (by kernel_rfl) (by kernel_rfl) (by kernel_rfl) (fun _ _ _ h => h) (Or.inl ⟨by rfl, ?ycc3⟩) hHeld ?rcc3
    case ycc3 => (intro w' hSw; go_simp; (try with_reducible rfl))
    (try simp only [Act.put, List.setIfInBounds_toArray, List.set_cons_zero, List.set_cons_succ, List.getElem_toArray, List.getElem_cons_zero, List.getElem_cons_succ])
    refine wpAnyH_take (i := 3) (v := ?vcc4) rfl (by kernel_rfl) (by kernel_rfl) (by kernel_rfl) (fun _ _ _ h => h) (Or.inl ⟨by rfl, ?ycc4⟩) hHeld ?rcc4
    case ycc4 => (intro w' hSw; go_simp; (try with_reducible rfl))
    (try simp only [Act.put, List.setIfInBounds_toArray, List.set_cons_zero, List.set_cons_succ, List.getElem_toArray, List.getElem_cons_zero, List.getElem_cons_succ])
    refine wpAnyH_take (i := 4) (v := vB) rfl (by kernel_rfl) (by kernel_rfl) (by kernel_rfl) (fun _ _ _ h => h) (Or.inl ⟨by rfl, ?ycc5⟩) hHeld ?rcc5
    case ycc5 => (intro w' hSw; go_simp; (try with_reducible rfl))
    (try simp only [Act.put, List.setIfInBounds_toArray, List.set_cons_zero, List.set_cons_succ, List.getElem_toArray, List.getElem_cons_zero, List.getElem_cons_succ])
    refine wpAnyH_ready (rs := [5, 11]) (by kernel_rfl) (by simp) (AllReadyH.cons rfl (fun K hK => ?gcc6) (AllReadyH.cons rfl (fun K hK => ?gcc7) AllReadyH.nil))
    case gcc6 =>
      (try simp only [Act.put, List.setIfInBounds_toArray, List.set_cons_zero, List.set_cons_succ, List.getElem_toArray, List.getElem_cons_zero, List.getElem_cons_succ])
      refine step_ints rfl _ _ rfl rfl vB (L.drop kk) rfl (Ints_keep IB.out hHeld) SB.out (by rw [List.length_drop]; omega) ?_
      intro vi wcc8 oi gcc8
      have Gcc8 := hide gcc8
      have OI := hide (oi)
      clear gcc8 oi
      refine hK.out _ _ (gw_trans hHeld Gcc8.out) (fun hHeld => ?_)
      clear hK
      (try simp only [Act.put, List.setIfInBounds_toArray, List.set_cons_zero, List.set_cons_succ, List.getElem_toArray, List.getElem_cons_zero, List.getElem_cons_succ])
      refine wpAnyH_ready (rs := [6, 11]) (by kernel_rfl) (by simp) (AllReadyH.cons rfl (fun K hK => ?gcc9) (AllReadyH.cons rfl (fun K hK => ?gcc10) AllReadyH.nil))
      case gcc9 =>
        (try simp only [Act.put, List.setIfInBounds_toArray, List.set_cons_zero, List.set_cons_succ, List.getElem_toArray, List.getElem_cons_zero, List.getElem_cons_succ])
        go_simp
        refine (HZ'.out _ vi OI.out.ints OI.out.shp).mono ?_
        rintro e wcc11 ⟨vx, rfl, ox, gcc11⟩
        have Gcc11 := hide gcc11
        have OX := hide (ox.base (b' := W2.heap.size) (World.grownBy.size hHeld))
        clear gcc11 ox
        go_wp2_with fail
        refine hK.out _ _ (gw_trans hHeld Gcc11.out) (fun hHeld => ?_)
        clear hK
        have OI := hide (OI.out.keep Gcc11.out)
        (try simp only [Act.put, List.setIfInBounds_toArray, List.set_cons_zero, List.set_cons_succ, List.getElem_toArray, List.getElem_cons_zero, List.getElem_cons_succ])
        refine wpAnyH_take (i := 7) (v := ?vcc12) rfl (by kernel_rfl) (by kernel_rfl) (by kernel_rfl) (fun _ _ _ h => h) (Or.inl ⟨by rfl, ?ycc12⟩) hHeld ?rcc12
        case ycc12 => (intro w' hSw; go_simp; (try with_reducible rfl))
        (try simp only [Act.put, List.setIfInBounds_toArray, List.set_cons_zero, List.set_cons_succ, List.getElem_toArray, List.getElem_cons_zero, List.getElem_cons_succ])
        refine wpAnyH_take (i := 8) (v := ?vcc13) rfl (by kernel_rfl) (by kernel_rfl) (by kernel_rfl) (fun _ _ _ h => h) (Or.inl ⟨by rfl, ?ycc13⟩) hHeld ?rcc13
        case ycc13 => (intro w' hSw; go_simp; (try with_reducible rfl))
        (try simp only [Act.put, List.setIfInBounds_toArray, List.set_cons_zero, List.set_cons_succ, List.getElem_toArray, List.getElem_cons_zero, List.getElem_cons_succ])
        refine wpAnyH_take (i := 9) (v := ?vcc14) rfl (by kernel_rfl) (by kernel_rfl) (by kernel_rfl) (fun _ _ _ h => h) (Or.inl ⟨by rfl, ?ycc14⟩) hHeld ?rcc14
        case ycc14 => (intro w' hSw; go_simp; (try with_reducible rfl))
        (try simp only [Act.put, List.setIfInBounds_toArray, List.set_cons_zero, List.set_cons_succ, List.getElem_toArray, List.getElem_cons_zero, List.getElem_cons_succ])
        refine wpAnyH_take (i := 10) (v := ?vcc15) rfl (by kernel_rfl) (by kernel_rfl) (by kernel_rfl) (fun _ _ _ h => h) (Or.inl ⟨by rfl, ?ycc15⟩) hHeld ?rcc15
        case ycc15 => (intro w' hSw; go_simp; (try with_reducible rfl))
        (try simp only [Act.put, List.setIfInBounds_toArray, List.set_cons_zero, List.set_cons_succ, List.getElem_toArray, List.getElem_cons_zero, List.getElem_cons_succ])
        refine wpAnyH_ready (rs := [11]) (by kernel_rfl) (by simp) (AllReadyH.cons rfl (fun K hK => ?_) AllReadyH.nil)
        (try simp only [Act.put, List.setIfInBounds_toArray, List.set_cons_zero, List.set_cons_succ, List.getElem_toArray, List.getElem_cons_zero, List.getElem_cons_succ])
        go_simp
        go_wp2_with fail
        have HB := hide (show W2.heap.size ≤ wcc11.heap.size from by first | exact Nat.le_refl _ | exact World.grownBy.size hHeld)
        refine hK.out _ _ (gw_alloc hHeld (.cells #[.int .i64 0, .int .i64 0, .int .i64 0, .int .i64 0, .int .i64 0, .int .i64 0, .int .i64 0, .int .i64 0] 23)) (fun hHeld => ?_)
        clear hK
        have HZ := hide (show Blk (wcc11.alloc (.cells #[.int .i64 0, .int .i64 0, .int .i64 0, .int .i64 0, .int .i64 0, .int .i64 0, .int .i64 0, .int .i64 0] 23)) wcc11.heap.size 23 (zeros 8) from Blk.new wcc11 23 (zeros 8))
        have OI := hide (OI.out.keep (grown_alloc wcc11 (.cells #[.int .i64 0, .int .i64 0, .int .i64 0, .int .i64 0, .int .i64 0, .int .i64 0, .int .i64 0, .int .i64 0] 23) none))
        have OX := hide (OX.out.keep (grown_alloc wcc11 (.cells #[.int .i64 0, .int .i64 0, .int .i64 0, .int .i64 0, .int .i64 0, .int .i64 0, .int .i64 0, .int .i64 0] 23) none))
        (try simp only [Act.put, List.setIfInBounds_toArray, List.set_cons_zero, List.set_cons_succ, List.getElem_toArray, List.getElem_cons_zero, List.getElem_cons_succ])
        refine wpAnyH_take (i := 12) (v := ?vcc17) rfl (by kernel_rfl) (by kernel_rfl) (by kernel_rfl) (fun _ _ _ h => h) (Or.inl ⟨by rfl, ?ycc17⟩) hHeld ?rcc17
        case ycc17 => (intro w' hSw; go_simp; (try with_reducible rfl))
        (try simp only [Act.put, List.setIfInBounds_toArray, List.set_cons_zero, List.set_cons_succ, List.getElem_toArray, List.getElem_cons_zero, List.getElem_cons_succ])
        refine wpAnyH_ready (rs := [13]) (by kernel_rfl) (by simp) (AllReadyH.cons rfl (fun K hK => ?_) AllReadyH.nil)
        (try simp only [Act.put, List.setIfInBounds_toArray, List.set_cons_zero, List.set_cons_succ, List.getElem_toArray, List.getElem_cons_zero, List.getElem_cons_succ])
        refine step_store_arr rfl 23 _ _ rfl (wcc11.heap.size) (zeros 8) Q rfl rfl HZ.out (by rw [hQ, zeros_len]) (by rw [zeros_len]; exact size8') ?_
        have PU := put_arr (rs' := Q) HZ.out (by rw [hQ, zeros_len])
        refine hK.out _ _ (gw_own hHeld PU.2 HB.out) (fun hHeld => ?_)
        clear hK
        have OI := hide (OI.out.keepBut PU.2 HZ.out (by decide))
        have OX := hide (OX.out.keepBut PU.2 HZ.out (by decide))
        (try simp only [Act.put, List.setIfInBounds_toArray, List.set_cons_zero, List.set_cons_succ, List.getElem_toArray, List.getElem_cons_zero, List.getElem_cons_succ])
        refine wpAnyH_take (i := 14) (v := ?vcc19) rfl (by kernel_rfl) (by kernel_rfl) (by kernel_rfl) (fun _ _ _ h => h) (Or.inl ⟨by rfl, ?ycc19⟩) hHeld ?rcc19
        case ycc19 => (intro w' hSw; go_simp; (try with_reducible rfl))
        (try simp only [Act.put, List.setIfInBounds_toArray, List.set_cons_zero, List.set_cons_succ, List.getElem_toArray, List.getElem_cons_zero, List.getElem_cons_succ])
        refine wpAnyH_done (by kernel_rfl) ?_ _
        go_wp2_with fail
        go_meet
        exact ⟨wcc11.heap.size, rfl, rfl, OX.out, PU.1, HB.out, hHeld⟩
      case gcc10 =>
        (try simp only [Act.put, List.setIfInBounds_toArray, List.set_cons_zero, List.set_cons_succ, List.getElem_toArray, List.getElem_cons_zero, List.getElem_cons_succ])
        go_simp
        go_wp2_with fail
        have HB := hide (show W2.heap.size ≤ wcc8.heap.size from by first | exact Nat.le_refl _ | exact World.grownBy.size hHeld)
        refine hK.out _ _ (gw_alloc hHeld (.cells #[.int .i64 0, .int .i64 0, .int .i64 0, .int .i64 0, .int .i64 0, .int .i64 0, .int .i64 0, .int .i64 0] 23)) (fun hHeld => ?_)
        clear hK
        have HZ := hide (show Blk (wcc8.alloc (.cells #[.int .i64 0, .int .i64 0, .int .i64 0, .int .i64 0, .int .i64 0, .int .i64 0, .int .i64 0, .int .i64 0] 23)) wcc8.heap.size 23 (zeros 8) from Blk.new wcc8 23 (zeros 8))
        have OI := hide (OI.out.keep (grown_alloc wcc8 (.cells #[.int .i64 0, .int .i64 0, .int .i64 0, .int .i64 0, .int .i64 0, .int .i64 0, .int .i64 0, .int .i64 0] 23) none))
        (try simp only [Act.put, List.setIfInBounds_toArray, List.set_cons_zero, List.set_cons_succ, List.getElem_toArray, List.getElem_cons_zero, List.getElem_cons_succ])
        refine wpAnyH_ready (rs := [6]) (by kernel_rfl) (by simp) (AllReadyH.cons rfl (fun K hK => ?_) AllReadyH.nil)
        (try simp only [Act.put, List.setIfInBounds_toArray, List.set_cons_zero, List.set_cons_succ, List.getElem_toArray, List.getElem_cons_zero, List.getElem_cons_succ])
        go_simp
        refine (HZ'.out _ vi OI.out.ints OI.out.shp).mono ?_
        rintro e wcc21 ⟨vx, rfl, ox, gcc21⟩
        have Gcc21 := hide gcc21
        have OX := hide (ox.base (b' := W2.heap.size) (World.grownBy.size hHeld))
        clear gcc21 ox
        go_wp2_with fail
        refine hK.out _ _ (gw_trans hHeld Gcc21.out) (fun hHeld => ?_)
        clear hK
        have HZ := hide (HZ.out.keep Gcc21.out)
        have OI := hide (OI.out.keep Gcc21.out)
        (try simp only [Act.put, List.setIfInBounds_toArray, List.set_cons_zero, List.set_cons_succ, List.getElem_toArray, List.getElem_cons_zero, List.getElem_cons_succ])
        refine wpAnyH_take (i := 7) (v := ?vcc22) rfl (by kernel_rfl) (by kernel_rfl) (by kernel_rfl) (fun _ _ _ h => h) (Or.inl ⟨by rfl, ?ycc22⟩) hHeld ?rcc22
        case ycc22 => (intro w' hSw; go_simp; (try with_reducible rfl))
        (try simp only [Act.put, List.setIfInBounds_toArray, List.set_cons_zero, List.set_cons_succ, List.getElem_toArray, List.getElem_cons_zero, List.getElem_cons_succ])
        refine wpAnyH_take (i := 8) (v := ?vcc23) rfl (by kernel_rfl) (by kernel_rfl) (by kernel_rfl) (fun _ _ _ h => h) (Or.inl ⟨by rfl, ?ycc23⟩) hHeld ?rcc23
        case ycc23 => (intro w' hSw; go_simp; (try with_reducible rfl))
        (try simp only [Act.put, List.setIfInBounds_toArray, List.set_cons_zero, List.set_cons_succ, List.getElem_toArray, List.getElem_cons_zero, List.getElem_cons_succ])
        refine wpAnyH_take (i := 9) (v := ?vcc24) rfl (by kernel_rfl) (by kernel_rfl) (by kernel_rfl) (fun _ _ _ h => h) (Or.inl ⟨by rfl, ?ycc24⟩) hHeld ?rcc24
        case ycc24 => (intro w' hSw; go_simp; (try with_reducible rfl))
        (try simp only [Act.put, List.setIfInBounds_toArray, List.set_cons_zero, List.set_cons_succ, List.getElem_toArray, List.getElem_cons_zero, List.getElem_cons_succ])
        refine wpAnyH_take (i := 10) (v := ?vcc25) rfl (by kernel_rfl) (by kernel_rfl) (by kernel_rfl) (fun _ _ _ h => h) (Or.inl ⟨by rfl, ?ycc25⟩) hHeld ?rcc25
        case ycc25 => (intro w' hSw; go_simp; (try with_reducible rfl))
        (try simp only [Act.put, List.setIfInBounds_toArray, List.set_cons_zero, List.set_cons_succ, List.getElem_toArray, List.getElem_cons_zero, List.getElem_cons_succ])
        refine wpAnyH_take (i := 12) (v := ?vcc26) rfl (by kernel_rfl) (by kernel_rfl) (by kernel_rfl) (fun _ _ _ h => h) (Or.inl ⟨by rfl, ?ycc26⟩) hHeld ?rcc26
        case ycc26 => (intro w' hSw; go_simp; (try with_reducible rfl))
        (try simp only [Act.put, List.setIfInBounds_toArray, List.set_cons_zero, List.set_cons_succ, List.getElem_toArray, List.getElem_cons_zero, List.getElem_cons_succ])
        refine wpAnyH_ready (rs := [13]) (by kernel_rfl) (by simp) (AllReadyH.cons rfl (fun K hK => ?_) AllReadyH.nil)
        (try simp only [Act.put, List.setIfInBounds_toArray, List.set_cons_zero, List.set_cons_succ, List.getElem_toArray, List.getElem_cons_zero, List.getElem_cons_succ])
        refine step_store_arr rfl 23 _ _ rfl (wcc8.heap.size) (zeros 8) Q rfl rfl HZ.out (by rw [hQ, zeros_len]) (by rw [zeros_len]; exact size8') ?_
        have PU := put_arr (rs' := Q) HZ.out (by rw [hQ, zeros_len])
        refine hK.out _ _ (gw_own hHeld PU.2 HB.out) (fun hHeld => ?_)
        clear hK
        have OI := hide (OI.out.keepBut PU.2 HZ.out (by decide))
        have OX := hide (OX.out.keepBut PU.2 HZ.out (by decide))
        (try simp only [Act.put, List.setIfInBounds_toArray, List.set_cons_zero, List.set_cons_succ, List.getElem_toArray, List.getElem_cons_zero, List.getElem_cons_succ])
        refine wpAnyH_take (i := 14) (v := ?vcc28) rfl (by kernel_rfl) (by kernel_rfl) (by kernel_rfl) (fun _ _ _ h => h) (Or.inl ⟨by rfl, ?ycc28⟩) hHeld ?rcc28
        case ycc28 => (intro w' hSw; go_simp; (try with_reducible rfl))
        (try simp only [Act.put, List.setIfInBounds_toArray, List.set_cons_zero, List.set_cons_succ, List.getElem_toArray, List.getElem_cons_zero, List.getElem_cons_succ])
        refine wpAnyH_done (by kernel_rfl) ?_ _
        go_wp2_with fail
        go_meet
        exact ⟨wcc8.heap.size, rfl, rfl, OX.out, PU.1, HB.out, hHeld⟩
    case gcc7 =>
      (try simp only [Act.put, List.setIfInBounds_toArray, List.set_cons_zero, List.set_cons_succ, List.getElem_toArray, List.getElem_cons_zero, List.getElem_cons_succ])
      go_simp
      go_wp2_with fail
      have HB := hide (show W2.heap.size ≤ W2.heap.size from by first | exact Nat.le_refl _ | exact World.grownBy.size hHeld)
      refine hK.out _ _ (gw_alloc hHeld (.cells #[.int .i64 0, .int .i64 0, .int .i64 0, .int .i64 0, .int .i64 0, .int .i64 0, .int .i64 0, .int .i64 0] 23)) (fun hHeld => ?_)
      clear hK
      have HZ := hide (show Blk (W2.drew.alloc (.cells #[.int .i64 0, .int .i64 0, .int .i64 0, .int .i64 0, .int .i64 0, .int .i64 0, .int .i64 0, .int .i64 0] 23)) W2.heap.size 23 (zeros 8) from Blk.new W2.drew 23 (zeros 8))
      (try simp only [Act.put, List.setIfInBounds_toArray, List.set_cons_zero, List.set_cons_succ, List.getElem_toArray, List.getElem_cons_zero, List.getElem_cons_succ])
      refine wpAnyH_ready (rs := [5]) (by kernel_rfl) (by simp) (AllReadyH.cons rfl (fun K hK => ?_) AllReadyH.nil)
      (try simp only [Act.put, List.setIfInBounds_toArray, List.set_cons_zero, List.set_cons_succ, List.getElem_toArray, List.getElem_cons_zero, List.getElem_cons_succ])
      refine step_ints rfl _ _ rfl rfl vB (L.drop kk) rfl (Ints_keep IB.out hHeld) SB.out (by rw [List.length_drop]; omega) ?_
      intro vi wcc30 oi gcc30
      have Gcc30 := hide gcc30
      have OI := hide (oi)
      clear gcc30 oi
      refine hK.out _ _ (gw_trans hHeld Gcc30.out) (fun hHeld => ?_)
      clear hK
      have HZ := hide (HZ.out.keep Gcc30.out)
      (try simp only [Act.put, List.setIfInBounds_toArray, List.set_cons_zero, List.set_cons_succ, List.getElem_toArray, List.getElem_cons_zero, List.getElem_cons_succ])
      refine wpAnyH_ready (rs := [6]) (by kernel_rfl) (by simp) (AllReadyH.cons rfl (fun K hK => ?_) AllReadyH.nil)
      (try simp only [Act.put, List.setIfInBounds_toArray, List.set_cons_zero, List.set_cons_succ, List.getElem_toArray, List.getElem_cons_zero, List.getElem_cons_succ])
      go_simp
      refine (HZ'.out _ vi OI.out.ints OI.out.shp).mono ?_
      rintro e wcc31 ⟨vx, rfl, ox, gcc31⟩
      have Gcc31 := hide gcc31
      have OX := hide (ox.base (b' := W2.heap.size) (World.grownBy.size hHeld))
      clear gcc31 ox
      go_wp2_with fail
      refine hK.out _ _ (gw_trans hHeld Gcc31.out) (fun hHeld => ?_)
      clear hK
      have HZ := hide (HZ.out.keep Gcc31.out)
      have OI := hide (OI.out.keep Gcc31.out)
      (try simp only [Act.put, List.setIfInBounds_toArray, List.set_cons_zero, List.set_cons_succ, List.getElem_toArray, List.getElem_cons_zero, List.getElem_cons_succ])
      refine wpAnyH_take (i := 7) (v := ?vcc32) rfl (by kernel_rfl) (by kernel_rfl) (by kernel_rfl) (fun _ _ _ h => h) (Or.inl ⟨by rfl, ?ycc32⟩) hHeld ?rcc32
      case ycc32 => (intro w' hSw; go_simp; (try with_reducible rfl))
      (try simp only [Act.put, List.setIfInBounds_toArray, List.set_cons_zero, List.set_cons_succ, List.getElem_toArray, List.getElem_cons_zero, List.getElem_cons_succ])
      refine wpAnyH_take (i := 8) (v := ?vcc33) rfl (by kernel_rfl) (by kernel_rfl) (by kernel_rfl) (fun _ _ _ h => h) (Or.inl ⟨by rfl, ?ycc33⟩) hHeld ?rcc33
      case ycc33 => (intro w' hSw; go_simp; (try with_reducible rfl))
      (try simp only [Act.put, List.setIfInBounds_toArray, List.set_cons_zero, List.set_cons_succ, List.getElem_toArray, List.getElem_cons_zero, List.getElem_cons_succ])
      refine wpAnyH_take (i := 9) (v := ?vcc34) rfl (by kernel_rfl) (by kernel_rfl) (by kernel_rfl) (fun _ _ _ h => h) (Or.inl ⟨by rfl, ?ycc34⟩) hHeld ?rcc34
      case ycc34 => (intro w' hSw; go_simp; (try with_reducible rfl))
      (try simp only [Act.put, List.setIfInBounds_toArray, List.set_cons_zero, List.set_cons_succ, List.getElem_toArray, List.getElem_cons_zero, List.getElem_cons_succ])
      refine wpAnyH_take (i := 10) (v := ?vcc35) rfl (by kernel_rfl) (by kernel_rfl) (by kernel_rfl) (fun _ _ _ h => h) (Or.inl ⟨by rfl, ?ycc35⟩) hHeld ?rcc35
      case ycc35 => (intro w' hSw; go_simp; (try with_reducible rfl))
      (try simp only [Act.put, List.setIfInBounds_toArray, List.set_cons_zero, List.set_cons_succ, List.getElem_toArray, List.getElem_cons_zero, List.getElem_cons_succ])
      refine wpAnyH_take (i := 12) (v := ?vcc36) rfl (by kernel_rfl) (by kernel_rfl) (by kernel_rfl) (fun _ _ _ h => h) (Or.inl ⟨by rfl, ?ycc36⟩) hHeld ?rcc36
      case ycc36 => (intro w' hSw; go_simp; (try with_reducible rfl))
      (try simp only [Act.put, List.setIfInBounds_toArray, List.set_cons_zero, List.set_cons_succ, List.getElem_toArray, List.getElem_cons_zero, List.getElem_cons_succ])
      refine wpAnyH_ready (rs := [13]) (by kernel_rfl) (by simp) (AllReadyH.cons rfl (fun K hK => ?_) AllReadyH.nil)
      (try simp only [Act.put, List.setIfInBounds_toArray, List.set_cons_zero, List.set_cons_succ, List.getElem_toArray, List.getElem_cons_zero, List.getElem_cons_succ])
      refine step_store_arr rfl 23 _ _ rfl (W2.heap.size) (zeros 8) Q rfl rfl HZ.out (by rw [hQ, zeros_len]) (by rw [zeros_len]; exact size8') ?_
      have PU := put_arr (rs' := Q) HZ.out (by rw [hQ, zeros_len])
      refine hK.out _ _ (gw_own hHeld PU.2 HB.out) (fun hHeld => ?_)
      clear hK
      have OI := hide (OI.out.keepBut PU.2 HZ.out (by decide))
      have OX := hide (OX.out.keepBut PU.2 HZ.out (by decide))
      (try simp only [Act.put, List.setIfInBounds_toArray, List.set_cons_zero, List.set_cons_succ, List.getElem_toArray, List.getElem_cons_zero, List.getElem_cons_succ])
      refine wpAnyH_take (i := 14) (v := ?vcc38) rfl (by kernel_rfl) (by kernel_rfl) (by kernel_rfl) (fun _ _ _ h => h) (Or.inl ⟨by rfl, ?ycc38⟩) hHeld ?rcc38
      case ycc38 => (intro w' hSw; go_simp; (try with_reducible rfl))
      (try simp only [Act.put, List.setIfInBounds_toArray, List.set_cons_zero, List.set_cons_succ, List.getElem_toArray, List.getElem_cons_zero, List.getElem_cons_succ])
      refine wpAnyH_done (by kernel_rfl) ?_ _
      go_wp2_with fail
      go_meet
      exact ⟨W2.heap.size, rfl, rfl, OX.out, PU.1, HB.out, hHeld⟩
  case rest =>
  obtain ⟨b16, rfl, rfl, o15, z16, hb16, g16⟩ := hcut
  have O9 := hide (O9.out.keep g16)
  have O12 := hide (O12.out.keep g16)
  have O15 := hide o15
  have Z10 := hide (Z10.out.keep g16)
  have Z16 := hide z16
  have GA := hide (grown_none GA.out g16)
  have N3 := hide (World.grownBy.size g16)
  clear o15 z16 hb16 g16 HZ' BA Z13 IB SB hsB
  generalize wc = W3 at *
  go_wp2_with fail
  refine (filters_any W3).mono ?_
  rintro e w9 ⟨rfl, g9⟩
  have O9 := hide (O9.out.keep g9)
  have O12 := hide (O12.out.keep g9)
  have O15 := hide (O15.out.keep g9)
  have Z10 := hide (Z10.out.keep g9)
  have Z16 := hide (Z16.out.keep g9)
  have GA := hide (grown_none GA.out g9)
  have LB := hide (show W1.heap.size ≤ w9.heap.size by have := N2.out; have := N3.out; have := World.grownBy.size g9; omega)
  clear g9 N2 N3
  go_wp2_with (at_builtin; refine wpList_append_both (by rfl) _ _ rfl W1.heap.size u12 u15 Y Z rfl rfl O12.out O15.out.ints O15.out.shp (by omega) LB.out ?_)
  intro v6 w6 o6 g6
  have I6 := hide o6.ints
  have I9 := hide (Own.ints (O9.out.kept g6 (Own.apart LT.out O12.out)))
  have Z10 := hide (Z10.out.keepOwn O12.out g6)
  have Z16 := hide (Z16.out.keepOwn O12.out g6)
  have G6 := hide (grown_own' GA.out g6 (fun g hg => Nat.le_trans N1.out (O12.out.lt g hg).1))
  have SM := hide (keepSame_any v6 u9 (Y ++ Z) (Y ++ Z) w6 I6.out I9.out (by rw [List.length_append]; omega) (by rw [List.length_append]; omega))
  rw [show decide (Y ++ Z = Y ++ Z) = true by simp] at SM
  clear o6 g6 O9 O12 O15 I6 I9 LT LB GA N1
  go_wp2_with fail
  refine SM.out.mono ?_
  rintro e w7 ⟨rfl, m, rfl⟩
  have Z10 := hide (Z10.out.keep (grown_drewN' w6 m none))
  have Z16 := hide (Z16.out.keep (grown_drewN' w6 m none))
  clear SM
  go_wp2_with (first | refine wpList_load_arrG (by first | rfl | (simp [Region.wanted, yielded]; omega)) 23 _ rfl _ rfl _ Z16.out _ Try.underlying23 rfl (by rw [hQ]; exact size8') ?_ | refine wpList_load_arrG (by first | rfl | (simp [Region.wanted, yielded]; omega)) 23 _ rfl _ rfl _ Z10.out _ Try.underlying23 rfl (by rw [hQ]; exact size8') ?_)
  go_ret
  exact ⟨rfl, below_of_grown (grown_none G6.out (grown_drewN' _ _ none))⟩
end Go.Proofs.Ytkkalbogcnojmaa
