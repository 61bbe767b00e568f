/- Texts put together: PkpD, Tabs. -/
import Derived.Test.YtdejpongekicdaaGreatDoorBun3
import Derived.Test.YtdejpongekicdaaGreatDoorBun2
import Derived.ProofKit
import Derived.OpenShut
import Derived.LaidMore
import Derived.Stop.Joined
import Derived.Lib.LaidTab
/- PkpD -/
namespace Go.Proofs.YtdejpongekicdaaGreatDoor
open Go.RowKit
set_option linter.unusedVariables false
set_option linter.unusedSimpArgs false
set_option maxHeartbeats 1000000
theorem BlB.own {w : World} {b : Nat} {B : List Int} (h : BlB w b B) (base : Nat) (hb : base ≤ b) (hl : B.length = 15) : OwnB base w (.slice (some ⟨b, 0, none⟩) 15 15) B :=
 ⟨by simp [hl], .inr ⟨b, 15, arrB B, by rw [hl], hb, h, by omega, by unfold maxLen; omega, by simp [arrB, hl], by simp [arrB, hl]; exact List.take_of_length_le (by simp [hl])⟩⟩
theorem pkPutter_any (ad : Addr) (n c : Nat) (w : World) :
  Calls Tryz.prog 71 #[.slice (some ad) n c] w fun e w' => e = .returned (.func (.func 165) #[] #[.pointer (some ⟨w.heap.size, 0, none⟩), .pointer (some ⟨w.heap.size + 1, 0, none⟩)]) ∧ w'.cell? ⟨w.heap.size, 0, none⟩ = some (.slice (some ad) n c) ∧ w'.heap[w.heap.size + 1]? = some (.cells #[.int .i64 0] 3 (0, 0)) ∧ w.grownBy w' none := by
 have c0 := cell_of_heap (heap_new w (.cells #[.slice (some ad) n c] 32)) 0
 have GG := hide (show w.grownBy ((w.alloc (.cells #[.slice (some ad) n c] 32)).alloc (.cells #[.int .i64 0] 3)) none from grown_none (grown_alloc _ _ none) (grown_alloc _ _ none))
 have c1 := grown_keep (grown_alloc (w.alloc (.cells #[.slice (some ad) n c] 32)) (.cells #[.int .i64 0] 3) none) c0
 have c2 := heap_new (w.alloc (.cells #[.slice (some ad) n c] 32)) (.cells #[.int .i64 0] 3)
 rw [show (w.alloc (.cells #[.slice (some ad) n c] 32)).heap.size = w.heap.size + 1 by simp] at c2
 have C1 := hide c1
 have C2 := hide c2
 clear c0 c1 c2
 go_enter Tryz.func71, Tryz.ntmps71
 go_wp2_with fail
 go_ret
 exact ⟨rfl, C1.out, C2.out, GG.out⟩
structure PkS (w : World) (l : List Int) (bb cb ca base g cap m : Nat) (N : Int) (B : List Int) (wr : World) : Prop where
 pk : Blk wr w.heap.size 82 l
 fl : OwnF base wr (.slice (some ⟨g, 0, none⟩) 25 cap) 25 (flF w.heap.size 25)
 pu : PutS cb ca bb m B wr
 ly : Lay m N B
 gr : w.grownBy wr none
 o1 : w.heap.size < bb
 o2 : bb < cb
 o3 : cb < ca
 o4 : ca < base
theorem PkS.keep {w : World} {l : List Int} {bb cb ca base g cap m : Nat} {N : Int} {B : List Int} {wr wr' : World} (h : PkS w l bb cb ca base g cap m N B wr) (k : wr.grownBy wr' none) : PkS w l bb cb ca base g cap m N B wr' :=
 ⟨h.pk.keep k, h.fl.keep k, h.pu.keep k, h.ly, grown_none h.gr k, h.o1, h.o2, h.o3, h.o4⟩
theorem PkS.put {w : World} {l : List Int} {bb cb ca base g cap m m' : Nat} {N N' : Int} {B B' : List Int} {wr wr' : World} (h : PkS w l bb cb ca base g cap m N B wr) (t : Trp (fun i => i = ca ∨ i = bb) wr wr') (p : PutS cb ca bb m' B' wr') (y : Lay m' N' B') : PkS w l bb cb ca base g cap m' N' B' wr' := by
 have q1 := h.o1
 have q2 := h.o2
 have q3 := h.o3
 have q4 := h.o4
 exact ⟨h.pk.trp t (by omega), h.fl.trp t (fun g hg => by omega), p, y, Trp.none h.gr t (fun i e => by omega), q1, q2, q3, q4⟩
set_option maxRecDepth 100000 in
theorem pkPack_no (l : List Int) (hl : l.length = 25) (h64 : In64 l) (w : World) (hT : TabA w 3 widq 8) (hg : gudP l = false) : Calls Tryz.prog 36 #[.agg (arrI l)] w (PkP w l) := by
 have P0 := hide (Blk.new w 82 l)
 have G0 := hide (grown_alloc w (.cells (arrI l) 82) none)
 have GD := hide (pkGood_any l hl h64 (w.alloc (.cells (arrI l) 82)) (TabA_keep hT G0.out))
 rw [hg] at GD
 have HG := hide hg
 have S25 := hide (show (Tryz.prog.info? 82).map (·.size) = some l.length by rw [hl]; exact size25)
 obtain ⟨T, hTT⟩ : ∃ T : Ending → World → Prop, PkP w l = T := ⟨_, rfl⟩
 rw [hTT]
 have HTT := hide hTT
 clear hTT hl h64 hT hg
 go_enter Tryz.func36, Tryz.ntmps36
 go_upto_region 1 with fail
 generalize w.alloc (.cells (arrI l) 82) = W0 at *
 go_wp2_with (refine wpList_load_arr rfl 82 _ rfl w.heap.size rfl l P0.out _ Tryz.underlying82 rfl S25.out ?_)
 refine GD.out.mono ?_
 rintro e W1 ⟨rfl, g1⟩
 have GR := hide (grown_none G0.out g1)
 clear GD g1 P0
 go_wp2_with fail
 rw [← HTT.out]
 exact ⟨.slice none 0 0, by rw [(pkR_no HG.out).2]; rfl, by rw [(pkR_no HG.out).1]; exact OwnB_nil _ _, GR.out⟩
set_option maxRecDepth 100000 in
theorem pkPack_yes (l : List Int) (hl : l.length = 25) (h64 : In64 l) (w : World) (hT : TabA w 3 widq 8) (hg : gudP l = true) : Calls Tryz.prog 36 #[.agg (arrI l)] w (PkP w l) := by
 have P0 := hide (Blk.new w 82 l)
 have G0 := hide (grown_alloc w (.cells (arrI l) 82) none)
 have Z0 := hide (show (w.alloc (.cells (arrI l) 82)).heap.size = w.heap.size + 1 by simp)
 have GD := hide (pkGood_any l hl h64 (w.alloc (.cells (arrI l) 82)) (TabA_keep hT G0.out))
 rw [hg] at GD
 have HG := hide hg
 have HL := hide hl
 have H64 := hide h64
 have HT := hide hT
 have S25 := hide (show (Tryz.prog.info? 82).map (·.size) = some l.length by rw [hl]; exact size25)
 have hmk := make_byt 15 (by omega) (by omega)
 rw [show (15 : Int).toNat = 15 from rfl, show List.replicate 15 (0 : Int) = zeros 15 from rfl] at hmk
 obtain ⟨T, hTT⟩ : ∃ T : Ending → World → Prop, PkP w l = T := ⟨_, rfl⟩
 rw [hTT]
 have HTT := hide hTT
 clear hTT hl h64 hT hg
 go_enter Tryz.func36, Tryz.ntmps36
 go_upto_region 1 with fail
 generalize w.alloc (.cells (arrI l) 82) = W0 at *
 go_wp2_with (refine wpList_load_arr rfl 82 _ rfl w.heap.size rfl l P0.out _ Tryz.underlying82 rfl S25.out ?_)
 refine GD.out.mono ?_
 rintro e W1 ⟨rfl, g1⟩
 have GR := hide (grown_none G0.out g1)
 have P1 := hide (P0.out.keep g1)
 have Z1 := hide (show w.heap.size < W1.heap.size by have := g1.size; have := Z0.out; omega)
 clear GD g1 P0 G0 Z0
 go_upto_region 4 with fail
 clear hmk
 have B2 := hide (show BlB (W1.alloc (.cells (arrB (zeros 15)) 5)) W1.heap.size (zeros 15) from heap_new _ _)
 have G2 := hide (grown_alloc W1 (.cells (arrB (zeros 15)) 5) none)
 have Z2 := hide (show (W1.alloc (.cells (arrB (zeros 15)) 5)).heap.size = W1.heap.size + 1 by simp)
 generalize W1.alloc (.cells (arrB (zeros 15)) 5) = W2 at *
 go_wp2_with fail
 refine (pkPutter_any _ 15 15 W2).mono ?_
 rintro e W3 ⟨rfl, c1, c2, g3⟩
 have PU := hide (show PutS W2.heap.size (W2.heap.size + 1) W1.heap.size 0 (zeros 15) W3 from ⟨c1, c2, B2.out.keep g3, by have := Z2.out; omega, by have := Z2.out; omega, by omega⟩)
 have GR3 := hide (grown_none GR.out (grown_none G2.out g3))
 have P3 := hide (P1.out.keep (grown_none G2.out g3))
 have Z3 := hide (lt_of_some c2)
 clear c1 c2 g3 P1 GR G2 B2
 go_wp2_with fail
 refine (pkFields_any w.heap.size W3 (TabA_keep HT.out GR3.out)).mono ?_
 rintro e W4 ⟨v, rfl, o4, g4⟩
 obtain ⟨g, cap, rfl, _, _⟩ := o4.form (by omega)
 have M0 := hide (show PkS w l W1.heap.size W2.heap.size (W2.heap.size + 1) W3.heap.size g cap (sW 0) (nF l 0) (zeros 15) W4 from ⟨P3.out.keep g4, o4, PU.out.keep g4, Lay_zero, grown_none GR3.out g4, Z1.out, by have := Z2.out; omega, by omega, Z3.out⟩)
 clear P3 PU GR3 Z1 Z2 Z3 o4 g4 HT
 generalize W3.heap.size = base at *
 generalize W2.heap.size = cb at *
 generalize W1.heap.size = bb at *
 go_wp2_with fail
 generalize hca : cb + 1 = ca at *
 clear hca
 go_loopw [16] (fun i wr => ∃ (m : Nat) (B : List Int), i = .int .i64 (m : Int) ∧ m ≤ 25 ∧ Hid (PkS w l bb cb ca base g cap (sW m) (nF l m) B wr)) (fun i _ => 25 - (intOf i).toNat)
 case atStart => exact ⟨0, zeros 15, rfl, Nat.zero_le _, M0.out⟩
 case round =>
  obtain ⟨m, B, rfl, hm, hM⟩ := hrel
  clear M0
  by_cases hm25 : m < 25
  ·have i1 : (m : Int) < 25 := by omega
   obtain ⟨c0, c1, c2⟩ := hM.out.fl.fld m hm25
   have cx := hM.out.pk.cell m (by rw [HL.out]; exact hm25)
   have F0 := hide (heap_new wr (.cells #[.pointer (some ⟨w.heap.size, m, none⟩), .int .i64 (wdN m : Int), .int .i64 (moN m)] 124))
   have GA := hide (grown_alloc wr (.cells #[.pointer (some ⟨w.heap.size, m, none⟩), .int .i64 (wdN m : Int), .int .i64 (moN m)] 124) none)
   have cx2 := grown_keep GA.out cx
   have FB := hide (show ca < wr.heap.size ∧ bb < wr.heap.size ∧ w.heap.size < bb ∧ bb < ca from ⟨lt_of_some hM.out.pu.at', lt_of_some hM.out.pu.byt, hM.out.o1, Nat.lt_trans hM.out.o2 hM.out.o3⟩)
   have M1 := hide (hM.out.keep (grown_drew GA.out))
   obtain ⟨x0, x1⟩ := (gudP_iff l).1 HG.out m hm25
   obtain ⟨_, x2, x3⟩ := moN_lt m hm25
   have PC := hide (fun u (h : PkS w l bb cb ca base g cap (sW m) (nF l m) B u) => pkPut_any cb ca bb (sW m) (wdN m) (nF l m) (nth l m) B u (by have := wdN_le m hm25; omega) (by have := sW_le (m + 1) (by omega); rw [sW_next] at this; omega) x0 (by omega) (by omega) h.pu h.ly)
   clear hM x1 x2 x3
   go_upto_region 8 with fail
   generalize wr.alloc (.cells #[.pointer (some ⟨w.heap.size, m, none⟩), .int .i64 (wdN m : Int), .int .i64 (moN m)] 124) = W2' at *
   have f0 : W2'.cell? ⟨wr.heap.size, 0, none⟩ = some (.pointer (some ⟨w.heap.size, m, none⟩)) := cell_of_heap F0.out 0
   have f1 : W2'.cell? ⟨wr.heap.size, 1, none⟩ = some (.int .i64 (wdN m : Int)) := cell_of_heap F0.out 1
   clear c0 c1 c2 cx F0 GA
   generalize wr.heap.size = fb at *
   refine wp_region_held_drew (S := fun u => u.cell? ⟨fb, 0, none⟩ = some (.pointer (some ⟨w.heap.size, m, none⟩)) ∧ u.cell? ⟨fb, 1, none⟩ = some (.int .i64 (wdN m : Int)) ∧ u.cell? ⟨w.heap.size, m, none⟩ = some (.int .i64 (nth l m))) (by kernel_rfl) ⟨f0, f1, cx2⟩ (fun hHeld => ?_)
   clear f0 f1 cx2
   generalize W2'.drew = W3' at *
   refine wpAnyH_take (i := 0) (v := ?vpp0) rfl (by kernel_rfl) (by kernel_rfl) (by kernel_rfl) (fun _ _ _ h => h) (Or.inl ⟨by rfl, ?ypp0⟩) hHeld ?rpp0
   case ypp0 => (intro w' hSw; go_simp; (try with_reducible rfl))
   (try simp only [Act.put, sL])
   refine wpAnyH_take (i := 1) (v := ?vpp1) rfl (by kernel_rfl) (by kernel_rfl) (by kernel_rfl) (fun _ _ _ h => h) (Or.inl ⟨by rfl, ?ypp1⟩) hHeld ?rpp1
   case ypp1 => (intro w' hSw; go_simp; (try with_reducible rfl))
   (try simp only [Act.put, sL])
   refine wpAnyH_take (i := 2) (v := .pointer (some ⟨w.heap.size, m, none⟩)) rfl (by kernel_rfl) (by kernel_rfl) (by kernel_rfl) (fun _ _ _ h => h) (Or.inl ⟨by rfl, ?ypp2⟩) hHeld ?rpp2
   case ypp2 => (intro w' hSw; obtain ⟨q0, q1, q2⟩ := hSw; go_simp; (try with_reducible rfl))
   (try simp only [Act.put, sL])
   refine wpAnyH_take (i := 3) (v := ?vpp3) rfl (by kernel_rfl) (by kernel_rfl) (by kernel_rfl) (fun _ _ _ h => h) (Or.inl ⟨by rfl, ?ypp3⟩) hHeld ?rpp3
   case ypp3 => (intro w' hSw; go_simp; (try with_reducible rfl))
   (try simp only [Act.put, sL])
   refine wpAnyH_take (i := 4) (v := .int .i64 (nth l m)) rfl (by kernel_rfl) (by kernel_rfl) (by kernel_rfl) (fun _ _ _ h => h) (Or.inl ⟨by rfl, ?ypp4⟩) hHeld ?rpp4
   case ypp4 => (intro w' hSw; obtain ⟨q0, q1, q2⟩ := hSw; go_simp; (try with_reducible rfl))
   (try simp only [Act.put, sL])
   refine wpAnyH_take (i := 5) (v := ?vpp5) rfl (by kernel_rfl) (by kernel_rfl) (by kernel_rfl) (fun _ _ _ h => h) (Or.inl ⟨by rfl, ?ypp5⟩) hHeld ?rpp5
   case ypp5 => (intro w' hSw; go_simp; (try with_reducible rfl))
   (try simp only [Act.put, sL])
   refine wpAnyH_take (i := 6) (v := .int .i64 (wdN m : Int)) rfl (by kernel_rfl) (by kernel_rfl) (by kernel_rfl) (fun _ _ _ h => h) (Or.inl ⟨by rfl, ?ypp6⟩) hHeld ?rpp6
   case ypp6 => (intro w' hSw; obtain ⟨q0, q1, q2⟩ := hSw; go_simp; (try with_reducible rfl))
   (try simp only [Act.put, sL])
   refine wpAnyH_ready (rs := [7]) (by kernel_rfl) (by simp) (AllReadyH.cons rfl (fun K hK => ?_) AllReadyH.nil)
   (try simp only [Act.put, sL])
   go_simp
   refine (PC.out W3' M1.out).mono ?_
   rintro e W6 ⟨rfl, B', y', p', t'⟩
   go_wp2_with fail
   refine hK.out _ _ ⟨trp_cell t' hHeld.1 (by have := FB.out; rintro (e | e) <;> omega), trp_cell t' hHeld.2.1 (by have := FB.out; rintro (e | e) <;> omega), trp_cell t' hHeld.2.2 (by have := FB.out; rintro (e | e) <;> omega)⟩ (fun hHeld => ?_)
   clear hK
   (try simp only [Act.put, sL])
   refine wpAnyH_done (by kernel_rfl) ?_ _
   have M2 := hide (show PkS w l bb cb ca base g cap (sW (m + 1)) (nF l (m + 1)) B' W6 from M1.out.put t' p' y')
   clear M1 t' p' y' PC hHeld FB
   go_wp2_with fail
   go_roundw
   case rel => exact ⟨m + 1, B', by go_num, by omega, M2.out⟩
   case measure => first | (simp [intOf]; done) | (simp [intOf]; omega)
  ·obtain rfl : m = 25 := by omega
   rw [show ((25 : Nat) : Int) = 25 from rfl]
   rw [sW25] at hM
   go_wp2_with (refine wpList_load_arr rfl 82 _ rfl w.heap.size rfl l hM.out.pk _ Tryz.underlying82 rfl S25.out ?_)
   refine (pkParity_any l HL.out H64.out wr).mono ?_
   rintro e W5 ⟨rfl, g5⟩
   have M1 := hide (hM.out.keep g5)
   obtain ⟨p0, p1⟩ := parL_bd l
   clear hM g5
   go_wp2_with fail
   refine (pkPut_any cb ca bb 106 1 (nF l 25) (parL l) B W5 (by omega) (by omega) p0 (by omega) (by omega) M1.out.pu M1.out.ly).mono ?_
   rintro e W6 ⟨rfl, B6, y6, p6, t6⟩
   have M2 := hide (M1.out.put t6 p6 y6)
   clear M1 y6 p6 t6
   go_wp2_with fail
   refine (pkPut_any cb ca bb 107 5 (nF l 25 * 2 ^ 1 + parL l) 0 B6 W6 (by omega) (by omega) (by omega) (by decide) (by omega) M2.out.pu M2.out.ly).mono ?_
   rintro e W7 ⟨rfl, B7, y7, p7, t7⟩
   rw [show (nF l 25 * 2 ^ 1 + parL l) * 2 ^ 5 + 0 = numP l by unfold numP; rw [show (2 : Int) ^ 1 = 2 from rfl, show (2 : Int) ^ 5 = 32 from rfl, Int.add_zero]] at y7
   have M3 := hide (show PkS w l bb cb ca base g cap 112 (numP l) B7 W7 from M2.out.put t7 p7 y7)
   clear M2 y7 p7 t7
   have BB := hide (fun i => M3.out.ly.bd i)
   have CE := hide (show chN (B7.take 14) 14 = chN (pkL (numP l)) 14 by rw [← lay_sum M3.out.ly]; unfold chN; rw [sumB_congr (B7.take 14) B7 14 (fun i hi => by simp [nth, List.getD, List.getElem?_take, hi])])
   have BY := hide (M3.out.pu.byt.byts 14 (by rw [M3.out.ly.1]; omega) 15 (by omega))
   have YB := hide (show byB (B7.take 14) from fun i => by
    by_cases hi : i < 14
    ·have := BB.out i
     simpa [nth, List.getD, List.getElem?_take, hi] using this
    ·rw [getD_out _ i (by simp; omega)]; omega)
   go_wp2_with fail
   refine (pkSum_any _ 15 (B7.take 14) W7 BY.out YB.out).mono ?_
   rintro e W8 ⟨rfl, rfl⟩
   rw [CE.out]
   clear CE BY YB BB
   have sb : 0 ≤ chN (pkL (numP l)) 14 ∧ chN (pkL (numP l)) 14 < 256 := by unfold chN; omega
   go_wp2_with fail
   refine (pkPut_any cb ca bb 112 8 (numP l) (chN (pkL (numP l)) 14) B7 W8 (by omega) (by omega) sb.1 (by rw [show (2 : Int) ^ 8 = 256 from rfl]; exact sb.2) sb.2 M3.out.pu M3.out.ly).mono ?_
   rintro e W9 ⟨rfl, B9, y9, p9, t9⟩
   have M4 := hide (M3.out.put t9 p9 y9)
   clear M3 y9 p9 t9
   go_wp2_with fail
   rw [← HTT.out]
   refine ⟨.slice (some ⟨bb, 0, none⟩) 15 15, by rw [(pkR_yes HG.out).2]; rfl, ?_, M4.out.gr⟩
   rw [(pkR_yes HG.out).1, ← lay_end M4.out.ly]
   exact M4.out.pu.byt.own _ (Nat.le_of_lt M4.out.o1) M4.out.ly.1
theorem pkPack_any (l : List Int) (hl : l.length = 25) (h64 : In64 l) (w : World) (hT : TabA w 3 widq 8) : Calls Tryz.prog 36 #[.agg (arrI l)] w (PkP w l) := by
 rcases h : gudP l with _ | _
 ·exact pkPack_no l hl h64 w hT h
 ·exact pkPack_yes l hl h64 w hT h
end Go.Proofs.YtdejpongekicdaaGreatDoor

/- Tabs -/
namespace Go.Proofs.YtdejpongekicdaaGreatDoor
open Go.ChangeShapes Go.WideShapes Go.ChangeAt Go.RowKit
set_option linter.unusedVariables false
theorem tabA_of {H : Type} {enc : TypeId × Value → H} {W : World} {base fuel : Nat} {sp : Nat → Bool} {held : Bool} {x : String} {g n : Nat} {t : TypeId} {zs : List Int} {cs : Array Value} {p : List MemPlace}
  (hg : Tryz.prog.globalNamed x = some g) (hv : W.var? Tryz.prog x = some cs) (ht : Tryz.prog.underlying t = some (.array n 3)) (hct : Tryz.prog.cellsOf t = n) (hd : DataW.trod enc Tryz.prog W base sp held fuel t cs.toList = some (Lib.tabData .i64 zs, p)) :
  TabA W g zs zs.length := fun i hi => by
 have e := Lib.cells_of_tab ht Tryz.underlying3 (show Tryz.prog.cellsOf 3 = 1 by kernel_rfl) hct hd
 have k : Lib.TabIs Tryz.prog W x .i64 zs := by unfold Lib.TabIs; rw [hv, ← e]
 exact k.cell hg i hi
end Go.Proofs.YtdejpongekicdaaGreatDoor
