/- Texts put together: PkpD, EncEq, PktE, BaseB, KeepL, Opens, Tabs. -/
import Derived.Test.YtihphpcgjeokmaaGreatDoorBun3
import Derived.Laws.StructEq
import Derived.Laws.BytesArg
import Derived.Test.YtihphpcgjeokmaaGreatDoorBun1
import Derived.Test.YtihphpcgjeokmaaGreatDoorBun4
import Derived.BigQuiet
import Derived.Deep.QuietTactic
import Derived.ProofKit
import Derived.OpenShut
import Derived.SizedLaws
import Derived.Carry
import Derived.Test.YtihphpcgjeokmaaGreatDoorBun2
import Derived.LaidMore
import Derived.Stop.Joined
import Derived.Lib.LaidTab
/- PkpD -/
namespace Go.Proofs.YtihphpcgjeokmaaGreatDoor
open Go.RowKit
set_option linter.unusedVariables false
set_option linter.unusedSimpArgs false
set_option maxHeartbeats 1000000
theorem BlB.own {w : World} {b : Nat} {B : List Int} (h : BlB w b B) (base : Nat) (hb : base ≤ b) (hl : B.length = 15) : OwnB base w (.slice (some ⟨b, 0, none⟩) 15 15) B :=
  ⟨by simp [hl], .inr ⟨b, 15, arrB B, by rw [hl], hb, h, by omega, by unfold maxLen; omega, by simp [arrB, hl], by simp [arrB, hl]; exact List.take_of_length_le (by simp [hl])⟩⟩
theorem pkPutter_any (ad : Addr) (n c : Nat) (w : World) :
    Calls Tryz.prog 45 #[.slice (some ad) n c] w fun e w' => e = .returned (.func (.func 87) #[] #[.pointer (some ⟨w.heap.size, 0, none⟩), .pointer (some ⟨w.heap.size + 1, 0, none⟩)]) ∧ w'.cell? ⟨w.heap.size, 0, none⟩ = some (.slice (some ad) n c) ∧ w'.heap[w.heap.size + 1]? = some (.cells #[.int .i64 0] 3 (0, 0)) ∧ w.grownBy w' none := by
  have c0 := cell_of_heap (heap_new w (.cells #[.slice (some ad) n c] 39)) 0
  have GG := hide (show w.grownBy ((w.alloc (.cells #[.slice (some ad) n c] 39)).alloc (.cells #[.int .i64 0] 3)) none from grown_none (grown_alloc _ _ none) (grown_alloc _ _ none))
  have c1 := grown_keep (grown_alloc (w.alloc (.cells #[.slice (some ad) n c] 39)) (.cells #[.int .i64 0] 3) none) c0
  have c2 := heap_new (w.alloc (.cells #[.slice (some ad) n c] 39)) (.cells #[.int .i64 0] 3)
  rw [show (w.alloc (.cells #[.slice (some ad) n c] 39)).heap.size = w.heap.size + 1 by simp] at c2
  have C1 := hide c1
  have C2 := hide c2
  clear c0 c1 c2
  go_enter Tryz.func45, Tryz.ntmps45
  go_wp2_with fail
  go_ret
  exact ⟨rfl, C1.out, C2.out, GG.out⟩
structure PkS (w : World) (l : List Int) (bb cb ca base g cap m : Nat) (N : Int) (B : List Int) (wr : World) : Prop where
  pk : Blk wr w.heap.size 59 l
  fl : OwnF base wr (.slice (some ⟨g, 0, none⟩) 25 cap) 25 (flF w.heap.size 25)
  pu : PutS cb ca bb m B wr
  ly : Lay m N B
  gr : w.grownBy wr none
  o1 : w.heap.size < bb
  o2 : bb < cb
  o3 : cb < ca
  o4 : ca < base
theorem PkS.keep {w : World} {l : List Int} {bb cb ca base g cap m : Nat} {N : Int} {B : List Int} {wr wr' : World} (h : PkS w l bb cb ca base g cap m N B wr) (k : wr.grownBy wr' none) : PkS w l bb cb ca base g cap m N B wr' :=
  ⟨h.pk.keep k, h.fl.keep k, h.pu.keep k, h.ly, grown_none h.gr k, h.o1, h.o2, h.o3, h.o4⟩
theorem PkS.put {w : World} {l : List Int} {bb cb ca base g cap m m' : Nat} {N N' : Int} {B B' : List Int} {wr wr' : World} (h : PkS w l bb cb ca base g cap m N B wr) (t : Trp (fun i => i = ca ∨ i = bb) wr wr') (p : PutS cb ca bb m' B' wr') (y : Lay m' N' B') : PkS w l bb cb ca base g cap m' N' B' wr' := by
  have q1 := h.o1
  have q2 := h.o2
  have q3 := h.o3
  have q4 := h.o4
  exact ⟨h.pk.trp t (by omega), h.fl.trp t (fun g hg => by omega), p, y, Trp.none h.gr t (fun i e => by omega), q1, q2, q3, q4⟩
set_option maxRecDepth 100000 in
theorem pkPack_no (l : List Int) (hl : l.length = 25) (h64 : In64 l) (w : World) (hT : TabA w 0 widq 8) (hg : gudP l = false) : Calls Tryz.prog 25 #[.agg (arrI l)] w (PkP w l) := by
  have P0 := hide (Blk.new w 59 l)
  have G0 := hide (grown_alloc w (.cells (arrI l) 59) none)
  have GD := hide (pkGood_any l hl h64 (w.alloc (.cells (arrI l) 59)) (TabA_keep hT G0.out))
  rw [hg] at GD
  have HG := hide hg
  have S25 := hide (show (Tryz.prog.info? 59).map (·.size) = some l.length by rw [hl]; exact size25)
  obtain ⟨T, hTT⟩ : ∃ T : Ending → World → Prop, PkP w l = T := ⟨_, rfl⟩
  rw [hTT]
  have HTT := hide hTT
  clear hTT hl h64 hT hg
  go_enter Tryz.func25, Tryz.ntmps25
  go_upto_region 1 with fail
  generalize w.alloc (.cells (arrI l) 59) = W0 at *
  go_wp2_with (refine wpList_load_arr rfl 59 _ rfl w.heap.size rfl l P0.out _ Tryz.underlying59 rfl S25.out ?_)
  refine GD.out.mono ?_
  rintro e W1 ⟨rfl, g1⟩
  have GR := hide (grown_none G0.out g1)
  clear GD g1 P0
  go_wp2_with fail
  rw [← HTT.out]
  exact ⟨.slice none 0 0, by rw [(pkR_no HG.out).2]; rfl, by rw [(pkR_no HG.out).1]; exact OwnB_nil _ _, GR.out⟩
set_option maxRecDepth 100000 in
theorem pkPack_yes (l : List Int) (hl : l.length = 25) (h64 : In64 l) (w : World) (hT : TabA w 0 widq 8) (hg : gudP l = true) : Calls Tryz.prog 25 #[.agg (arrI l)] w (PkP w l) := by
  have P0 := hide (Blk.new w 59 l)
  have G0 := hide (grown_alloc w (.cells (arrI l) 59) none)
  have Z0 := hide (show (w.alloc (.cells (arrI l) 59)).heap.size = w.heap.size + 1 by simp)
  have GD := hide (pkGood_any l hl h64 (w.alloc (.cells (arrI l) 59)) (TabA_keep hT G0.out))
  rw [hg] at GD
  have HG := hide hg
  have HL := hide hl
  have H64 := hide h64
  have HT := hide hT
  have S25 := hide (show (Tryz.prog.info? 59).map (·.size) = some l.length by rw [hl]; exact size25)
  have hmk := make_byt 15 (by omega) (by omega)
  rw [show (15 : Int).toNat = 15 from rfl, show List.replicate 15 (0 : Int) = zeros 15 from rfl] at hmk
  obtain ⟨T, hTT⟩ : ∃ T : Ending → World → Prop, PkP w l = T := ⟨_, rfl⟩
  rw [hTT]
  have HTT := hide hTT
  clear hTT hl h64 hT hg
  go_enter Tryz.func25, Tryz.ntmps25
  go_upto_region 1 with fail
  generalize w.alloc (.cells (arrI l) 59) = W0 at *
  go_wp2_with (refine wpList_load_arr rfl 59 _ rfl w.heap.size rfl l P0.out _ Tryz.underlying59 rfl S25.out ?_)
  refine GD.out.mono ?_
  rintro e W1 ⟨rfl, g1⟩
  have GR := hide (grown_none G0.out g1)
  have P1 := hide (P0.out.keep g1)
  have Z1 := hide (show w.heap.size < W1.heap.size by have := g1.size; have := Z0.out; omega)
  clear GD g1 P0 G0 Z0
  go_upto_region 4 with fail
  clear hmk
  have B2 := hide (show BlB (W1.alloc (.cells (arrB (zeros 15)) 5)) W1.heap.size (zeros 15) from heap_new _ _)
  have G2 := hide (grown_alloc W1 (.cells (arrB (zeros 15)) 5) none)
  have Z2 := hide (show (W1.alloc (.cells (arrB (zeros 15)) 5)).heap.size = W1.heap.size + 1 by simp)
  generalize W1.alloc (.cells (arrB (zeros 15)) 5) = W2 at *
  go_wp2_with fail
  refine (pkPutter_any _ 15 15 W2).mono ?_
  rintro e W3 ⟨rfl, c1, c2, g3⟩
  have PU := hide (show PutS W2.heap.size (W2.heap.size + 1) W1.heap.size 0 (zeros 15) W3 from ⟨c1, c2, B2.out.keep g3, by have := Z2.out; omega, by have := Z2.out; omega, by omega⟩)
  have GR3 := hide (grown_none GR.out (grown_none G2.out g3))
  have P3 := hide (P1.out.keep (grown_none G2.out g3))
  have Z3 := hide (lt_of_some c2)
  clear c1 c2 g3 P1 GR G2 B2
  go_wp2_with fail
  refine (pkFields_any w.heap.size W3 (TabA_keep HT.out GR3.out)).mono ?_
  rintro e W4 ⟨v, rfl, o4, g4⟩
  obtain ⟨g, cap, rfl, _, _⟩ := o4.form (by omega)
  have M0 := hide (show PkS w l W1.heap.size W2.heap.size (W2.heap.size + 1) W3.heap.size g cap (sW 0) (nF l 0) (zeros 15) W4 from ⟨P3.out.keep g4, o4, PU.out.keep g4, Lay_zero, grown_none GR3.out g4, Z1.out, by have := Z2.out; omega, by omega, Z3.out⟩)
  clear P3 PU GR3 Z1 Z2 Z3 o4 g4 HT
  generalize W3.heap.size = base at *
  generalize W2.heap.size = cb at *
  generalize W1.heap.size = bb at *
  go_wp2_with fail
  generalize hca : cb + 1 = ca at *
  clear hca
  go_loopw [16] (fun i wr => ∃ (m : Nat) (B : List Int), i = .int .i64 (m : Int) ∧ m ≤ 25 ∧ Hid (PkS w l bb cb ca base g cap (sW m) (nF l m) B wr)) (fun i _ => 25 - (intOf i).toNat)
  case atStart => exact ⟨0, zeros 15, rfl, Nat.zero_le _, M0.out⟩
  case round =>
    obtain ⟨m, B, rfl, hm, hM⟩ := hrel
    clear M0
    by_cases hm25 : m < 25
    · have i1 : (m : Int) < 25 := by omega
      obtain ⟨c0, c1, c2⟩ := hM.out.fl.fld m hm25
      have cx := hM.out.pk.cell m (by rw [HL.out]; exact hm25)
      have F0 := hide (heap_new wr (.cells #[.pointer (some ⟨w.heap.size, m, none⟩), .int .i64 (wdN m : Int), .int .i64 (moN m)] 84))
      have GA := hide (grown_alloc wr (.cells #[.pointer (some ⟨w.heap.size, m, none⟩), .int .i64 (wdN m : Int), .int .i64 (moN m)] 84) none)
      have cx2 := grown_keep GA.out cx
      have FB := hide (show ca < wr.heap.size ∧ bb < wr.heap.size ∧ w.heap.size < bb ∧ bb < ca from ⟨lt_of_some hM.out.pu.at', lt_of_some hM.out.pu.byt, hM.out.o1, Nat.lt_trans hM.out.o2 hM.out.o3⟩)
      have M1 := hide (hM.out.keep (grown_drew GA.out))
      obtain ⟨x0, x1⟩ := (gudP_iff l).1 HG.out m hm25
      obtain ⟨_, x2, x3⟩ := moN_lt m hm25
      have PC := hide (fun u (h : PkS w l bb cb ca base g cap (sW m) (nF l m) B u) => pkPut_any cb ca bb (sW m) (wdN m) (nF l m) (nth l m) B u (by have := wdN_le m hm25; omega) (by have := sW_le (m + 1) (by omega); rw [sW_next] at this; omega) x0 (by omega) (by omega) h.pu h.ly)
      clear hM x1 x2 x3
      go_upto_region 8 with fail
      generalize wr.alloc (.cells #[.pointer (some ⟨w.heap.size, m, none⟩), .int .i64 (wdN m : Int), .int .i64 (moN m)] 84) = W2' at *
      have f0 : W2'.cell? ⟨wr.heap.size, 0, none⟩ = some (.pointer (some ⟨w.heap.size, m, none⟩)) := cell_of_heap F0.out 0
      have f1 : W2'.cell? ⟨wr.heap.size, 1, none⟩ = some (.int .i64 (wdN m : Int)) := cell_of_heap F0.out 1
      clear c0 c1 c2 cx F0 GA
      generalize wr.heap.size = fb at *
      refine wp_region_held_drew (S := fun u => u.cell? ⟨fb, 0, none⟩ = some (.pointer (some ⟨w.heap.size, m, none⟩)) ∧ u.cell? ⟨fb, 1, none⟩ = some (.int .i64 (wdN m : Int)) ∧ u.cell? ⟨w.heap.size, m, none⟩ = some (.int .i64 (nth l m))) (by kernel_rfl) ⟨f0, f1, cx2⟩ (fun hHeld => ?_)
      clear f0 f1 cx2
      generalize W2'.drew = W3' at *
      refine wpAnyH_take (i := 0) (v := ?vpp0) rfl (by kernel_rfl) (by kernel_rfl) (by kernel_rfl) (fun _ _ _ h => h) (Or.inl ⟨by rfl, ?ypp0⟩) hHeld ?rpp0
      case ypp0 => (intro w' hSw; go_simp; (try with_reducible rfl))
      (try simp only [Act.put, sL])
      refine wpAnyH_take (i := 1) (v := ?vpp1) rfl (by kernel_rfl) (by kernel_rfl) (by kernel_rfl) (fun _ _ _ h => h) (Or.inl ⟨by rfl, ?ypp1⟩) hHeld ?rpp1
      case ypp1 => (intro w' hSw; go_simp; (try with_reducible rfl))
      (try simp only [Act.put, sL])
      refine wpAnyH_take (i := 2) (v := .pointer (some ⟨w.heap.size, m, none⟩)) rfl (by kernel_rfl) (by kernel_rfl) (by kernel_rfl) (fun _ _ _ h => h) (Or.inl ⟨by rfl, ?ypp2⟩) hHeld ?rpp2
      case ypp2 => (intro w' hSw; obtain ⟨q0, q1, q2⟩ := hSw; go_simp; (try with_reducible rfl))
      (try simp only [Act.put, sL])
      refine wpAnyH_take (i := 3) (v := ?vpp3) rfl (by kernel_rfl) (by kernel_rfl) (by kernel_rfl) (fun _ _ _ h => h) (Or.inl ⟨by rfl, ?ypp3⟩) hHeld ?rpp3
      case ypp3 => (intro w' hSw; go_simp; (try with_reducible rfl))
      (try simp only [Act.put, sL])
      refine wpAnyH_take (i := 4) (v := .int .i64 (nth l m)) rfl (by kernel_rfl) (by kernel_rfl) (by kernel_rfl) (fun _ _ _ h => h) (Or.inl ⟨by rfl, ?ypp4⟩) hHeld ?rpp4
      case ypp4 => (intro w' hSw; obtain ⟨q0, q1, q2⟩ := hSw; go_simp; (try with_reducible rfl))
      (try simp only [Act.put, sL])
      refine wpAnyH_take (i := 5) (v := ?vpp5) rfl (by kernel_rfl) (by kernel_rfl) (by kernel_rfl) (fun _ _ _ h => h) (Or.inl ⟨by rfl, ?ypp5⟩) hHeld ?rpp5
      case ypp5 => (intro w' hSw; go_simp; (try with_reducible rfl))
      (try simp only [Act.put, sL])
      refine wpAnyH_take (i := 6) (v := .int .i64 (wdN m : Int)) rfl (by kernel_rfl) (by kernel_rfl) (by kernel_rfl) (fun _ _ _ h => h) (Or.inl ⟨by rfl, ?ypp6⟩) hHeld ?rpp6
      case ypp6 => (intro w' hSw; obtain ⟨q0, q1, q2⟩ := hSw; go_simp; (try with_reducible rfl))
      (try simp only [Act.put, sL])
      refine wpAnyH_ready (rs := [7]) (by kernel_rfl) (by simp) (AllReadyH.cons rfl (fun K hK => ?_) AllReadyH.nil)
      (try simp only [Act.put, sL])
      go_simp
      refine (PC.out W3' M1.out).mono ?_
      rintro e W6 ⟨rfl, B', y', p', t'⟩
      go_wp2_with fail
      refine hK.out _ _ ⟨trp_cell t' hHeld.1 (by have := FB.out; rintro (e | e) <;> omega), trp_cell t' hHeld.2.1 (by have := FB.out; rintro (e | e) <;> omega), trp_cell t' hHeld.2.2 (by have := FB.out; rintro (e | e) <;> omega)⟩ (fun hHeld => ?_)
      clear hK
      (try simp only [Act.put, sL])
      refine wpAnyH_done (by kernel_rfl) ?_ _
      have M2 := hide (show PkS w l bb cb ca base g cap (sW (m + 1)) (nF l (m + 1)) B' W6 from M1.out.put t' p' y')
      clear M1 t' p' y' PC hHeld FB
      go_wp2_with fail
      go_roundw
      case rel => exact ⟨m + 1, B', by go_num, by omega, M2.out⟩
      case measure => first | (simp [intOf]; done) | (simp [intOf]; omega)
    · obtain rfl : m = 25 := by omega
      rw [show ((25 : Nat) : Int) = 25 from rfl]
      rw [sW25] at hM
      go_wp2_with (refine wpList_load_arr rfl 59 _ rfl w.heap.size rfl l hM.out.pk _ Tryz.underlying59 rfl S25.out ?_)
      refine (pkParity_any l HL.out H64.out wr).mono ?_
      rintro e W5 ⟨rfl, g5⟩
      have M1 := hide (hM.out.keep g5)
      obtain ⟨p0, p1⟩ := parL_bd l
      clear hM g5
      go_wp2_with fail
      refine (pkPut_any cb ca bb 106 1 (nF l 25) (parL l) B W5 (by omega) (by omega) p0 (by omega) (by omega) M1.out.pu M1.out.ly).mono ?_
      rintro e W6 ⟨rfl, B6, y6, p6, t6⟩
      have M2 := hide (M1.out.put t6 p6 y6)
      clear M1 y6 p6 t6
      go_wp2_with fail
      refine (pkPut_any cb ca bb 107 5 (nF l 25 * 2 ^ 1 + parL l) 0 B6 W6 (by omega) (by omega) (by omega) (by decide) (by omega) M2.out.pu M2.out.ly).mono ?_
      rintro e W7 ⟨rfl, B7, y7, p7, t7⟩
      rw [show (nF l 25 * 2 ^ 1 + parL l) * 2 ^ 5 + 0 = numP l by unfold numP; rw [show (2 : Int) ^ 1 = 2 from rfl, show (2 : Int) ^ 5 = 32 from rfl, Int.add_zero]] at y7
      have M3 := hide (show PkS w l bb cb ca base g cap 112 (numP l) B7 W7 from M2.out.put t7 p7 y7)
      clear M2 y7 p7 t7
      have BB := hide (fun i => M3.out.ly.bd i)
      have CE := hide (show chN (B7.take 14) 14 = chN (pkL (numP l)) 14 by rw [← lay_sum M3.out.ly]; unfold chN; rw [sumB_congr (B7.take 14) B7 14 (fun i hi => by simp [nth, List.getD, List.getElem?_take, hi])])
      have BY := hide (M3.out.pu.byt.byts 14 (by rw [M3.out.ly.1]; omega) 15 (by omega))
      have YB := hide (show byB (B7.take 14) from fun i => by
        by_cases hi : i < 14
        · have := BB.out i
          simpa [nth, List.getD, List.getElem?_take, hi] using this
        · rw [getD_out _ i (by simp; omega)]; omega)
      go_wp2_with fail
      refine (pkSum_any _ 15 (B7.take 14) W7 BY.out YB.out).mono ?_
      rintro e W8 ⟨rfl, rfl⟩
      rw [CE.out]
      clear CE BY YB BB
      have sb : 0 ≤ chN (pkL (numP l)) 14 ∧ chN (pkL (numP l)) 14 < 256 := by unfold chN; omega
      go_wp2_with fail
      refine (pkPut_any cb ca bb 112 8 (numP l) (chN (pkL (numP l)) 14) B7 W8 (by omega) (by omega) sb.1 (by rw [show (2 : Int) ^ 8 = 256 from rfl]; exact sb.2) sb.2 M3.out.pu M3.out.ly).mono ?_
      rintro e W9 ⟨rfl, B9, y9, p9, t9⟩
      have M4 := hide (M3.out.put t9 p9 y9)
      clear M3 y9 p9 t9
      go_wp2_with fail
      rw [← HTT.out]
      refine ⟨.slice (some ⟨bb, 0, none⟩) 15 15, by rw [(pkR_yes HG.out).2]; rfl, ?_, M4.out.gr⟩
      rw [(pkR_yes HG.out).1, ← lay_end M4.out.ly]
      exact M4.out.pu.byt.own _ (Nat.le_of_lt M4.out.o1) M4.out.ly.1
theorem pkPack_any (l : List Int) (hl : l.length = 25) (h64 : In64 l) (w : World) (hT : TabA w 0 widq 8) : Calls Tryz.prog 25 #[.agg (arrI l)] w (PkP w l) := by
  rcases h : gudP l with _ | _
  · exact pkPack_no l hl h64 w hT h
  · exact pkPack_yes l hl h64 w hT h
end Go.Proofs.YtihphpcgjeokmaaGreatDoor

/- EncEq -/
namespace Go.Proofs.YtihphpcgjeokmaaGreatDoor
set_option maxRecDepth 100000
open Go.RowKit
set_option linter.unusedVariables false
set_option linter.unusedSimpArgs false
set_option maxHeartbeats 4000000
theorem fresh_enc (w : World) (m : List Int) (t : Bool) (hm : m.length = 225) : BlkE (w.alloc (.cells (encC (zeros 225) false).toArray 32)) w.heap.size (zeros 225) false ∧ BlkE (putV (w.alloc (.cells (encC (zeros 225) false).toArray 32)) w.heap.size 0 (encC m t)) w.heap.size m t ∧ w.grownBy (putV (w.alloc (.cells (encC (zeros 225) false).toArray 32)) w.heap.size 0 (encC m t)) none := by
  have B := BlkE.new w (zeros 225) false
  have P := B.putAll (m := m) (t := t) (zeros_len 225) hm
  exact ⟨B, P.1, grown_own (grown_alloc _ _ none) P.2 (Nat.le_refl _)⟩
def begL : List Int := zeros 124 ++ freL
theorem begL_len : begL.length = 225 := by unfold begL; rw [List.length_append, zeros_len, freL_len]
def CBg (f : Nat) (w : World) : Prop := ∀ wr, w.grownBy wr none → Calls Tryz.prog f #[] wr (AnsC wr (encV begL false))
theorem run_build_beg (w : World) : Sem.run Tryz.prog (Instr.build 32 #[(2, memV freL false)]) w = .ok (encV begL false) w := by kernel_rfl
theorem wpList_build_beg {ops : Array Oper} {rest : List Oper} {op : Oper} {a : Act} {w : World} {Q : Exit → Act → World → Prop} (hgd : op.guard = none) (x : Operand) (ho : op.op = .build 32 #[(2, x)]) (hx : a.eval x = memV freL false)
    (k : wpList Tryz.prog ops Q rest (a.put op.dst (encV begL false)) w) : wpList Tryz.prog ops Q (op :: rest) a w := by
  refine wpList_plain hgd fun _ hK => ?_
  unfold Oper.wp execOp
  have e : (#[(2, x)] : Array (Nat × Operand)).map (fun (i, x) => (i, a.eval x)) = #[(2, memV freL false)] := by simp [hx]
  simp only [ho, e, Sem.run_bind, run_build_beg, Result.andThen_ok, Sem.run_pure]
  exact hK _ _ k
end Go.Proofs.YtihphpcgjeokmaaGreatDoor

/- PktE -/
namespace Go.Proofs.YtihphpcgjeokmaaGreatDoor
open Go.RowKit
set_option linter.unusedVariables false
set_option linter.unusedSimpArgs false
set_option maxHeartbeats 4000000
theorem arrI_ext (R : List Int) (a b : Nat) : (arrI R).extract a b = arrI ((R.take b).drop a) := by
  unfold arrI
  rw [List.extract_toArray]
  congr 1
  simp [List.extract_eq_take_drop, List.map_drop, List.map_take]
  try (rw [List.drop_take])
theorem part_arr {T : TypeId} {d : TypeDesc} {s : Nat} (hu : Tryz.prog.underlying T = some d) (hd : (match d with | .struct _ | .array _ _ => true | _ => false) = true) (hs : (Tryz.prog.info? T).map (·.size) = some s) (R : List Int) (k : Nat) (w : World) :
    Sem.run Tryz.prog (part T (arrI R) k) w = .ok (.agg (arrI ((R.take (k + s)).drop k))) w := by
  obtain ⟨i0, hi, hz1⟩ : ∃ i0, Tryz.prog.info? T = some i0 ∧ i0.size = s := by
    cases hq : Tryz.prog.info? T with
    | none => rw [hq] at hs; cases hs
    | some i => exact ⟨i, rfl, by rw [hq] at hs; simpa using hs⟩
  rw [← arrI_ext]
  cases d <;> simp_all [part, isAgg, run_underlying hu, sizeOf, typeInfo, go_sem]
theorem eq_arrOf {T E : TypeId} {n s : Nat} (R : List Int) (hu : Tryz.prog.underlying T = some (.array n E)) (hs : (Tryz.prog.info? E).map (·.size) = some s) (d : Nat) (v : Nat → Value)
    (hp : ∀ i, i < n → ∀ w, Sem.run Tryz.prog (part E (arrI R) (i * s)) w = .ok (v i) w) (he : ∀ i, i < n → ∀ w, Sem.run Tryz.prog (Op.equalIn (d + 1) E (v i) (v i)) w = .ok true w) (w : World) :
    Sem.run Tryz.prog (Op.equalIn (d + 1 + 1) T (.agg (arrI R)) (.agg (arrI R))) w = .ok true w := by
  obtain ⟨i0, hi, hz1⟩ : ∃ i0, Tryz.prog.info? E = some i0 ∧ i0.size = s := by
    cases hq : Tryz.prog.info? E with
    | none => rw [hq] at hs; cases hs
    | some i => exact ⟨i, rfl, by rw [hq] at hs; simpa using hs⟩
  have hL : ∀ L : List Nat, (∀ i ∈ L, i < n) → ∀ u, Sem.run Tryz.prog (forIn (m := Sem) L ((none : Option Bool), PUnit.unit) fun i _ => do
      if (!(← Op.equalIn (d + 1) E (← part E (arrI R) (i * s)) (← part E (arrI R) (i * s)))) = true then pure (ForInStep.done (some false, PUnit.unit)) else pure (ForInStep.yield (none, PUnit.unit))) u = .ok (none, PUnit.unit) u := by
    intro L
    induction L with
    | nil => intro _ u; simp
    | cons i L ih =>
      intro h u
      have h1 := hp i (h i (List.mem_cons_self ..))
      have h2 := he i (h i (List.mem_cons_self ..))
      simp only [List.forIn_cons, Sem.run_bind, h1, Result.andThen_ok, h2, Bool.not_true, Bool.false_eq_true, if_false, Sem.run_pure]
      exact ih (fun j hj => h j (List.mem_cons_of_mem _ hj)) u
  rw [Op.equalIn]
  simp only [Sem.run_bind, run_underlying hu, Result.andThen_ok, sizeOf, typeInfo, run_program, hi, Sem.run_pure, hz1]
  rw [Std.Legacy.Range.forIn_eq_forIn_range']
  have := hL (List.range' [:n].start [:n].size [:n].step) (fun i hi => by simp [Std.Legacy.Range.size] at hi; omega) w
  rw [this]
  rfl
theorem eq_int (d : Nat) (a : Int) (w : World) : Sem.run Tryz.prog (Op.equalIn (d + 1) 3 (.int .i64 a) (.int .i64 a)) w = .ok true w := by
  rw [run_equalIn_int w d 3 .i64 .i64 a a Tryz.underlying3]; simp
theorem p8 : (Tryz.prog.info? 56).map (·.size) = some 8 := by kernel_rfl
theorem p4 : (Tryz.prog.info? 54).map (·.size) = some 4 := by kernel_rfl
theorem eq_sub (d : Nat) (m : List Int) (hm : m.length = 8) (w : World) : Sem.run Tryz.prog (Op.equalIn (d + 1 + 1 + 1) 56 (.agg (arrI m)) (.agg (arrI m))) w = .ok true w := by
  have q0 := part_int m 0 (by omega) w
  have q1 := part_int m 1 (by omega) w
  have q2 := part_arr Tryz.underlying54 rfl p4 m 2 w
  have q6 := part_int m 6 (by omega) w
  have q7 := part_int m 7 (by omega) w
  have e2 := eq_arr ((m.take (2 + 4)).drop 2) Tryz.underlying54 (by simp; omega) d w
  have ei := fun a => eq_int (d + 1) a w
  rw [run_equalIn_struct w (d + 1 + 1) 56 _ _ (by kernel_rfl) (by kernel_rfl)]
  simp [Program.fieldsOf, Tryz.underlying56, Op.eqFields, q0, q1, q2, q6, q7, e2, ei]
theorem eq_subs (d : Nat) (m : List Int) (hm : m.length = 16) (w : World) : Sem.run Tryz.prog (Op.equalIn (d + 1 + 1 + 1 + 1) 57 (.agg (arrI m)) (.agg (arrI m))) w = .ok true w :=
  eq_arrOf m Tryz.underlying57 p8 (d + 1 + 1) (fun i => .agg (arrI ((m.take (i * 8 + 8)).drop (i * 8)))) (fun i _ w => part_arr Tryz.underlying56 rfl p8 m (i * 8) w) (fun i hi w => eq_sub d _ (by simp; omega) w) w
end Go.Proofs.YtihphpcgjeokmaaGreatDoor

/- BaseB -/
namespace Go.Proofs.YtihphpcgjeokmaaGreatDoor

end Go.Proofs.YtihphpcgjeokmaaGreatDoor

/- KeepL -/
namespace Go.Proofs.YtihphpcgjeokmaaGreatDoor
open Go.RowKit
set_option linter.unusedVariables false
set_option linter.unusedSimpArgs false
set_option maxHeartbeats 1000000
theorem list_sameK (a b : List Int) (hl : a.length = b.length) (h : ∀ j, j < b.length → nth a j = nth b j) : decide (a = b) = true := by
  apply decide_eq_true
  apply List.ext_getElem hl
  intro i h1 h2
  have := h i h2
  simpa [nth, List.getD, h1, h2] using this
end Go.Proofs.YtihphpcgjeokmaaGreatDoor

/- Opens -/
namespace Go.Proofs.YtihphpcgjeokmaaGreatDoor
set_option maxRecDepth 100000
open Go.ChangeShapes Go.WideShapes Go.ChangeAt Go.RowKit
set_option linter.unusedVariables false
set_option linter.unusedSimpArgs false
theorem o_own : ownKnob Tryz.prog.godebug = none := by kernel_rfl
theorem o_laidOut : laidOutB Tryz.prog = true := by kernel_rfl
theorem o_cellsInt : Tryz.prog.cellsOf 3 = 1 := by kernel_rfl
theorem o_bytesInt : Tryz.prog.bytesOf 3 = 8 := by kernel_rfl
theorem open_list {H : Type} {enc : TypeId × Value → H} {W : World} {base : Nat} {v : Value} {d : DataW H} {p : List MemPlace} {ts : List TypeId} {ds : List (DataW H)} {j : Nat}
    (hv : Value.okWide Tryz.prog W .any base 36 v) (h : DataW.Trod enc Tryz.prog W 0 (fun _ => true) true 36 v d p) (hsz : (DataW.weightsEach Tryz.prog ts ds).all (· ≤ reachBytes) = true) (ht : ts[j]? = some 36) (hd : ds[j]? = some d) :
    ∃ l : List Int, Ints W v l ∧ l.length * 8 ≤ 140737488351232 ∧ In64 l ∧ (v = .slice none 0 0 ∨ ∃ a c, v = .slice (some a) l.length c) := by
  obtain ⟨a0, len, cap, rfl⟩ := okWide_slice Tryz.underlying36 hv
  obtain ⟨fuel, hf⟩ := h
  rcases open_ints Tryz.underlying36 Tryz.underlying3 o_cellsInt hf with ⟨hcs, hx⟩ | ⟨a, len', cap', zs, hcs, _, hl, hm, hz, hx, hcell, hwz⟩
  · simp [Value.cells] at hcs
    obtain ⟨rfl, rfl, rfl⟩ := hcs
    exact ⟨[], ⟨none, 0, rfl, Nat.le_refl _, fun h => by simp at h⟩, by simp, fun i => by simp [nth], .inl rfl⟩
  · simp [Value.cells] at hcs
    obtain ⟨rfl, rfl, rfl⟩ := hcs
    simp only [Prod.mk.injEq] at hx
    obtain ⟨rfl, rfl⟩ := hx
    simp at hz
    have hs := sized_slice hsz ht hd Tryz.underlying36
    rw [o_bytesInt] at hs
    simp only [lits, List.length_map, List.length_take, List.length_drop, reachBytes] at hs
    have e : (zs.take len).length = len := by simp; omega
    refine ⟨zs.take len, ⟨some a, cap, by rw [e], by rw [e]; exact hl, fun _ => ⟨a, rfl, fun i hi => ?_⟩⟩, by rw [e]; omega, fun i => ?_, .inr ⟨a, cap, by rw [e]⟩⟩
    · rw [e] at hi
      rw [hcell i (by omega)]
      simp [nth, List.getD, List.getElem?_take, hi]
    · by_cases hi : i < (zs.take len).length
      · have hw := hwz ((zs.take len)[i]) (List.mem_of_mem_take (List.getElem_mem hi))
        have := bounds_i64 hw
        rw [show nth (zs.take len) i = (zs.take len)[i] by unfold nth; rw [List.getD, List.getElem?_eq_getElem hi]; rfl]
        exact this
      · rw [getD_out _ i (by omega)]; omega
end Go.Proofs.YtihphpcgjeokmaaGreatDoor

/- Tabs -/
namespace Go.Proofs.YtihphpcgjeokmaaGreatDoor
open Go.ChangeShapes Go.WideShapes Go.ChangeAt Go.RowKit
set_option linter.unusedVariables false
theorem tabA_of {H : Type} {enc : TypeId × Value → H} {W : World} {base fuel : Nat} {sp : Nat → Bool} {held : Bool} {x : String} {g n : Nat} {t : TypeId} {zs : List Int} {cs : Array Value} {p : List MemPlace}
    (hg : Tryz.prog.globalNamed x = some g) (hv : W.var? Tryz.prog x = some cs) (ht : Tryz.prog.underlying t = some (.array n 3)) (hct : Tryz.prog.cellsOf t = n) (hd : DataW.trod enc Tryz.prog W base sp held fuel t cs.toList = some (Lib.tabData .i64 zs, p)) :
    TabA W g zs zs.length := fun i hi => by
  have e := Lib.cells_of_tab ht Tryz.underlying3 (show Tryz.prog.cellsOf 3 = 1 by kernel_rfl) hct hd
  have k : Lib.TabIs Tryz.prog W x .i64 zs := by unfold Lib.TabIs; rw [hv, ← e]
  exact k.cell hg i hi
end Go.Proofs.YtihphpcgjeokmaaGreatDoor
