/- The walk of QuantAlls out of the contracts. -/
import Derived.Test.YtilomkjjflcdjaaDoorQuantC
namespace Go.Proofs.YtilomkjjflcdjaaDoor
open Go.RowKit
set_option linter.unusedVariables false
set_option linter.unusedSimpArgs false
set_option maxHeartbeats 1000000

def k32 : List Int := [32000, 0, 0, 0, 0, 0, 0, 0]
theorem build8_32 (u : World) : Sem.run Tryd.prog (Instr.build 27 #[(0, .int .i64 32000)]) u = .ok (.agg (arrI k32)) u := run_build u 27 _ (arrI k32) (by kernel_rfl)
theorem k32_ok : firstE (fun i => oneX i (nth k32 i)) 8 = 0 := by decide
theorem k32_top : nth (eachL (fun i => oneV i (nth k32 i)) (fun i => oneX i (nth k32 i))) 0 = 63 := by
  unfold eachL
  rw [if_pos k32_ok]
  show ((one 6 32000 : Nat) : Int) = 63
  rw [one_top]; rfl
set_option maxRecDepth 100000 in
theorem law_alls (w : World) (hV : TabA w 0 wids 8) (a : Addr) (c : Nat) (hS : TabS w 1 a c wids 8) (l : List Int) (hl : l.length = 8) (h64 : In64 l) :
    Calls Tryd.prog 5 #[.agg (arrI l)] w fun e w' => e = .returned (.bool true) ∧ Below w.heap.size w w' := by
  have HA := hide (fun wr (g : w.grownBy wr none) => All_any l hl wr (Wide_keep (Wide_tab hV) g))
  have HB := hide (fun wr (g : w.grownBy wr none) => refAll_any l hl a c wr (WideR_keep hS g))
  have HC := hide (fun wr (g : w.grownBy wr none) => Values_any l hl wr (Wide_keep (Wide_tab hV) g))
  have HD := hide (fun wr (g : w.grownBy wr none) => refValues_any l hl a c wr (WideR_keep hS g))
  have HE := hide (fun wr (g : w.grownBy wr none) => All_any k32 rfl wr (Wide_keep (Wide_tab hV) g))
  have B0 := hide (Blk.new w 27 l)
  have G0 := hide (grown_alloc w (.cells (arrI l) 27) none)
  clear hV hS
  have hL := eachL_len (fun i => oneV i (nth l i)) (fun i => oneX i (nth l i))
  have hM := eachL_len (fun i => levV i (nth l i)) (fun i => levX i (nth l i))
  have hZ := eachL_len (fun i => oneV i (nth k32 i)) (fun i => oneX i (nth k32 i))
  have z0 := k32_top
  generalize eachL (fun i => oneV i (nth k32 i)) (fun i => oneX i (nth k32 i)) = Z at *
  generalize firstE (fun i => oneX i (nth k32 i)) 8 = ez at *
  generalize eachL (fun i => oneV i (nth l i)) (fun i => oneX i (nth l i)) = L at *
  generalize firstE (fun i => oneX i (nth l i)) 8 = en at *
  generalize eachL (fun i => levV i (nth l i)) (fun i => levX i (nth l i)) = M at *
  generalize firstE (fun i => levX i (nth l i)) 8 = em at *
  have heq := eq_arr L Tryd.underlying27 hL 9998
  have heq' := eq_arr M Tryd.underlying27 hM 9998
  have hbd := build8_32
  go_enter Tryd.func5, Tryd.ntmps5
  go_wp2_with (refine wpList_load_arr rfl 27 _ rfl _ rfl _ B0.out _ Tryd.underlying27 rfl (by rw [hl]; exact size8') ?_)
  generalize w.alloc (.cells (arrI l) 27) = w1 at *
  refine (HA.out w1 G0.out).mono ?_
  rintro e w2 ⟨rfl, g2⟩
  obtain ⟨b1, b2, b3⟩ := fresh_arr w2 27 8 L hL
  have NW := hide b1
  have BA := hide b2
  have GG := hide (grown_none (grown_none G0.out g2) b3)
  have BK := hide ((B0.out.keep g2).keep b3)
  rw [z8'] at NW BA GG BK
  clear g2 HA G0 B0 b1 b2 b3
  go_wp2_with (first | refine wpList_store_arr rfl 27 _ _ rfl _ (zeros 8) L rfl rfl NW.out (by rw [hL, zeros_len]) (by rw [zeros_len]; exact size8') ?_ | refine wpList_load_arr rfl 27 _ rfl _ rfl _ BK.out _ Tryd.underlying27 rfl (by rw [hl]; exact size8') ?_)
  clear NW
  generalize putArr _ w2.heap.size L = w3 at *
  generalize w2.heap.size = p3 at *
  refine (HB.out w3 GG.out).mono ?_
  rintro e w4 ⟨rfl, g4⟩
  obtain ⟨b1, b2, b3⟩ := fresh_arr w4 27 8 L hL
  have g5 := grown_none g4 b3
  have NW := hide b1
  have BB := hide b2
  have GH := hide (grown_none GG.out g5)
  have BK' := hide (BK.out.keep g5)
  have BA' := hide (BA.out.keep g5)
  rw [z8'] at NW BB GH BK' BA'
  clear g4 g5 HB GG BK BA b1 b2 b3
  go_wp2_with (first | refine wpList_store_arr rfl 27 _ _ rfl _ (zeros 8) L rfl rfl NW.out (by rw [hL, zeros_len]) (by rw [zeros_len]; exact size8') ?_ | refine wpList_load_arr rfl 27 _ rfl _ rfl _ BK'.out _ Tryd.underlying27 rfl (by rw [hl]; exact size8') ?_)
  clear NW
  generalize putArr _ w4.heap.size L = w5 at *
  generalize w4.heap.size = p5 at *
  refine (HC.out w5 GH.out).mono ?_
  rintro e w6 ⟨rfl, g6⟩
  obtain ⟨b1, b2, b3⟩ := fresh_arr w6 27 8 M hM
  have g7 := grown_none g6 b3
  have NW := hide b1
  have BC := hide b2
  have GI := hide (grown_none GH.out g7)
  have BK := hide (BK'.out.keep g7)
  have BA := hide (BA'.out.keep g7)
  have BB' := hide (BB.out.keep g7)
  rw [z8'] at NW BC GI BK BA BB'
  clear g6 g7 HC GH BK' BA' BB b1 b2 b3
  go_wp2_with (first | refine wpList_store_arr rfl 27 _ _ rfl _ (zeros 8) M rfl rfl NW.out (by rw [hM, zeros_len]) (by rw [zeros_len]; exact size8') ?_ | refine wpList_load_arr rfl 27 _ rfl _ rfl _ BK.out _ Tryd.underlying27 rfl (by rw [hl]; exact size8') ?_)
  clear NW
  generalize putArr _ w6.heap.size M = w7 at *
  generalize w6.heap.size = p7 at *
  refine (HD.out w7 GI.out).mono ?_
  rintro e w8 ⟨rfl, g8⟩
  obtain ⟨b1, b2, b3⟩ := fresh_arr w8 27 8 M hM
  have g9 := grown_none g8 b3
  have NW := hide b1
  have BD := hide b2
  have GJ := hide (grown_none GI.out g9)
  have BA' := hide (BA.out.keep g9)
  have BB := hide (BB'.out.keep g9)
  have BC' := hide (BC.out.keep g9)
  rw [z8'] at NW BD GJ BA' BB BC'
  clear g8 g9 HD GI BK BA BB' BC b1 b2 b3
  go_wp2_with (first | refine wpList_store_arr rfl 27 _ _ rfl _ (zeros 8) M rfl rfl NW.out (by rw [hM, zeros_len]) (by rw [zeros_len]; exact size8') ?_)
  clear NW hbd
  generalize putArr _ w8.heap.size M = w9 at *
  generalize w8.heap.size = p9 at *
  refine (HE.out w9 GJ.out).mono ?_
  rintro e w10 ⟨rfl, g10⟩
  obtain ⟨b1, b2, b3⟩ := fresh_arr w10 27 8 Z hZ
  have g11 := grown_none g10 b3
  have NW := hide b1
  have BE := hide b2
  have GK := hide (grown_none GJ.out g11)
  have BA := hide (BA'.out.keep g11)
  have BB' := hide (BB.out.keep g11)
  have BC := hide (BC'.out.keep g11)
  have BD' := hide (BD.out.keep g11)
  rw [z8'] at NW BE GK BA BB' BC BD'
  clear g10 g11 HE GJ BA' BB BC' BD b1 b2 b3
  have e0 := BE.out.cell 0 (by omega)
  rw [z0] at e0
  go_wp2_with (first | refine wpList_store_arr rfl 27 _ _ rfl _ (zeros 8) Z rfl rfl NW.out (by rw [hZ, zeros_len]) (by rw [zeros_len]; exact size8') ?_ | refine wpList_load_arrG (by first | rfl | (simp [Region.wanted, yielded]; omega)) 27 _ rfl _ rfl _ BA.out _ Tryd.underlying27 rfl (by rw [hL]; exact size8') ?_ | refine wpList_load_arrG (by first | rfl | (simp [Region.wanted, yielded]; omega)) 27 _ rfl _ rfl _ BB'.out _ Tryd.underlying27 rfl (by rw [hL]; exact size8') ?_ | refine wpList_load_arrG (by first | rfl | (simp [Region.wanted, yielded]; omega)) 27 _ rfl _ rfl _ BC.out _ Tryd.underlying27 rfl (by rw [hM]; exact size8') ?_ | refine wpList_load_arrG (by first | rfl | (simp [Region.wanted, yielded]; omega)) 27 _ rfl _ rfl _ BD'.out _ Tryd.underlying27 rfl (by rw [hM]; exact size8') ?_)
  go_ret
  exact ⟨rfl, below_of_grown GK.out⟩
end Go.Proofs.YtilomkjjflcdjaaDoor
