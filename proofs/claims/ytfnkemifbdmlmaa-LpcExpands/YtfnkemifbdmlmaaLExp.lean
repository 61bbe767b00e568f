/- The walks of LpcExpands and LpcMixes out of the contracts. -/
import Derived.Test.YtfnkemifbdmlmaaLpcB
import Derived.Test.YtfnkemifbdmlmaaRefMix
namespace Go.Proofs.Ytfnkemifbdmlmaa
open Go.RowKit
set_option linter.unusedVariables false
set_option linter.unusedSimpArgs false
set_option maxHeartbeats 1000000

theorem build9_4096 (u : World) : Sem.run Try.prog (Instr.build 22 #[(0, .int .i64 4096)]) u = .ok (.agg (arrI [4096, 0, 0, 0, 0, 0, 0, 0, 0])) u := run_build u 22 _ (arrI [4096, 0, 0, 0, 0, 0, 0, 0, 0]) (by kernel_rfl)
set_option maxRecDepth 100000 in
theorem law_expands (w : World) (a : List Int) (ha : a.length = 9) (ha64 : In64 a) (g : Int) (wf : (Lit.int IntKind.i64 g).wf = true) :
    Calls Try.prog 5 #[.agg (arrI a), .int .i64 g] w fun e w' => e = .returned (.bool true) ∧ Below w.heap.size w w' := by
  have HF := hide (expand_any a ha g)
  have HR := hide (refExpand_any a ha g)
  have HC := hide (expand_any [4096, 0, 0, 0, 0, 0, 0, 0, 0] rfl 0)
  have B0 := hide (Blk.new w 22 a)
  have G0 := hide (grown_alloc w (.cells (arrI a) 22) none)
  have hL := expL_len a g
  have hZ := expL_len [4096, 0, 0, 0, 0, 0, 0, 0, 0] 0
  have z0 : nth (expL [4096, 0, 0, 0, 0, 0, 0, 0, 0] 0) 0 = 4096 := by decide
  generalize expL [4096, 0, 0, 0, 0, 0, 0, 0, 0] 0 = Z at *
  generalize expE [4096, 0, 0, 0, 0, 0, 0, 0, 0] 0 = ez at *
  generalize expL a g = L at *
  generalize expE a g = en at *
  have heq := eq_arr L Try.underlying22 hL 9998
  have hbd := build9_4096
  go_enter Try.func5, Try.ntmps5
  go_wp2_with (refine wpList_load_arr rfl 22 _ rfl _ rfl _ B0.out _ Try.underlying22 rfl (by rw [ha]; exact size9') ?_)
  generalize w.alloc (.cells (arrI a) 22) = w1 at *
  refine (HF.out w1).mono ?_
  rintro e w2 ⟨rfl, g2⟩
  obtain ⟨b1, b2, b3⟩ := fresh_arr w2 22 9 L hL
  have B1 := hide b1
  have B2 := hide b2
  have B3 := hide (grown_none (grown_none G0.out g2) b3)
  have A3 := hide ((B0.out.keep g2).keep b3)
  rw [z9'] at B1 B2 B3 A3
  clear g2 HF G0 B0 b1 b2 b3
  go_wp2_with (first | refine wpList_store_arr rfl 22 _ _ rfl _ (zeros 9) L rfl rfl B1.out (by rw [hL, zeros_len]) (by rw [zeros_len]; exact size9') ?_ | refine wpList_load_arr rfl 22 _ rfl _ rfl _ A3.out _ Try.underlying22 rfl (by rw [ha]; exact size9') ?_)
  clear B1
  generalize putArr _ w2.heap.size L = w3 at *
  generalize w2.heap.size = p3 at *
  refine (HR.out w3).mono ?_
  rintro e w4 ⟨rfl, g4⟩
  obtain ⟨c1, c2, c3⟩ := fresh_arr w4 22 9 L hL
  have C1 := hide c1
  have C2 := hide c2
  have C3 := hide (grown_none B3.out (grown_none g4 c3))
  have D3 := hide (B2.out.keep (grown_none g4 c3))
  rw [z9'] at C1 C2 C3 D3
  clear g4 c1 c2 c3 HR B2 B3 A3
  go_wp2_with (refine wpList_store_arr rfl 22 _ _ rfl _ (zeros 9) L rfl rfl C1.out (by rw [hL, zeros_len]) (by rw [zeros_len]; exact size9') ?_)
  clear C1 hbd
  generalize putArr _ w4.heap.size L = w5 at *
  generalize w4.heap.size = p5 at *
  refine (HC.out w5).mono ?_
  rintro e w6 ⟨rfl, g6⟩
  obtain ⟨d1, d2, d3⟩ := fresh_arr w6 22 9 Z hZ
  have g7 := grown_none g6 d3
  have E1 := hide d1
  have E2 := hide d2
  have E3 := hide (grown_none C3.out g7)
  have F3 := hide (D3.out.keep g7)
  have F5 := hide (C2.out.keep g7)
  rw [z9'] at E1 E2 E3 F3 F5
  clear g6 g7 d1 d2 d3 HC C2 C3 D3
  have e0 := E2.out.cell 0 (by omega)
  rw [z0] at e0
  go_wp2_with (first | refine wpList_store_arr rfl 22 _ _ rfl _ (zeros 9) Z rfl rfl E1.out (by rw [hZ, zeros_len]) (by rw [zeros_len]; exact size9') ?_ | refine wpList_load_arr rfl 22 _ rfl _ rfl _ F3.out _ Try.underlying22 rfl (by rw [hL]; exact size9') ?_ | refine wpList_load_arr rfl 22 _ rfl _ rfl _ F5.out _ Try.underlying22 rfl (by rw [hL]; exact size9') ?_)
  go_ret
  exact ⟨rfl, below_of_grown E3.out⟩
theorem build8_8 (u : World) : Sem.run Try.prog (Instr.build 23 #[(0, .int .i64 8)]) u = .ok (.agg (arrI [8, 0, 0, 0, 0, 0, 0, 0])) u := run_build u 23 _ (arrI [8, 0, 0, 0, 0, 0, 0, 0]) (by kernel_rfl)
set_option maxRecDepth 100000 in
theorem law_mixes (w : World) (a : List Int) (ha : a.length = 8) (ha64 : In64 a) (b : List Int) (hb : b.length = 8) (hb64 : In64 b) (num : Int) (wf : (Lit.int IntKind.i64 num).wf = true) :
    Calls Try.prog 6 #[.agg (arrI a), .agg (arrI b), .int .i64 num] w fun e w' => e = .returned (.bool true) ∧ Below w.heap.size w w' := by
  have HF := hide (mix_any a b ha hb num)
  have HR := hide (refMix_any a b ha hb num)
  have HC := hide (mix_any [8, 0, 0, 0, 0, 0, 0, 0] (zeros 8) rfl (zeros_len 8) 0)
  have L0 := hide (laid2 w 23 23 a b)
  have hL := mixL_len a b num
  have hZ := mixL_len [8, 0, 0, 0, 0, 0, 0, 0] (zeros 8) 0
  have z0 : nth (mixL [8, 0, 0, 0, 0, 0, 0, 0] (zeros 8) 0) 0 = 8 := by decide
  generalize mixL [8, 0, 0, 0, 0, 0, 0, 0] (zeros 8) 0 = Z at *
  generalize mixE [8, 0, 0, 0, 0, 0, 0, 0] (zeros 8) 0 = ez at *
  generalize mixL a b num = L at *
  generalize mixE a b num = en at *
  have heq := eq_arr L Try.underlying23 hL 9998
  have hbd := build8_8
  have hbd' := build8
  go_enter Try.func6, Try.ntmps6
  go_wp2_with (first | refine wpList_load_arr rfl 23 _ rfl _ rfl _ L0.out.1 _ Try.underlying23 rfl (by rw [ha]; exact size8') ?_ | refine wpList_load_arr rfl 23 _ rfl _ rfl _ L0.out.2.1 _ Try.underlying23 rfl (by rw [hb]; exact size8') ?_)
  generalize (w.alloc (.cells (arrI a) 23)).alloc _ = w1 at *
  refine (HF.out w1).mono ?_
  rintro e w2 ⟨rfl, g2⟩
  obtain ⟨b1, b2, b3⟩ := fresh_arr w2 23 8 L hL
  have B1 := hide b1
  have B2 := hide b2
  have B3 := hide (grown_none (grown_none L0.out.2.2 g2) b3)
  have A3 := hide ((L0.out.1.keep g2).keep b3)
  have A4 := hide ((L0.out.2.1.keep g2).keep b3)
  rw [z8'] at B1 B2 B3 A3 A4
  clear g2 HF L0 b1 b2 b3
  go_wp2_with (first | refine wpList_store_arr rfl 23 _ _ rfl _ (zeros 8) L rfl rfl B1.out (by rw [hL, zeros_len]) (by rw [zeros_len]; exact size8') ?_ | refine wpList_load_arr rfl 23 _ rfl _ rfl _ A3.out _ Try.underlying23 rfl (by rw [ha]; exact size8') ?_ | refine wpList_load_arr rfl 23 _ rfl _ rfl _ A4.out _ Try.underlying23 rfl (by rw [hb]; exact size8') ?_)
  clear B1
  generalize putArr _ w2.heap.size L = w3 at *
  generalize w2.heap.size = p3 at *
  refine (HR.out w3).mono ?_
  rintro e w4 ⟨rfl, g4⟩
  obtain ⟨c1, c2, c3⟩ := fresh_arr w4 23 8 L hL
  have C1 := hide c1
  have C2 := hide c2
  have C3 := hide (grown_none B3.out (grown_none g4 c3))
  have D3 := hide (B2.out.keep (grown_none g4 c3))
  rw [z8'] at C1 C2 C3 D3
  clear g4 c1 c2 c3 HR B2 B3 A3 A4
  go_wp2_with (refine wpList_store_arr rfl 23 _ _ rfl _ (zeros 8) L rfl rfl C1.out (by rw [hL, zeros_len]) (by rw [zeros_len]; exact size8') ?_)
  clear C1 hbd hbd'
  generalize putArr _ w4.heap.size L = w5 at *
  generalize w4.heap.size = p5 at *
  refine (HC.out w5).mono ?_
  rintro e w6 ⟨rfl, g6⟩
  obtain ⟨d1, d2, d3⟩ := fresh_arr w6 23 8 Z hZ
  have g7 := grown_none g6 d3
  have E1 := hide d1
  have E2 := hide d2
  have E3 := hide (grown_none C3.out g7)
  have F3 := hide (D3.out.keep g7)
  have F5 := hide (C2.out.keep g7)
  rw [z8'] at E1 E2 E3 F3 F5
  clear g6 g7 d1 d2 d3 HC C2 C3 D3
  have e0 := E2.out.cell 0 (by omega)
  rw [z0] at e0
  go_wp2_with (first | refine wpList_store_arr rfl 23 _ _ rfl _ (zeros 8) Z rfl rfl E1.out (by rw [hZ, zeros_len]) (by rw [zeros_len]; exact size8') ?_ | refine wpList_load_arr rfl 23 _ rfl _ rfl _ F3.out _ Try.underlying23 rfl (by rw [hL]; exact size8') ?_ | refine wpList_load_arr rfl 23 _ rfl _ rfl _ F5.out _ Try.underlying23 rfl (by rw [hL]; exact size8') ?_)
  go_ret
  exact ⟨rfl, below_of_grown E3.out⟩
end Go.Proofs.Ytfnkemifbdmlmaa
