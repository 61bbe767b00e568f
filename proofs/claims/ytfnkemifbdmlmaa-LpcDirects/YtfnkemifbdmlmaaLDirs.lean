/- The walk of LpcDirects out of the contracts. -/
import Derived.Test.YtfnkemifbdmlmaaLpcD
import Derived.Test.YtfnkemifbdmlmaaRefDir
import Derived.Test.YtfnkemifbdmlmaaEndMath
namespace Go.Proofs.Ytfnkemifbdmlmaa
open Go.RowKit
set_option linter.unusedVariables false
set_option linter.unusedSimpArgs false
set_option maxHeartbeats 1000000

set_option maxRecDepth 100000 in
theorem law_directs (w : World) (a : List Int) (ha : a.length = 8) (ha64 : In64 a) :
    Calls Try.prog 4 #[.agg (arrI a)] w fun e w' => e = .returned (.bool true) ∧ Below w.heap.size w w' := by
  have HF := hide (direct_any a ha)
  have HR := hide (refDirect_any a ha)
  have HC := hide (direct_any (zeros 8) (zeros_len 8))
  rw [z8'] at HC
  have B0 := hide (Blk.new w 23 a)
  have G0 := hide (grown_alloc w (.cells (arrI a) 23) none)
  have hL := dirL_len a
  have hZ := dirL_len (zeros 8)
  have z0 : nth (dirL (zeros 8)) 0 = 4096 := by rw [dir_nought]; rfl
  generalize dirL (zeros 8) = Z at *
  generalize dirE (zeros 8) = ez at *
  generalize dirL a = L at *
  generalize dirE a = en at *
  have heq := eq_arr L Try.underlying22 hL 9998
  go_enter Try.func4, Try.ntmps4
  go_wp2_with (refine wpList_load_arr rfl 23 _ rfl _ rfl _ B0.out _ Try.underlying23 rfl (by rw [ha]; exact size8') ?_)
  generalize w.alloc (.cells (arrI a) 23) = w1 at *
  refine (HF.out w1).mono ?_
  rintro e w2 ⟨rfl, g2⟩
  obtain ⟨b1, b2, b3⟩ := fresh_arr w2 22 9 L hL
  have B1 := hide b1
  have B2 := hide b2
  have B3 := hide (grown_none (grown_none G0.out g2) b3)
  have A3 := hide ((B0.out.keep g2).keep b3)
  rw [z9'] at B1 B2 B3 A3
  clear g2 HF G0 B0 b1 b2 b3
  go_wp2_with (first | refine wpList_store_arr rfl 22 _ _ rfl _ (zeros 9) L rfl rfl B1.out (by rw [hL, zeros_len]) (by rw [zeros_len]; exact size9') ?_ | refine wpList_load_arr rfl 23 _ rfl _ rfl _ A3.out _ Try.underlying23 rfl (by rw [ha]; exact size8') ?_)
  clear B1
  generalize putArr _ w2.heap.size L = w3 at *
  generalize w2.heap.size = p3 at *
  refine (HR.out w3).mono ?_
  rintro e w4 ⟨rfl, g4⟩
  obtain ⟨c1, c2, c3⟩ := fresh_arr w4 22 9 L hL
  have C1 := hide c1
  have C2 := hide c2
  have C3 := hide (grown_none B3.out (grown_none g4 c3))
  have D3 := hide (B2.out.keep (grown_none g4 c3))
  rw [z9'] at C1 C2 C3 D3
  clear g4 c1 c2 c3 HR B2 B3 A3
  go_wp2_with (refine wpList_store_arr rfl 22 _ _ rfl _ (zeros 9) L rfl rfl C1.out (by rw [hL, zeros_len]) (by rw [zeros_len]; exact size9') ?_)
  clear C1
  generalize putArr _ w4.heap.size L = w5 at *
  generalize w4.heap.size = p5 at *
  refine (HC.out w5).mono ?_
  rintro e w6 ⟨rfl, g6⟩
  obtain ⟨d1, d2, d3⟩ := fresh_arr w6 22 9 Z hZ
  have g7 := grown_none g6 d3
  have E1 := hide d1
  have E2 := hide d2
  have E3 := hide (grown_none C3.out g7)
  have F3 := hide (D3.out.keep g7)
  have F5 := hide (C2.out.keep g7)
  rw [z9'] at E1 E2 E3 F3 F5
  clear g6 g7 d1 d2 d3 HC C2 C3 D3
  have e0 := E2.out.cell 0 (by omega)
  rw [z0] at e0
  go_wp2_with (first | refine wpList_store_arr rfl 22 _ _ rfl _ (zeros 9) Z rfl rfl E1.out (by rw [hZ, zeros_len]) (by rw [zeros_len]; exact size9') ?_ | refine wpList_load_arr rfl 22 _ rfl _ rfl _ F3.out _ Try.underlying22 rfl (by rw [hL]; exact size9') ?_ | refine wpList_load_arr rfl 22 _ rfl _ rfl _ F5.out _ Try.underlying22 rfl (by rw [hL]; exact size9') ?_)
  go_ret
  exact ⟨rfl, below_of_grown E3.out⟩
end Go.Proofs.Ytfnkemifbdmlmaa
