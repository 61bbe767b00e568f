/- The walk of LpcLevinsons out of the contracts. -/
import Derived.Test.YtfnkemifbdmlmaaLpcE
import Derived.Test.YtfnkemifbdmlmaaRefLev
import Derived.Test.YtfnkemifbdmlmaaEndMath
namespace Go.Proofs.Ytfnkemifbdmlmaa
open Go.RowKit
set_option linter.unusedVariables false
set_option linter.unusedSimpArgs false
set_option maxHeartbeats 1000000

set_option maxRecDepth 100000 in
theorem law_levinsons (w : World) (R : List Int) (hR : R.length = 9) (hR64 : In64 R) :
    Calls Try.prog 3 #[.agg (arrI R)] w fun e w' => e = .returned (.bool true) ∧ Below w.heap.size w w' := by
  have HF := hide (levinson_any R hR)
  have HR := hide (refLevinson_any R hR)
  obtain ⟨Z, hZ⟩ : ∃ Z, Z = top9 := ⟨_, rfl⟩
  have hZl : Z.length = 9 := by subst hZ; rfl
  have HC := hide (levinson_any Z hZl)
  have ZA := hide (show arrI Z = #[.int .i64 1073741824, .int .i64 0, .int .i64 0, .int .i64 0, .int .i64 0, .int .i64 0, .int .i64 0, .int .i64 0, .int .i64 0] by subst hZ; rfl)
  have ZG : levG Z = true := by rw [hZ]; exact top9_goes
  rw [ZG, ZA.out] at HC
  have hz8 := levK_len Z
  have hL := levK_len R
  clear hZ ZG ZA
  generalize levK Z = zk at *
  generalize levE Z = ze at *
  generalize levK R = L at *
  generalize levE R = e at *
  generalize levG R = g at *
  have B0 := hide (Blk.new w 22 R)
  have G0 := hide (grown_alloc w (.cells (arrI R) 22) none)
  have heq := eq_arr L Try.underlying23 hL 9998
  go_enter Try.func3, Try.ntmps3
  go_wp2_with (refine wpList_load_arr rfl 22 _ rfl _ rfl _ B0.out _ Try.underlying22 rfl (by rw [hR]; exact size9') ?_)
  generalize w.alloc (.cells (arrI R) 22) = w1 at *
  refine (HF.out w1).mono ?_
  rintro en w2 ⟨rfl, g2⟩
  obtain ⟨b1, b2, b3⟩ := fresh_arr w2 23 8 L hL
  have B1 := hide b1
  have B2 := hide b2
  have B3 := hide (grown_none (grown_none G0.out g2) b3)
  have A3 := hide ((B0.out.keep g2).keep b3)
  rw [z8'] at B1 B2 B3 A3
  clear g2 HF G0 B0 b1 b2 b3
  go_wp2_with (first | refine wpList_store_arr rfl 23 _ _ rfl _ (zeros 8) L rfl rfl B1.out (by rw [hL, zeros_len]) (by rw [zeros_len]; exact size8') ?_ | refine wpList_load_arr rfl 22 _ rfl _ rfl _ A3.out _ Try.underlying22 rfl (by rw [hR]; exact size9') ?_)
  clear B1
  generalize putArr _ w2.heap.size L = w3 at *
  generalize w2.heap.size = p3 at *
  refine (HR.out w3).mono ?_
  rintro en w4 ⟨rfl, g4⟩
  obtain ⟨c1, c2, c3⟩ := fresh_arr w4 23 8 L hL
  have C1 := hide c1
  have C2 := hide c2
  have C3 := hide (grown_none B3.out (grown_none g4 c3))
  have D3 := hide (B2.out.keep (grown_none g4 c3))
  rw [z8'] at C1 C2 C3 D3
  clear g4 c1 c2 c3 HR B2 B3 A3
  go_wp2_with (refine wpList_store_arr rfl 23 _ _ rfl _ (zeros 8) L rfl rfl C1.out (by rw [hL, zeros_len]) (by rw [zeros_len]; exact size8') ?_)
  clear C1
  generalize putArr _ w4.heap.size L = w5 at *
  generalize w4.heap.size = p5 at *
  refine (HC.out w5).mono ?_
  rintro en w6 ⟨rfl, g6⟩
  obtain ⟨d1, d2, d3⟩ := fresh_arr w6 23 8 zk hz8
  have g7 := grown_none g6 d3
  have E1 := hide d1
  have E3 := hide (grown_none C3.out g7)
  have F3 := hide (D3.out.keep g7)
  have F5 := hide (C2.out.keep g7)
  rw [z8'] at E1 E3 F3 F5
  clear g6 g7 d1 d2 d3 HC C2 C3 D3
  rcases g with _ | _
  all_goals
    go_wp2_with (first | refine wpList_store_arr rfl 23 _ _ rfl _ (zeros 8) zk rfl rfl E1.out (by rw [hz8, zeros_len]) (by rw [zeros_len]; exact size8') ?_ | refine wpList_load_arr rfl 23 _ rfl _ rfl _ F3.out _ Try.underlying23 rfl (by rw [hL]; exact size8') ?_ | refine wpList_load_arr rfl 23 _ rfl _ rfl _ F5.out _ Try.underlying23 rfl (by rw [hL]; exact size8') ?_)
    go_ret
    exact ⟨rfl, below_of_grown E3.out⟩
end Go.Proofs.Ytfnkemifbdmlmaa
