/- The walk of PulsesEnergies out of the contracts. -/
import Derived.Test.YtdeappknlcmbbaaRefPulB
import Derived.Test.YtdeappknlcmbbaaPulEn
import Derived.Test.YtdeappknlcmbbaaIntsA
import Derived.BigQuiet
import Derived.Deep.QuietTactic
namespace Go.Proofs.Ytdeappknlcmbbaa
open Go.RowKit
set_option linter.unusedVariables false
set_option linter.unusedSimpArgs false
set_option maxHeartbeats 1000000

theorem one_en : onV ((zeros 40).set 0 1) 3 3 = 1 := by decide +kernel
set_option maxRecDepth 100000 in
theorem law_energies (w : World) (v : Value) (r : List Int) (hi : Ints w v r) (hl : r.length * 8 ≤ 140737488351232) (hl64 : In64 r) (hsh : Shp v r) (a : Int) (wa : (Lit.int IntKind.i64 a).wf = true) (b : Int) (wb : (Lit.int IntKind.i64 b).wf = true) :
    Calls Try.prog 5 #[v, .int .i64 a, .int .i64 b] w fun e w' => e = .returned (.bool true) ∧ Below w.heap.size w w' := by
  have IV := hide (ints_any v r w hi (by omega))
  have HP := hide (fun wr v' (h : Ints wr v' r) => pulEnergy_any v' r a b wr h (by omega))
  have HR := hide (fun wr (g : w.grownBy wr none) => refEnergy_any v r a b wr (Ints_keep hi g) (by omega) hl64)
  have HC := hide (fun wr v' (h : Ints wr v' ((zeros 40).set 0 1)) => pulEnergy_any v' ((zeros 40).set 0 1) 3 3 wr h (by simp [zeros]))
  rw [one_en] at HC
  have LS := hide (show ((zeros 40).set 0 1).length = 40 by simp [zeros])
  generalize onE ((zeros 40).set 0 1) 3 3 = e3 at *
  generalize onV r a b = x at *
  generalize onE r a b = y at *
  have hmk := make_zeros 40 (by omega)
  rw [show ((40 : Nat) : Int) = 40 from rfl] at hmk
  obtain ⟨ad, c, rfl, _, _⟩ := hi
  clear hl hl64 hsh wa wb
  go_enter Try.func5, Try.ntmps5
  go_wp2_with fail
  refine IV.out.mono ?_
  rintro e w1 ⟨v1, rfl, o1, g1⟩
  have O1 := hide (show Own w.heap.size w1 v1 r from o1)
  have G1 := hide g1
  clear o1 g1 IV
  go_wp2_with fail
  refine (HP.out w1 v1 O1.out.ints).mono ?_
  rintro e w2 ⟨rfl, g2⟩
  have G2 := hide (grown_none G1.out g2)
  clear g2 G1 O1 HP
  go_wp2_with fail
  refine (HR.out w2 G2.out).mono ?_
  rintro e w3 ⟨rfl, g3⟩
  have G3 := hide (grown_none G2.out g3)
  clear g3 G2 HR
  go_upto_region 4 with fail
  have ga := grown_alloc w3 (.cells (arrI (zeros 40)) 3) none
  have B4 := hide (Blk.new w3 3 (zeros 40))
  have G4 := hide (grown_none G3.out ga)
  have L4 := hide (show w.heap.size ≤ w3.heap.size from G3.out.size)
  clear ga G3 hmk
  generalize w3.alloc (.cells (arrI (zeros 40)) 3) = W4 at *
  generalize w3.heap.size = bb at *
  have cd := B4.out.cell 0 (by rw [zeros_len]; omega)
  have fd := B4.out.free 0
  rw [zeros_nth] at cd
  have B5 := hide (B4.out.set 0 1)
  have G5 := hide (grown_own G4.out (grown_setCell W4 ⟨bb, 0, none⟩ (.int .i64 1)) L4.out)
  clear B4 G4
  go_upto_region 5 with fail
  generalize W4.setCell ⟨bb, 0, none⟩ (.int .i64 1) = W5 at *
  clear cd fd
  have C1 := hide (HC.out W5 _ (ints40r B5.out LS.out))
  clear HC B5
  go_wp2_with fail
  refine C1.out.mono ?_
  rintro e w6 ⟨rfl, g6⟩
  have GF := hide (grown_none G5.out g6)
  clear g6 G5 C1
  go_wp2_with fail
  go_ret
  exact ⟨rfl, below_of_grown GF.out⟩
end Go.Proofs.Ytdeappknlcmbbaa
