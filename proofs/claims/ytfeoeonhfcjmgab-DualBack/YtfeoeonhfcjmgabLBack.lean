/- The walk of DualBack out of the contracts. -/
import Derived.Test.YtfeoeonhfcjmgabBaseB
import Derived.Test.YtfeoeonhfcjmgabDualB
namespace Go.Proofs.Ytfeoeonhfcjmgab
open Go.RowKit
set_option maxHeartbeats 1000000

theorem kept_cell {w w' : World} {x y : Value} {t : TypeId} (h : (w.alloc (.cells #[x, y] t)).grownBy w' none) (i : Nat) : w'.cell? ⟨w.heap.size, i, none⟩ = #[x, y][i]? := by
  have e : w'.heap[w.heap.size]? = some (.cells #[x, y] t (0, 0)) := by rw [h.block _ (lt_of_some (heap_new w _)) (by simp)]; exact heap_new w _
  exact cell_of_heap e i
theorem field_hi (x y : Int) (w : World) : Sem.run Try.prog (Instr.field 24 (.agg #[.int .i64 x, .int .i64 y]) 0) w = .ok (.int .i64 x) w := by
  simp [Instr.field, go_sem, asAgg]
theorem law_back (a : Int) (w : World) :
    Calls Try.prog 3 #[.int .i64 a] w fun e w' => e = .returned (.bool true) ∧ Below w.heap.size w w' := by
  have s1 : 0 ≤ spotN a 4294967296 := by unfold spotN; omega
  have s2 : spotN a 4294967296 < 4294967296 := by unfold spotN; omega
  obtain ⟨A, hA⟩ : ∃ A, A = spotN a 4294967296 - 2147483648 := ⟨_, rfl⟩
  have ev := even_of A (by omega) (by omega)
  go_enter Try.func3, Try.ntmps3
  go_wp2_with fail
  refine (s32_any _ _).mono ?_
  rintro e w1 ⟨rfl, rfl⟩
  rw [← hA]
  obtain ⟨B, hB⟩ : ∃ B, B = A / 2 * 2 := ⟨_, rfl⟩
  rw [← hB] at ev
  have b1 : -2147483648 ≤ B := by omega
  have b2 : B ≤ 2147483647 := by omega
  have eH : splitH B = B / 65536 := by unfold splitH; rw [c32_id B b1 b2]
  have eL : splitL B = B % 65536 / 2 := by unfold splitL; rw [c32_id B b1 b2]
  have h1 : -32768 ≤ splitH B := by omega
  have h2 : splitH B ≤ 32767 := by omega
  have h3 : 0 ≤ splitL B := by omega
  have h4 : splitL B ≤ 32767 := by omega
  have h5 : splitH B * 65536 + splitL B * 2 = B := by omega
  have SP := hide (split_any B)
  have EV := hide ev
  clear hA hB eH eL ev s1 s2
  generalize splitH B = H at *
  generalize splitL B = L at *
  go_wp2_with fail
  rw [EV.out]
  refine (SP.out _).mono ?_
  rintro e w2 ⟨rfl, g2⟩
  have G2 := hide g2
  clear g2
  go_wp2_with fail
  refine (join_yes H L h1 h2 h3 h4 _).mono ?_
  rintro e w3 ⟨rfl, g3⟩
  rw [h5]
  have c1 := kept_cell g3 1
  have G3 := hide (grown_none (grown_none G2.out (grown_alloc _ _ none)) g3)
  clear g3 h1 h2 h5 EV SP G2
  have SQ := hide (split_any 65536)
  rw [show splitH 65536 = 1 by decide, show splitL 65536 = 0 by decide] at SQ
  go_wp2_with fail
  refine (SQ.out _).mono ?_
  rintro e w4 ⟨rfl, g4⟩
  have G4 := hide (below_of_grown (grown_none G3.out g4))
  clear g4 G3 SQ
  have FH := field_hi 1 0
  go_wp2_with fail
  go_ret
  exact ⟨rfl, G4.out⟩
end Go.Proofs.Ytfeoeonhfcjmgab
