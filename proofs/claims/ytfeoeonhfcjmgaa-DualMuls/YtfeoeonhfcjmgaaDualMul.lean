/- The contract of dual.Mul. -/
import Derived.Test.YtfeoeonhfcjmgaaBaseB
import Derived.Test.YtfeoeonhfcjmgaaDualB
import Derived.Test.YtfeoeonhfcjmgaaGrow
namespace Go.Proofs.Ytfeoeonhfcjmgaa
open Go.RowKit
set_option linter.unusedVariables false
set_option maxHeartbeats 1000000

def mulA (p q : Int) : Int := c32 (2 * c16 p * c16 q)
def mulP (p q : Int) : Int := c16 (c16 p * c16 q / 32768)
def macN (c p : Int) : Int := c32 (c32 c + c32 (c32 (2 * c16 p * c16 1)))
def mulN (ah al bh bl : Int) : Int := macN (macN (mulA ah bh) (mulP ah bl)) (mulP al bh)
theorem sound_yes (h l : Int) (g : soundB h l = true) (w : World) :
    Calls Try.prog 20 #[.agg #[.int .i64 h, .int .i64 l]] w fun e w' => e = .returned (.bool true) ∧ w.grownBy w' none :=
  (sound_any h l w).mono fun e w' ⟨h1, h2⟩ => ⟨by rw [h1, g], by rw [h2]; exact grown_alloc _ _ none⟩
theorem sound_no (h l : Int) (g : soundB h l = false) (w : World) :
    Calls Try.prog 20 #[.agg #[.int .i64 h, .int .i64 l]] w fun e w' => e = .returned (.bool false) ∧ w.grownBy w' none :=
  (sound_any h l w).mono fun e w' ⟨h1, h2⟩ => ⟨by rw [h1, g], by rw [h2]; exact grown_alloc _ _ none⟩
theorem kept2 {w w' : World} {o p : Obj} (h : ((w.alloc o).alloc p).grownBy w' none) : w'.heap[w.heap.size]? = some o ∧ w'.heap[w.heap.size + 1]? = some p := by
  have h2 := kept_heap h
  have e : (w.alloc o).heap.size = w.heap.size + 1 := by simp
  rw [e] at h2
  exact ⟨kept_heap (grown_none (grown_alloc _ p none) h), h2⟩
theorem index_0 (p q r t : Int) (w : World) : Sem.run Try.prog (Instr.index 52 (.agg #[.int .i64 p, .int .i64 q, .int .i64 r, .int .i64 t]) (.int .i64 0)) w = .ok (.agg #[.int .i64 p, .int .i64 q]) w := by
  simp [Instr.index, go_sem]
theorem index_1 (p q r t : Int) (w : World) : Sem.run Try.prog (Instr.index 52 (.agg #[.int .i64 p, .int .i64 q, .int .i64 r, .int .i64 t]) (.int .i64 1)) w = .ok (.agg #[.int .i64 r, .int .i64 t]) w := by
  simp [Instr.index, go_sem]
theorem mul_yes (ah al bh bl : Int) (g1 : soundB ah al = true) (g2 : soundB bh bl = true) (w : World) :
    Calls Try.prog 12 #[.agg #[.int .i64 ah, .int .i64 al], .agg #[.int .i64 bh, .int .i64 bl]] w fun e w' => e = .returned (.tuple #[.int .i64 (mulN ah al bh bl), .int .i64 0]) ∧ w.grownBy w' none := by
  have SA := hide (sound_yes ah al g1)
  have SB := hide (sound_yes bh bl g2)
  clear g1 g2
  go_enter Try.func12, Try.ntmps12
  go_wp2_with fail
  refine (SA.out _).mono ?_
  rintro e w1 ⟨rfl, h1⟩
  obtain ⟨ka, kb⟩ := kept2 h1
  have a0 := cell_of_heap ka 0
  have a1 := cell_of_heap ka 1
  have b0 := cell_of_heap kb 0
  have b1 := cell_of_heap kb 1
  have G1 := hide h1
  clear h1 ka kb
  go_wp2_with fail
  refine (SB.out _).mono ?_
  rintro e w2 ⟨rfl, h2⟩
  have G2 := hide (grown_none G1.out h2)
  obtain ⟨ka, kb⟩ := kept2 G2.out
  clear a0 a1 b0 b1
  have a0 := cell_of_heap ka 0
  have a1 := cell_of_heap ka 1
  have b0 := cell_of_heap kb 0
  have b1 := cell_of_heap kb 1
  clear h2 ka kb G1 SA SB
  go_wp2_with fail
  refine (lmult_any _ _ _).mono ?_
  rintro e w3 ⟨rfl, rfl⟩
  go_wp2_with fail
  clear a0 a1 b0 b1
  have G3 := hide (grown_none (grown_none (grown_alloc w _ none) (grown_alloc _ _ none)) G2.out)
  clear G2
  have i0 := index_0 ah bl al bh
  have i1 := index_1 ah bl al bh
  have E := hide (show mulN ah al bh bl = macN (macN (c32 (2 * c16 ah * c16 bh)) (c16 (c16 ah * c16 bl / 32768))) (c16 (c16 al * c16 bh / 32768)) from rfl)
  generalize mulN ah al bh bl = M at *
  go_loopw [6, 39] (fun x i wr => Hid (w.grownBy wr none) ∧ ((i = .int .i64 0 ∧ x = .int .i64 (c32 (2 * c16 ah * c16 bh))) ∨ (i = .int .i64 1 ∧ x = .int .i64 (macN (c32 (2 * c16 ah * c16 bh)) (c16 (c16 ah * c16 bl / 32768)))) ∨ (i = .int .i64 2 ∧ x = .int .i64 (macN (macN (c32 (2 * c16 ah * c16 bh)) (c16 (c16 ah * c16 bl / 32768))) (c16 (c16 al * c16 bh / 32768)))))) (fun _ i _ => 2 - (intOf i).toNat)
  case atStart => exact ⟨G3, .inl ⟨rfl, rfl⟩⟩
  case round =>
    obtain ⟨GW, hrel⟩ := hrel
    clear G3
    rcases hrel with ⟨rfl, rfl⟩ | ⟨rfl, rfl⟩ | ⟨rfl, rfl⟩
    · generalize c32 (2 * c16 ah * c16 bh) = X at *
      go_wp2_with fail
      refine (mult_any _ _ _).mono ?_
      rintro e w4 ⟨rfl, rfl⟩
      go_wp2_with fail
      refine (lmac_any _ _ _ _).mono ?_
      rintro e w5 ⟨rfl, rfl⟩
      go_wp2_with fail
      go_roundw
      case rel => exact ⟨grown_none GW.out (grown_alloc _ _ none), .inr (.inl ⟨by go_num, rfl⟩)⟩
      case measure => simp [intOf]
    · generalize macN (c32 (2 * c16 ah * c16 bh)) (c16 (c16 ah * c16 bl / 32768)) = X at *
      go_wp2_with fail
      refine (mult_any _ _ _).mono ?_
      rintro e w4 ⟨rfl, rfl⟩
      go_wp2_with fail
      refine (lmac_any _ _ _ _).mono ?_
      rintro e w5 ⟨rfl, rfl⟩
      go_wp2_with fail
      go_roundw
      case rel => exact ⟨grown_none GW.out (grown_alloc _ _ none), .inr (.inr ⟨by go_num, rfl⟩)⟩
      case measure => simp [intOf]
    · rw [← E.out]
      go_wp2_with fail
      go_ret2
      exact ⟨by first | rfl | (rw [E.out]; rfl), GW.out⟩
theorem mul_no1 (ah al bh bl : Int) (g1 : soundB ah al = false) (w : World) :
    Calls Try.prog 12 #[.agg #[.int .i64 ah, .int .i64 al], .agg #[.int .i64 bh, .int .i64 bl]] w fun e w' => e = .returned (.tuple #[.int .i64 0, .int .i64 2]) ∧ w.grownBy w' none := by
  have SA := hide (sound_no ah al g1)
  clear g1
  go_enter Try.func12, Try.ntmps12
  go_wp2_with fail
  refine (SA.out _).mono ?_
  rintro e w1 ⟨rfl, h1⟩
  have G1 := hide (grown_none (grown_none (grown_alloc w _ none) (grown_alloc _ _ none)) h1)
  clear h1 SA
  go_wp2_with fail
  go_ret2
  exact ⟨rfl, G1.out⟩
theorem mul_no2 (ah al bh bl : Int) (g1 : soundB ah al = true) (g2 : soundB bh bl = false) (w : World) :
    Calls Try.prog 12 #[.agg #[.int .i64 ah, .int .i64 al], .agg #[.int .i64 bh, .int .i64 bl]] w fun e w' => e = .returned (.tuple #[.int .i64 0, .int .i64 2]) ∧ w.grownBy w' none := by
  have SA := hide (sound_yes ah al g1)
  have SB := hide (sound_no bh bl g2)
  clear g1 g2
  go_enter Try.func12, Try.ntmps12
  go_wp2_with fail
  refine (SA.out _).mono ?_
  rintro e w1 ⟨rfl, h1⟩
  obtain ⟨ka, kb⟩ := kept2 h1
  have b0 := cell_of_heap kb 0
  have b1 := cell_of_heap kb 1
  have G1 := hide (grown_none (grown_none (grown_alloc w _ none) (grown_alloc _ _ none)) h1)
  clear h1 ka kb
  go_wp2_with fail
  refine (SB.out _).mono ?_
  rintro e w2 ⟨rfl, h2⟩
  have G2 := hide (grown_none G1.out h2)
  clear h2 G1 SA SB b0 b1
  go_wp2_with fail
  go_ret2
  exact ⟨rfl, G2.out⟩
end Go.Proofs.Ytfeoeonhfcjmgaa
