/- The contract of the reference's Correlate where it refuses. -/
import Derived.Test.YtmmlppmlkmlgpaaRefCorr
namespace Go.Proofs.Ytmmlppmlkmlgpaa
open Go.RowKit
set_option linter.unusedVariables false
set_option linter.unusedSimpArgs false
set_option maxHeartbeats 1000000

set_option maxRecDepth 100000 in
theorem refCorr_size (v : Value) (l : List Int) (w : World) (h : Ints w v l) (hl : l.length ≠ 120) (hl2 : l.length ≤ 1000000000000000000) :
    Calls Try.prog 16 #[v] w fun e w' => e = .returned (.tuple #[zeroAgg, .int .i64 0, .int .i64 1]) ∧ w.grownBy w' none := by
  obtain ⟨ad, c, rfl, hc, hcell⟩ := h
  have hb : ((l.length : Int) == 120) = false := beq_eq_false_iff_ne.2 (by omega)
  clear hcell
  go_enter Try.func16, Try.ntmps16
  go_wp2_with fail
  have h0 : ((w.alloc (.cells #[.int .i64 0, .int .i64 0, .int .i64 0, .int .i64 0, .int .i64 0, .int .i64 0, .int .i64 0, .int .i64 0, .int .i64 0] 34)).alloc (.cells #[.int .i64 0, .int .i64 0, .int .i64 0, .int .i64 0, .int .i64 0, .int .i64 0, .int .i64 0, .int .i64 0, .int .i64 0] 34)).heap[w.heap.size]? = some (.cells #[.int .i64 0, .int .i64 0, .int .i64 0, .int .i64 0, .int .i64 0, .int .i64 0, .int .i64 0, .int .i64 0, .int .i64 0] 34 (0, 0)) := kept_heap (grown_alloc _ _ none)
  have o0 := cell_of_heap h0 0
  have o1 := cell_of_heap h0 1
  have o2 := cell_of_heap h0 2
  have o3 := cell_of_heap h0 3
  have o4 := cell_of_heap h0 4
  have o5 := cell_of_heap h0 5
  have o6 := cell_of_heap h0 6
  have o7 := cell_of_heap h0 7
  have o8 := cell_of_heap h0 8
  simp at o0 o1 o2 o3 o4 o5 o6 o7 o8
  refine bodyPost_ret (v := .tuple #[zeroAgg, .int .i64 0, .int .i64 1]) ?_ rfl ⟨rfl, grown_none (grown_alloc _ _ none) (grown_alloc _ _ none)⟩
  simp [results, Try.results16, go_sem, zeroAgg, o0, o1, o2, o3, o4, o5, o6, o7, o8]
set_option maxRecDepth 100000 in
theorem refCorr_range (v : Value) (l : List Int) (w : World) (h : Ints w v l) (hl : l.length = 120) (hr : rightB l = false) :
    Calls Try.prog 16 #[v] w fun e w' => e = .returned (.tuple #[zeroAgg, .int .i64 0, .int .i64 2]) ∧ w.grownBy w' none := by
  have HI := hide h
  have RB := hide (refRight_any v l)
  rw [hr] at RB
  obtain ⟨ad, c, rfl, hc, hcell⟩ := h
  rw [hl] at HI RB ⊢
  clear hcell hr
  go_enter Try.func16, Try.ntmps16
  go_wp2_with fail
  refine (RB.out _ (Ints_keep HI.out (grown_none (grown_alloc _ _ none) (grown_alloc _ _ none))) (by omega)).mono ?_
  rintro e w1 ⟨rfl, rfl⟩
  clear RB HI
  go_wp2_with fail
  have h0 : ((w.alloc (.cells #[.int .i64 0, .int .i64 0, .int .i64 0, .int .i64 0, .int .i64 0, .int .i64 0, .int .i64 0, .int .i64 0, .int .i64 0] 34)).alloc (.cells #[.int .i64 0, .int .i64 0, .int .i64 0, .int .i64 0, .int .i64 0, .int .i64 0, .int .i64 0, .int .i64 0, .int .i64 0] 34)).heap[w.heap.size]? = some (.cells #[.int .i64 0, .int .i64 0, .int .i64 0, .int .i64 0, .int .i64 0, .int .i64 0, .int .i64 0, .int .i64 0, .int .i64 0] 34 (0, 0)) := kept_heap (grown_alloc _ _ none)
  have o0 := cell_of_heap h0 0
  have o1 := cell_of_heap h0 1
  have o2 := cell_of_heap h0 2
  have o3 := cell_of_heap h0 3
  have o4 := cell_of_heap h0 4
  have o5 := cell_of_heap h0 5
  have o6 := cell_of_heap h0 6
  have o7 := cell_of_heap h0 7
  have o8 := cell_of_heap h0 8
  simp at o0 o1 o2 o3 o4 o5 o6 o7 o8
  refine bodyPost_ret (v := .tuple #[zeroAgg, .int .i64 0, .int .i64 2]) ?_ rfl ⟨rfl, grown_none (grown_alloc _ _ none) (grown_alloc _ _ none)⟩
  simp [results, Try.results16, go_sem, zeroAgg, o0, o1, o2, o3, o4, o5, o6, o7, o8]
end Go.Proofs.Ytmmlppmlkmlgpaa
