/- The contract of the reference's High, of whatever it is given. -/
import Derived.Test.YtmmlppmlkmlgpaaRefHigh
import Derived.Test.YtmmlppmlkmlgpaaHighAny
import Derived.Laws.AppendOwnNone
namespace Go.Proofs.Ytmmlppmlkmlgpaa
open Go.RowKit
set_option linter.unusedVariables false
set_option linter.unusedSimpArgs false
set_option maxHeartbeats 1000000

set_option maxRecDepth 100000 in
theorem refHigh_no0 (x0 x1 y0 y1 : Int) (v : Value) (l : List Int) (w : World) (h : Ints w v l) (hl : l.length * 8 ≤ 281474976710656) (hr : rightB l = false) :
    Calls Try.prog 11 #[.agg #[.int .i64 x0, .int .i64 x1, .int .i64 y0, .int .i64 y1], v] w (HighsNo w) := by
  have HI := hide h
  have RB := hide (fun u hu => refRight_any v l u hu (by omega))
  obtain ⟨ad, c, rfl, hc, hcell⟩ := h
  clear hcell
  have h0 : ((w.alloc (hp x0 x1 y0 y1)).alloc (hp 0 0 0 0)).heap[w.heap.size]? = some (hp x0 x1 y0 y1) := kept_heap (grown_alloc _ _ none)
  have RX := hide (refRight_any (.slice (some ⟨w.heap.size, 0, none⟩) 2 2) [x0, x1] _ (ints_pair h0 0 x0 x1 rfl rfl) (by simp))
  have RY := hide (refRight_any (.slice (some ⟨w.heap.size, 2, none⟩) 2 2) [y0, y1] _ (ints_pair h0 2 y0 y1 rfl rfl) (by simp))
  rw [hr] at RB
  simp only [hp] at RX RY
  clear h0
  go_enter Try.func11, Try.ntmps11
  go_wp2_with fail
  refine (RB.out _ (Ints_keep HI.out (grown_none (grown_alloc _ _ none) (grown_alloc _ _ none)))).mono ?_
  rintro e w1 ⟨rfl, rfl⟩
  go_wp2_with fail
  refine bodyPost_ret (v := .tuple #[.slice none 0 0, .agg #[.int .i64 0, .int .i64 0, .int .i64 0, .int .i64 0], .int .i64 2]) ?_ rfl ?_
  · simp [results, Try.results11, go_sem]
  · exact ⟨rfl, grown_none (grown_alloc _ _ none) (grown_alloc _ _ none)⟩
set_option maxRecDepth 100000 in
theorem refHigh_no1 (x0 x1 y0 y1 : Int) (v : Value) (l : List Int) (w : World) (h : Ints w v l) (hl : l.length * 8 ≤ 281474976710656) (hr : rightB l = true) (hx : rightB [x0, x1] = false) :
    Calls Try.prog 11 #[.agg #[.int .i64 x0, .int .i64 x1, .int .i64 y0, .int .i64 y1], v] w (HighsNo w) := by
  have HI := hide h
  have RB := hide (fun u hu => refRight_any v l u hu (by omega))
  obtain ⟨ad, c, rfl, hc, hcell⟩ := h
  clear hcell
  have h0 : ((w.alloc (hp x0 x1 y0 y1)).alloc (hp 0 0 0 0)).heap[w.heap.size]? = some (hp x0 x1 y0 y1) := kept_heap (grown_alloc _ _ none)
  have RX := hide (refRight_any (.slice (some ⟨w.heap.size, 0, none⟩) 2 2) [x0, x1] _ (ints_pair h0 0 x0 x1 rfl rfl) (by simp))
  have RY := hide (refRight_any (.slice (some ⟨w.heap.size, 2, none⟩) 2 2) [y0, y1] _ (ints_pair h0 2 y0 y1 rfl rfl) (by simp))
  rw [hr] at RB
  rw [hx] at RX
  simp only [hp] at RX RY
  clear h0
  go_enter Try.func11, Try.ntmps11
  go_wp2_with fail
  refine (RB.out _ (Ints_keep HI.out (grown_none (grown_alloc _ _ none) (grown_alloc _ _ none)))).mono ?_
  rintro e w1 ⟨rfl, rfl⟩
  go_wp2_with fail
  refine RX.out.mono ?_
  rintro e w1 ⟨rfl, rfl⟩
  go_wp2_with fail
  refine bodyPost_ret (v := .tuple #[.slice none 0 0, .agg #[.int .i64 0, .int .i64 0, .int .i64 0, .int .i64 0], .int .i64 2]) ?_ rfl ?_
  · simp [results, Try.results11, go_sem]
  · exact ⟨rfl, grown_none (grown_alloc _ _ none) (grown_alloc _ _ none)⟩
set_option maxRecDepth 100000 in
theorem refHigh_no2 (x0 x1 y0 y1 : Int) (v : Value) (l : List Int) (w : World) (h : Ints w v l) (hl : l.length * 8 ≤ 281474976710656) (hr : rightB l = true) (hx : rightB [x0, x1] = true) (hy : rightB [y0, y1] = false) :
    Calls Try.prog 11 #[.agg #[.int .i64 x0, .int .i64 x1, .int .i64 y0, .int .i64 y1], v] w (HighsNo w) := by
  have HI := hide h
  have RB := hide (fun u hu => refRight_any v l u hu (by omega))
  obtain ⟨ad, c, rfl, hc, hcell⟩ := h
  clear hcell
  have h0 : ((w.alloc (hp x0 x1 y0 y1)).alloc (hp 0 0 0 0)).heap[w.heap.size]? = some (hp x0 x1 y0 y1) := kept_heap (grown_alloc _ _ none)
  have RX := hide (refRight_any (.slice (some ⟨w.heap.size, 0, none⟩) 2 2) [x0, x1] _ (ints_pair h0 0 x0 x1 rfl rfl) (by simp))
  have RY := hide (refRight_any (.slice (some ⟨w.heap.size, 2, none⟩) 2 2) [y0, y1] _ (ints_pair h0 2 y0 y1 rfl rfl) (by simp))
  rw [hr] at RB
  rw [hx] at RX
  rw [hy] at RY
  simp only [hp] at RX RY
  clear h0
  go_enter Try.func11, Try.ntmps11
  go_wp2_with fail
  refine (RB.out _ (Ints_keep HI.out (grown_none (grown_alloc _ _ none) (grown_alloc _ _ none)))).mono ?_
  rintro e w1 ⟨rfl, rfl⟩
  go_wp2_with fail
  refine RX.out.mono ?_
  rintro e w1 ⟨rfl, rfl⟩
  go_wp2_with fail
  refine RY.out.mono ?_
  rintro e w1 ⟨rfl, rfl⟩
  go_wp2_with fail
  refine bodyPost_ret (v := .tuple #[.slice none 0 0, .agg #[.int .i64 0, .int .i64 0, .int .i64 0, .int .i64 0], .int .i64 2]) ?_ rfl ?_
  · simp [results, Try.results11, go_sem]
  · exact ⟨rfl, grown_none (grown_alloc _ _ none) (grown_alloc _ _ none)⟩
theorem ref_nil_mem (w : World) (x0 x1 y0 y1 : Int) : HiC w ((((w.alloc (hp x0 x1 y0 y1)).alloc (hp 0 0 0 0)).alloc (.cells #[.int .i64 x1, .int .i64 x0] 3)).alloc (.cells #[.int .i64 y1, .int .i64 y0] 3)) x0 x1 y0 y1 [x1, x0] (w.heap.size + 1 + 1) (w.heap.size + 1 + 1 + 1) 0 (w.heap.size + 1 + 1 + 1) 2 := by
  have h0 := heap_new w (hp x0 x1 y0 y1)
  have h1 := heap_new (w.alloc (hp x0 x1 y0 y1)) (hp 0 0 0 0)
  have h2 := heap_new ((w.alloc (hp x0 x1 y0 y1)).alloc (hp 0 0 0 0)) (.cells #[.int .i64 x1, .int .i64 x0] 3)
  have g1 := grown_alloc (w.alloc (hp x0 x1 y0 y1)) (hp 0 0 0 0) none
  have g2 := grown_alloc ((w.alloc (hp x0 x1 y0 y1)).alloc (hp 0 0 0 0)) (.cells #[.int .i64 x1, .int .i64 x0] 3) none
  have M : MemH w (((w.alloc (hp x0 x1 y0 y1)).alloc (hp 0 0 0 0)).alloc (.cells #[.int .i64 x1, .int .i64 x0] 3)) x0 x1 y0 y1 [x1, x0] (w.heap.size + 1 + 1) := by
    refine ⟨?_, ?_, fun j hj => ?_, grown_none (grown_none (grown_alloc _ _ none) g1) g2⟩
    · rw [g2.block _ (lt_of_some ((g1.block _ (lt_of_some h0) (by simp)).trans h0)) (by simp), g1.block _ (lt_of_some h0) (by simp)]
      exact h0
    · rw [show w.heap.size + 1 = (w.alloc (hp x0 x1 y0 y1)).heap.size by simp, g2.block _ (lt_of_some h1) (by simp)]
      exact h1
    · rw [show w.heap.size + 1 + 1 = ((w.alloc (hp x0 x1 y0 y1)).alloc (hp 0 0 0 0)).heap.size by simp, cell_of_heap h2]
      match j, hj with
      | 0, _ => rfl
      | 1, _ => rfl
  have := hi_start M (by simp)
  simpa using this
set_option maxRecDepth 100000 in
theorem refHigh_nil (x0 x1 y0 y1 : Int) (w : World) (hx : rightB [x0, x1] = true) (hy : rightB [y0, y1] = true) :
    Calls Try.prog 11 #[.agg #[.int .i64 x0, .int .i64 x1, .int .i64 y0, .int .i64 y1], .slice none 0 0] w (Highs w x0 x1 y0 y1 []) := by
  have RB := hide (fun u => refRight_any (.slice none 0 0) [] u ⟨none, 0, rfl, Nat.le_refl _, fun h => by simp at h⟩ (by simp))
  rw [show rightB [] = true from rfl] at RB
  obtain ⟨i0, hi, hz0, hz1, hz2⟩ := info_parts infoI64
  have h0 : ((w.alloc (hp x0 x1 y0 y1)).alloc (hp 0 0 0 0)).heap[w.heap.size]? = some (hp x0 x1 y0 y1) := kept_heap (grown_alloc _ _ none)
  have RX := hide (refRight_any (.slice (some ⟨w.heap.size, 0, none⟩) 2 2) [x0, x1] _ (ints_pair h0 0 x0 x1 rfl rfl) (by simp))
  have RY := hide (refRight_any (.slice (some ⟨w.heap.size, 2, none⟩) 2 2) [y0, y1] _ (ints_pair h0 2 y0 y1 rfl rfl) (by simp))
  rw [hx] at RX
  rw [hy] at RY
  simp only [hp] at RX RY h0
  go_enter Try.func11, Try.ntmps11
  go_wp2_with fail
  refine (RB.out _).mono ?_
  rintro e w1 ⟨rfl, rfl⟩
  go_wp2_with fail
  refine RX.out.mono ?_
  rintro e w1 ⟨rfl, rfl⟩
  go_wp2_with fail
  refine RY.out.mono ?_
  rintro e w1 ⟨rfl, rfl⟩
  clear RX RY RB
  go_wp2_with (at_builtin; refine wpList_append_own_none rfl _ _ 25 rfl (w.heap.size + 1 + 1) 3 i0 1 Try.underlying25 hi _ 2 [.int .i64 x1, .int .i64 x0] rfl ?c0 rfl ?_)
  case c0 => exact ⟨rfl, .inr ⟨w.heap.size + 1 + 1, 2, #[.int .i64 x1, .int .i64 x0], rfl, by simp, by simpa using heap_new (((w.alloc _).alloc _)) _, Nat.le_refl _, by decide, rfl, rfl⟩⟩
  have HC := hide (ref_nil_mem w x0 x1 y0 y1)
  clear h0
  simp only [hp] at HC
  generalize (((w.alloc (.cells #[.int .i64 x0, .int .i64 x1, .int .i64 y0, .int .i64 y1] 24)).alloc (.cells #[.int .i64 0, .int .i64 0, .int .i64 0, .int .i64 0] 24)).alloc (.cells #[.int .i64 x1, .int .i64 x0] 3)).alloc (.cells #[.int .i64 y1, .int .i64 y0] 3) = W3 at *
  generalize hxs : [x1, x0] = xs at *
  have HXS := hide hxs
  have hxl : xs.length = 2 := by rw [← hxs]; rfl
  clear hxs
  go_loopw [8, 46] (fun y i wr => y = .slice (some ⟨w.heap.size + 1 + 1 + 1, 0, none⟩) 2 2 ∧ i = .int .i64 0 ∧ wr = W3) (fun _ i _ => 0)
  case atStart => exact ⟨rfl, rfl, rfl⟩
  case round =>
    obtain ⟨rfl, rfl, rfl⟩ := hrel
    have hC := HC
    clear HC
    have w2lt : w.heap.size + 1 < w.heap.size + 1 + 1 + 1 := by omega
    have ca := hC.out.1.2.2.1 1 (by omega)
    have cb := hC.out.1.2.2.1 0 (by omega)
    have da := hi_cells hC.out 1 (by omega)
    have db := hi_cells hC.out 0 (by omega)
    have r0 := cell_of_heap hC.out.1.2.1 0
    have r1 := cell_of_heap hC.out.1.2.1 1
    have r2 := cell_of_heap hC.out.1.2.1 2
    have r3 := cell_of_heap hC.out.1.2.1 3
    have t0 := frozen_of_heap hC.out.1.2.1 0
    have t1 := frozen_of_heap hC.out.1.2.1 1
    have t2 := frozen_of_heap hC.out.1.2.1 2
    have t3 := frozen_of_heap hC.out.1.2.1 3
    generalize hp : nth xs 1 = p at *
    generalize hq : nth xs 0 = q at *
    generalize hs : nth (hiY xs [y1, y0] 0) 1 = s at *
    generalize ht : nth (hiY xs [y1, y0] 0) 0 = t at *
    have PP := hide hp
    have QQ := hide hq
    have SS := hide hs
    have TT := hide ht
    clear hp hq hs ht
    have EN := hide (high_end hC.out w2lt p q s t _ rfl)
    obtain ⟨o0, o1, o2, o3, GF', IV'⟩ := EN.out
    have GF := hide GF'
    have HT := hide (show Highs w x0 x1 y0 y1 [] = fun e w' => ∃ v', e = .returned (.tuple #[v', .agg #[.int .i64 p, .int .i64 q, .int .i64 s, .int .i64 t], .int .i64 0]) ∧ Ints w' v' ((hiY xs [y1, y0] 0).drop 2) ∧ w.grownBy w' none from by
      unfold Highs
      simp only [List.append_nil, List.length_nil, Nat.zero_add]
      rw [show [x1, x0] = xs from HXS.out, PP.out, QQ.out, SS.out, TT.out])
    have IV := hide (IV' 0 0 (.inl ⟨rfl, rfl⟩))
    clear EN GF' hC IV'
    go_wp2_with fail
    go_region
    go_wp2_with fail
    refine bodyPost_ret (v := .tuple #[.slice (some ⟨w.heap.size + 1 + 1 + 1, 0, none⟩) 0 (2 - 2), .agg #[.int .i64 p, .int .i64 q, .int .i64 s, .int .i64 t], .int .i64 0]) ?_ rfl ?_
    · simp [results, Try.results11, go_sem, o0, o1, o2, o3]
    · rw [HT.out]
      exact ⟨_, rfl, IV.out, GF.out⟩
theorem refHigh_any (x0 x1 y0 y1 : Int) (v : Value) (l : List Int) (w : World) (h : Ints w v l) (hsh : v = .slice none 0 0 ∨ ∃ a c, v = .slice (some a) l.length c) (hl : l.length * 8 ≤ 140737488351232) :
    Calls Try.prog 11 #[.agg #[.int .i64 x0, .int .i64 x1, .int .i64 y0, .int .i64 y1], v] w fun e w' => ∃ v', e = .returned (hiT x0 x1 y0 y1 l v') ∧ Ints w' v' (hiL x0 x1 y0 y1 l) ∧ w.grownBy w' none := by
  rcases hk : okH x0 x1 y0 y1 l with _ | _
  · have hN : Calls Try.prog 11 #[.agg #[.int .i64 x0, .int .i64 x1, .int .i64 y0, .int .i64 y1], v] w (HighsNo w) := by
      rcases hr : rightB l with _ | _
      · exact refHigh_no0 x0 x1 y0 y1 v l w h (by omega) hr
      · rcases hx : rightB [x0, x1] with _ | _
        · exact refHigh_no1 x0 x1 y0 y1 v l w h (by omega) hr hx
        · exact refHigh_no2 x0 x1 y0 y1 v l w h (by omega) hr hx (by unfold okH at hk; rw [hr, hx] at hk; simpa using hk)
    refine hN.mono fun e w' ⟨he, hg⟩ => ⟨.slice none 0 0, ?_, ?_, hg⟩
    · rw [he]; simp [hiT, hiM, hiE, hk]
    · simp [hiL, hk]; exact ⟨none, 0, rfl, Nat.le_refl _, fun h => by simp at h⟩
  · have hk' := hk
    unfold okH at hk'
    simp only [Bool.and_eq_true] at hk'
    have hY : Calls Try.prog 11 #[.agg #[.int .i64 x0, .int .i64 x1, .int .i64 y0, .int .i64 y1], v] w (Highs w x0 x1 y0 y1 l) := by
      rcases hsh with rfl | ⟨a, c, rfl⟩
      · obtain ⟨ad, c, e, _, _⟩ := h
        cases e0 : l with
        | nil => exact refHigh_nil x0 x1 y0 y1 w hk'.1.1 hk'.1.2
        | cons a t => rw [e0] at e; simp at e
      · exact refHigh_some x0 x1 y0 y1 _ l w ⟨a, _, c, rfl⟩ h hl hk'.2 hk'.1.1 hk'.1.2
    refine hY.mono fun e w' ⟨v', he, ho, hg⟩ => ⟨v', ?_, ?_, hg⟩
    · rw [he]; simp [hiT, hiM, hiE, hk, hiX, hiO]
    · simpa [hiL, hk, hiO, hiX] using ho
end Go.Proofs.Ytmmlppmlkmlgpaa
