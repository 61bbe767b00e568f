/- The walk of FrontHighs out of the contracts. -/
import Derived.Test.YtmmlppmlkmlgpaaRegs
import Derived.Test.YtmmlppmlkmlgpaaBaseB
import Derived.Test.YtmmlppmlkmlgpaaRefHighB
namespace Go.Proofs.Ytmmlppmlkmlgpaa
open Go.RowKit
set_option linter.unusedVariables false
set_option linter.unusedSimpArgs false
set_option maxHeartbeats 2000000

theorem refSameU_any (va vb : Value) (a b : List Int) (w : World) (ha : Ints w va a) (hb : Ints w vb b) (la : a.length ≤ 1000000000000000000) (lb : b.length ≤ 1000000000000000000) :
    Calls Try.prog 12 #[va, vb] w fun e w' => e = .returned (.bool (decide (a = b))) ∧ ∃ n, w' = w.drewN n := by
  have H := hide (refSame_any va vb a b w ha hb la lb)
  generalize decide (a = b) = d at *
  clear ha hb
  go_enter Try.func12, Try.ntmps12
  go_wp2_with fail
  refine H.out.mono ?_
  rintro e w1 ⟨rfl, n, rfl⟩
  go_wp2_with fail
  go_ret
  exact ⟨rfl, n, rfl⟩
set_option maxRecDepth 100000 in
theorem law_highs (w : World) (h : List Int) (hh : h.length = 4) (h64 : In64 h) (v : Value) (l : List Int) (hi : Ints w v l) (hl : l.length * 8 ≤ 140737488351232) (hl64 : In64 l) (hsh : v = .slice none 0 0 ∨ ∃ a c, v = .slice (some a) l.length c) :
    Calls Try.prog 3 #[.agg (arrI h), v] w fun e w' => e = .returned (.bool true) ∧ Below w.heap.size w w' := by
  match h, hh with
  | [x0, x1, y0, y1], _ =>
  show Calls Try.prog 3 #[.agg #[.int .i64 x0, .int .i64 x1, .int .i64 y0, .int .i64 y1], v] w _
  have HF := hide (fun u hu => refHigh_any x0 x1 y0 y1 v l u hu hsh hl)
  have HA := hide (fun v' u hu => high_any x0 x1 y0 y1 v' l u hu (by omega))
  have H1 := hide (fun u => high_any 0 0 0 0 _ [4096] (u.alloc (.cells #[.int .i64 4096] 3)) (ints_one u 4096) (by simp))
  have IN := hide (fun u hu => ints_any v l u hu (by omega))
  have G0 := hide (grown_alloc w (hp x0 x1 y0 y1) none)
  have HI := hide (Ints_keep hi G0.out)
  unfold hiT at HF HA H1
  obtain ⟨ad, c, rfl, hc, hcell⟩ := hi
  rw [show hiE 0 0 0 0 [4096] = 0 by decide, show (hiL 0 0 0 0 [4096]) = [3798] by decide] at H1
  generalize hiM 0 0 0 0 [4096] 0 = a0 at *
  generalize hiM 0 0 0 0 [4096] 1 = a1 at *
  generalize hiM 0 0 0 0 [4096] 2 = a2 at *
  generalize hiM 0 0 0 0 [4096] 3 = a3 at *
  generalize hiM x0 x1 y0 y1 l 0 = p at *
  generalize hiM x0 x1 y0 y1 l 1 = q at *
  generalize hiM x0 x1 y0 y1 l 2 = s at *
  generalize hiM x0 x1 y0 y1 l 3 = t at *
  generalize hiE x0 x1 y0 y1 l = en at *
  have hLb : (hiL x0 x1 y0 y1 l).length ≤ 1000000000000000000 := by rw [hiL_len]; split <;> omega
  generalize hiL x0 x1 y0 y1 l = L at *
  have B0 := heap_new w (hp x0 x1 y0 y1)
  simp only [hp] at B0 G0 HI
  clear hcell h64 hl64 hsh
  go_enter Try.func3, Try.ntmps3
  go_upto_region 1 with fail
  generalize w.alloc (.cells #[.int .i64 x0, .int .i64 x1, .int .i64 y0, .int .i64 y1] 24) = W0 at *
  have hw0 : w.heap.size < W0.heap.size := lt_of_some B0
  have cx0 := cell_of_heap B0 0
  have cx1 := cell_of_heap B0 1
  have cx2 := cell_of_heap B0 2
  have cx3 := cell_of_heap B0 3
  simp at cx0 cx1 cx2 cx3
  go_cut [5, 6, 7] from 14 (fun s5 s6 s7 wx => HiR W0 L p q s t en s5 s6 s7 wx)
  case first =>
    refine wp_region_held_drew (S := GrownFrom W0) (by kernel_rfl) (gf_start _) (fun hHeld => ?_)
    refine wpAnyH_take (i := 0) (v := ?vq1) rfl (by kernel_rfl) (by kernel_rfl) (by kernel_rfl) (fun _ _ _ h => h) (Or.inl ⟨by rfl, ?yq1⟩) hHeld ?rq1
    case yq1 => (intro w' hSw; have q0 := grown_keep hSw cx0; have q1 := grown_keep hSw cx1; have q2 := grown_keep hSw cx2; have q3 := grown_keep hSw cx3; go_simp; (try with_reducible rfl))
    (try simp only [Act.put, List.setIfInBounds_toArray, List.set_cons_zero, List.set_cons_succ, List.getElem_toArray, List.getElem_cons_zero, List.getElem_cons_succ])
    refine wpAnyH_take (i := 1) (v := ?vq2) rfl (by kernel_rfl) (by kernel_rfl) (by kernel_rfl) (fun _ _ _ h => h) (Or.inl ⟨by rfl, ?yq2⟩) hHeld ?rq2
    case yq2 => (intro w' hSw; go_simp; (try with_reducible rfl))
    (try simp only [Act.put, List.setIfInBounds_toArray, List.set_cons_zero, List.set_cons_succ, List.getElem_toArray, List.getElem_cons_zero, List.getElem_cons_succ])
    refine wpAnyH_ready (rs := [2, 8]) (by kernel_rfl) (by simp) (AllReadyH.cons rfl (fun K hK => ?gq3) (AllReadyH.cons rfl (fun K hK => ?gq4) AllReadyH.nil))
    case gq3 =>
      (try simp only [Act.put, List.setIfInBounds_toArray, List.set_cons_zero, List.set_cons_succ, List.getElem_toArray, List.getElem_cons_zero, List.getElem_cons_succ])
      go_simp
      refine (IN.out _ (Ints_keep HI.out hHeld)).mono ?_
      rintro e wq5 ⟨vi, rfl, oq5, gq5⟩
      have Gq5 := hide gq5
      have I2 := hide (Ints_of_owns oq5)
      clear gq5 oq5
      go_wp2_with fail
      refine hK.out _ _ (gf_trans hHeld Gq5.out) (fun hHeld => ?_)
      clear hK
      (try simp only [Act.put, List.setIfInBounds_toArray, List.set_cons_zero, List.set_cons_succ, List.getElem_toArray, List.getElem_cons_zero, List.getElem_cons_succ])
      refine wpAnyH_ready (rs := [3, 8]) (by kernel_rfl) (by simp) (AllReadyH.cons rfl (fun K hK => ?gq6) (AllReadyH.cons rfl (fun K hK => ?gq7) AllReadyH.nil))
      case gq6 =>
        (try simp only [Act.put, List.setIfInBounds_toArray, List.set_cons_zero, List.set_cons_succ, List.getElem_toArray, List.getElem_cons_zero, List.getElem_cons_succ])
        go_simp
        refine (HA.out vi _ I2.out).mono ?_
        rintro e wq8 ⟨vh, rfl, oq8, gq8⟩
        have Gq8 := hide gq8
        have O3 := hide (Own.base oq8 (gf_size hHeld))
        clear gq8 oq8 I2
        go_wp2_with fail
        refine hK.out _ _ (gf_trans hHeld Gq8.out) (fun hHeld => ?_)
        clear hK
        (try simp only [Act.put, List.setIfInBounds_toArray, List.set_cons_zero, List.set_cons_succ, List.getElem_toArray, List.getElem_cons_zero, List.getElem_cons_succ])
        refine wpAnyH_take (i := 4) (v := ?vq9) rfl (by kernel_rfl) (by kernel_rfl) (by kernel_rfl) (fun _ _ _ h => h) (Or.inl ⟨by rfl, ?yq9⟩) hHeld ?rq9
        case yq9 => (intro w' hSw; go_simp; (try with_reducible rfl))
        (try simp only [Act.put, List.setIfInBounds_toArray, List.set_cons_zero, List.set_cons_succ, List.getElem_toArray, List.getElem_cons_zero, List.getElem_cons_succ])
        refine wpAnyH_take (i := 5) (v := ?vq10) rfl (by kernel_rfl) (by kernel_rfl) (by kernel_rfl) (fun _ _ _ h => h) (Or.inl ⟨by rfl, ?yq10⟩) hHeld ?rq10
        case yq10 => (intro w' hSw; go_simp; (try with_reducible rfl))
        (try simp only [Act.put, List.setIfInBounds_toArray, List.set_cons_zero, List.set_cons_succ, List.getElem_toArray, List.getElem_cons_zero, List.getElem_cons_succ])
        refine wpAnyH_take (i := 6) (v := ?vq11) rfl (by kernel_rfl) (by kernel_rfl) (by kernel_rfl) (fun _ _ _ h => h) (Or.inl ⟨by rfl, ?yq11⟩) hHeld ?rq11
        case yq11 => (intro w' hSw; go_simp; (try with_reducible rfl))
        (try simp only [Act.put, List.setIfInBounds_toArray, List.set_cons_zero, List.set_cons_succ, List.getElem_toArray, List.getElem_cons_zero, List.getElem_cons_succ])
        refine wpAnyH_take (i := 7) (v := ?vq12) rfl (by kernel_rfl) (by kernel_rfl) (by kernel_rfl) (fun _ _ _ h => h) (Or.inl ⟨by rfl, ?yq12⟩) hHeld ?rq12
        case yq12 => (intro w' hSw; go_simp; (try with_reducible rfl))
        (try simp only [Act.put, List.setIfInBounds_toArray, List.set_cons_zero, List.set_cons_succ, List.getElem_toArray, List.getElem_cons_zero, List.getElem_cons_succ])
        refine wpAnyH_ready (rs := [8]) (by kernel_rfl) (by simp) (AllReadyH.cons rfl (fun K hK => ?_) AllReadyH.nil)
        (try simp only [Act.put, List.setIfInBounds_toArray, List.set_cons_zero, List.set_cons_succ, List.getElem_toArray, List.getElem_cons_zero, List.getElem_cons_succ])
        go_simp
        go_wp2_with fail
        have HB := hide (gf_size hHeld)
        refine hK.out _ _ (gf_alloc hHeld (.cells #[.int .i64 0, .int .i64 0, .int .i64 0, .int .i64 0] 24)) (fun hHeld => ?_)
        clear hK
        have O3 := hide (O3.out.keep (grown_alloc wq8 (.cells #[.int .i64 0, .int .i64 0, .int .i64 0, .int .i64 0] 24) none))
        have HZ := hide (show (wq8.alloc (.cells #[.int .i64 0, .int .i64 0, .int .i64 0, .int .i64 0] 24)).heap[wq8.heap.size]? = some (.cells #[.int .i64 0, .int .i64 0, .int .i64 0, .int .i64 0] 24) from heap_new wq8 (.cells #[.int .i64 0, .int .i64 0, .int .i64 0, .int .i64 0] 24))
        (try simp only [Act.put, List.setIfInBounds_toArray, List.set_cons_zero, List.set_cons_succ, List.getElem_toArray, List.getElem_cons_zero, List.getElem_cons_succ])
        refine wpAnyH_take (i := 9) (v := ?vq13) rfl (by kernel_rfl) (by kernel_rfl) (by kernel_rfl) (fun _ _ _ h => h) (Or.inl ⟨by rfl, ?yq13⟩) hHeld ?rq13
        case yq13 => (intro w' hSw; go_simp; (try with_reducible rfl))
        (try simp only [Act.put, List.setIfInBounds_toArray, List.set_cons_zero, List.set_cons_succ, List.getElem_toArray, List.getElem_cons_zero, List.getElem_cons_succ])
        refine wpAnyH_ready (rs := [10]) (by kernel_rfl) (by simp) (AllReadyH.cons rfl (fun K hK => ?_) AllReadyH.nil)
        (try simp only [Act.put, List.setIfInBounds_toArray, List.set_cons_zero, List.set_cons_succ, List.getElem_toArray, List.getElem_cons_zero, List.getElem_cons_succ])
        generalize wq8.alloc (.cells #[.int .i64 0, .int .i64 0, .int .i64 0, .int .i64 0] 24) = wzq14 at *
        have z0 := cell_of_heap HZ.out 0
        have y0 := frozen_of_heap HZ.out 0
        have z1 := cell_of_heap HZ.out 1
        have y1 := frozen_of_heap HZ.out 1
        have z2 := cell_of_heap HZ.out 2
        have y2 := frozen_of_heap HZ.out 2
        have z3 := cell_of_heap HZ.out 3
        have y3 := frozen_of_heap HZ.out 3
        simp at z0 z1 z2 z3
        go_simp
        go_wp2_with fail
        have HG := hide (grown_put4 wzq14 (wq8.heap.size) (.int .i64 p) (.int .i64 q) (.int .i64 s) (.int .i64 t))
        refine hK.out _ _ (gf_own hHeld HG.out HB.out) (fun hHeld => ?_)
        clear hK z0 z1 z2 z3 y0 y1 y2 y3
        have O3 := hide (O3.out.keepBut HG.out HZ.out (by decide))
        have HZ := hide (heap_set4 HZ.out p q s t)
        (try simp only [Act.put, List.setIfInBounds_toArray, List.set_cons_zero, List.set_cons_succ, List.getElem_toArray, List.getElem_cons_zero, List.getElem_cons_succ])
        refine wpAnyH_take (i := 11) (v := ?vq15) rfl (by kernel_rfl) (by kernel_rfl) (by kernel_rfl) (fun _ _ _ h => h) (Or.inl ⟨by rfl, ?yq15⟩) hHeld ?rq15
        case yq15 => (intro w' hSw; go_simp; (try with_reducible rfl))
        (try simp only [Act.put, List.setIfInBounds_toArray, List.set_cons_zero, List.set_cons_succ, List.getElem_toArray, List.getElem_cons_zero, List.getElem_cons_succ])
        refine wpAnyH_done (by kernel_rfl) ?_ _
        go_wp2_with fail
        go_meet
        exact ⟨wq8.heap.size, rfl, rfl, O3.out, HZ.out, HB.out, hHeld⟩
      case gq7 =>
        (try simp only [Act.put, List.setIfInBounds_toArray, List.set_cons_zero, List.set_cons_succ, List.getElem_toArray, List.getElem_cons_zero, List.getElem_cons_succ])
        go_simp
        go_wp2_with fail
        have HB := hide (gf_size hHeld)
        refine hK.out _ _ (gf_alloc hHeld (.cells #[.int .i64 0, .int .i64 0, .int .i64 0, .int .i64 0] 24)) (fun hHeld => ?_)
        clear hK
        have I2 := hide (Ints_keep I2.out (grown_alloc wq5 (.cells #[.int .i64 0, .int .i64 0, .int .i64 0, .int .i64 0] 24) none))
        have HZ := hide (show (wq5.alloc (.cells #[.int .i64 0, .int .i64 0, .int .i64 0, .int .i64 0] 24)).heap[wq5.heap.size]? = some (.cells #[.int .i64 0, .int .i64 0, .int .i64 0, .int .i64 0] 24) from heap_new wq5 (.cells #[.int .i64 0, .int .i64 0, .int .i64 0, .int .i64 0] 24))
        (try simp only [Act.put, List.setIfInBounds_toArray, List.set_cons_zero, List.set_cons_succ, List.getElem_toArray, List.getElem_cons_zero, List.getElem_cons_succ])
        refine wpAnyH_ready (rs := [3]) (by kernel_rfl) (by simp) (AllReadyH.cons rfl (fun K hK => ?_) AllReadyH.nil)
        (try simp only [Act.put, List.setIfInBounds_toArray, List.set_cons_zero, List.set_cons_succ, List.getElem_toArray, List.getElem_cons_zero, List.getElem_cons_succ])
        go_simp
        refine (HA.out vi _ I2.out).mono ?_
        rintro e wq16 ⟨vh, rfl, oq16, gq16⟩
        have Gq16 := hide gq16
        have O3 := hide (Own.base oq16 (gf_size hHeld))
        clear gq16 oq16 I2
        go_wp2_with fail
        refine hK.out _ _ (gf_trans hHeld Gq16.out) (fun hHeld => ?_)
        clear hK
        have HZ := hide (heap_keep HZ.out Gq16.out)
        (try simp only [Act.put, List.setIfInBounds_toArray, List.set_cons_zero, List.set_cons_succ, List.getElem_toArray, List.getElem_cons_zero, List.getElem_cons_succ])
        refine wpAnyH_take (i := 4) (v := ?vq17) rfl (by kernel_rfl) (by kernel_rfl) (by kernel_rfl) (fun _ _ _ h => h) (Or.inl ⟨by rfl, ?yq17⟩) hHeld ?rq17
        case yq17 => (intro w' hSw; go_simp; (try with_reducible rfl))
        (try simp only [Act.put, List.setIfInBounds_toArray, List.set_cons_zero, List.set_cons_succ, List.getElem_toArray, List.getElem_cons_zero, List.getElem_cons_succ])
        refine wpAnyH_take (i := 5) (v := ?vq18) rfl (by kernel_rfl) (by kernel_rfl) (by kernel_rfl) (fun _ _ _ h => h) (Or.inl ⟨by rfl, ?yq18⟩) hHeld ?rq18
        case yq18 => (intro w' hSw; go_simp; (try with_reducible rfl))
        (try simp only [Act.put, List.setIfInBounds_toArray, List.set_cons_zero, List.set_cons_succ, List.getElem_toArray, List.getElem_cons_zero, List.getElem_cons_succ])
        refine wpAnyH_take (i := 6) (v := ?vq19) rfl (by kernel_rfl) (by kernel_rfl) (by kernel_rfl) (fun _ _ _ h => h) (Or.inl ⟨by rfl, ?yq19⟩) hHeld ?rq19
        case yq19 => (intro w' hSw; go_simp; (try with_reducible rfl))
        (try simp only [Act.put, List.setIfInBounds_toArray, List.set_cons_zero, List.set_cons_succ, List.getElem_toArray, List.getElem_cons_zero, List.getElem_cons_succ])
        refine wpAnyH_take (i := 7) (v := ?vq20) rfl (by kernel_rfl) (by kernel_rfl) (by kernel_rfl) (fun _ _ _ h => h) (Or.inl ⟨by rfl, ?yq20⟩) hHeld ?rq20
        case yq20 => (intro w' hSw; go_simp; (try with_reducible rfl))
        (try simp only [Act.put, List.setIfInBounds_toArray, List.set_cons_zero, List.set_cons_succ, List.getElem_toArray, List.getElem_cons_zero, List.getElem_cons_succ])
        refine wpAnyH_take (i := 9) (v := ?vq21) rfl (by kernel_rfl) (by kernel_rfl) (by kernel_rfl) (fun _ _ _ h => h) (Or.inl ⟨by rfl, ?yq21⟩) hHeld ?rq21
        case yq21 => (intro w' hSw; go_simp; (try with_reducible rfl))
        (try simp only [Act.put, List.setIfInBounds_toArray, List.set_cons_zero, List.set_cons_succ, List.getElem_toArray, List.getElem_cons_zero, List.getElem_cons_succ])
        refine wpAnyH_ready (rs := [10]) (by kernel_rfl) (by simp) (AllReadyH.cons rfl (fun K hK => ?_) AllReadyH.nil)
        (try simp only [Act.put, List.setIfInBounds_toArray, List.set_cons_zero, List.set_cons_succ, List.getElem_toArray, List.getElem_cons_zero, List.getElem_cons_succ])
        have z0 := cell_of_heap HZ.out 0
        have y0 := frozen_of_heap HZ.out 0
        have z1 := cell_of_heap HZ.out 1
        have y1 := frozen_of_heap HZ.out 1
        have z2 := cell_of_heap HZ.out 2
        have y2 := frozen_of_heap HZ.out 2
        have z3 := cell_of_heap HZ.out 3
        have y3 := frozen_of_heap HZ.out 3
        simp at z0 z1 z2 z3
        go_simp
        go_wp2_with fail
        have HG := hide (grown_put4 wq16 (wq5.heap.size) (.int .i64 p) (.int .i64 q) (.int .i64 s) (.int .i64 t))
        refine hK.out _ _ (gf_own hHeld HG.out HB.out) (fun hHeld => ?_)
        clear hK z0 z1 z2 z3 y0 y1 y2 y3
        have O3 := hide (O3.out.keepBut HG.out HZ.out (by decide))
        have HZ := hide (heap_set4 HZ.out p q s t)
        (try simp only [Act.put, List.setIfInBounds_toArray, List.set_cons_zero, List.set_cons_succ, List.getElem_toArray, List.getElem_cons_zero, List.getElem_cons_succ])
        refine wpAnyH_take (i := 11) (v := ?vq22) rfl (by kernel_rfl) (by kernel_rfl) (by kernel_rfl) (fun _ _ _ h => h) (Or.inl ⟨by rfl, ?yq22⟩) hHeld ?rq22
        case yq22 => (intro w' hSw; go_simp; (try with_reducible rfl))
        (try simp only [Act.put, List.setIfInBounds_toArray, List.set_cons_zero, List.set_cons_succ, List.getElem_toArray, List.getElem_cons_zero, List.getElem_cons_succ])
        refine wpAnyH_done (by kernel_rfl) ?_ _
        go_wp2_with fail
        go_meet
        exact ⟨wq5.heap.size, rfl, rfl, O3.out, HZ.out, HB.out, hHeld⟩
    case gq4 =>
      (try simp only [Act.put, List.setIfInBounds_toArray, List.set_cons_zero, List.set_cons_succ, List.getElem_toArray, List.getElem_cons_zero, List.getElem_cons_succ])
      go_simp
      go_wp2_with fail
      have HB := hide (gf_size hHeld)
      refine hK.out _ _ (gf_alloc hHeld (.cells #[.int .i64 0, .int .i64 0, .int .i64 0, .int .i64 0] 24)) (fun hHeld => ?_)
      clear hK
      have HZ := hide (show (W0.drew.alloc (.cells #[.int .i64 0, .int .i64 0, .int .i64 0, .int .i64 0] 24)).heap[W0.heap.size]? = some (.cells #[.int .i64 0, .int .i64 0, .int .i64 0, .int .i64 0] 24) from heap_new W0.drew (.cells #[.int .i64 0, .int .i64 0, .int .i64 0, .int .i64 0] 24))
      (try simp only [Act.put, List.setIfInBounds_toArray, List.set_cons_zero, List.set_cons_succ, List.getElem_toArray, List.getElem_cons_zero, List.getElem_cons_succ])
      refine wpAnyH_ready (rs := [2]) (by kernel_rfl) (by simp) (AllReadyH.cons rfl (fun K hK => ?_) AllReadyH.nil)
      (try simp only [Act.put, List.setIfInBounds_toArray, List.set_cons_zero, List.set_cons_succ, List.getElem_toArray, List.getElem_cons_zero, List.getElem_cons_succ])
      go_simp
      refine (IN.out _ (Ints_keep HI.out hHeld)).mono ?_
      rintro e wq23 ⟨vi, rfl, oq23, gq23⟩
      have Gq23 := hide gq23
      have I2 := hide (Ints_of_owns oq23)
      clear gq23 oq23
      go_wp2_with fail
      refine hK.out _ _ (gf_trans hHeld Gq23.out) (fun hHeld => ?_)
      clear hK
      have HZ := hide (heap_keep HZ.out Gq23.out)
      (try simp only [Act.put, List.setIfInBounds_toArray, List.set_cons_zero, List.set_cons_succ, List.getElem_toArray, List.getElem_cons_zero, List.getElem_cons_succ])
      refine wpAnyH_ready (rs := [3]) (by kernel_rfl) (by simp) (AllReadyH.cons rfl (fun K hK => ?_) AllReadyH.nil)
      (try simp only [Act.put, List.setIfInBounds_toArray, List.set_cons_zero, List.set_cons_succ, List.getElem_toArray, List.getElem_cons_zero, List.getElem_cons_succ])
      go_simp
      refine (HA.out vi _ I2.out).mono ?_
      rintro e wq24 ⟨vh, rfl, oq24, gq24⟩
      have Gq24 := hide gq24
      have O3 := hide (Own.base oq24 (gf_size hHeld))
      clear gq24 oq24 I2
      go_wp2_with fail
      refine hK.out _ _ (gf_trans hHeld Gq24.out) (fun hHeld => ?_)
      clear hK
      have HZ := hide (heap_keep HZ.out Gq24.out)
      (try simp only [Act.put, List.setIfInBounds_toArray, List.set_cons_zero, List.set_cons_succ, List.getElem_toArray, List.getElem_cons_zero, List.getElem_cons_succ])
      refine wpAnyH_take (i := 4) (v := ?vq25) rfl (by kernel_rfl) (by kernel_rfl) (by kernel_rfl) (fun _ _ _ h => h) (Or.inl ⟨by rfl, ?yq25⟩) hHeld ?rq25
      case yq25 => (intro w' hSw; go_simp; (try with_reducible rfl))
      (try simp only [Act.put, List.setIfInBounds_toArray, List.set_cons_zero, List.set_cons_succ, List.getElem_toArray, List.getElem_cons_zero, List.getElem_cons_succ])
      refine wpAnyH_take (i := 5) (v := ?vq26) rfl (by kernel_rfl) (by kernel_rfl) (by kernel_rfl) (fun _ _ _ h => h) (Or.inl ⟨by rfl, ?yq26⟩) hHeld ?rq26
      case yq26 => (intro w' hSw; go_simp; (try with_reducible rfl))
      (try simp only [Act.put, List.setIfInBounds_toArray, List.set_cons_zero, List.set_cons_succ, List.getElem_toArray, List.getElem_cons_zero, List.getElem_cons_succ])
      refine wpAnyH_take (i := 6) (v := ?vq27) rfl (by kernel_rfl) (by kernel_rfl) (by kernel_rfl) (fun _ _ _ h => h) (Or.inl ⟨by rfl, ?yq27⟩) hHeld ?rq27
      case yq27 => (intro w' hSw; go_simp; (try with_reducible rfl))
      (try simp only [Act.put, List.setIfInBounds_toArray, List.set_cons_zero, List.set_cons_succ, List.getElem_toArray, List.getElem_cons_zero, List.getElem_cons_succ])
      refine wpAnyH_take (i := 7) (v := ?vq28) rfl (by kernel_rfl) (by kernel_rfl) (by kernel_rfl) (fun _ _ _ h => h) (Or.inl ⟨by rfl, ?yq28⟩) hHeld ?rq28
      case yq28 => (intro w' hSw; go_simp; (try with_reducible rfl))
      (try simp only [Act.put, List.setIfInBounds_toArray, List.set_cons_zero, List.set_cons_succ, List.getElem_toArray, List.getElem_cons_zero, List.getElem_cons_succ])
      refine wpAnyH_take (i := 9) (v := ?vq29) rfl (by kernel_rfl) (by kernel_rfl) (by kernel_rfl) (fun _ _ _ h => h) (Or.inl ⟨by rfl, ?yq29⟩) hHeld ?rq29
      case yq29 => (intro w' hSw; go_simp; (try with_reducible rfl))
      (try simp only [Act.put, List.setIfInBounds_toArray, List.set_cons_zero, List.set_cons_succ, List.getElem_toArray, List.getElem_cons_zero, List.getElem_cons_succ])
      refine wpAnyH_ready (rs := [10]) (by kernel_rfl) (by simp) (AllReadyH.cons rfl (fun K hK => ?_) AllReadyH.nil)
      (try simp only [Act.put, List.setIfInBounds_toArray, List.set_cons_zero, List.set_cons_succ, List.getElem_toArray, List.getElem_cons_zero, List.getElem_cons_succ])
      have z0 := cell_of_heap HZ.out 0
      have y0 := frozen_of_heap HZ.out 0
      have z1 := cell_of_heap HZ.out 1
      have y1 := frozen_of_heap HZ.out 1
      have z2 := cell_of_heap HZ.out 2
      have y2 := frozen_of_heap HZ.out 2
      have z3 := cell_of_heap HZ.out 3
      have y3 := frozen_of_heap HZ.out 3
      simp at z0 z1 z2 z3
      go_simp
      go_wp2_with fail
      have HG := hide (grown_put4 wq24 (W0.heap.size) (.int .i64 p) (.int .i64 q) (.int .i64 s) (.int .i64 t))
      refine hK.out _ _ (gf_own hHeld HG.out HB.out) (fun hHeld => ?_)
      clear hK z0 z1 z2 z3 y0 y1 y2 y3
      have O3 := hide (O3.out.keepBut HG.out HZ.out (by decide))
      have HZ := hide (heap_set4 HZ.out p q s t)
      (try simp only [Act.put, List.setIfInBounds_toArray, List.set_cons_zero, List.set_cons_succ, List.getElem_toArray, List.getElem_cons_zero, List.getElem_cons_succ])
      refine wpAnyH_take (i := 11) (v := ?vq30) rfl (by kernel_rfl) (by kernel_rfl) (by kernel_rfl) (fun _ _ _ h => h) (Or.inl ⟨by rfl, ?yq30⟩) hHeld ?rq30
      case yq30 => (intro w' hSw; go_simp; (try with_reducible rfl))
      (try simp only [Act.put, List.setIfInBounds_toArray, List.set_cons_zero, List.set_cons_succ, List.getElem_toArray, List.getElem_cons_zero, List.getElem_cons_succ])
      refine wpAnyH_done (by kernel_rfl) ?_ _
      go_wp2_with fail
      go_meet
      exact ⟨W0.heap.size, rfl, rfl, O3.out, HZ.out, HB.out, hHeld⟩
  case rest =>
  obtain ⟨b6, rfl, rfl, o5, z6, hb6, g6⟩ := hcut
  have O5 := hide o5
  have Z6 := hide z6
  have G6 := hide (grown_none G0.out g6)
  have cy0 := grown_keep g6 cx0
  have cy1 := grown_keep g6 cx1
  have cy2 := grown_keep g6 cx2
  have cy3 := grown_keep g6 cx3
  have RH := hide (HF.out wc (Ints_keep HI.out g6))
  clear o5 z6 g6 HF HA IN HI cx0 cx1 cx2 cx3 B0 G0
  go_wp2_with fail
  refine RH.out.mono ?_
  rintro e w9 ⟨vr, rfl, i9, g9⟩
  have I9 := hide i9
  have G9 := hide g9
  clear i9 g9 RH cy0 cy1 cy2 cy3
  have HH := hide (H1.out (w9.alloc (.cells #[.int .i64 p, .int .i64 q, .int .i64 s, .int .i64 t] 24)))
  rw [show (w9.alloc (.cells #[.int .i64 p, .int .i64 q, .int .i64 s, .int .i64 t] 24)).heap.size = w9.heap.size + 1 by simp] at HH
  clear H1
  go_wp2_with fail
  refine HH.out.mono ?_
  rintro e w10 ⟨v1, rfl, o10, g10⟩
  have gT := grown_none (grown_alloc w9 (.cells #[.int .i64 p, .int .i64 q, .int .i64 s, .int .i64 t] 24) none) (grown_none (grown_alloc _ (.cells #[.int .i64 4096] 3) none) g10)
  have Z9 := heap_keep (heap_new w9 (.cells #[.int .i64 p, .int .i64 q, .int .i64 s, .int .i64 t] 24)) (grown_none (grown_alloc _ (.cells #[.int .i64 4096] 3) none) g10)
  have Z6' := heap_keep Z6.out (grown_none G9.out gT)
  simp only [hp] at Z6'
  have OA := hide (O5.out.keep (grown_none G9.out gT)).ints
  have OB := hide (Ints_keep I9.out gT)
  have GA := hide (grown_none (grown_none G6.out G9.out) gT)
  have l6 : b6 < w10.heap.size := lt_of_some Z6'
  have l9 : w9.heap.size < w10.heap.size := lt_of_some Z9
  have e0 := cell_of_heap Z6' 0
  have e1 := cell_of_heap Z6' 1
  have e2 := cell_of_heap Z6' 2
  have e3 := cell_of_heap Z6' 3
  have f0 := cell_of_heap Z9 0
  have f1 := cell_of_heap Z9 1
  have f2 := cell_of_heap Z9 2
  have f3 := cell_of_heap Z9 3
  simp at e0 e1 e2 e3 f0 f1 f2 f3
  have heq := eq_hp p q s t
  obtain ⟨_, l2⟩ := o10
  rcases l2 with ⟨_, l3⟩ | ⟨gz, cz, cur, rfl, _⟩
  · simp at l3
  clear HH G9 G6 O5 I9 Z6 Z6' Z9 gT g10
  have SM := hide (refSameU_any u5 vr L L (w10.alloc (.cells #[.int .i64 a0, .int .i64 a1, .int .i64 a2, .int .i64 a3] 24)) (Ints_keep OA.out (grown_alloc _ _ none)) (Ints_keep OB.out (grown_alloc _ _ none)) hLb hLb)
  simp only [decide_true] at SM
  go_wp2_with fail
  refine SM.out.mono ?_
  rintro e w11 ⟨rfl, n11, rfl⟩
  clear SM
  go_wp2_with fail
  go_ret
  exact ⟨rfl, below_of_grown (grown_none (grown_none GA.out (grown_alloc _ _ none)) (grown_drewN' _ _ none))⟩
end Go.Proofs.Ytmmlppmlkmlgpaa
