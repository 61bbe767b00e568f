/- The walk of HighCut out of the contracts. -/
import Derived.Test.YtmmlppmlkmlgpaaRegs
import Derived.Test.YtmmlppmlkmlgpaaBaseB
import Derived.Test.YtmmlppmlkmlgpaaCuts
import Derived.Test.YtmmlppmlkmlgpaaCutMath
import Derived.Test.YtmmlppmlkmlgpaaHighs
import Derived.BigQuiet
import Derived.Deep.QuietTactic
namespace Go.Proofs.Ytmmlppmlkmlgpaa
open Go.RowKit
set_option linter.unusedVariables false
set_option linter.unusedSimpArgs false
set_option maxHeartbeats 2000000

theorem list_same (a b : List Int) (hl : a.length = b.length) (h : ∀ j, j < b.length → nth a j = nth b j) : decide (a = b) = true := by
  apply decide_eq_true
  apply List.ext_getElem hl
  intro i h1 h2
  have := h i h2
  simpa [nth, List.getD, h1, h2] using this
theorem keepSame_any (va vb : Value) (a b : List Int) (w : World) (ha : Ints w va a) (hb : Ints w vb b) (la : a.length ≤ 1000000000000000000) (lb : b.length ≤ 1000000000000000000) :
    Calls Try.prog 19 #[va, vb] w fun e w' => e = .returned (.bool (decide (a = b))) ∧ ∃ n, w' = w.drewN n := by
  obtain ⟨ada, ca, rfl, hca, hva⟩ := ha
  obtain ⟨adb, cb, rfl, hcb, hvb⟩ := hb
  by_cases hl : a.length = b.length
  · have FY := hide (list_same a b hl)
    have FN := hide (fun k (h : nth a k ≠ nth b k) => (show decide (a = b) = false from decide_eq_false (fun e => h (by rw [e]))))
    generalize decide (a = b) = d at *
    go_enter Try.func19, Try.ntmps19
    go_wp2_with fail
    go_loopw [5] (fun i wr => ∃ k n : Nat, i = .int .i64 k ∧ k ≤ b.length ∧ Hid (∀ j, j < k → nth a j = nth b j) ∧ wr = w.drewN n) (fun i _ => b.length - (intOf i).toNat)
    case atStart => exact ⟨0, 0, rfl, Nat.zero_le _, fun j hj => by omega, rfl⟩
    case round =>
      obtain ⟨k, n, rfl, hk, hE, rfl⟩ := hrel
      by_cases hkl : k < b.length
      · obtain ⟨a0, rfl, hva'⟩ := hva (by omega)
        obtain ⟨b0, rfl, hvb'⟩ := hvb (by omega)
        have ck := hva' k (by omega)
        have dk := hvb' k hkl
        have GK := hide (fun (e : nth a k = nth b k) => (show ∀ j, j < k + 1 → nth a j = nth b j from fun j hj => by
          rcases Nat.lt_or_ge j k with g | g
          · exact hE.out j g
          · obtain rfl : j = k := by omega
            exact e))
        have NK := hide (FN.out k)
        clear hva hvb hva' hvb' FY FN hE
        generalize nth a k = x at *
        generalize nth b k = y at *
        by_cases hxy : x = y
        · have hb1 : (x == y) = true := by simp [hxy]
          have G := hide (GK.out hxy)
          clear GK NK hxy
          go_wp2_with fail
          go_quiet (fail)
          go_wp2_with fail
          go_roundw
          case rel => exact ⟨k + 1, _, by go_num, by omega, G.out, rfl⟩
          case measure => simp [intOf]; omega
        · have hb1 : (x == y) = false := beq_eq_false_iff_ne.2 hxy
          have D := hide (NK.out hxy)
          clear GK NK hxy
          go_wp2_with fail
          go_quiet (fail)
          go_wp2_with fail
          rw [World.drewN_drewN]
          go_ret
          exact ⟨by rw [D.out]; rfl, _, rfl⟩
      · obtain rfl : k = b.length := by omega
        have D := hide (FY.out hE.out)
        clear hva hvb FY FN hE
        go_wp2_with fail
        go_ret
        exact ⟨by rw [D.out]; rfl, _, rfl⟩
  · have hb0 : ((a.length : Int) == (b.length : Int)) = false := beq_eq_false_iff_ne.2 (by omega)
    have hne : decide (a = b) = false := decide_eq_false (fun e => hl (by rw [e]))
    rw [hne]
    clear hva hvb hne
    go_enter Try.func19, Try.ntmps19
    go_wp2_with fail
    go_ret
    exact ⟨rfl, 0, rfl⟩
set_option maxRecDepth 100000 in
theorem law_cut (w : World) (h : List Int) (hh : h.length = 4) (h64 : In64 h) (v : Value) (l : List Int) (hi : Ints w v l) (hl : l.length * 8 ≤ 140737488351232) (hl64 : In64 l) (hsh : v = .slice none 0 0 ∨ ∃ a c, v = .slice (some a) l.length c) (k : Int) (wk : (Lit.int .i64 k).wf = true) :
    Calls Try.prog 6 #[.agg (arrI h), v, .int .i64 k] w fun e w' => e = .returned (.bool true) ∧ Below w.heap.size w w' := by
  match h, hh with
  | [x0, x1, y0, y1], _ =>
  show Calls Try.prog 6 #[.agg #[.int .i64 x0, .int .i64 x1, .int .i64 y0, .int .i64 y1], v, .int .i64 k] w _
  obtain ⟨kk, hkk⟩ : ∃ kk : Nat, spotN k ((l.length : Int) + 1) = kk := ⟨(spotN k ((l.length : Int) + 1)).toNat, by
    have : 0 ≤ spotN k ((l.length : Int) + 1) := Int.emod_nonneg _ (by omega)
    omega⟩
  have hkn : kk ≤ l.length := by
    have : spotN k ((l.length : Int) + 1) < (l.length : Int) + 1 := Int.emod_lt_of_pos _ (by omega)
    omega
  have SP := hide (spot_any k ((l.length : Int) + 1) (by omega) (by omega))
  rw [hkk] at SP
  have HA := hide (fun v' u hu => high_any x0 x1 y0 y1 v' l u hu (by omega))
  have HB1 := hide (fun v' u hu => high_any x0 x1 y0 y1 v' (l.take kk) u hu (by simp; omega))
  have G0 := hide (grown_alloc w (hp x0 x1 y0 y1) none)
  have HI0 := hide (Ints_keep hi G0.out)
  have HS := hide (show Shp v l from hsh)
  obtain ⟨vA, hsA, iA, sA⟩ := slice_h hi hsh kk hkn
  obtain ⟨vB, hsB, iB, sB⟩ := slice_l hi hsh kk hkn
  have HIA := hide (Ints_keep iA G0.out)
  have HSA := hide sA
  have HIB := hide (Ints_keep iB G0.out)
  have HSB := hide sB
  unfold hiT at HA HB1
  have hLn : (hiL x0 x1 y0 y1 l).length ≤ l.length := by rw [hiL_len]; split <;> omega
  have hL1n : (hiL x0 x1 y0 y1 (l.take kk)).length ≤ l.length := by rw [hiL_len]; split <;> (simp; try omega)
  have CS := hide (show (hiE x0 x1 y0 y1 l = 0 ∧ hiE x0 x1 y0 y1 (l.take kk) = 0 ∧ ∃ L2, hiL x0 x1 y0 y1 l = hiL x0 x1 y0 y1 (l.take kk) ++ L2 ∧
      ∀ v' u, Ints u v' (l.drop kk) → Calls Try.prog 9 #[.agg #[.int .i64 (hiM x0 x1 y0 y1 (l.take kk) 0), .int .i64 (hiM x0 x1 y0 y1 (l.take kk) 1), .int .i64 (hiM x0 x1 y0 y1 (l.take kk) 2), .int .i64 (hiM x0 x1 y0 y1 (l.take kk) 3)], v'] u fun e w' => ∃ vh, e = .returned (.tuple #[vh, .agg #[.int .i64 (hiM x0 x1 y0 y1 l 0), .int .i64 (hiM x0 x1 y0 y1 l 1), .int .i64 (hiM x0 x1 y0 y1 l 2), .int .i64 (hiM x0 x1 y0 y1 l 3)], .int .i64 0]) ∧ Own u.heap.size w' vh L2 ∧ u.grownBy w' none) ∨
      (hiE x0 x1 y0 y1 l = 2 ∧ hiL x0 x1 y0 y1 l = []) from by
    rcases hk : okH x0 x1 y0 y1 l with _ | _
    · right; simp [hiE, hiL, hk]
    · left
      obtain ⟨c1, c2, c3, c4⟩ := high_cut x0 x1 y0 y1 l kk hkn hk _ _ _ _ rfl rfl rfl rfl
      refine ⟨by simp [hiE, hk], by simp [hiE, c1], _, c4, fun v' u hu => ?_⟩
      refine (high_any _ _ _ _ v' (l.drop kk) u hu (by simp; omega)).mono fun e w' ⟨vh, he, ho, hg⟩ => ⟨vh, ?_, ho, hg⟩
      rw [he]
      unfold hiT
      rw [c3 0, c3 1, c3 2, c3 3, show hiE _ _ _ _ (l.drop kk) = 0 by simp [hiE, c2]])
  generalize hiM x0 x1 y0 y1 l 0 = p at *
  generalize hiM x0 x1 y0 y1 l 1 = q at *
  generalize hiM x0 x1 y0 y1 l 2 = s at *
  generalize hiM x0 x1 y0 y1 l 3 = t at *
  generalize hiE x0 x1 y0 y1 l = en at *
  generalize hiL x0 x1 y0 y1 l = L at *
  generalize hiM x0 x1 y0 y1 (l.take kk) 0 = p1 at *
  generalize hiM x0 x1 y0 y1 (l.take kk) 1 = q1 at *
  generalize hiM x0 x1 y0 y1 (l.take kk) 2 = s1 at *
  generalize hiM x0 x1 y0 y1 (l.take kk) 3 = t1 at *
  generalize hiE x0 x1 y0 y1 (l.take kk) = en1 at *
  generalize hiL x0 x1 y0 y1 (l.take kk) = L1 at *
  have B0 := heap_new w (hp x0 x1 y0 y1)
  simp only [hp] at B0 G0 HI0 HIA HIB
  obtain ⟨ad, c, rfl, hc, hcell⟩ := hi
  clear hcell h64 hl64 hsh iA iB sA sB hkk wk
  go_enter Try.func6, Try.ntmps6
  go_wp2_with fail
  refine (SP.out _).mono ?_
  rintro e wx ⟨rfl, rfl⟩
  clear SP
  go_upto_region 2 with fail
  generalize w.alloc (.cells #[.int .i64 x0, .int .i64 x1, .int .i64 y0, .int .i64 y1] 24) = W0 at *
  generalize hv : Value.slice ad l.length c = v at *
  clear hv hc
  have cx0 := cell_of_heap B0 0
  have cx1 := cell_of_heap B0 1
  have cx2 := cell_of_heap B0 2
  have cx3 := cell_of_heap B0 3
  simp at cx0 cx1 cx2 cx3
  go_cut [7, 8, 9] from 21 (fun s7 s8 s9 wx => HiR W0 L p q s t en s7 s8 s9 wx)
  case first =>
    refine wp_region_held_drew (S := GrownFrom W0) (by kernel_rfl) (gf_start _) (fun hHeld => ?_)
    refine wpAnyH_take (i := 0) (v := ?vq1) rfl (by kernel_rfl) (by kernel_rfl) (by kernel_rfl) (fun _ _ _ h => h) (Or.inl ⟨by rfl, ?yq1⟩) hHeld ?rq1
    case yq1 => (intro w' hSw; have q0 := grown_keep hSw cx0; have q1 := grown_keep hSw cx1; have q2 := grown_keep hSw cx2; have q3 := grown_keep hSw cx3; go_simp; (try with_reducible rfl))
    (try simp only [Act.put, List.setIfInBounds_toArray, List.set_cons_zero, List.set_cons_succ, List.getElem_toArray, List.getElem_cons_zero, List.getElem_cons_succ])
    refine wpAnyH_take (i := 1) (v := ?vq2) rfl (by kernel_rfl) (by kernel_rfl) (by kernel_rfl) (fun _ _ _ h => h) (Or.inl ⟨by rfl, ?yq2⟩) hHeld ?rq2
    case yq2 => (intro w' hSw; go_simp; (try with_reducible rfl))
    (try simp only [Act.put, List.setIfInBounds_toArray, List.set_cons_zero, List.set_cons_succ, List.getElem_toArray, List.getElem_cons_zero, List.getElem_cons_succ])
    refine wpAnyH_ready (rs := [2, 8]) (by kernel_rfl) (by simp) (AllReadyH.cons rfl (fun K hK => ?gq3) (AllReadyH.cons rfl (fun K hK => ?gq4) AllReadyH.nil))
    case gq3 =>
      (try simp only [Act.put, List.setIfInBounds_toArray, List.set_cons_zero, List.set_cons_succ, List.getElem_toArray, List.getElem_cons_zero, List.getElem_cons_succ])
      refine step_ints (by rfl) _ _ (by rfl) (by rfl) v l (by rfl) (Ints_keep HI0.out hHeld) HS.out (by omega) ?_
      intro viq5 wq5 oq5 gq5
      have Gq5 := hide gq5
      have I2 := hide (oq5.ints)
      clear gq5 oq5
      refine hK.out _ _ (gf_trans hHeld Gq5.out) (fun hHeld => ?_)
      clear hK
      (try simp only [Act.put, List.setIfInBounds_toArray, List.set_cons_zero, List.set_cons_succ, List.getElem_toArray, List.getElem_cons_zero, List.getElem_cons_succ])
      refine wpAnyH_ready (rs := [3, 8]) (by kernel_rfl) (by simp) (AllReadyH.cons rfl (fun K hK => ?gq6) (AllReadyH.cons rfl (fun K hK => ?gq7) AllReadyH.nil))
      case gq6 =>
        (try simp only [Act.put, List.setIfInBounds_toArray, List.set_cons_zero, List.set_cons_succ, List.getElem_toArray, List.getElem_cons_zero, List.getElem_cons_succ])
        go_simp
        refine (HA.out _ _ I2.out).mono ?_
        rintro e wq8 ⟨vh, rfl, oq8, gq8⟩
        have Gq8 := hide gq8
        have O3 := hide (Own.base oq8 (gf_size hHeld))
        clear gq8 oq8 I2
        go_wp2_with fail
        refine hK.out _ _ (gf_trans hHeld Gq8.out) (fun hHeld => ?_)
        clear hK
        (try simp only [Act.put, List.setIfInBounds_toArray, List.set_cons_zero, List.set_cons_succ, List.getElem_toArray, List.getElem_cons_zero, List.getElem_cons_succ])
        refine wpAnyH_take (i := 4) (v := ?vq9) rfl (by kernel_rfl) (by kernel_rfl) (by kernel_rfl) (fun _ _ _ h => h) (Or.inl ⟨by rfl, ?yq9⟩) hHeld ?rq9
        case yq9 => (intro w' hSw; go_simp; (try with_reducible rfl))
        (try simp only [Act.put, List.setIfInBounds_toArray, List.set_cons_zero, List.set_cons_succ, List.getElem_toArray, List.getElem_cons_zero, List.getElem_cons_succ])
        refine wpAnyH_take (i := 5) (v := ?vq10) rfl (by kernel_rfl) (by kernel_rfl) (by kernel_rfl) (fun _ _ _ h => h) (Or.inl ⟨by rfl, ?yq10⟩) hHeld ?rq10
        case yq10 => (intro w' hSw; go_simp; (try with_reducible rfl))
        (try simp only [Act.put, List.setIfInBounds_toArray, List.set_cons_zero, List.set_cons_succ, List.getElem_toArray, List.getElem_cons_zero, List.getElem_cons_succ])
        refine wpAnyH_take (i := 6) (v := ?vq11) rfl (by kernel_rfl) (by kernel_rfl) (by kernel_rfl) (fun _ _ _ h => h) (Or.inl ⟨by rfl, ?yq11⟩) hHeld ?rq11
        case yq11 => (intro w' hSw; go_simp; (try with_reducible rfl))
        (try simp only [Act.put, List.setIfInBounds_toArray, List.set_cons_zero, List.set_cons_succ, List.getElem_toArray, List.getElem_cons_zero, List.getElem_cons_succ])
        refine wpAnyH_take (i := 7) (v := ?vq12) rfl (by kernel_rfl) (by kernel_rfl) (by kernel_rfl) (fun _ _ _ h => h) (Or.inl ⟨by rfl, ?yq12⟩) hHeld ?rq12
        case yq12 => (intro w' hSw; go_simp; (try with_reducible rfl))
        (try simp only [Act.put, List.setIfInBounds_toArray, List.set_cons_zero, List.set_cons_succ, List.getElem_toArray, List.getElem_cons_zero, List.getElem_cons_succ])
        refine wpAnyH_ready (rs := [8]) (by kernel_rfl) (by simp) (AllReadyH.cons rfl (fun K hK => ?_) AllReadyH.nil)
        (try simp only [Act.put, List.setIfInBounds_toArray, List.set_cons_zero, List.set_cons_succ, List.getElem_toArray, List.getElem_cons_zero, List.getElem_cons_succ])
        go_simp
        go_wp2_with fail
        have HB := hide (gf_size hHeld)
        refine hK.out _ _ (gf_alloc hHeld (.cells #[.int .i64 0, .int .i64 0, .int .i64 0, .int .i64 0] 24)) (fun hHeld => ?_)
        clear hK
        have O3 := hide (O3.out.keep (grown_alloc wq8 (.cells #[.int .i64 0, .int .i64 0, .int .i64 0, .int .i64 0] 24) none))
        have HZ := hide (show (wq8.alloc (.cells #[.int .i64 0, .int .i64 0, .int .i64 0, .int .i64 0] 24)).heap[wq8.heap.size]? = some (.cells #[.int .i64 0, .int .i64 0, .int .i64 0, .int .i64 0] 24) from heap_new wq8 (.cells #[.int .i64 0, .int .i64 0, .int .i64 0, .int .i64 0] 24))
        (try simp only [Act.put, List.setIfInBounds_toArray, List.set_cons_zero, List.set_cons_succ, List.getElem_toArray, List.getElem_cons_zero, List.getElem_cons_succ])
        refine wpAnyH_take (i := 9) (v := ?vq13) rfl (by kernel_rfl) (by kernel_rfl) (by kernel_rfl) (fun _ _ _ h => h) (Or.inl ⟨by rfl, ?yq13⟩) hHeld ?rq13
        case yq13 => (intro w' hSw; go_simp; (try with_reducible rfl))
        (try simp only [Act.put, List.setIfInBounds_toArray, List.set_cons_zero, List.set_cons_succ, List.getElem_toArray, List.getElem_cons_zero, List.getElem_cons_succ])
        refine wpAnyH_ready (rs := [10]) (by kernel_rfl) (by simp) (AllReadyH.cons rfl (fun K hK => ?_) AllReadyH.nil)
        (try simp only [Act.put, List.setIfInBounds_toArray, List.set_cons_zero, List.set_cons_succ, List.getElem_toArray, List.getElem_cons_zero, List.getElem_cons_succ])
        generalize wq8.alloc (.cells #[.int .i64 0, .int .i64 0, .int .i64 0, .int .i64 0] 24) = wzq14 at *
        have z0 := cell_of_heap HZ.out 0
        have y0 := frozen_of_heap HZ.out 0
        have z1 := cell_of_heap HZ.out 1
        have y1 := frozen_of_heap HZ.out 1
        have z2 := cell_of_heap HZ.out 2
        have y2 := frozen_of_heap HZ.out 2
        have z3 := cell_of_heap HZ.out 3
        have y3 := frozen_of_heap HZ.out 3
        simp at z0 z1 z2 z3
        go_simp
        go_wp2_with fail
        have HG := hide (grown_put4 wzq14 (wq8.heap.size) (.int .i64 p) (.int .i64 q) (.int .i64 s) (.int .i64 t))
        refine hK.out _ _ (gf_own hHeld HG.out HB.out) (fun hHeld => ?_)
        clear hK z0 z1 z2 z3 y0 y1 y2 y3
        have O3 := hide (O3.out.keepBut HG.out HZ.out (by decide))
        have HZ := hide (heap_set4 HZ.out p q s t)
        (try simp only [Act.put, List.setIfInBounds_toArray, List.set_cons_zero, List.set_cons_succ, List.getElem_toArray, List.getElem_cons_zero, List.getElem_cons_succ])
        refine wpAnyH_take (i := 11) (v := ?vq15) rfl (by kernel_rfl) (by kernel_rfl) (by kernel_rfl) (fun _ _ _ h => h) (Or.inl ⟨by rfl, ?yq15⟩) hHeld ?rq15
        case yq15 => (intro w' hSw; go_simp; (try with_reducible rfl))
        (try simp only [Act.put, List.setIfInBounds_toArray, List.set_cons_zero, List.set_cons_succ, List.getElem_toArray, List.getElem_cons_zero, List.getElem_cons_succ])
        refine wpAnyH_done (by kernel_rfl) ?_ _
        go_wp2_with fail
        go_meet
        exact ⟨wq8.heap.size, rfl, rfl, O3.out, HZ.out, HB.out, hHeld⟩
      case gq7 =>
        (try simp only [Act.put, List.setIfInBounds_toArray, List.set_cons_zero, List.set_cons_succ, List.getElem_toArray, List.getElem_cons_zero, List.getElem_cons_succ])
        go_simp
        go_wp2_with fail
        have HB := hide (gf_size hHeld)
        refine hK.out _ _ (gf_alloc hHeld (.cells #[.int .i64 0, .int .i64 0, .int .i64 0, .int .i64 0] 24)) (fun hHeld => ?_)
        clear hK
        have I2 := hide (Ints_keep I2.out (grown_alloc wq5 (.cells #[.int .i64 0, .int .i64 0, .int .i64 0, .int .i64 0] 24) none))
        have HZ := hide (show (wq5.alloc (.cells #[.int .i64 0, .int .i64 0, .int .i64 0, .int .i64 0] 24)).heap[wq5.heap.size]? = some (.cells #[.int .i64 0, .int .i64 0, .int .i64 0, .int .i64 0] 24) from heap_new wq5 (.cells #[.int .i64 0, .int .i64 0, .int .i64 0, .int .i64 0] 24))
        (try simp only [Act.put, List.setIfInBounds_toArray, List.set_cons_zero, List.set_cons_succ, List.getElem_toArray, List.getElem_cons_zero, List.getElem_cons_succ])
        refine wpAnyH_ready (rs := [3]) (by kernel_rfl) (by simp) (AllReadyH.cons rfl (fun K hK => ?_) AllReadyH.nil)
        (try simp only [Act.put, List.setIfInBounds_toArray, List.set_cons_zero, List.set_cons_succ, List.getElem_toArray, List.getElem_cons_zero, List.getElem_cons_succ])
        go_simp
        refine (HA.out _ _ I2.out).mono ?_
        rintro e wq16 ⟨vh, rfl, oq16, gq16⟩
        have Gq16 := hide gq16
        have O3 := hide (Own.base oq16 (gf_size hHeld))
        clear gq16 oq16 I2
        go_wp2_with fail
        refine hK.out _ _ (gf_trans hHeld Gq16.out) (fun hHeld => ?_)
        clear hK
        have HZ := hide (heap_keep HZ.out Gq16.out)
        (try simp only [Act.put, List.setIfInBounds_toArray, List.set_cons_zero, List.set_cons_succ, List.getElem_toArray, List.getElem_cons_zero, List.getElem_cons_succ])
        refine wpAnyH_take (i := 4) (v := ?vq17) rfl (by kernel_rfl) (by kernel_rfl) (by kernel_rfl) (fun _ _ _ h => h) (Or.inl ⟨by rfl, ?yq17⟩) hHeld ?rq17
        case yq17 => (intro w' hSw; go_simp; (try with_reducible rfl))
        (try simp only [Act.put, List.setIfInBounds_toArray, List.set_cons_zero, List.set_cons_succ, List.getElem_toArray, List.getElem_cons_zero, List.getElem_cons_succ])
        refine wpAnyH_take (i := 5) (v := ?vq18) rfl (by kernel_rfl) (by kernel_rfl) (by kernel_rfl) (fun _ _ _ h => h) (Or.inl ⟨by rfl, ?yq18⟩) hHeld ?rq18
        case yq18 => (intro w' hSw; go_simp; (try with_reducible rfl))
        (try simp only [Act.put, List.setIfInBounds_toArray, List.set_cons_zero, List.set_cons_succ, List.getElem_toArray, List.getElem_cons_zero, List.getElem_cons_succ])
        refine wpAnyH_take (i := 6) (v := ?vq19) rfl (by kernel_rfl) (by kernel_rfl) (by kernel_rfl) (fun _ _ _ h => h) (Or.inl ⟨by rfl, ?yq19⟩) hHeld ?rq19
        case yq19 => (intro w' hSw; go_simp; (try with_reducible rfl))
        (try simp only [Act.put, List.setIfInBounds_toArray, List.set_cons_zero, List.set_cons_succ, List.getElem_toArray, List.getElem_cons_zero, List.getElem_cons_succ])
        refine wpAnyH_take (i := 7) (v := ?vq20) rfl (by kernel_rfl) (by kernel_rfl) (by kernel_rfl) (fun _ _ _ h => h) (Or.inl ⟨by rfl, ?yq20⟩) hHeld ?rq20
        case yq20 => (intro w' hSw; go_simp; (try with_reducible rfl))
        (try simp only [Act.put, List.setIfInBounds_toArray, List.set_cons_zero, List.set_cons_succ, List.getElem_toArray, List.getElem_cons_zero, List.getElem_cons_succ])
        refine wpAnyH_take (i := 9) (v := ?vq21) rfl (by kernel_rfl) (by kernel_rfl) (by kernel_rfl) (fun _ _ _ h => h) (Or.inl ⟨by rfl, ?yq21⟩) hHeld ?rq21
        case yq21 => (intro w' hSw; go_simp; (try with_reducible rfl))
        (try simp only [Act.put, List.setIfInBounds_toArray, List.set_cons_zero, List.set_cons_succ, List.getElem_toArray, List.getElem_cons_zero, List.getElem_cons_succ])
        refine wpAnyH_ready (rs := [10]) (by kernel_rfl) (by simp) (AllReadyH.cons rfl (fun K hK => ?_) AllReadyH.nil)
        (try simp only [Act.put, List.setIfInBounds_toArray, List.set_cons_zero, List.set_cons_succ, List.getElem_toArray, List.getElem_cons_zero, List.getElem_cons_succ])
        have z0 := cell_of_heap HZ.out 0
        have y0 := frozen_of_heap HZ.out 0
        have z1 := cell_of_heap HZ.out 1
        have y1 := frozen_of_heap HZ.out 1
        have z2 := cell_of_heap HZ.out 2
        have y2 := frozen_of_heap HZ.out 2
        have z3 := cell_of_heap HZ.out 3
        have y3 := frozen_of_heap HZ.out 3
        simp at z0 z1 z2 z3
        go_simp
        go_wp2_with fail
        have HG := hide (grown_put4 wq16 (wq5.heap.size) (.int .i64 p) (.int .i64 q) (.int .i64 s) (.int .i64 t))
        refine hK.out _ _ (gf_own hHeld HG.out HB.out) (fun hHeld => ?_)
        clear hK z0 z1 z2 z3 y0 y1 y2 y3
        have O3 := hide (O3.out.keepBut HG.out HZ.out (by decide))
        have HZ := hide (heap_set4 HZ.out p q s t)
        (try simp only [Act.put, List.setIfInBounds_toArray, List.set_cons_zero, List.set_cons_succ, List.getElem_toArray, List.getElem_cons_zero, List.getElem_cons_succ])
        refine wpAnyH_take (i := 11) (v := ?vq22) rfl (by kernel_rfl) (by kernel_rfl) (by kernel_rfl) (fun _ _ _ h => h) (Or.inl ⟨by rfl, ?yq22⟩) hHeld ?rq22
        case yq22 => (intro w' hSw; go_simp; (try with_reducible rfl))
        (try simp only [Act.put, List.setIfInBounds_toArray, List.set_cons_zero, List.set_cons_succ, List.getElem_toArray, List.getElem_cons_zero, List.getElem_cons_succ])
        refine wpAnyH_done (by kernel_rfl) ?_ _
        go_wp2_with fail
        go_meet
        exact ⟨wq5.heap.size, rfl, rfl, O3.out, HZ.out, HB.out, hHeld⟩
    case gq4 =>
      (try simp only [Act.put, List.setIfInBounds_toArray, List.set_cons_zero, List.set_cons_succ, List.getElem_toArray, List.getElem_cons_zero, List.getElem_cons_succ])
      go_simp
      go_wp2_with fail
      have HB := hide (gf_size hHeld)
      refine hK.out _ _ (gf_alloc hHeld (.cells #[.int .i64 0, .int .i64 0, .int .i64 0, .int .i64 0] 24)) (fun hHeld => ?_)
      clear hK
      have HZ := hide (show (W0.drew.alloc (.cells #[.int .i64 0, .int .i64 0, .int .i64 0, .int .i64 0] 24)).heap[W0.heap.size]? = some (.cells #[.int .i64 0, .int .i64 0, .int .i64 0, .int .i64 0] 24) from heap_new W0.drew (.cells #[.int .i64 0, .int .i64 0, .int .i64 0, .int .i64 0] 24))
      (try simp only [Act.put, List.setIfInBounds_toArray, List.set_cons_zero, List.set_cons_succ, List.getElem_toArray, List.getElem_cons_zero, List.getElem_cons_succ])
      refine wpAnyH_ready (rs := [2]) (by kernel_rfl) (by simp) (AllReadyH.cons rfl (fun K hK => ?_) AllReadyH.nil)
      (try simp only [Act.put, List.setIfInBounds_toArray, List.set_cons_zero, List.set_cons_succ, List.getElem_toArray, List.getElem_cons_zero, List.getElem_cons_succ])
      refine step_ints (by rfl) _ _ (by rfl) (by rfl) v l (by rfl) (Ints_keep HI0.out hHeld) HS.out (by omega) ?_
      intro viq23 wq23 oq23 gq23
      have Gq23 := hide gq23
      have I2 := hide (oq23.ints)
      clear gq23 oq23
      refine hK.out _ _ (gf_trans hHeld Gq23.out) (fun hHeld => ?_)
      clear hK
      have HZ := hide (heap_keep HZ.out Gq23.out)
      (try simp only [Act.put, List.setIfInBounds_toArray, List.set_cons_zero, List.set_cons_succ, List.getElem_toArray, List.getElem_cons_zero, List.getElem_cons_succ])
      refine wpAnyH_ready (rs := [3]) (by kernel_rfl) (by simp) (AllReadyH.cons rfl (fun K hK => ?_) AllReadyH.nil)
      (try simp only [Act.put, List.setIfInBounds_toArray, List.set_cons_zero, List.set_cons_succ, List.getElem_toArray, List.getElem_cons_zero, List.getElem_cons_succ])
      go_simp
      refine (HA.out _ _ I2.out).mono ?_
      rintro e wq24 ⟨vh, rfl, oq24, gq24⟩
      have Gq24 := hide gq24
      have O3 := hide (Own.base oq24 (gf_size hHeld))
      clear gq24 oq24 I2
      go_wp2_with fail
      refine hK.out _ _ (gf_trans hHeld Gq24.out) (fun hHeld => ?_)
      clear hK
      have HZ := hide (heap_keep HZ.out Gq24.out)
      (try simp only [Act.put, List.setIfInBounds_toArray, List.set_cons_zero, List.set_cons_succ, List.getElem_toArray, List.getElem_cons_zero, List.getElem_cons_succ])
      refine wpAnyH_take (i := 4) (v := ?vq25) rfl (by kernel_rfl) (by kernel_rfl) (by kernel_rfl) (fun _ _ _ h => h) (Or.inl ⟨by rfl, ?yq25⟩) hHeld ?rq25
      case yq25 => (intro w' hSw; go_simp; (try with_reducible rfl))
      (try simp only [Act.put, List.setIfInBounds_toArray, List.set_cons_zero, List.set_cons_succ, List.getElem_toArray, List.getElem_cons_zero, List.getElem_cons_succ])
      refine wpAnyH_take (i := 5) (v := ?vq26) rfl (by kernel_rfl) (by kernel_rfl) (by kernel_rfl) (fun _ _ _ h => h) (Or.inl ⟨by rfl, ?yq26⟩) hHeld ?rq26
      case yq26 => (intro w' hSw; go_simp; (try with_reducible rfl))
      (try simp only [Act.put, List.setIfInBounds_toArray, List.set_cons_zero, List.set_cons_succ, List.getElem_toArray, List.getElem_cons_zero, List.getElem_cons_succ])
      refine wpAnyH_take (i := 6) (v := ?vq27) rfl (by kernel_rfl) (by kernel_rfl) (by kernel_rfl) (fun _ _ _ h => h) (Or.inl ⟨by rfl, ?yq27⟩) hHeld ?rq27
      case yq27 => (intro w' hSw; go_simp; (try with_reducible rfl))
      (try simp only [Act.put, List.setIfInBounds_toArray, List.set_cons_zero, List.set_cons_succ, List.getElem_toArray, List.getElem_cons_zero, List.getElem_cons_succ])
      refine wpAnyH_take (i := 7) (v := ?vq28) rfl (by kernel_rfl) (by kernel_rfl) (by kernel_rfl) (fun _ _ _ h => h) (Or.inl ⟨by rfl, ?yq28⟩) hHeld ?rq28
      case yq28 => (intro w' hSw; go_simp; (try with_reducible rfl))
      (try simp only [Act.put, List.setIfInBounds_toArray, List.set_cons_zero, List.set_cons_succ, List.getElem_toArray, List.getElem_cons_zero, List.getElem_cons_succ])
      refine wpAnyH_take (i := 9) (v := ?vq29) rfl (by kernel_rfl) (by kernel_rfl) (by kernel_rfl) (fun _ _ _ h => h) (Or.inl ⟨by rfl, ?yq29⟩) hHeld ?rq29
      case yq29 => (intro w' hSw; go_simp; (try with_reducible rfl))
      (try simp only [Act.put, List.setIfInBounds_toArray, List.set_cons_zero, List.set_cons_succ, List.getElem_toArray, List.getElem_cons_zero, List.getElem_cons_succ])
      refine wpAnyH_ready (rs := [10]) (by kernel_rfl) (by simp) (AllReadyH.cons rfl (fun K hK => ?_) AllReadyH.nil)
      (try simp only [Act.put, List.setIfInBounds_toArray, List.set_cons_zero, List.set_cons_succ, List.getElem_toArray, List.getElem_cons_zero, List.getElem_cons_succ])
      have z0 := cell_of_heap HZ.out 0
      have y0 := frozen_of_heap HZ.out 0
      have z1 := cell_of_heap HZ.out 1
      have y1 := frozen_of_heap HZ.out 1
      have z2 := cell_of_heap HZ.out 2
      have y2 := frozen_of_heap HZ.out 2
      have z3 := cell_of_heap HZ.out 3
      have y3 := frozen_of_heap HZ.out 3
      simp at z0 z1 z2 z3
      go_simp
      go_wp2_with fail
      have HG := hide (grown_put4 wq24 (W0.heap.size) (.int .i64 p) (.int .i64 q) (.int .i64 s) (.int .i64 t))
      refine hK.out _ _ (gf_own hHeld HG.out HB.out) (fun hHeld => ?_)
      clear hK z0 z1 z2 z3 y0 y1 y2 y3
      have O3 := hide (O3.out.keepBut HG.out HZ.out (by decide))
      have HZ := hide (heap_set4 HZ.out p q s t)
      (try simp only [Act.put, List.setIfInBounds_toArray, List.set_cons_zero, List.set_cons_succ, List.getElem_toArray, List.getElem_cons_zero, List.getElem_cons_succ])
      refine wpAnyH_take (i := 11) (v := ?vq30) rfl (by kernel_rfl) (by kernel_rfl) (by kernel_rfl) (fun _ _ _ h => h) (Or.inl ⟨by rfl, ?yq30⟩) hHeld ?rq30
      case yq30 => (intro w' hSw; go_simp; (try with_reducible rfl))
      (try simp only [Act.put, List.setIfInBounds_toArray, List.set_cons_zero, List.set_cons_succ, List.getElem_toArray, List.getElem_cons_zero, List.getElem_cons_succ])
      refine wpAnyH_done (by kernel_rfl) ?_ _
      go_wp2_with fail
      go_meet
      exact ⟨W0.heap.size, rfl, rfl, O3.out, HZ.out, HB.out, hHeld⟩
  case rest =>
  obtain ⟨b8, rfl, rfl, o7, z8, hb8, g8⟩ := hcut
  have HI1 := hide (Ints_keep HIA.out g8)
  have HI2 := hide (Ints_keep HIB.out g8)
  have G1 := hide (grown_none G0.out g8)
  have NW := hide G1.out.size
  have O7 := hide o7
  have Z8 := hide z8
  have LT := hide (fun g (hg : u7.ownBlock = some g) => (o7.lt g hg).2)
  have cy0 := grown_keep g8 cx0
  have cy1 := grown_keep g8 cx1
  have cy2 := grown_keep g8 cx2
  have cy3 := grown_keep g8 cx3
  clear o7 z8 g8 hb8 HIA HIB HI0 HS HA cx0 cx1 cx2 cx3 B0 G0
  generalize wc = W1 at *
  go_upto_region 3 with fail
  go_cut [10, 11, 12] from 29 (fun s10 s11 s12 wx => HiR W1 L1 p1 q1 s1 t1 en1 s10 s11 s12 wx)
  case first =>
    refine wp_region_held_drew (S := GrownFrom W1) (by kernel_rfl) (gf_start _) (fun hHeld => ?_)
    refine wpAnyH_take (i := 0) (v := ?vr1) rfl (by kernel_rfl) (by kernel_rfl) (by kernel_rfl) (fun _ _ _ h => h) (Or.inl ⟨by rfl, ?yr1⟩) hHeld ?rr1
    case yr1 => (intro w' hSw; have q0 := grown_keep hSw cy0; have q1 := grown_keep hSw cy1; have q2 := grown_keep hSw cy2; have q3 := grown_keep hSw cy3; go_simp; (try with_reducible rfl))
    (try simp only [Act.put, List.setIfInBounds_toArray, List.set_cons_zero, List.set_cons_succ, List.getElem_toArray, List.getElem_cons_zero, List.getElem_cons_succ])
    refine wpAnyH_take (i := 1) (v := ?vr2) rfl (by kernel_rfl) (by kernel_rfl) (by kernel_rfl) (fun _ _ _ h => h) (Or.inl ⟨by rfl, ?yr2⟩) hHeld ?rr2
    case yr2 => (intro w' hSw; go_simp; (try with_reducible rfl))
    (try simp only [Act.put, List.setIfInBounds_toArray, List.set_cons_zero, List.set_cons_succ, List.getElem_toArray, List.getElem_cons_zero, List.getElem_cons_succ])
    refine wpAnyH_take (i := 2) (v := ?vr3) rfl (by kernel_rfl) (by kernel_rfl) (by kernel_rfl) (fun _ _ _ h => h) (Or.inl ⟨by rfl, ?yr3⟩) hHeld ?rr3
    case yr3 => (intro w' hSw; go_simp; (try with_reducible rfl))
    (try simp only [Act.put, List.setIfInBounds_toArray, List.set_cons_zero, List.set_cons_succ, List.getElem_toArray, List.getElem_cons_zero, List.getElem_cons_succ])
    refine wpAnyH_take (i := 3) (v := vA) rfl (by kernel_rfl) (by kernel_rfl) (by kernel_rfl) (fun _ _ _ h => h) (Or.inl ⟨by rfl, ?yr4⟩) hHeld ?rr4
    case yr4 => (intro w' hSw; go_simp; (try with_reducible rfl))
    (try simp only [Act.put, List.setIfInBounds_toArray, List.set_cons_zero, List.set_cons_succ, List.getElem_toArray, List.getElem_cons_zero, List.getElem_cons_succ])
    refine wpAnyH_ready (rs := [4, 10]) (by kernel_rfl) (by simp) (AllReadyH.cons rfl (fun K hK => ?gr5) (AllReadyH.cons rfl (fun K hK => ?gr6) AllReadyH.nil))
    case gr5 =>
      (try simp only [Act.put, List.setIfInBounds_toArray, List.set_cons_zero, List.set_cons_succ, List.getElem_toArray, List.getElem_cons_zero, List.getElem_cons_succ])
      refine step_ints (by rfl) _ _ (by rfl) (by rfl) vA (l.take kk) (by rfl) (Ints_keep HI1.out hHeld) HSA.out (by simp; omega) ?_
      intro vir7 wr7 or7 gr7
      have Gr7 := hide gr7
      have I2 := hide (or7.ints)
      clear gr7 or7
      refine hK.out _ _ (gf_trans hHeld Gr7.out) (fun hHeld => ?_)
      clear hK
      (try simp only [Act.put, List.setIfInBounds_toArray, List.set_cons_zero, List.set_cons_succ, List.getElem_toArray, List.getElem_cons_zero, List.getElem_cons_succ])
      refine wpAnyH_ready (rs := [5, 10]) (by kernel_rfl) (by simp) (AllReadyH.cons rfl (fun K hK => ?gr8) (AllReadyH.cons rfl (fun K hK => ?gr9) AllReadyH.nil))
      case gr8 =>
        (try simp only [Act.put, List.setIfInBounds_toArray, List.set_cons_zero, List.set_cons_succ, List.getElem_toArray, List.getElem_cons_zero, List.getElem_cons_succ])
        go_simp
        refine (HB1.out _ _ I2.out).mono ?_
        rintro e wr10 ⟨vh, rfl, or10, gr10⟩
        have Gr10 := hide gr10
        have O3 := hide (Own.base or10 (gf_size hHeld))
        clear gr10 or10 I2
        go_wp2_with fail
        refine hK.out _ _ (gf_trans hHeld Gr10.out) (fun hHeld => ?_)
        clear hK
        (try simp only [Act.put, List.setIfInBounds_toArray, List.set_cons_zero, List.set_cons_succ, List.getElem_toArray, List.getElem_cons_zero, List.getElem_cons_succ])
        refine wpAnyH_take (i := 6) (v := ?vr11) rfl (by kernel_rfl) (by kernel_rfl) (by kernel_rfl) (fun _ _ _ h => h) (Or.inl ⟨by rfl, ?yr11⟩) hHeld ?rr11
        case yr11 => (intro w' hSw; go_simp; (try with_reducible rfl))
        (try simp only [Act.put, List.setIfInBounds_toArray, List.set_cons_zero, List.set_cons_succ, List.getElem_toArray, List.getElem_cons_zero, List.getElem_cons_succ])
        refine wpAnyH_take (i := 7) (v := ?vr12) rfl (by kernel_rfl) (by kernel_rfl) (by kernel_rfl) (fun _ _ _ h => h) (Or.inl ⟨by rfl, ?yr12⟩) hHeld ?rr12
        case yr12 => (intro w' hSw; go_simp; (try with_reducible rfl))
        (try simp only [Act.put, List.setIfInBounds_toArray, List.set_cons_zero, List.set_cons_succ, List.getElem_toArray, List.getElem_cons_zero, List.getElem_cons_succ])
        refine wpAnyH_take (i := 8) (v := ?vr13) rfl (by kernel_rfl) (by kernel_rfl) (by kernel_rfl) (fun _ _ _ h => h) (Or.inl ⟨by rfl, ?yr13⟩) hHeld ?rr13
        case yr13 => (intro w' hSw; go_simp; (try with_reducible rfl))
        (try simp only [Act.put, List.setIfInBounds_toArray, List.set_cons_zero, List.set_cons_succ, List.getElem_toArray, List.getElem_cons_zero, List.getElem_cons_succ])
        refine wpAnyH_take (i := 9) (v := ?vr14) rfl (by kernel_rfl) (by kernel_rfl) (by kernel_rfl) (fun _ _ _ h => h) (Or.inl ⟨by rfl, ?yr14⟩) hHeld ?rr14
        case yr14 => (intro w' hSw; go_simp; (try with_reducible rfl))
        (try simp only [Act.put, List.setIfInBounds_toArray, List.set_cons_zero, List.set_cons_succ, List.getElem_toArray, List.getElem_cons_zero, List.getElem_cons_succ])
        refine wpAnyH_ready (rs := [10]) (by kernel_rfl) (by simp) (AllReadyH.cons rfl (fun K hK => ?_) AllReadyH.nil)
        (try simp only [Act.put, List.setIfInBounds_toArray, List.set_cons_zero, List.set_cons_succ, List.getElem_toArray, List.getElem_cons_zero, List.getElem_cons_succ])
        go_simp
        go_wp2_with fail
        have HB := hide (gf_size hHeld)
        refine hK.out _ _ (gf_alloc hHeld (.cells #[.int .i64 0, .int .i64 0, .int .i64 0, .int .i64 0] 24)) (fun hHeld => ?_)
        clear hK
        have O3 := hide (O3.out.keep (grown_alloc wr10 (.cells #[.int .i64 0, .int .i64 0, .int .i64 0, .int .i64 0] 24) none))
        have HZ := hide (show (wr10.alloc (.cells #[.int .i64 0, .int .i64 0, .int .i64 0, .int .i64 0] 24)).heap[wr10.heap.size]? = some (.cells #[.int .i64 0, .int .i64 0, .int .i64 0, .int .i64 0] 24) from heap_new wr10 (.cells #[.int .i64 0, .int .i64 0, .int .i64 0, .int .i64 0] 24))
        (try simp only [Act.put, List.setIfInBounds_toArray, List.set_cons_zero, List.set_cons_succ, List.getElem_toArray, List.getElem_cons_zero, List.getElem_cons_succ])
        refine wpAnyH_take (i := 11) (v := ?vr15) rfl (by kernel_rfl) (by kernel_rfl) (by kernel_rfl) (fun _ _ _ h => h) (Or.inl ⟨by rfl, ?yr15⟩) hHeld ?rr15
        case yr15 => (intro w' hSw; go_simp; (try with_reducible rfl))
        (try simp only [Act.put, List.setIfInBounds_toArray, List.set_cons_zero, List.set_cons_succ, List.getElem_toArray, List.getElem_cons_zero, List.getElem_cons_succ])
        refine wpAnyH_ready (rs := [12]) (by kernel_rfl) (by simp) (AllReadyH.cons rfl (fun K hK => ?_) AllReadyH.nil)
        (try simp only [Act.put, List.setIfInBounds_toArray, List.set_cons_zero, List.set_cons_succ, List.getElem_toArray, List.getElem_cons_zero, List.getElem_cons_succ])
        generalize wr10.alloc (.cells #[.int .i64 0, .int .i64 0, .int .i64 0, .int .i64 0] 24) = wzr16 at *
        have z0 := cell_of_heap HZ.out 0
        have y0 := frozen_of_heap HZ.out 0
        have z1 := cell_of_heap HZ.out 1
        have y1 := frozen_of_heap HZ.out 1
        have z2 := cell_of_heap HZ.out 2
        have y2 := frozen_of_heap HZ.out 2
        have z3 := cell_of_heap HZ.out 3
        have y3 := frozen_of_heap HZ.out 3
        simp at z0 z1 z2 z3
        go_simp
        go_wp2_with fail
        have HG := hide (grown_put4 wzr16 (wr10.heap.size) (.int .i64 p1) (.int .i64 q1) (.int .i64 s1) (.int .i64 t1))
        refine hK.out _ _ (gf_own hHeld HG.out HB.out) (fun hHeld => ?_)
        clear hK z0 z1 z2 z3 y0 y1 y2 y3
        have O3 := hide (O3.out.keepBut HG.out HZ.out (by decide))
        have HZ := hide (heap_set4 HZ.out p1 q1 s1 t1)
        (try simp only [Act.put, List.setIfInBounds_toArray, List.set_cons_zero, List.set_cons_succ, List.getElem_toArray, List.getElem_cons_zero, List.getElem_cons_succ])
        refine wpAnyH_take (i := 13) (v := ?vr17) rfl (by kernel_rfl) (by kernel_rfl) (by kernel_rfl) (fun _ _ _ h => h) (Or.inl ⟨by rfl, ?yr17⟩) hHeld ?rr17
        case yr17 => (intro w' hSw; go_simp; (try with_reducible rfl))
        (try simp only [Act.put, List.setIfInBounds_toArray, List.set_cons_zero, List.set_cons_succ, List.getElem_toArray, List.getElem_cons_zero, List.getElem_cons_succ])
        refine wpAnyH_done (by kernel_rfl) ?_ _
        go_wp2_with fail
        go_meet
        exact ⟨wr10.heap.size, rfl, rfl, O3.out, HZ.out, HB.out, hHeld⟩
      case gr9 =>
        (try simp only [Act.put, List.setIfInBounds_toArray, List.set_cons_zero, List.set_cons_succ, List.getElem_toArray, List.getElem_cons_zero, List.getElem_cons_succ])
        go_simp
        go_wp2_with fail
        have HB := hide (gf_size hHeld)
        refine hK.out _ _ (gf_alloc hHeld (.cells #[.int .i64 0, .int .i64 0, .int .i64 0, .int .i64 0] 24)) (fun hHeld => ?_)
        clear hK
        have I2 := hide (Ints_keep I2.out (grown_alloc wr7 (.cells #[.int .i64 0, .int .i64 0, .int .i64 0, .int .i64 0] 24) none))
        have HZ := hide (show (wr7.alloc (.cells #[.int .i64 0, .int .i64 0, .int .i64 0, .int .i64 0] 24)).heap[wr7.heap.size]? = some (.cells #[.int .i64 0, .int .i64 0, .int .i64 0, .int .i64 0] 24) from heap_new wr7 (.cells #[.int .i64 0, .int .i64 0, .int .i64 0, .int .i64 0] 24))
        (try simp only [Act.put, List.setIfInBounds_toArray, List.set_cons_zero, List.set_cons_succ, List.getElem_toArray, List.getElem_cons_zero, List.getElem_cons_succ])
        refine wpAnyH_ready (rs := [5]) (by kernel_rfl) (by simp) (AllReadyH.cons rfl (fun K hK => ?_) AllReadyH.nil)
        (try simp only [Act.put, List.setIfInBounds_toArray, List.set_cons_zero, List.set_cons_succ, List.getElem_toArray, List.getElem_cons_zero, List.getElem_cons_succ])
        go_simp
        refine (HB1.out _ _ I2.out).mono ?_
        rintro e wr18 ⟨vh, rfl, or18, gr18⟩
        have Gr18 := hide gr18
        have O3 := hide (Own.base or18 (gf_size hHeld))
        clear gr18 or18 I2
        go_wp2_with fail
        refine hK.out _ _ (gf_trans hHeld Gr18.out) (fun hHeld => ?_)
        clear hK
        have HZ := hide (heap_keep HZ.out Gr18.out)
        (try simp only [Act.put, List.setIfInBounds_toArray, List.set_cons_zero, List.set_cons_succ, List.getElem_toArray, List.getElem_cons_zero, List.getElem_cons_succ])
        refine wpAnyH_take (i := 6) (v := ?vr19) rfl (by kernel_rfl) (by kernel_rfl) (by kernel_rfl) (fun _ _ _ h => h) (Or.inl ⟨by rfl, ?yr19⟩) hHeld ?rr19
        case yr19 => (intro w' hSw; go_simp; (try with_reducible rfl))
        (try simp only [Act.put, List.setIfInBounds_toArray, List.set_cons_zero, List.set_cons_succ, List.getElem_toArray, List.getElem_cons_zero, List.getElem_cons_succ])
        refine wpAnyH_take (i := 7) (v := ?vr20) rfl (by kernel_rfl) (by kernel_rfl) (by kernel_rfl) (fun _ _ _ h => h) (Or.inl ⟨by rfl, ?yr20⟩) hHeld ?rr20
        case yr20 => (intro w' hSw; go_simp; (try with_reducible rfl))
        (try simp only [Act.put, List.setIfInBounds_toArray, List.set_cons_zero, List.set_cons_succ, List.getElem_toArray, List.getElem_cons_zero, List.getElem_cons_succ])
        refine wpAnyH_take (i := 8) (v := ?vr21) rfl (by kernel_rfl) (by kernel_rfl) (by kernel_rfl) (fun _ _ _ h => h) (Or.inl ⟨by rfl, ?yr21⟩) hHeld ?rr21
        case yr21 => (intro w' hSw; go_simp; (try with_reducible rfl))
        (try simp only [Act.put, List.setIfInBounds_toArray, List.set_cons_zero, List.set_cons_succ, List.getElem_toArray, List.getElem_cons_zero, List.getElem_cons_succ])
        refine wpAnyH_take (i := 9) (v := ?vr22) rfl (by kernel_rfl) (by kernel_rfl) (by kernel_rfl) (fun _ _ _ h => h) (Or.inl ⟨by rfl, ?yr22⟩) hHeld ?rr22
        case yr22 => (intro w' hSw; go_simp; (try with_reducible rfl))
        (try simp only [Act.put, List.setIfInBounds_toArray, List.set_cons_zero, List.set_cons_succ, List.getElem_toArray, List.getElem_cons_zero, List.getElem_cons_succ])
        refine wpAnyH_take (i := 11) (v := ?vr23) rfl (by kernel_rfl) (by kernel_rfl) (by kernel_rfl) (fun _ _ _ h => h) (Or.inl ⟨by rfl, ?yr23⟩) hHeld ?rr23
        case yr23 => (intro w' hSw; go_simp; (try with_reducible rfl))
        (try simp only [Act.put, List.setIfInBounds_toArray, List.set_cons_zero, List.set_cons_succ, List.getElem_toArray, List.getElem_cons_zero, List.getElem_cons_succ])
        refine wpAnyH_ready (rs := [12]) (by kernel_rfl) (by simp) (AllReadyH.cons rfl (fun K hK => ?_) AllReadyH.nil)
        (try simp only [Act.put, List.setIfInBounds_toArray, List.set_cons_zero, List.set_cons_succ, List.getElem_toArray, List.getElem_cons_zero, List.getElem_cons_succ])
        have z0 := cell_of_heap HZ.out 0
        have y0 := frozen_of_heap HZ.out 0
        have z1 := cell_of_heap HZ.out 1
        have y1 := frozen_of_heap HZ.out 1
        have z2 := cell_of_heap HZ.out 2
        have y2 := frozen_of_heap HZ.out 2
        have z3 := cell_of_heap HZ.out 3
        have y3 := frozen_of_heap HZ.out 3
        simp at z0 z1 z2 z3
        go_simp
        go_wp2_with fail
        have HG := hide (grown_put4 wr18 (wr7.heap.size) (.int .i64 p1) (.int .i64 q1) (.int .i64 s1) (.int .i64 t1))
        refine hK.out _ _ (gf_own hHeld HG.out HB.out) (fun hHeld => ?_)
        clear hK z0 z1 z2 z3 y0 y1 y2 y3
        have O3 := hide (O3.out.keepBut HG.out HZ.out (by decide))
        have HZ := hide (heap_set4 HZ.out p1 q1 s1 t1)
        (try simp only [Act.put, List.setIfInBounds_toArray, List.set_cons_zero, List.set_cons_succ, List.getElem_toArray, List.getElem_cons_zero, List.getElem_cons_succ])
        refine wpAnyH_take (i := 13) (v := ?vr24) rfl (by kernel_rfl) (by kernel_rfl) (by kernel_rfl) (fun _ _ _ h => h) (Or.inl ⟨by rfl, ?yr24⟩) hHeld ?rr24
        case yr24 => (intro w' hSw; go_simp; (try with_reducible rfl))
        (try simp only [Act.put, List.setIfInBounds_toArray, List.set_cons_zero, List.set_cons_succ, List.getElem_toArray, List.getElem_cons_zero, List.getElem_cons_succ])
        refine wpAnyH_done (by kernel_rfl) ?_ _
        go_wp2_with fail
        go_meet
        exact ⟨wr7.heap.size, rfl, rfl, O3.out, HZ.out, HB.out, hHeld⟩
    case gr6 =>
      (try simp only [Act.put, List.setIfInBounds_toArray, List.set_cons_zero, List.set_cons_succ, List.getElem_toArray, List.getElem_cons_zero, List.getElem_cons_succ])
      go_simp
      go_wp2_with fail
      have HB := hide (gf_size hHeld)
      refine hK.out _ _ (gf_alloc hHeld (.cells #[.int .i64 0, .int .i64 0, .int .i64 0, .int .i64 0] 24)) (fun hHeld => ?_)
      clear hK
      have HZ := hide (show (W1.drew.alloc (.cells #[.int .i64 0, .int .i64 0, .int .i64 0, .int .i64 0] 24)).heap[W1.heap.size]? = some (.cells #[.int .i64 0, .int .i64 0, .int .i64 0, .int .i64 0] 24) from heap_new W1.drew (.cells #[.int .i64 0, .int .i64 0, .int .i64 0, .int .i64 0] 24))
      (try simp only [Act.put, List.setIfInBounds_toArray, List.set_cons_zero, List.set_cons_succ, List.getElem_toArray, List.getElem_cons_zero, List.getElem_cons_succ])
      refine wpAnyH_ready (rs := [4]) (by kernel_rfl) (by simp) (AllReadyH.cons rfl (fun K hK => ?_) AllReadyH.nil)
      (try simp only [Act.put, List.setIfInBounds_toArray, List.set_cons_zero, List.set_cons_succ, List.getElem_toArray, List.getElem_cons_zero, List.getElem_cons_succ])
      refine step_ints (by rfl) _ _ (by rfl) (by rfl) vA (l.take kk) (by rfl) (Ints_keep HI1.out hHeld) HSA.out (by simp; omega) ?_
      intro vir25 wr25 or25 gr25
      have Gr25 := hide gr25
      have I2 := hide (or25.ints)
      clear gr25 or25
      refine hK.out _ _ (gf_trans hHeld Gr25.out) (fun hHeld => ?_)
      clear hK
      have HZ := hide (heap_keep HZ.out Gr25.out)
      (try simp only [Act.put, List.setIfInBounds_toArray, List.set_cons_zero, List.set_cons_succ, List.getElem_toArray, List.getElem_cons_zero, List.getElem_cons_succ])
      refine wpAnyH_ready (rs := [5]) (by kernel_rfl) (by simp) (AllReadyH.cons rfl (fun K hK => ?_) AllReadyH.nil)
      (try simp only [Act.put, List.setIfInBounds_toArray, List.set_cons_zero, List.set_cons_succ, List.getElem_toArray, List.getElem_cons_zero, List.getElem_cons_succ])
      go_simp
      refine (HB1.out _ _ I2.out).mono ?_
      rintro e wr26 ⟨vh, rfl, or26, gr26⟩
      have Gr26 := hide gr26
      have O3 := hide (Own.base or26 (gf_size hHeld))
      clear gr26 or26 I2
      go_wp2_with fail
      refine hK.out _ _ (gf_trans hHeld Gr26.out) (fun hHeld => ?_)
      clear hK
      have HZ := hide (heap_keep HZ.out Gr26.out)
      (try simp only [Act.put, List.setIfInBounds_toArray, List.set_cons_zero, List.set_cons_succ, List.getElem_toArray, List.getElem_cons_zero, List.getElem_cons_succ])
      refine wpAnyH_take (i := 6) (v := ?vr27) rfl (by kernel_rfl) (by kernel_rfl) (by kernel_rfl) (fun _ _ _ h => h) (Or.inl ⟨by rfl, ?yr27⟩) hHeld ?rr27
      case yr27 => (intro w' hSw; go_simp; (try with_reducible rfl))
      (try simp only [Act.put, List.setIfInBounds_toArray, List.set_cons_zero, List.set_cons_succ, List.getElem_toArray, List.getElem_cons_zero, List.getElem_cons_succ])
      refine wpAnyH_take (i := 7) (v := ?vr28) rfl (by kernel_rfl) (by kernel_rfl) (by kernel_rfl) (fun _ _ _ h => h) (Or.inl ⟨by rfl, ?yr28⟩) hHeld ?rr28
      case yr28 => (intro w' hSw; go_simp; (try with_reducible rfl))
      (try simp only [Act.put, List.setIfInBounds_toArray, List.set_cons_zero, List.set_cons_succ, List.getElem_toArray, List.getElem_cons_zero, List.getElem_cons_succ])
      refine wpAnyH_take (i := 8) (v := ?vr29) rfl (by kernel_rfl) (by kernel_rfl) (by kernel_rfl) (fun _ _ _ h => h) (Or.inl ⟨by rfl, ?yr29⟩) hHeld ?rr29
      case yr29 => (intro w' hSw; go_simp; (try with_reducible rfl))
      (try simp only [Act.put, List.setIfInBounds_toArray, List.set_cons_zero, List.set_cons_succ, List.getElem_toArray, List.getElem_cons_zero, List.getElem_cons_succ])
      refine wpAnyH_take (i := 9) (v := ?vr30) rfl (by kernel_rfl) (by kernel_rfl) (by kernel_rfl) (fun _ _ _ h => h) (Or.inl ⟨by rfl, ?yr30⟩) hHeld ?rr30
      case yr30 => (intro w' hSw; go_simp; (try with_reducible rfl))
      (try simp only [Act.put, List.setIfInBounds_toArray, List.set_cons_zero, List.set_cons_succ, List.getElem_toArray, List.getElem_cons_zero, List.getElem_cons_succ])
      refine wpAnyH_take (i := 11) (v := ?vr31) rfl (by kernel_rfl) (by kernel_rfl) (by kernel_rfl) (fun _ _ _ h => h) (Or.inl ⟨by rfl, ?yr31⟩) hHeld ?rr31
      case yr31 => (intro w' hSw; go_simp; (try with_reducible rfl))
      (try simp only [Act.put, List.setIfInBounds_toArray, List.set_cons_zero, List.set_cons_succ, List.getElem_toArray, List.getElem_cons_zero, List.getElem_cons_succ])
      refine wpAnyH_ready (rs := [12]) (by kernel_rfl) (by simp) (AllReadyH.cons rfl (fun K hK => ?_) AllReadyH.nil)
      (try simp only [Act.put, List.setIfInBounds_toArray, List.set_cons_zero, List.set_cons_succ, List.getElem_toArray, List.getElem_cons_zero, List.getElem_cons_succ])
      have z0 := cell_of_heap HZ.out 0
      have y0 := frozen_of_heap HZ.out 0
      have z1 := cell_of_heap HZ.out 1
      have y1 := frozen_of_heap HZ.out 1
      have z2 := cell_of_heap HZ.out 2
      have y2 := frozen_of_heap HZ.out 2
      have z3 := cell_of_heap HZ.out 3
      have y3 := frozen_of_heap HZ.out 3
      simp at z0 z1 z2 z3
      go_simp
      go_wp2_with fail
      have HG := hide (grown_put4 wr26 (W1.heap.size) (.int .i64 p1) (.int .i64 q1) (.int .i64 s1) (.int .i64 t1))
      refine hK.out _ _ (gf_own hHeld HG.out HB.out) (fun hHeld => ?_)
      clear hK z0 z1 z2 z3 y0 y1 y2 y3
      have O3 := hide (O3.out.keepBut HG.out HZ.out (by decide))
      have HZ := hide (heap_set4 HZ.out p1 q1 s1 t1)
      (try simp only [Act.put, List.setIfInBounds_toArray, List.set_cons_zero, List.set_cons_succ, List.getElem_toArray, List.getElem_cons_zero, List.getElem_cons_succ])
      refine wpAnyH_take (i := 13) (v := ?vr32) rfl (by kernel_rfl) (by kernel_rfl) (by kernel_rfl) (fun _ _ _ h => h) (Or.inl ⟨by rfl, ?yr32⟩) hHeld ?rr32
      case yr32 => (intro w' hSw; go_simp; (try with_reducible rfl))
      (try simp only [Act.put, List.setIfInBounds_toArray, List.set_cons_zero, List.set_cons_succ, List.getElem_toArray, List.getElem_cons_zero, List.getElem_cons_succ])
      refine wpAnyH_done (by kernel_rfl) ?_ _
      go_wp2_with fail
      go_meet
      exact ⟨W1.heap.size, rfl, rfl, O3.out, HZ.out, HB.out, hHeld⟩
  case rest =>
  obtain ⟨b11, rfl, rfl, o10, z11, hb11, g11⟩ := hcut
  have HI2 := hide (Ints_keep HI2.out g11)
  have G2 := hide (grown_none G1.out g11)
  have O7 := hide (O7.out.keep g11)
  have Z8 := hide (heap_keep Z8.out g11)
  have O10 := hide o10
  have N1 := hide g11.size
  have cz0 := cell_of_heap z11 0
  have cz1 := cell_of_heap z11 1
  have cz2 := cell_of_heap z11 2
  have cz3 := cell_of_heap z11 3
  simp at cz0 cz1 cz2 cz3
  clear o10 z11 g11 hb11 HI1 HSA HB1 cy0 cy1 cy2 cy3 G1 hsA
  generalize wc = W2 at *
  rcases CS.out with ⟨he, he1, L2, hLe, hC⟩ | ⟨he, hLe⟩
  · subst he he1
    have HC := hide hC
    have HL := hide hLe
    have HLN := hide hLn
    clear hC hLe CS hLn
    go_upto_region 6 with fail
    go_cut [13, 14, 15] from 47 (fun s13 s14 s15 wx => HiR W2 L2 p q s t 0 s13 s14 s15 wx)
    case first =>
      refine wp_region_held_drew (S := GrownFrom W2) (by kernel_rfl) (gf_start _) (fun hHeld => ?_)
      refine wpAnyH_take (i := 0) (v := ?vs1) rfl (by kernel_rfl) (by kernel_rfl) (by kernel_rfl) (fun _ _ _ h => h) (Or.inl ⟨by rfl, ?ys1⟩) hHeld ?rs1
      case ys1 => (intro w' hSw; have q0 := grown_keep hSw cz0; have q1 := grown_keep hSw cz1; have q2 := grown_keep hSw cz2; have q3 := grown_keep hSw cz3; go_simp; (try with_reducible rfl))
      (try simp only [Act.put, List.setIfInBounds_toArray, List.set_cons_zero, List.set_cons_succ, List.getElem_toArray, List.getElem_cons_zero, List.getElem_cons_succ])
      refine wpAnyH_take (i := 1) (v := ?vs2) rfl (by kernel_rfl) (by kernel_rfl) (by kernel_rfl) (fun _ _ _ h => h) (Or.inl ⟨by rfl, ?ys2⟩) hHeld ?rs2
      case ys2 => (intro w' hSw; go_simp; (try with_reducible rfl))
      (try simp only [Act.put, List.setIfInBounds_toArray, List.set_cons_zero, List.set_cons_succ, List.getElem_toArray, List.getElem_cons_zero, List.getElem_cons_succ])
      refine wpAnyH_take (i := 2) (v := ?vs3) rfl (by kernel_rfl) (by kernel_rfl) (by kernel_rfl) (fun _ _ _ h => h) (Or.inl ⟨by rfl, ?ys3⟩) hHeld ?rs3
      case ys3 => (intro w' hSw; go_simp; (try with_reducible rfl))
      (try simp only [Act.put, List.setIfInBounds_toArray, List.set_cons_zero, List.set_cons_succ, List.getElem_toArray, List.getElem_cons_zero, List.getElem_cons_succ])
      refine wpAnyH_take (i := 3) (v := vB) rfl (by kernel_rfl) (by kernel_rfl) (by kernel_rfl) (fun _ _ _ h => h) (Or.inl ⟨by rfl, ?ys4⟩) hHeld ?rs4
      case ys4 => (intro w' hSw; go_simp; (try with_reducible rfl))
      (try simp only [Act.put, List.setIfInBounds_toArray, List.set_cons_zero, List.set_cons_succ, List.getElem_toArray, List.getElem_cons_zero, List.getElem_cons_succ])
      refine wpAnyH_ready (rs := [4, 10]) (by kernel_rfl) (by simp) (AllReadyH.cons rfl (fun K hK => ?gs5) (AllReadyH.cons rfl (fun K hK => ?gs6) AllReadyH.nil))
      case gs5 =>
        (try simp only [Act.put, List.setIfInBounds_toArray, List.set_cons_zero, List.set_cons_succ, List.getElem_toArray, List.getElem_cons_zero, List.getElem_cons_succ])
        refine step_ints (by rfl) _ _ (by rfl) (by rfl) vB (l.drop kk) (by rfl) (Ints_keep HI2.out hHeld) HSB.out (by simp; omega) ?_
        intro vis7 ws7 os7 gs7
        have Gs7 := hide gs7
        have I2 := hide (os7.ints)
        clear gs7 os7
        refine hK.out _ _ (gf_trans hHeld Gs7.out) (fun hHeld => ?_)
        clear hK
        (try simp only [Act.put, List.setIfInBounds_toArray, List.set_cons_zero, List.set_cons_succ, List.getElem_toArray, List.getElem_cons_zero, List.getElem_cons_succ])
        refine wpAnyH_ready (rs := [5, 10]) (by kernel_rfl) (by simp) (AllReadyH.cons rfl (fun K hK => ?gs8) (AllReadyH.cons rfl (fun K hK => ?gs9) AllReadyH.nil))
        case gs8 =>
          (try simp only [Act.put, List.setIfInBounds_toArray, List.set_cons_zero, List.set_cons_succ, List.getElem_toArray, List.getElem_cons_zero, List.getElem_cons_succ])
          go_simp
          refine (HC.out _ _ I2.out).mono ?_
          rintro e ws10 ⟨vh, rfl, os10, gs10⟩
          have Gs10 := hide gs10
          have O3 := hide (Own.base os10 (gf_size hHeld))
          clear gs10 os10 I2
          go_wp2_with fail
          refine hK.out _ _ (gf_trans hHeld Gs10.out) (fun hHeld => ?_)
          clear hK
          (try simp only [Act.put, List.setIfInBounds_toArray, List.set_cons_zero, List.set_cons_succ, List.getElem_toArray, List.getElem_cons_zero, List.getElem_cons_succ])
          refine wpAnyH_take (i := 6) (v := ?vs11) rfl (by kernel_rfl) (by kernel_rfl) (by kernel_rfl) (fun _ _ _ h => h) (Or.inl ⟨by rfl, ?ys11⟩) hHeld ?rs11
          case ys11 => (intro w' hSw; go_simp; (try with_reducible rfl))
          (try simp only [Act.put, List.setIfInBounds_toArray, List.set_cons_zero, List.set_cons_succ, List.getElem_toArray, List.getElem_cons_zero, List.getElem_cons_succ])
          refine wpAnyH_take (i := 7) (v := ?vs12) rfl (by kernel_rfl) (by kernel_rfl) (by kernel_rfl) (fun _ _ _ h => h) (Or.inl ⟨by rfl, ?ys12⟩) hHeld ?rs12
          case ys12 => (intro w' hSw; go_simp; (try with_reducible rfl))
          (try simp only [Act.put, List.setIfInBounds_toArray, List.set_cons_zero, List.set_cons_succ, List.getElem_toArray, List.getElem_cons_zero, List.getElem_cons_succ])
          refine wpAnyH_take (i := 8) (v := ?vs13) rfl (by kernel_rfl) (by kernel_rfl) (by kernel_rfl) (fun _ _ _ h => h) (Or.inl ⟨by rfl, ?ys13⟩) hHeld ?rs13
          case ys13 => (intro w' hSw; go_simp; (try with_reducible rfl))
          (try simp only [Act.put, List.setIfInBounds_toArray, List.set_cons_zero, List.set_cons_succ, List.getElem_toArray, List.getElem_cons_zero, List.getElem_cons_succ])
          refine wpAnyH_take (i := 9) (v := ?vs14) rfl (by kernel_rfl) (by kernel_rfl) (by kernel_rfl) (fun _ _ _ h => h) (Or.inl ⟨by rfl, ?ys14⟩) hHeld ?rs14
          case ys14 => (intro w' hSw; go_simp; (try with_reducible rfl))
          (try simp only [Act.put, List.setIfInBounds_toArray, List.set_cons_zero, List.set_cons_succ, List.getElem_toArray, List.getElem_cons_zero, List.getElem_cons_succ])
          refine wpAnyH_ready (rs := [10]) (by kernel_rfl) (by simp) (AllReadyH.cons rfl (fun K hK => ?_) AllReadyH.nil)
          (try simp only [Act.put, List.setIfInBounds_toArray, List.set_cons_zero, List.set_cons_succ, List.getElem_toArray, List.getElem_cons_zero, List.getElem_cons_succ])
          go_simp
          go_wp2_with fail
          have HB := hide (gf_size hHeld)
          refine hK.out _ _ (gf_alloc hHeld (.cells #[.int .i64 0, .int .i64 0, .int .i64 0, .int .i64 0] 24)) (fun hHeld => ?_)
          clear hK
          have O3 := hide (O3.out.keep (grown_alloc ws10 (.cells #[.int .i64 0, .int .i64 0, .int .i64 0, .int .i64 0] 24) none))
          have HZ := hide (show (ws10.alloc (.cells #[.int .i64 0, .int .i64 0, .int .i64 0, .int .i64 0] 24)).heap[ws10.heap.size]? = some (.cells #[.int .i64 0, .int .i64 0, .int .i64 0, .int .i64 0] 24) from heap_new ws10 (.cells #[.int .i64 0, .int .i64 0, .int .i64 0, .int .i64 0] 24))
          (try simp only [Act.put, List.setIfInBounds_toArray, List.set_cons_zero, List.set_cons_succ, List.getElem_toArray, List.getElem_cons_zero, List.getElem_cons_succ])
          refine wpAnyH_take (i := 11) (v := ?vs15) rfl (by kernel_rfl) (by kernel_rfl) (by kernel_rfl) (fun _ _ _ h => h) (Or.inl ⟨by rfl, ?ys15⟩) hHeld ?rs15
          case ys15 => (intro w' hSw; go_simp; (try with_reducible rfl))
          (try simp only [Act.put, List.setIfInBounds_toArray, List.set_cons_zero, List.set_cons_succ, List.getElem_toArray, List.getElem_cons_zero, List.getElem_cons_succ])
          refine wpAnyH_ready (rs := [12]) (by kernel_rfl) (by simp) (AllReadyH.cons rfl (fun K hK => ?_) AllReadyH.nil)
          (try simp only [Act.put, List.setIfInBounds_toArray, List.set_cons_zero, List.set_cons_succ, List.getElem_toArray, List.getElem_cons_zero, List.getElem_cons_succ])
          generalize ws10.alloc (.cells #[.int .i64 0, .int .i64 0, .int .i64 0, .int .i64 0] 24) = wzs16 at *
          have z0 := cell_of_heap HZ.out 0
          have y0 := frozen_of_heap HZ.out 0
          have z1 := cell_of_heap HZ.out 1
          have y1 := frozen_of_heap HZ.out 1
          have z2 := cell_of_heap HZ.out 2
          have y2 := frozen_of_heap HZ.out 2
          have z3 := cell_of_heap HZ.out 3
          have y3 := frozen_of_heap HZ.out 3
          simp at z0 z1 z2 z3
          go_simp
          go_wp2_with fail
          have HG := hide (grown_put4 wzs16 (ws10.heap.size) (.int .i64 p) (.int .i64 q) (.int .i64 s) (.int .i64 t))
          refine hK.out _ _ (gf_own hHeld HG.out HB.out) (fun hHeld => ?_)
          clear hK z0 z1 z2 z3 y0 y1 y2 y3
          have O3 := hide (O3.out.keepBut HG.out HZ.out (by decide))
          have HZ := hide (heap_set4 HZ.out p q s t)
          (try simp only [Act.put, List.setIfInBounds_toArray, List.set_cons_zero, List.set_cons_succ, List.getElem_toArray, List.getElem_cons_zero, List.getElem_cons_succ])
          refine wpAnyH_take (i := 13) (v := ?vs17) rfl (by kernel_rfl) (by kernel_rfl) (by kernel_rfl) (fun _ _ _ h => h) (Or.inl ⟨by rfl, ?ys17⟩) hHeld ?rs17
          case ys17 => (intro w' hSw; go_simp; (try with_reducible rfl))
          (try simp only [Act.put, List.setIfInBounds_toArray, List.set_cons_zero, List.set_cons_succ, List.getElem_toArray, List.getElem_cons_zero, List.getElem_cons_succ])
          refine wpAnyH_done (by kernel_rfl) ?_ _
          go_wp2_with fail
          go_meet
          exact ⟨ws10.heap.size, rfl, rfl, O3.out, HZ.out, HB.out, hHeld⟩
        case gs9 =>
          (try simp only [Act.put, List.setIfInBounds_toArray, List.set_cons_zero, List.set_cons_succ, List.getElem_toArray, List.getElem_cons_zero, List.getElem_cons_succ])
          go_simp
          go_wp2_with fail
          have HB := hide (gf_size hHeld)
          refine hK.out _ _ (gf_alloc hHeld (.cells #[.int .i64 0, .int .i64 0, .int .i64 0, .int .i64 0] 24)) (fun hHeld => ?_)
          clear hK
          have I2 := hide (Ints_keep I2.out (grown_alloc ws7 (.cells #[.int .i64 0, .int .i64 0, .int .i64 0, .int .i64 0] 24) none))
          have HZ := hide (show (ws7.alloc (.cells #[.int .i64 0, .int .i64 0, .int .i64 0, .int .i64 0] 24)).heap[ws7.heap.size]? = some (.cells #[.int .i64 0, .int .i64 0, .int .i64 0, .int .i64 0] 24) from heap_new ws7 (.cells #[.int .i64 0, .int .i64 0, .int .i64 0, .int .i64 0] 24))
          (try simp only [Act.put, List.setIfInBounds_toArray, List.set_cons_zero, List.set_cons_succ, List.getElem_toArray, List.getElem_cons_zero, List.getElem_cons_succ])
          refine wpAnyH_ready (rs := [5]) (by kernel_rfl) (by simp) (AllReadyH.cons rfl (fun K hK => ?_) AllReadyH.nil)
          (try simp only [Act.put, List.setIfInBounds_toArray, List.set_cons_zero, List.set_cons_succ, List.getElem_toArray, List.getElem_cons_zero, List.getElem_cons_succ])
          go_simp
          refine (HC.out _ _ I2.out).mono ?_
          rintro e ws18 ⟨vh, rfl, os18, gs18⟩
          have Gs18 := hide gs18
          have O3 := hide (Own.base os18 (gf_size hHeld))
          clear gs18 os18 I2
          go_wp2_with fail
          refine hK.out _ _ (gf_trans hHeld Gs18.out) (fun hHeld => ?_)
          clear hK
          have HZ := hide (heap_keep HZ.out Gs18.out)
          (try simp only [Act.put, List.setIfInBounds_toArray, List.set_cons_zero, List.set_cons_succ, List.getElem_toArray, List.getElem_cons_zero, List.getElem_cons_succ])
          refine wpAnyH_take (i := 6) (v := ?vs19) rfl (by kernel_rfl) (by kernel_rfl) (by kernel_rfl) (fun _ _ _ h => h) (Or.inl ⟨by rfl, ?ys19⟩) hHeld ?rs19
          case ys19 => (intro w' hSw; go_simp; (try with_reducible rfl))
          (try simp only [Act.put, List.setIfInBounds_toArray, List.set_cons_zero, List.set_cons_succ, List.getElem_toArray, List.getElem_cons_zero, List.getElem_cons_succ])
          refine wpAnyH_take (i := 7) (v := ?vs20) rfl (by kernel_rfl) (by kernel_rfl) (by kernel_rfl) (fun _ _ _ h => h) (Or.inl ⟨by rfl, ?ys20⟩) hHeld ?rs20
          case ys20 => (intro w' hSw; go_simp; (try with_reducible rfl))
          (try simp only [Act.put, List.setIfInBounds_toArray, List.set_cons_zero, List.set_cons_succ, List.getElem_toArray, List.getElem_cons_zero, List.getElem_cons_succ])
          refine wpAnyH_take (i := 8) (v := ?vs21) rfl (by kernel_rfl) (by kernel_rfl) (by kernel_rfl) (fun _ _ _ h => h) (Or.inl ⟨by rfl, ?ys21⟩) hHeld ?rs21
          case ys21 => (intro w' hSw; go_simp; (try with_reducible rfl))
          (try simp only [Act.put, List.setIfInBounds_toArray, List.set_cons_zero, List.set_cons_succ, List.getElem_toArray, List.getElem_cons_zero, List.getElem_cons_succ])
          refine wpAnyH_take (i := 9) (v := ?vs22) rfl (by kernel_rfl) (by kernel_rfl) (by kernel_rfl) (fun _ _ _ h => h) (Or.inl ⟨by rfl, ?ys22⟩) hHeld ?rs22
          case ys22 => (intro w' hSw; go_simp; (try with_reducible rfl))
          (try simp only [Act.put, List.setIfInBounds_toArray, List.set_cons_zero, List.set_cons_succ, List.getElem_toArray, List.getElem_cons_zero, List.getElem_cons_succ])
          refine wpAnyH_take (i := 11) (v := ?vs23) rfl (by kernel_rfl) (by kernel_rfl) (by kernel_rfl) (fun _ _ _ h => h) (Or.inl ⟨by rfl, ?ys23⟩) hHeld ?rs23
          case ys23 => (intro w' hSw; go_simp; (try with_reducible rfl))
          (try simp only [Act.put, List.setIfInBounds_toArray, List.set_cons_zero, List.set_cons_succ, List.getElem_toArray, List.getElem_cons_zero, List.getElem_cons_succ])
          refine wpAnyH_ready (rs := [12]) (by kernel_rfl) (by simp) (AllReadyH.cons rfl (fun K hK => ?_) AllReadyH.nil)
          (try simp only [Act.put, List.setIfInBounds_toArray, List.set_cons_zero, List.set_cons_succ, List.getElem_toArray, List.getElem_cons_zero, List.getElem_cons_succ])
          have z0 := cell_of_heap HZ.out 0
          have y0 := frozen_of_heap HZ.out 0
          have z1 := cell_of_heap HZ.out 1
          have y1 := frozen_of_heap HZ.out 1
          have z2 := cell_of_heap HZ.out 2
          have y2 := frozen_of_heap HZ.out 2
          have z3 := cell_of_heap HZ.out 3
          have y3 := frozen_of_heap HZ.out 3
          simp at z0 z1 z2 z3
          go_simp
          go_wp2_with fail
          have HG := hide (grown_put4 ws18 (ws7.heap.size) (.int .i64 p) (.int .i64 q) (.int .i64 s) (.int .i64 t))
          refine hK.out _ _ (gf_own hHeld HG.out HB.out) (fun hHeld => ?_)
          clear hK z0 z1 z2 z3 y0 y1 y2 y3
          have O3 := hide (O3.out.keepBut HG.out HZ.out (by decide))
          have HZ := hide (heap_set4 HZ.out p q s t)
          (try simp only [Act.put, List.setIfInBounds_toArray, List.set_cons_zero, List.set_cons_succ, List.getElem_toArray, List.getElem_cons_zero, List.getElem_cons_succ])
          refine wpAnyH_take (i := 13) (v := ?vs24) rfl (by kernel_rfl) (by kernel_rfl) (by kernel_rfl) (fun _ _ _ h => h) (Or.inl ⟨by rfl, ?ys24⟩) hHeld ?rs24
          case ys24 => (intro w' hSw; go_simp; (try with_reducible rfl))
          (try simp only [Act.put, List.setIfInBounds_toArray, List.set_cons_zero, List.set_cons_succ, List.getElem_toArray, List.getElem_cons_zero, List.getElem_cons_succ])
          refine wpAnyH_done (by kernel_rfl) ?_ _
          go_wp2_with fail
          go_meet
          exact ⟨ws7.heap.size, rfl, rfl, O3.out, HZ.out, HB.out, hHeld⟩
      case gs6 =>
        (try simp only [Act.put, List.setIfInBounds_toArray, List.set_cons_zero, List.set_cons_succ, List.getElem_toArray, List.getElem_cons_zero, List.getElem_cons_succ])
        go_simp
        go_wp2_with fail
        have HB := hide (gf_size hHeld)
        refine hK.out _ _ (gf_alloc hHeld (.cells #[.int .i64 0, .int .i64 0, .int .i64 0, .int .i64 0] 24)) (fun hHeld => ?_)
        clear hK
        have HZ := hide (show (W2.drew.alloc (.cells #[.int .i64 0, .int .i64 0, .int .i64 0, .int .i64 0] 24)).heap[W2.heap.size]? = some (.cells #[.int .i64 0, .int .i64 0, .int .i64 0, .int .i64 0] 24) from heap_new W2.drew (.cells #[.int .i64 0, .int .i64 0, .int .i64 0, .int .i64 0] 24))
        (try simp only [Act.put, List.setIfInBounds_toArray, List.set_cons_zero, List.set_cons_succ, List.getElem_toArray, List.getElem_cons_zero, List.getElem_cons_succ])
        refine wpAnyH_ready (rs := [4]) (by kernel_rfl) (by simp) (AllReadyH.cons rfl (fun K hK => ?_) AllReadyH.nil)
        (try simp only [Act.put, List.setIfInBounds_toArray, List.set_cons_zero, List.set_cons_succ, List.getElem_toArray, List.getElem_cons_zero, List.getElem_cons_succ])
        refine step_ints (by rfl) _ _ (by rfl) (by rfl) vB (l.drop kk) (by rfl) (Ints_keep HI2.out hHeld) HSB.out (by simp; omega) ?_
        intro vis25 ws25 os25 gs25
        have Gs25 := hide gs25
        have I2 := hide (os25.ints)
        clear gs25 os25
        refine hK.out _ _ (gf_trans hHeld Gs25.out) (fun hHeld => ?_)
        clear hK
        have HZ := hide (heap_keep HZ.out Gs25.out)
        (try simp only [Act.put, List.setIfInBounds_toArray, List.set_cons_zero, List.set_cons_succ, List.getElem_toArray, List.getElem_cons_zero, List.getElem_cons_succ])
        refine wpAnyH_ready (rs := [5]) (by kernel_rfl) (by simp) (AllReadyH.cons rfl (fun K hK => ?_) AllReadyH.nil)
        (try simp only [Act.put, List.setIfInBounds_toArray, List.set_cons_zero, List.set_cons_succ, List.getElem_toArray, List.getElem_cons_zero, List.getElem_cons_succ])
        go_simp
        refine (HC.out _ _ I2.out).mono ?_
        rintro e ws26 ⟨vh, rfl, os26, gs26⟩
        have Gs26 := hide gs26
        have O3 := hide (Own.base os26 (gf_size hHeld))
        clear gs26 os26 I2
        go_wp2_with fail
        refine hK.out _ _ (gf_trans hHeld Gs26.out) (fun hHeld => ?_)
        clear hK
        have HZ := hide (heap_keep HZ.out Gs26.out)
        (try simp only [Act.put, List.setIfInBounds_toArray, List.set_cons_zero, List.set_cons_succ, List.getElem_toArray, List.getElem_cons_zero, List.getElem_cons_succ])
        refine wpAnyH_take (i := 6) (v := ?vs27) rfl (by kernel_rfl) (by kernel_rfl) (by kernel_rfl) (fun _ _ _ h => h) (Or.inl ⟨by rfl, ?ys27⟩) hHeld ?rs27
        case ys27 => (intro w' hSw; go_simp; (try with_reducible rfl))
        (try simp only [Act.put, List.setIfInBounds_toArray, List.set_cons_zero, List.set_cons_succ, List.getElem_toArray, List.getElem_cons_zero, List.getElem_cons_succ])
        refine wpAnyH_take (i := 7) (v := ?vs28) rfl (by kernel_rfl) (by kernel_rfl) (by kernel_rfl) (fun _ _ _ h => h) (Or.inl ⟨by rfl, ?ys28⟩) hHeld ?rs28
        case ys28 => (intro w' hSw; go_simp; (try with_reducible rfl))
        (try simp only [Act.put, List.setIfInBounds_toArray, List.set_cons_zero, List.set_cons_succ, List.getElem_toArray, List.getElem_cons_zero, List.getElem_cons_succ])
        refine wpAnyH_take (i := 8) (v := ?vs29) rfl (by kernel_rfl) (by kernel_rfl) (by kernel_rfl) (fun _ _ _ h => h) (Or.inl ⟨by rfl, ?ys29⟩) hHeld ?rs29
        case ys29 => (intro w' hSw; go_simp; (try with_reducible rfl))
        (try simp only [Act.put, List.setIfInBounds_toArray, List.set_cons_zero, List.set_cons_succ, List.getElem_toArray, List.getElem_cons_zero, List.getElem_cons_succ])
        refine wpAnyH_take (i := 9) (v := ?vs30) rfl (by kernel_rfl) (by kernel_rfl) (by kernel_rfl) (fun _ _ _ h => h) (Or.inl ⟨by rfl, ?ys30⟩) hHeld ?rs30
        case ys30 => (intro w' hSw; go_simp; (try with_reducible rfl))
        (try simp only [Act.put, List.setIfInBounds_toArray, List.set_cons_zero, List.set_cons_succ, List.getElem_toArray, List.getElem_cons_zero, List.getElem_cons_succ])
        refine wpAnyH_take (i := 11) (v := ?vs31) rfl (by kernel_rfl) (by kernel_rfl) (by kernel_rfl) (fun _ _ _ h => h) (Or.inl ⟨by rfl, ?ys31⟩) hHeld ?rs31
        case ys31 => (intro w' hSw; go_simp; (try with_reducible rfl))
        (try simp only [Act.put, List.setIfInBounds_toArray, List.set_cons_zero, List.set_cons_succ, List.getElem_toArray, List.getElem_cons_zero, List.getElem_cons_succ])
        refine wpAnyH_ready (rs := [12]) (by kernel_rfl) (by simp) (AllReadyH.cons rfl (fun K hK => ?_) AllReadyH.nil)
        (try simp only [Act.put, List.setIfInBounds_toArray, List.set_cons_zero, List.set_cons_succ, List.getElem_toArray, List.getElem_cons_zero, List.getElem_cons_succ])
        have z0 := cell_of_heap HZ.out 0
        have y0 := frozen_of_heap HZ.out 0
        have z1 := cell_of_heap HZ.out 1
        have y1 := frozen_of_heap HZ.out 1
        have z2 := cell_of_heap HZ.out 2
        have y2 := frozen_of_heap HZ.out 2
        have z3 := cell_of_heap HZ.out 3
        have y3 := frozen_of_heap HZ.out 3
        simp at z0 z1 z2 z3
        go_simp
        go_wp2_with fail
        have HG := hide (grown_put4 ws26 (W2.heap.size) (.int .i64 p) (.int .i64 q) (.int .i64 s) (.int .i64 t))
        refine hK.out _ _ (gf_own hHeld HG.out HB.out) (fun hHeld => ?_)
        clear hK z0 z1 z2 z3 y0 y1 y2 y3
        have O3 := hide (O3.out.keepBut HG.out HZ.out (by decide))
        have HZ := hide (heap_set4 HZ.out p q s t)
        (try simp only [Act.put, List.setIfInBounds_toArray, List.set_cons_zero, List.set_cons_succ, List.getElem_toArray, List.getElem_cons_zero, List.getElem_cons_succ])
        refine wpAnyH_take (i := 13) (v := ?vs32) rfl (by kernel_rfl) (by kernel_rfl) (by kernel_rfl) (fun _ _ _ h => h) (Or.inl ⟨by rfl, ?ys32⟩) hHeld ?rs32
        case ys32 => (intro w' hSw; go_simp; (try with_reducible rfl))
        (try simp only [Act.put, List.setIfInBounds_toArray, List.set_cons_zero, List.set_cons_succ, List.getElem_toArray, List.getElem_cons_zero, List.getElem_cons_succ])
        refine wpAnyH_done (by kernel_rfl) ?_ _
        go_wp2_with fail
        go_meet
        exact ⟨W2.heap.size, rfl, rfl, O3.out, HZ.out, HB.out, hHeld⟩
    case rest =>
    obtain ⟨b14, rfl, rfl, o13, z14, hb14, g14⟩ := hcut
    have O7 := hide (O7.out.keep g14)
    have O10 := hide (O10.out.keep g14)
    have Z8 := hide (heap_keep Z8.out g14)
    have G3 := hide (grown_none G2.out g14)
    have N2 := hide g14.size
    have O13 := hide o13
    have Z14 := hide z14
    clear o13 z14 g14 hb14 HC HI2 HSB G2 cz0 cz1 cz2 cz3 hsB
    go_wp2_with fail
    refine (highs_any wc).mono ?_
    rintro e w5 ⟨rfl, g5⟩
    have O7 := hide (O7.out.keep g5)
    have O10 := hide (O10.out.keep g5)
    have O13 := hide (O13.out.keep g5)
    have Z8 := heap_keep Z8.out g5
    have Z14 := heap_keep Z14.out g5
    have G5 := hide (grown_none G3.out g5)
    have N3 := hide g5.size
    simp only [hp] at Z8 Z14
    have e0 := cell_of_heap Z8 0
    have e1 := cell_of_heap Z8 1
    have e2 := cell_of_heap Z8 2
    have e3 := cell_of_heap Z8 3
    have f0 := cell_of_heap Z14 0
    have f1 := cell_of_heap Z14 1
    have f2 := cell_of_heap Z14 2
    have f3 := cell_of_heap Z14 3
    simp at e0 e1 e2 e3 f0 f1 f2 f3
    have heq := eq_hp p q s t
    clear g5 G3 Z8 Z14
    have LA := hide (show (L1.length + L2.length) * 8 ≤ 140737488355328 by have := HLN.out; rw [HL.out, List.length_append] at this; omega)
    have LB := hide (show W1.heap.size ≤ w5.heap.size by have := N1.out; have := N2.out; have := N3.out; omega)
    go_wp2_with (at_builtin; refine wpList_append_both (by rfl) _ _ rfl W1.heap.size u10 u13 L1 L2 rfl rfl O10.out O13.out.ints O13.out.shp LA.out LB.out ?_)
    intro v6 w6 o6 g6
    have I6 := hide o6.ints
    have I7 := hide (Own.ints (O7.out.kept g6 (Own.apart LT.out O10.out)))
    have G6 := hide (grown_blk G5.out g6 (fun g hg => Nat.le_trans NW.out (O10.out.lt g hg).1))
    have SM := hide (keepSame_any v6 u7 (L1 ++ L2) L w6 I6.out I7.out (by rw [← HL.out]; have := HLN.out; omega) (by have := HLN.out; omega))
    rw [← HL.out, decide_eq_true rfl] at SM
    clear o6 g6 O7 O10 O13 heq e0 e1 e2 e3 f0 f1 f2 f3
    go_wp2_with fail
    refine SM.out.mono ?_
    rintro e w7 ⟨rfl, n7, rfl⟩
    clear SM
    go_wp2_with fail
    go_ret
    exact ⟨rfl, below_of_grown (grown_none G6.out (grown_drewN' _ _ none))⟩
  · subst he hLe
    obtain ⟨ad7, c7, e7, _, _⟩ := O7.out.ints
    simp only [List.length_nil] at e7
    subst e7
    clear CS
    go_wp2_with fail
    refine (highs_any W2).mono ?_
    rintro e w5 ⟨rfl, g5⟩
    have G5 := hide (below_of_grown (grown_none G2.out g5))
    clear g5
    go_wp2_with fail
    go_ret
    exact ⟨rfl, G5.out⟩
end Go.Proofs.Ytmmlppmlkmlgpaa
