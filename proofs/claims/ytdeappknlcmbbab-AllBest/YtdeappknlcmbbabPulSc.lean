/- The contract of package pulses' Score. -/
import Derived.Test.YtdeappknlcmbbabPulC
import Derived.BigQuiet
import Derived.Deep.QuietTactic
namespace Go.Proofs.Ytdeappknlcmbbab
open Go.RowKit
set_option linter.unusedVariables false
set_option linter.unusedSimpArgs false
set_option maxHeartbeats 1000000

/-- What Score answers. -/
def ScoE (w : World) (c e en : Int) (x : Ending) (w' : World) : Prop := x = .returned (.tuple #[.int .i64 c, .int .i64 e, .int .i64 en]) ∧ w.grownBy w' none
theorem soE_size {d r : List Int} (h : ¬ (d.length = 40 ∧ r.length = 40)) (x : List Int) : soE d r x = 1 ∧ soC d r x = 0 ∧ soV d r x = 0 := by
  have e : soE d r x = 1 := if_neg h
  refine ⟨e, ?_, ?_⟩
  · unfold soC; rw [e]; rfl
  · unfold soV; rw [e]; rfl
theorem soE_no {d r x : List Int} (h : d.length = 40 ∧ r.length = 40) (ho : goodX x = false) : soE d r x = 2 ∧ soC d r x = 0 ∧ soV d r x = 0 := by
  have e : soE d r x = 2 := by unfold soE; rw [if_pos h, ho]; rfl
  refine ⟨e, ?_, ?_⟩
  · unfold soC; rw [e]; rfl
  · unfold soV; rw [e]; rfl
theorem soE_yes {d r x : List Int} (h : d.length = 40 ∧ r.length = 40) (ho : goodX x = true) : soE d r x = 0 ∧ soC d r x = cS d x ∧ soV d r x = eS d r x := by
  have e : soE d r x = 0 := by unfold soE; rw [if_pos h, ho]; rfl
  refine ⟨e, ?_, ?_⟩
  · unfold soC; rw [e]; rfl
  · unfold soV; rw [e]; rfl
set_option maxRecDepth 100000 in
theorem pulScore_size (vd vr : Value) (d r x : List Int) (w : World) (hd : Ints w vd d) (hr : Ints w vr r) (h : ¬ (d.length = 40 ∧ r.length = 40)) (hl : d.length ≤ 1000000000000000000) (hl2 : r.length ≤ 1000000000000000000) :
    Calls Try.prog 14 #[vd, vr, .agg (arrI x)] w (ScoE w 0 0 1) := by
  have GG := hide (grown_alloc w (.cells (arrI x) 22) none)
  obtain ⟨ad, cp, rfl, _, _⟩ := hd
  obtain ⟨ar, cr, rfl, _, _⟩ := hr
  generalize d.length = nd at *
  generalize r.length = nr at *
  by_cases h1 : nd = 40
  · have h2 : ¬ nr = 40 := fun e => h ⟨h1, e⟩
    have b2 : ((nr : Int) != 40) = true := by simp; omega
    subst h1
    clear h h2
    go_enter Try.func14, Try.ntmps14
    go_wp2_with fail
    refine bodyPost_ret (v := .tuple #[.int .i64 0, .int .i64 0, .int .i64 1]) ?_ rfl ⟨rfl, GG.out⟩
    simp [results, Try.results14, asAddr, Act.put]
  · have b1 : ((nd : Int) != 40) = true := by simp; omega
    clear h h1
    go_enter Try.func14, Try.ntmps14
    go_wp2_with fail
    refine bodyPost_ret (v := .tuple #[.int .i64 0, .int .i64 0, .int .i64 1]) ?_ rfl ⟨rfl, GG.out⟩
    simp [results, Try.results14, asAddr, Act.put]
set_option maxRecDepth 100000 in
theorem pulScore_any (vd vr : Value) (d r x : List Int) (w : World) (hd : Ints w vd d) (hr : Ints w vr r) (hx : x.length = 4) (hl : d.length ≤ 1000000000000000000) (hl2 : r.length ≤ 1000000000000000000) :
    Calls Try.prog 14 #[vd, vr, .agg (arrI x)] w (ScoE w (soC d r x) (soV d r x) (soE d r x)) := by
  by_cases h : d.length = 40 ∧ r.length = 40
  · have B0 := hide (Blk.new w 22 x)
    have G0 := hide (grown_alloc w (.cells (arrI x) 22) none)
    have PC := hide (pulPlaces_any x hx)
    rcases hg : goodX x with _ | _
    · obtain ⟨e1, e2, e3⟩ := soE_no h hg
      rw [e1, e2, e3]
      rw [hg] at PC
      obtain ⟨ad, cp, rfl, _, _⟩ := hd
      obtain ⟨ar, cr, rfl, _, _⟩ := hr
      rw [h.1, h.2]
      clear e1 e2 e3 h hg hl hl2
      go_enter Try.func14, Try.ntmps14
      go_upto_region 1 with fail
      generalize w.alloc _ = W1 at *
      go_wp2_with (first | refine wpList_load_arr rfl 22 _ rfl _ rfl _ B0.out _ Try.underlying22 rfl (by rw [hx]; exact size4) ?_)
      refine (PC.out W1).mono ?_
      rintro e w2 ⟨rfl, g2⟩
      have GF := hide (grown_none G0.out g2)
      clear g2 PC
      go_wp2_with fail
      refine bodyPost_ret (v := .tuple #[.int .i64 0, .int .i64 0, .int .i64 2]) ?_ rfl ⟨rfl, GF.out⟩
      simp [results, Try.results14, asAddr, Act.put]
    · obtain ⟨e1, e2, e3⟩ := soE_yes h hg
      rw [e1, e2, e3]
      rw [hg] at PC
      have EN0 := hide (fun W (g : w.grownBy W none) => pulEnergies_any vr r W (Ints_keep hr g) h.2)
      have SC0 := hide (fun W (B : Nat) (g : w.grownBy W none) (b : Blk W B 63 (tbl r)) => pulScored_any vd d r x B W (Ints_keep hd g) h.1 b hx hg)
      have CC := cho_c x hx (cS d x) (eS d r x) 0
      have HX := hide CC.2.2.2.2
      have X4 := hide CC.2.2.1
      have X5 := hide CC.2.2.2.1
      obtain ⟨ad, cp, rfl, _, _⟩ := hd
      obtain ⟨ar, cr, rfl, _, _⟩ := hr
      rw [h.2] at EN0
      rw [h.1] at SC0
      rw [h.1, h.2]
      clear e1 e2 e3 h hg hl hl2 CC
      generalize x ++ [cS d x, eS d r x] = X at *
      generalize cS d x = C at *
      generalize eS d r x = E at *
      have hz := zero_arr zCho
      go_enter Try.func14, Try.ntmps14
      go_upto_region 1 with fail
      generalize w.alloc _ = W1 at *
      go_wp2_with (first | refine wpList_load_arr rfl 22 _ rfl _ rfl _ B0.out _ Try.underlying22 rfl (by rw [hx]; exact size4) ?_)
      refine (PC.out W1).mono ?_
      rintro e w2 ⟨rfl, g2⟩
      have GP := hide (grown_none G0.out g2)
      have BX := hide (B0.out.keep g2)
      have EN := hide (fun W (g : w2.grownBy W none) => EN0.out W (grown_none GP.out g))
      have SC := hide (fun W (B : Nat) (g : w2.grownBy W none) b => SC0.out W B (grown_none GP.out g) b)
      clear g2 PC G0 B0 EN0 SC0
      go_wp2_with fail
      refine wp_region_held_drew (S := GrownW w2) (by kernel_rfl) (gw_start _) (fun hHeld => ?_)
      refine wpAnyH_take (i := 0) (v := ?vsc1) rfl (by kernel_rfl) (by kernel_rfl) (by kernel_rfl) (fun _ _ _ h => h) (Or.inl ⟨by rfl, ?ysc1⟩) hHeld ?rsc1
      case ysc1 => (intro w' hSw; go_simp; (try with_reducible rfl))
      (try simp only [Act.put, List.setIfInBounds_toArray, List.set_cons_zero, List.set_cons_succ, List.getElem_toArray, List.getElem_cons_zero, List.getElem_cons_succ])
      refine wpAnyH_take (i := 1) (v := ?vsc2) rfl (by kernel_rfl) (by kernel_rfl) (by kernel_rfl) (fun _ _ _ h => h) (Or.inl ⟨by rfl, ?ysc2⟩) hHeld ?rsc2
      case ysc2 => (intro w' hSw; go_simp; (try with_reducible rfl))
      (try simp only [Act.put, List.setIfInBounds_toArray, List.set_cons_zero, List.set_cons_succ, List.getElem_toArray, List.getElem_cons_zero, List.getElem_cons_succ])
      refine wpAnyH_take (i := 3) (v := .agg (arrI x)) rfl (by kernel_rfl) (by kernel_rfl) (by kernel_rfl) (fun _ _ _ h => h) (Or.inl ⟨by rfl, ?ysc3⟩) hHeld ?rsc3
      case ysc3 => (intro w' hSw; exact yields_load_arr rfl rfl (BX.out.keep hSw) _ Try.underlying22 rfl (by rw [hx]; exact size4))
      (try simp only [Act.put, List.setIfInBounds_toArray, List.set_cons_zero, List.set_cons_succ, List.getElem_toArray, List.getElem_cons_zero, List.getElem_cons_succ])
      refine wpAnyH_ready (rs := [2, 5]) (by kernel_rfl) (by simp) (AllReadyH.cons rfl (fun K hK => ?gsc4) (AllReadyH.cons rfl (fun K hK => ?gsc5) AllReadyH.nil))
      case gsc4 =>
        (try simp only [Act.put, List.setIfInBounds_toArray, List.set_cons_zero, List.set_cons_succ, List.getElem_toArray, List.getElem_cons_zero, List.getElem_cons_succ])
        go_simp
        refine (EN.out _ hHeld).mono ?_
        rintro e wsc6 ⟨B, rfl, bsc6, _, gsc6⟩
        have Gsc6 := hide gsc6
        have BT := hide (bsc6)
        clear gsc6 bsc6
        go_wp2_with fail
        refine hK.out _ _ (gw_trans hHeld Gsc6.out) (fun hHeld => ?_)
        clear hK
        (try simp only [Act.put, List.setIfInBounds_toArray, List.set_cons_zero, List.set_cons_succ, List.getElem_toArray, List.getElem_cons_zero, List.getElem_cons_succ])
        refine wpAnyH_ready (rs := [4, 5]) (by kernel_rfl) (by simp) (AllReadyH.cons rfl (fun K hK => ?gsc7) (AllReadyH.cons rfl (fun K hK => ?gsc8) AllReadyH.nil))
        case gsc7 =>
          (try simp only [Act.put, List.setIfInBounds_toArray, List.set_cons_zero, List.set_cons_succ, List.getElem_toArray, List.getElem_cons_zero, List.getElem_cons_succ])
          go_simp
          refine (SC.out _ B hHeld BT.out).mono ?_
          rintro e wsc9 ⟨rfl, gsc9⟩
          have Gsc9 := hide gsc9
          clear gsc9
          go_wp2_with fail
          refine hK.out _ _ (gw_trans hHeld Gsc9.out) (fun hHeld => ?_)
          clear hK
          have BT := hide (BT.out.keep Gsc9.out)
          (try simp only [Act.put, List.setIfInBounds_toArray, List.set_cons_zero, List.set_cons_succ, List.getElem_toArray, List.getElem_cons_zero, List.getElem_cons_succ])
          refine wpAnyH_ready (rs := [5]) (by kernel_rfl) (by simp) (AllReadyH.cons rfl (fun K hK => ?_) AllReadyH.nil)
          (try simp only [Act.put, List.setIfInBounds_toArray, List.set_cons_zero, List.set_cons_succ, List.getElem_toArray, List.getElem_cons_zero, List.getElem_cons_succ])
          go_simp
          go_wp2_with fail
          have HB := hide (show w2.heap.size ≤ wsc9.heap.size from by first | exact Nat.le_refl _ | exact World.grownBy.size hHeld)
          refine hK.out _ _ (gw_alloc hHeld (.cells (arrI (zeros 6)) 50)) (fun hHeld => ?_)
          clear hK
          have HZ := hide (show Blk (wsc9.alloc (.cells (arrI (zeros 6)) 50)) wsc9.heap.size 50 (zeros 6) from Blk.new wsc9 50 (zeros 6))
          have BT := hide (BT.out.keep (grown_alloc wsc9 (.cells (arrI (zeros 6)) 50) none))
          generalize wsc9.alloc (.cells (arrI (zeros 6)) 50) = wzsc10 at *
          (try simp only [Act.put, List.setIfInBounds_toArray, List.set_cons_zero, List.set_cons_succ, List.getElem_toArray, List.getElem_cons_zero, List.getElem_cons_succ])
          refine wpAnyH_ready (rs := [6]) (by kernel_rfl) (by simp) (AllReadyH.cons rfl (fun K hK => ?_) AllReadyH.nil)
          (try simp only [Act.put, List.setIfInBounds_toArray, List.set_cons_zero, List.set_cons_succ, List.getElem_toArray, List.getElem_cons_zero, List.getElem_cons_succ])
          refine step_store_arr rfl 50 _ _ rfl (wsc9.heap.size) (zeros 6) X rfl rfl HZ.out (by rw [HX.out, zeros_len]) (by rw [zeros_len]; exact sCho) ?_
          have PU := put_arr (rs' := X) HZ.out (by rw [HX.out, zeros_len])
          refine hK.out _ _ (gw_own hHeld PU.2 HB.out) (fun hHeld => ?_)
          clear hK
          have BT := hide (BT.out)
          (try simp only [Act.put, List.setIfInBounds_toArray, List.set_cons_zero, List.set_cons_succ, List.getElem_toArray, List.getElem_cons_zero, List.getElem_cons_succ])
          refine wpAnyH_done (by kernel_rfl) ?_ _
          go_wp2_with fail
          have q4 := PU.1.cell 4 (by rw [HX.out]; omega)
          have q5 := PU.1.cell 5 (by rw [HX.out]; omega)
          rw [X4.out] at q4
          rw [X5.out] at q5
          have GF := hide (grown_none GP.out hHeld)
          clear PU hHeld HZ
          generalize putArr _ _ X = W5 at *
          go_quiet (fail)
          go_wp2_with fail
          refine bodyPost_ret (v := .tuple #[.int .i64 C, .int .i64 E, .int .i64 0]) ?_ rfl ⟨rfl, grown_none GF.out (grown_drewN' _ _ none)⟩
          simp [results, Try.results14, asAddr, Act.put]
        case gsc8 =>
          (try simp only [Act.put, List.setIfInBounds_toArray, List.set_cons_zero, List.set_cons_succ, List.getElem_toArray, List.getElem_cons_zero, List.getElem_cons_succ])
          go_simp
          go_wp2_with fail
          have HB := hide (show w2.heap.size ≤ wsc6.heap.size from by first | exact Nat.le_refl _ | exact World.grownBy.size hHeld)
          refine hK.out _ _ (gw_alloc hHeld (.cells (arrI (zeros 6)) 50)) (fun hHeld => ?_)
          clear hK
          have HZ := hide (show Blk (wsc6.alloc (.cells (arrI (zeros 6)) 50)) wsc6.heap.size 50 (zeros 6) from Blk.new wsc6 50 (zeros 6))
          have BT := hide (BT.out.keep (grown_alloc wsc6 (.cells (arrI (zeros 6)) 50) none))
          generalize wsc6.alloc (.cells (arrI (zeros 6)) 50) = wzsc12 at *
          (try simp only [Act.put, List.setIfInBounds_toArray, List.set_cons_zero, List.set_cons_succ, List.getElem_toArray, List.getElem_cons_zero, List.getElem_cons_succ])
          refine wpAnyH_ready (rs := [4]) (by kernel_rfl) (by simp) (AllReadyH.cons rfl (fun K hK => ?_) AllReadyH.nil)
          (try simp only [Act.put, List.setIfInBounds_toArray, List.set_cons_zero, List.set_cons_succ, List.getElem_toArray, List.getElem_cons_zero, List.getElem_cons_succ])
          go_simp
          refine (SC.out _ B hHeld BT.out).mono ?_
          rintro e wsc13 ⟨rfl, gsc13⟩
          have Gsc13 := hide gsc13
          clear gsc13
          go_wp2_with fail
          refine hK.out _ _ (gw_trans hHeld Gsc13.out) (fun hHeld => ?_)
          clear hK
          have HZ := hide (HZ.out.keep Gsc13.out)
          have BT := hide (BT.out.keep Gsc13.out)
          (try simp only [Act.put, List.setIfInBounds_toArray, List.set_cons_zero, List.set_cons_succ, List.getElem_toArray, List.getElem_cons_zero, List.getElem_cons_succ])
          refine wpAnyH_ready (rs := [6]) (by kernel_rfl) (by simp) (AllReadyH.cons rfl (fun K hK => ?_) AllReadyH.nil)
          (try simp only [Act.put, List.setIfInBounds_toArray, List.set_cons_zero, List.set_cons_succ, List.getElem_toArray, List.getElem_cons_zero, List.getElem_cons_succ])
          refine step_store_arr rfl 50 _ _ rfl (wsc6.heap.size) (zeros 6) X rfl rfl HZ.out (by rw [HX.out, zeros_len]) (by rw [zeros_len]; exact sCho) ?_
          have PU := put_arr (rs' := X) HZ.out (by rw [HX.out, zeros_len])
          refine hK.out _ _ (gw_own hHeld PU.2 HB.out) (fun hHeld => ?_)
          clear hK
          have BT := hide (BT.out)
          (try simp only [Act.put, List.setIfInBounds_toArray, List.set_cons_zero, List.set_cons_succ, List.getElem_toArray, List.getElem_cons_zero, List.getElem_cons_succ])
          refine wpAnyH_done (by kernel_rfl) ?_ _
          go_wp2_with fail
          have q4 := PU.1.cell 4 (by rw [HX.out]; omega)
          have q5 := PU.1.cell 5 (by rw [HX.out]; omega)
          rw [X4.out] at q4
          rw [X5.out] at q5
          have GF := hide (grown_none GP.out hHeld)
          clear PU hHeld HZ
          generalize putArr _ _ X = W5 at *
          go_quiet (fail)
          go_wp2_with fail
          refine bodyPost_ret (v := .tuple #[.int .i64 C, .int .i64 E, .int .i64 0]) ?_ rfl ⟨rfl, grown_none GF.out (grown_drewN' _ _ none)⟩
          simp [results, Try.results14, asAddr, Act.put]
      case gsc5 =>
        (try simp only [Act.put, List.setIfInBounds_toArray, List.set_cons_zero, List.set_cons_succ, List.getElem_toArray, List.getElem_cons_zero, List.getElem_cons_succ])
        go_simp
        go_wp2_with fail
        have HB := hide (show w2.heap.size ≤ w2.heap.size from by first | exact Nat.le_refl _ | exact World.grownBy.size hHeld)
        refine hK.out _ _ (gw_alloc hHeld (.cells (arrI (zeros 6)) 50)) (fun hHeld => ?_)
        clear hK
        have HZ := hide (show Blk ((w2.alloc (.cells (arrI (zeros 6)) 50)).drew) w2.heap.size 50 (zeros 6) from Blk.new w2.drew 50 (zeros 6))
        generalize (w2.alloc (.cells (arrI (zeros 6)) 50)).drew = wzsc15 at *
        (try simp only [Act.put, List.setIfInBounds_toArray, List.set_cons_zero, List.set_cons_succ, List.getElem_toArray, List.getElem_cons_zero, List.getElem_cons_succ])
        refine wpAnyH_ready (rs := [2]) (by kernel_rfl) (by simp) (AllReadyH.cons rfl (fun K hK => ?_) AllReadyH.nil)
        (try simp only [Act.put, List.setIfInBounds_toArray, List.set_cons_zero, List.set_cons_succ, List.getElem_toArray, List.getElem_cons_zero, List.getElem_cons_succ])
        go_simp
        refine (EN.out _ hHeld).mono ?_
        rintro e wsc16 ⟨B, rfl, bsc16, _, gsc16⟩
        have Gsc16 := hide gsc16
        have BT := hide (bsc16)
        clear gsc16 bsc16
        go_wp2_with fail
        refine hK.out _ _ (gw_trans hHeld Gsc16.out) (fun hHeld => ?_)
        clear hK
        have HZ := hide (HZ.out.keep Gsc16.out)
        (try simp only [Act.put, List.setIfInBounds_toArray, List.set_cons_zero, List.set_cons_succ, List.getElem_toArray, List.getElem_cons_zero, List.getElem_cons_succ])
        refine wpAnyH_ready (rs := [4]) (by kernel_rfl) (by simp) (AllReadyH.cons rfl (fun K hK => ?_) AllReadyH.nil)
        (try simp only [Act.put, List.setIfInBounds_toArray, List.set_cons_zero, List.set_cons_succ, List.getElem_toArray, List.getElem_cons_zero, List.getElem_cons_succ])
        go_simp
        refine (SC.out _ B hHeld BT.out).mono ?_
        rintro e wsc17 ⟨rfl, gsc17⟩
        have Gsc17 := hide gsc17
        clear gsc17
        go_wp2_with fail
        refine hK.out _ _ (gw_trans hHeld Gsc17.out) (fun hHeld => ?_)
        clear hK
        have HZ := hide (HZ.out.keep Gsc17.out)
        have BT := hide (BT.out.keep Gsc17.out)
        (try simp only [Act.put, List.setIfInBounds_toArray, List.set_cons_zero, List.set_cons_succ, List.getElem_toArray, List.getElem_cons_zero, List.getElem_cons_succ])
        refine wpAnyH_ready (rs := [6]) (by kernel_rfl) (by simp) (AllReadyH.cons rfl (fun K hK => ?_) AllReadyH.nil)
        (try simp only [Act.put, List.setIfInBounds_toArray, List.set_cons_zero, List.set_cons_succ, List.getElem_toArray, List.getElem_cons_zero, List.getElem_cons_succ])
        refine step_store_arr rfl 50 _ _ rfl (w2.heap.size) (zeros 6) X rfl rfl HZ.out (by rw [HX.out, zeros_len]) (by rw [zeros_len]; exact sCho) ?_
        have PU := put_arr (rs' := X) HZ.out (by rw [HX.out, zeros_len])
        refine hK.out _ _ (gw_own hHeld PU.2 HB.out) (fun hHeld => ?_)
        clear hK
        have BT := hide (BT.out)
        (try simp only [Act.put, List.setIfInBounds_toArray, List.set_cons_zero, List.set_cons_succ, List.getElem_toArray, List.getElem_cons_zero, List.getElem_cons_succ])
        refine wpAnyH_done (by kernel_rfl) ?_ _
        go_wp2_with fail
        have q4 := PU.1.cell 4 (by rw [HX.out]; omega)
        have q5 := PU.1.cell 5 (by rw [HX.out]; omega)
        rw [X4.out] at q4
        rw [X5.out] at q5
        have GF := hide (grown_none GP.out hHeld)
        clear PU hHeld HZ
        generalize putArr _ _ X = W5 at *
        go_quiet (fail)
        go_wp2_with fail
        refine bodyPost_ret (v := .tuple #[.int .i64 C, .int .i64 E, .int .i64 0]) ?_ rfl ⟨rfl, grown_none GF.out (grown_drewN' _ _ none)⟩
        simp [results, Try.results14, asAddr, Act.put]
  · obtain ⟨e1, e2, e3⟩ := soE_size h x
    rw [e1, e2, e3]
    exact pulScore_size vd vr d r x w hd hr h hl hl2
end Go.Proofs.Ytdeappknlcmbbab
