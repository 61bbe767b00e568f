/- The walks of SynthMakes and SynthUndoes out of the contracts. -/
import Derived.Test.YtkkalbogcnojmaaLSynA
import Derived.BigQuiet
import Derived.Deep.QuietTactic
namespace Go.Proofs.Ytkkalbogcnojmaa
open Go.RowKit
set_option linter.unusedVariables false
set_option linter.unusedSimpArgs false
set_option maxHeartbeats 1000000

/-- What a call of Make or Undo leaves in three variables. -/
def FiR (W0 : World) (L P : List Int) (en : Int) (s7 s8 s9 : Value) (wx : World) : Prop :=
  ∃ b, s8 = .pointer (some ⟨b, 0, none⟩) ∧ s9 = .int .i64 en ∧ Own W0.heap.size wx s7 L ∧ Blk wx b 23 P ∧ W0.heap.size ≤ b ∧ W0.grownBy wx none
theorem make_one : (mkL a4096 (zeros 8) [5]).length = 1 := by
  rw [mkL_len _ _ _ (a4096_ok _ _ (by decide) (by decide))]; rfl
set_option maxRecDepth 100000 in
theorem law_makes (w : World) (a : List Int) (ha : a.length = 9) (ha64 : In64 a) (p : List Int) (hp : p.length = 8) (hp64 : In64 p) (v : Value) (l : List Int) (hi : Ints w v l) (hl : l.length * 8 ≤ 140737488351232) (hl64 : In64 l) (hsh : Shp v l) :
    Calls Try.prog 3 #[.agg (arrI a), .agg (arrI p), v] w fun e w' => e = .returned (.bool true) ∧ Below w.heap.size w w' := by
  have IN := hide (fun wr (g : w.grownBy wr none) => ints_any v l wr (Ints_keep hi g) (by omega))
  have HM := hide (fun wr vi (h : Ints wr vi l) (s : Shp vi l) => make_any a p ha hp vi l wr h s hl)
  have HR := hide (fun wr (g : w.grownBy wr none) => refMake_any a p ha hp v l wr (Ints_keep hi g) hsh hl)
  have HC := hide (fun wr vi (h : Ints wr vi [5]) (s : Shp vi [5]) => make_any a4096 (zeros 8) rfl (zeros_len 8) vi [5] wr h s (by simp))
  have L0 := hide (laid2 w 22 23 a p)
  have h1 := make_one
  have hP := mkP_len a p l
  have hPZ := mkP_len a4096 (zeros 8) [5]
  have hL := mkL_le a p l
  generalize mkL a4096 (zeros 8) [5] = Z at *
  generalize mkP a4096 (zeros 8) [5] = PZ at *
  generalize fiE a4096 (zeros 8) [5] = ez at *
  generalize mkL a p l = L at *
  generalize mkP a p l = P at *
  generalize fiE a p l = en at *
  have heq := eq_arr P Try.underlying23 hP 9998
  have hb9 := build9_4096'
  have hb8 := build8
  clear ha64 hp64 hl64 hi hsh
  go_enter Try.func3, Try.ntmps3
  go_wp2_with fail
  have BA := hide L0.out.1
  have BP := hide L0.out.2.1
  have G0 := hide L0.out.2.2
  clear L0
  generalize (w.alloc (.cells (arrI a) 22)).alloc _ = W0 at *
  go_cut [7, 8, 9] from 16 (fun s7 s8 s9 wx => FiR W0 L P en s7 s8 s9 wx)
  case first =>
    refine wp_region_held_drew (S := GrownW W0) (by kernel_rfl) (gw_start _) (fun hHeld => ?_)
    refine wpAnyH_take (i := 0) (v := .agg (arrI a)) rfl (by kernel_rfl) (by kernel_rfl) (by kernel_rfl) (fun _ _ _ h => h) (Or.inl ⟨by rfl, ?yqm1⟩) hHeld ?rqm1
    case yqm1 => (intro w' hSw; exact yields_load_arr rfl rfl (BA.out.keep hSw) _ Try.underlying22 rfl (by rw [ha]; exact size9'))
    (try simp only [Act.put, List.setIfInBounds_toArray, List.set_cons_zero, List.set_cons_succ, List.getElem_toArray, List.getElem_cons_zero, List.getElem_cons_succ])
    refine wpAnyH_take (i := 1) (v := .agg (arrI p)) rfl (by kernel_rfl) (by kernel_rfl) (by kernel_rfl) (fun _ _ _ h => h) (Or.inl ⟨by rfl, ?yqm2⟩) hHeld ?rqm2
    case yqm2 => (intro w' hSw; exact yields_load_arr rfl rfl (BP.out.keep hSw) _ Try.underlying23 rfl (by rw [hp]; exact size8'))
    (try simp only [Act.put, List.setIfInBounds_toArray, List.set_cons_zero, List.set_cons_succ, List.getElem_toArray, List.getElem_cons_zero, List.getElem_cons_succ])
    refine wpAnyH_take (i := 2) (v := ?vqm3) rfl (by kernel_rfl) (by kernel_rfl) (by kernel_rfl) (fun _ _ _ h => h) (Or.inl ⟨by rfl, ?yqm3⟩) hHeld ?rqm3
    case yqm3 => (intro w' hSw; go_simp; (try with_reducible rfl))
    (try simp only [Act.put, List.setIfInBounds_toArray, List.set_cons_zero, List.set_cons_succ, List.getElem_toArray, List.getElem_cons_zero, List.getElem_cons_succ])
    refine wpAnyH_ready (rs := [3, 9]) (by kernel_rfl) (by simp) (AllReadyH.cons rfl (fun K hK => ?gqm4) (AllReadyH.cons rfl (fun K hK => ?gqm5) AllReadyH.nil))
    case gqm4 =>
      (try simp only [Act.put, List.setIfInBounds_toArray, List.set_cons_zero, List.set_cons_succ, List.getElem_toArray, List.getElem_cons_zero, List.getElem_cons_succ])
      go_simp
      refine (IN.out _ (grown_none G0.out hHeld)).mono ?_
      rintro e wqm6 ⟨vi, rfl, oi, gqm6⟩
      have Gqm6 := hide gqm6
      have OI := hide (show Own _ wqm6 vi l from oi)
      clear gqm6 oi
      go_wp2_with fail
      refine hK.out _ _ (gw_trans hHeld Gqm6.out) (fun hHeld => ?_)
      clear hK
      (try simp only [Act.put, List.setIfInBounds_toArray, List.set_cons_zero, List.set_cons_succ, List.getElem_toArray, List.getElem_cons_zero, List.getElem_cons_succ])
      refine wpAnyH_ready (rs := [4, 9]) (by kernel_rfl) (by simp) (AllReadyH.cons rfl (fun K hK => ?gqm7) (AllReadyH.cons rfl (fun K hK => ?gqm8) AllReadyH.nil))
      case gqm7 =>
        (try simp only [Act.put, List.setIfInBounds_toArray, List.set_cons_zero, List.set_cons_succ, List.getElem_toArray, List.getElem_cons_zero, List.getElem_cons_succ])
        go_simp
        refine (HM.out _ vi OI.out.ints OI.out.shp).mono ?_
        rintro e wqm9 ⟨vx, rfl, ox, gqm9⟩
        have Gqm9 := hide gqm9
        have OX := hide (ox.base (b' := W0.heap.size) (World.grownBy.size hHeld))
        clear gqm9 ox
        go_wp2_with fail
        refine hK.out _ _ (gw_trans hHeld Gqm9.out) (fun hHeld => ?_)
        clear hK
        have OI := hide (OI.out.keep Gqm9.out)
        (try simp only [Act.put, List.setIfInBounds_toArray, List.set_cons_zero, List.set_cons_succ, List.getElem_toArray, List.getElem_cons_zero, List.getElem_cons_succ])
        refine wpAnyH_take (i := 5) (v := ?vqm10) rfl (by kernel_rfl) (by kernel_rfl) (by kernel_rfl) (fun _ _ _ h => h) (Or.inl ⟨by rfl, ?yqm10⟩) hHeld ?rqm10
        case yqm10 => (intro w' hSw; go_simp; (try with_reducible rfl))
        (try simp only [Act.put, List.setIfInBounds_toArray, List.set_cons_zero, List.set_cons_succ, List.getElem_toArray, List.getElem_cons_zero, List.getElem_cons_succ])
        refine wpAnyH_take (i := 6) (v := ?vqm11) rfl (by kernel_rfl) (by kernel_rfl) (by kernel_rfl) (fun _ _ _ h => h) (Or.inl ⟨by rfl, ?yqm11⟩) hHeld ?rqm11
        case yqm11 => (intro w' hSw; go_simp; (try with_reducible rfl))
        (try simp only [Act.put, List.setIfInBounds_toArray, List.set_cons_zero, List.set_cons_succ, List.getElem_toArray, List.getElem_cons_zero, List.getElem_cons_succ])
        refine wpAnyH_take (i := 7) (v := ?vqm12) rfl (by kernel_rfl) (by kernel_rfl) (by kernel_rfl) (fun _ _ _ h => h) (Or.inl ⟨by rfl, ?yqm12⟩) hHeld ?rqm12
        case yqm12 => (intro w' hSw; go_simp; (try with_reducible rfl))
        (try simp only [Act.put, List.setIfInBounds_toArray, List.set_cons_zero, List.set_cons_succ, List.getElem_toArray, List.getElem_cons_zero, List.getElem_cons_succ])
        refine wpAnyH_take (i := 8) (v := ?vqm13) rfl (by kernel_rfl) (by kernel_rfl) (by kernel_rfl) (fun _ _ _ h => h) (Or.inl ⟨by rfl, ?yqm13⟩) hHeld ?rqm13
        case yqm13 => (intro w' hSw; go_simp; (try with_reducible rfl))
        (try simp only [Act.put, List.setIfInBounds_toArray, List.set_cons_zero, List.set_cons_succ, List.getElem_toArray, List.getElem_cons_zero, List.getElem_cons_succ])
        refine wpAnyH_ready (rs := [9]) (by kernel_rfl) (by simp) (AllReadyH.cons rfl (fun K hK => ?_) AllReadyH.nil)
        (try simp only [Act.put, List.setIfInBounds_toArray, List.set_cons_zero, List.set_cons_succ, List.getElem_toArray, List.getElem_cons_zero, List.getElem_cons_succ])
        go_simp
        go_wp2_with fail
        have HB := hide (show W0.heap.size ≤ wqm9.heap.size from by first | exact Nat.le_refl _ | exact World.grownBy.size hHeld)
        refine hK.out _ _ (gw_alloc hHeld (.cells #[.int .i64 0, .int .i64 0, .int .i64 0, .int .i64 0, .int .i64 0, .int .i64 0, .int .i64 0, .int .i64 0] 23)) (fun hHeld => ?_)
        clear hK
        have HZ := hide (show Blk (wqm9.alloc (.cells #[.int .i64 0, .int .i64 0, .int .i64 0, .int .i64 0, .int .i64 0, .int .i64 0, .int .i64 0, .int .i64 0] 23)) wqm9.heap.size 23 (zeros 8) from Blk.new wqm9 23 (zeros 8))
        have OI := hide (OI.out.keep (grown_alloc wqm9 (.cells #[.int .i64 0, .int .i64 0, .int .i64 0, .int .i64 0, .int .i64 0, .int .i64 0, .int .i64 0, .int .i64 0] 23) none))
        have OX := hide (OX.out.keep (grown_alloc wqm9 (.cells #[.int .i64 0, .int .i64 0, .int .i64 0, .int .i64 0, .int .i64 0, .int .i64 0, .int .i64 0, .int .i64 0] 23) none))
        (try simp only [Act.put, List.setIfInBounds_toArray, List.set_cons_zero, List.set_cons_succ, List.getElem_toArray, List.getElem_cons_zero, List.getElem_cons_succ])
        refine wpAnyH_take (i := 10) (v := ?vqm15) rfl (by kernel_rfl) (by kernel_rfl) (by kernel_rfl) (fun _ _ _ h => h) (Or.inl ⟨by rfl, ?yqm15⟩) hHeld ?rqm15
        case yqm15 => (intro w' hSw; go_simp; (try with_reducible rfl))
        (try simp only [Act.put, List.setIfInBounds_toArray, List.set_cons_zero, List.set_cons_succ, List.getElem_toArray, List.getElem_cons_zero, List.getElem_cons_succ])
        refine wpAnyH_ready (rs := [11]) (by kernel_rfl) (by simp) (AllReadyH.cons rfl (fun K hK => ?_) AllReadyH.nil)
        (try simp only [Act.put, List.setIfInBounds_toArray, List.set_cons_zero, List.set_cons_succ, List.getElem_toArray, List.getElem_cons_zero, List.getElem_cons_succ])
        refine step_store_arr rfl 23 _ _ rfl (wqm9.heap.size) (zeros 8) P rfl rfl HZ.out (by rw [hP, zeros_len]) (by rw [zeros_len]; exact size8') ?_
        have PU := put_arr (rs' := P) HZ.out (by rw [hP, zeros_len])
        refine hK.out _ _ (gw_own hHeld PU.2 HB.out) (fun hHeld => ?_)
        clear hK
        have OI := hide (OI.out.keepBut PU.2 HZ.out (by decide))
        have OX := hide (OX.out.keepBut PU.2 HZ.out (by decide))
        (try simp only [Act.put, List.setIfInBounds_toArray, List.set_cons_zero, List.set_cons_succ, List.getElem_toArray, List.getElem_cons_zero, List.getElem_cons_succ])
        refine wpAnyH_take (i := 12) (v := ?vqm17) rfl (by kernel_rfl) (by kernel_rfl) (by kernel_rfl) (fun _ _ _ h => h) (Or.inl ⟨by rfl, ?yqm17⟩) hHeld ?rqm17
        case yqm17 => (intro w' hSw; go_simp; (try with_reducible rfl))
        (try simp only [Act.put, List.setIfInBounds_toArray, List.set_cons_zero, List.set_cons_succ, List.getElem_toArray, List.getElem_cons_zero, List.getElem_cons_succ])
        refine wpAnyH_done (by kernel_rfl) ?_ _
        go_wp2_with fail
        go_meet
        exact ⟨wqm9.heap.size, rfl, rfl, OX.out, PU.1, HB.out, hHeld⟩
      case gqm8 =>
        (try simp only [Act.put, List.setIfInBounds_toArray, List.set_cons_zero, List.set_cons_succ, List.getElem_toArray, List.getElem_cons_zero, List.getElem_cons_succ])
        go_simp
        go_wp2_with fail
        have HB := hide (show W0.heap.size ≤ wqm6.heap.size from by first | exact Nat.le_refl _ | exact World.grownBy.size hHeld)
        refine hK.out _ _ (gw_alloc hHeld (.cells #[.int .i64 0, .int .i64 0, .int .i64 0, .int .i64 0, .int .i64 0, .int .i64 0, .int .i64 0, .int .i64 0] 23)) (fun hHeld => ?_)
        clear hK
        have HZ := hide (show Blk (wqm6.alloc (.cells #[.int .i64 0, .int .i64 0, .int .i64 0, .int .i64 0, .int .i64 0, .int .i64 0, .int .i64 0, .int .i64 0] 23)) wqm6.heap.size 23 (zeros 8) from Blk.new wqm6 23 (zeros 8))
        have OI := hide (OI.out.keep (grown_alloc wqm6 (.cells #[.int .i64 0, .int .i64 0, .int .i64 0, .int .i64 0, .int .i64 0, .int .i64 0, .int .i64 0, .int .i64 0] 23) none))
        (try simp only [Act.put, List.setIfInBounds_toArray, List.set_cons_zero, List.set_cons_succ, List.getElem_toArray, List.getElem_cons_zero, List.getElem_cons_succ])
        refine wpAnyH_ready (rs := [4]) (by kernel_rfl) (by simp) (AllReadyH.cons rfl (fun K hK => ?_) AllReadyH.nil)
        (try simp only [Act.put, List.setIfInBounds_toArray, List.set_cons_zero, List.set_cons_succ, List.getElem_toArray, List.getElem_cons_zero, List.getElem_cons_succ])
        go_simp
        refine (HM.out _ vi OI.out.ints OI.out.shp).mono ?_
        rintro e wqm19 ⟨vx, rfl, ox, gqm19⟩
        have Gqm19 := hide gqm19
        have OX := hide (ox.base (b' := W0.heap.size) (World.grownBy.size hHeld))
        clear gqm19 ox
        go_wp2_with fail
        refine hK.out _ _ (gw_trans hHeld Gqm19.out) (fun hHeld => ?_)
        clear hK
        have HZ := hide (HZ.out.keep Gqm19.out)
        have OI := hide (OI.out.keep Gqm19.out)
        (try simp only [Act.put, List.setIfInBounds_toArray, List.set_cons_zero, List.set_cons_succ, List.getElem_toArray, List.getElem_cons_zero, List.getElem_cons_succ])
        refine wpAnyH_take (i := 5) (v := ?vqm20) rfl (by kernel_rfl) (by kernel_rfl) (by kernel_rfl) (fun _ _ _ h => h) (Or.inl ⟨by rfl, ?yqm20⟩) hHeld ?rqm20
        case yqm20 => (intro w' hSw; go_simp; (try with_reducible rfl))
        (try simp only [Act.put, List.setIfInBounds_toArray, List.set_cons_zero, List.set_cons_succ, List.getElem_toArray, List.getElem_cons_zero, List.getElem_cons_succ])
        refine wpAnyH_take (i := 6) (v := ?vqm21) rfl (by kernel_rfl) (by kernel_rfl) (by kernel_rfl) (fun _ _ _ h => h) (Or.inl ⟨by rfl, ?yqm21⟩) hHeld ?rqm21
        case yqm21 => (intro w' hSw; go_simp; (try with_reducible rfl))
        (try simp only [Act.put, List.setIfInBounds_toArray, List.set_cons_zero, List.set_cons_succ, List.getElem_toArray, List.getElem_cons_zero, List.getElem_cons_succ])
        refine wpAnyH_take (i := 7) (v := ?vqm22) rfl (by kernel_rfl) (by kernel_rfl) (by kernel_rfl) (fun _ _ _ h => h) (Or.inl ⟨by rfl, ?yqm22⟩) hHeld ?rqm22
        case yqm22 => (intro w' hSw; go_simp; (try with_reducible rfl))
        (try simp only [Act.put, List.setIfInBounds_toArray, List.set_cons_zero, List.set_cons_succ, List.getElem_toArray, List.getElem_cons_zero, List.getElem_cons_succ])
        refine wpAnyH_take (i := 8) (v := ?vqm23) rfl (by kernel_rfl) (by kernel_rfl) (by kernel_rfl) (fun _ _ _ h => h) (Or.inl ⟨by rfl, ?yqm23⟩) hHeld ?rqm23
        case yqm23 => (intro w' hSw; go_simp; (try with_reducible rfl))
        (try simp only [Act.put, List.setIfInBounds_toArray, List.set_cons_zero, List.set_cons_succ, List.getElem_toArray, List.getElem_cons_zero, List.getElem_cons_succ])
        refine wpAnyH_take (i := 10) (v := ?vqm24) rfl (by kernel_rfl) (by kernel_rfl) (by kernel_rfl) (fun _ _ _ h => h) (Or.inl ⟨by rfl, ?yqm24⟩) hHeld ?rqm24
        case yqm24 => (intro w' hSw; go_simp; (try with_reducible rfl))
        (try simp only [Act.put, List.setIfInBounds_toArray, List.set_cons_zero, List.set_cons_succ, List.getElem_toArray, List.getElem_cons_zero, List.getElem_cons_succ])
        refine wpAnyH_ready (rs := [11]) (by kernel_rfl) (by simp) (AllReadyH.cons rfl (fun K hK => ?_) AllReadyH.nil)
        (try simp only [Act.put, List.setIfInBounds_toArray, List.set_cons_zero, List.set_cons_succ, List.getElem_toArray, List.getElem_cons_zero, List.getElem_cons_succ])
        refine step_store_arr rfl 23 _ _ rfl (wqm6.heap.size) (zeros 8) P rfl rfl HZ.out (by rw [hP, zeros_len]) (by rw [zeros_len]; exact size8') ?_
        have PU := put_arr (rs' := P) HZ.out (by rw [hP, zeros_len])
        refine hK.out _ _ (gw_own hHeld PU.2 HB.out) (fun hHeld => ?_)
        clear hK
        have OI := hide (OI.out.keepBut PU.2 HZ.out (by decide))
        have OX := hide (OX.out.keepBut PU.2 HZ.out (by decide))
        (try simp only [Act.put, List.setIfInBounds_toArray, List.set_cons_zero, List.set_cons_succ, List.getElem_toArray, List.getElem_cons_zero, List.getElem_cons_succ])
        refine wpAnyH_take (i := 12) (v := ?vqm26) rfl (by kernel_rfl) (by kernel_rfl) (by kernel_rfl) (fun _ _ _ h => h) (Or.inl ⟨by rfl, ?yqm26⟩) hHeld ?rqm26
        case yqm26 => (intro w' hSw; go_simp; (try with_reducible rfl))
        (try simp only [Act.put, List.setIfInBounds_toArray, List.set_cons_zero, List.set_cons_succ, List.getElem_toArray, List.getElem_cons_zero, List.getElem_cons_succ])
        refine wpAnyH_done (by kernel_rfl) ?_ _
        go_wp2_with fail
        go_meet
        exact ⟨wqm6.heap.size, rfl, rfl, OX.out, PU.1, HB.out, hHeld⟩
    case gqm5 =>
      (try simp only [Act.put, List.setIfInBounds_toArray, List.set_cons_zero, List.set_cons_succ, List.getElem_toArray, List.getElem_cons_zero, List.getElem_cons_succ])
      go_simp
      go_wp2_with fail
      have HB := hide (show W0.heap.size ≤ W0.heap.size from by first | exact Nat.le_refl _ | exact World.grownBy.size hHeld)
      refine hK.out _ _ (gw_alloc hHeld (.cells #[.int .i64 0, .int .i64 0, .int .i64 0, .int .i64 0, .int .i64 0, .int .i64 0, .int .i64 0, .int .i64 0] 23)) (fun hHeld => ?_)
      clear hK
      have HZ := hide (show Blk (W0.drew.alloc (.cells #[.int .i64 0, .int .i64 0, .int .i64 0, .int .i64 0, .int .i64 0, .int .i64 0, .int .i64 0, .int .i64 0] 23)) W0.heap.size 23 (zeros 8) from Blk.new W0.drew 23 (zeros 8))
      (try simp only [Act.put, List.setIfInBounds_toArray, List.set_cons_zero, List.set_cons_succ, List.getElem_toArray, List.getElem_cons_zero, List.getElem_cons_succ])
      refine wpAnyH_ready (rs := [3]) (by kernel_rfl) (by simp) (AllReadyH.cons rfl (fun K hK => ?_) AllReadyH.nil)
      (try simp only [Act.put, List.setIfInBounds_toArray, List.set_cons_zero, List.set_cons_succ, List.getElem_toArray, List.getElem_cons_zero, List.getElem_cons_succ])
      go_simp
      refine (IN.out _ (grown_none G0.out hHeld)).mono ?_
      rintro e wqm28 ⟨vi, rfl, oi, gqm28⟩
      have Gqm28 := hide gqm28
      have OI := hide (show Own _ wqm28 vi l from oi)
      clear gqm28 oi
      go_wp2_with fail
      refine hK.out _ _ (gw_trans hHeld Gqm28.out) (fun hHeld => ?_)
      clear hK
      have HZ := hide (HZ.out.keep Gqm28.out)
      (try simp only [Act.put, List.setIfInBounds_toArray, List.set_cons_zero, List.set_cons_succ, List.getElem_toArray, List.getElem_cons_zero, List.getElem_cons_succ])
      refine wpAnyH_ready (rs := [4]) (by kernel_rfl) (by simp) (AllReadyH.cons rfl (fun K hK => ?_) AllReadyH.nil)
      (try simp only [Act.put, List.setIfInBounds_toArray, List.set_cons_zero, List.set_cons_succ, List.getElem_toArray, List.getElem_cons_zero, List.getElem_cons_succ])
      go_simp
      refine (HM.out _ vi OI.out.ints OI.out.shp).mono ?_
      rintro e wqm29 ⟨vx, rfl, ox, gqm29⟩
      have Gqm29 := hide gqm29
      have OX := hide (ox.base (b' := W0.heap.size) (World.grownBy.size hHeld))
      clear gqm29 ox
      go_wp2_with fail
      refine hK.out _ _ (gw_trans hHeld Gqm29.out) (fun hHeld => ?_)
      clear hK
      have HZ := hide (HZ.out.keep Gqm29.out)
      have OI := hide (OI.out.keep Gqm29.out)
      (try simp only [Act.put, List.setIfInBounds_toArray, List.set_cons_zero, List.set_cons_succ, List.getElem_toArray, List.getElem_cons_zero, List.getElem_cons_succ])
      refine wpAnyH_take (i := 5) (v := ?vqm30) rfl (by kernel_rfl) (by kernel_rfl) (by kernel_rfl) (fun _ _ _ h => h) (Or.inl ⟨by rfl, ?yqm30⟩) hHeld ?rqm30
      case yqm30 => (intro w' hSw; go_simp; (try with_reducible rfl))
      (try simp only [Act.put, List.setIfInBounds_toArray, List.set_cons_zero, List.set_cons_succ, List.getElem_toArray, List.getElem_cons_zero, List.getElem_cons_succ])
      refine wpAnyH_take (i := 6) (v := ?vqm31) rfl (by kernel_rfl) (by kernel_rfl) (by kernel_rfl) (fun _ _ _ h => h) (Or.inl ⟨by rfl, ?yqm31⟩) hHeld ?rqm31
      case yqm31 => (intro w' hSw; go_simp; (try with_reducible rfl))
      (try simp only [Act.put, List.setIfInBounds_toArray, List.set_cons_zero, List.set_cons_succ, List.getElem_toArray, List.getElem_cons_zero, List.getElem_cons_succ])
      refine wpAnyH_take (i := 7) (v := ?vqm32) rfl (by kernel_rfl) (by kernel_rfl) (by kernel_rfl) (fun _ _ _ h => h) (Or.inl ⟨by rfl, ?yqm32⟩) hHeld ?rqm32
      case yqm32 => (intro w' hSw; go_simp; (try with_reducible rfl))
      (try simp only [Act.put, List.setIfInBounds_toArray, List.set_cons_zero, List.set_cons_succ, List.getElem_toArray, List.getElem_cons_zero, List.getElem_cons_succ])
      refine wpAnyH_take (i := 8) (v := ?vqm33) rfl (by kernel_rfl) (by kernel_rfl) (by kernel_rfl) (fun _ _ _ h => h) (Or.inl ⟨by rfl, ?yqm33⟩) hHeld ?rqm33
      case yqm33 => (intro w' hSw; go_simp; (try with_reducible rfl))
      (try simp only [Act.put, List.setIfInBounds_toArray, List.set_cons_zero, List.set_cons_succ, List.getElem_toArray, List.getElem_cons_zero, List.getElem_cons_succ])
      refine wpAnyH_take (i := 10) (v := ?vqm34) rfl (by kernel_rfl) (by kernel_rfl) (by kernel_rfl) (fun _ _ _ h => h) (Or.inl ⟨by rfl, ?yqm34⟩) hHeld ?rqm34
      case yqm34 => (intro w' hSw; go_simp; (try with_reducible rfl))
      (try simp only [Act.put, List.setIfInBounds_toArray, List.set_cons_zero, List.set_cons_succ, List.getElem_toArray, List.getElem_cons_zero, List.getElem_cons_succ])
      refine wpAnyH_ready (rs := [11]) (by kernel_rfl) (by simp) (AllReadyH.cons rfl (fun K hK => ?_) AllReadyH.nil)
      (try simp only [Act.put, List.setIfInBounds_toArray, List.set_cons_zero, List.set_cons_succ, List.getElem_toArray, List.getElem_cons_zero, List.getElem_cons_succ])
      refine step_store_arr rfl 23 _ _ rfl (W0.heap.size) (zeros 8) P rfl rfl HZ.out (by rw [hP, zeros_len]) (by rw [zeros_len]; exact size8') ?_
      have PU := put_arr (rs' := P) HZ.out (by rw [hP, zeros_len])
      refine hK.out _ _ (gw_own hHeld PU.2 HB.out) (fun hHeld => ?_)
      clear hK
      have OI := hide (OI.out.keepBut PU.2 HZ.out (by decide))
      have OX := hide (OX.out.keepBut PU.2 HZ.out (by decide))
      (try simp only [Act.put, List.setIfInBounds_toArray, List.set_cons_zero, List.set_cons_succ, List.getElem_toArray, List.getElem_cons_zero, List.getElem_cons_succ])
      refine wpAnyH_take (i := 12) (v := ?vqm36) rfl (by kernel_rfl) (by kernel_rfl) (by kernel_rfl) (fun _ _ _ h => h) (Or.inl ⟨by rfl, ?yqm36⟩) hHeld ?rqm36
      case yqm36 => (intro w' hSw; go_simp; (try with_reducible rfl))
      (try simp only [Act.put, List.setIfInBounds_toArray, List.set_cons_zero, List.set_cons_succ, List.getElem_toArray, List.getElem_cons_zero, List.getElem_cons_succ])
      refine wpAnyH_done (by kernel_rfl) ?_ _
      go_wp2_with fail
      go_meet
      exact ⟨W0.heap.size, rfl, rfl, OX.out, PU.1, HB.out, hHeld⟩
  case rest =>
  obtain ⟨b8, rfl, rfl, o7, z8, hb8', g8⟩ := hcut
  have O7 := hide o7
  have Z8 := hide z8
  have BA1 := hide (BA.out.keep g8)
  have BP1 := hide (BP.out.keep g8)
  have G1 := hide (grown_none G0.out g8)
  clear o7 z8 g8 hb8' BA BP G0 IN HM
  go_wp2_with (first | refine wpList_load_arr rfl 22 _ rfl _ rfl _ BA1.out _ Try.underlying22 rfl (by rw [ha]; exact size9') ?_ | refine wpList_load_arr rfl 23 _ rfl _ rfl _ BP1.out _ Try.underlying23 rfl (by rw [hp]; exact size8') ?_)
  refine (HR.out _ G1.out).mono ?_
  rintro e w2 ⟨v2, rfl, o2, g2⟩
  obtain ⟨b1, b2, b3⟩ := fresh_arr w2 23 8 P hP
  have NW := hide b1
  have ZQ := hide b2
  have g3 := grown_none g2 b3
  have O2 := hide (o2.keep b3)
  have O7' := hide (O7.out.keep g3)
  have Z8' := hide (Z8.out.keep g3)
  have G3 := hide (grown_none G1.out g3)
  rw [z8'] at NW ZQ O2 O7' Z8' G3
  clear b1 b2 b3 o2 g2 g3 O7 Z8 G1 BA1 BP1 HR
  go_wp2_with (first | refine wpList_store_arr rfl 23 _ _ rfl _ (zeros 8) P rfl rfl NW.out (by rw [hP, zeros_len]) (by rw [zeros_len]; exact size8') ?_)
  clear NW hb9 hb8
  generalize putArr _ w2.heap.size P = w3 at *
  generalize w2.heap.size = p3 at *
  have J := hide (ints_lit w3 5)
  have ga := grown_alloc w3 (.cells #[.int .i64 5] 3) none
  have O2' := hide (O2.out.keep ga)
  have O7 := hide (O7'.out.keep ga)
  have Z8 := hide (Z8'.out.keep ga)
  have ZQ' := hide (ZQ.out.keep ga)
  have G4 := hide (grown_none G3.out ga)
  clear ga O2 O7' Z8' ZQ G3
  refine (HC.out _ _ J.out (.inr ⟨_, _, rfl⟩)).mono ?_
  rintro e w5 ⟨v5, rfl, o5, g5⟩
  obtain ⟨b1, b2, b3⟩ := fresh_arr w5 23 8 PZ hPZ
  have NW := hide b1
  have g6 := grown_none g5 b3
  have I7 := hide (O7.out.keep g6).ints
  have I2 := hide (O2'.out.keep g6).ints
  have ZP := hide (Z8.out.keep g6)
  have ZQ := hide (ZQ'.out.keep g6)
  have G5 := hide (grown_none G4.out g6)
  obtain ⟨b5, c5, rfl, _, _, _⟩ := o5.form (by omega)
  rw [h1]
  rw [z8'] at NW I7 I2 ZP ZQ G5
  clear b1 b2 b3 g5 g6 o5 O7 O2' Z8 ZQ' G4 HC J
  go_wp2_with (first | refine wpList_store_arr rfl 23 _ _ rfl _ (zeros 8) PZ rfl rfl NW.out (by rw [hPZ, zeros_len]) (by rw [zeros_len]; exact size8') ?_)
  clear NW
  generalize putArr _ w5.heap.size PZ = w6 at *
  generalize w5.heap.size = p6 at *
  have SM := hide (refSames_any _ _ L L w6 I7.out I2.out (by omega) (by omega))
  rw [show decide (L = L) = true by simp] at SM
  clear I7 I2
  refine SM.out.mono ?_
  rintro e w7 ⟨rfl, m, rfl⟩
  have ZP' := hide (ZP.out.keep (grown_drewN' w6 m none))
  have ZQ' := hide (ZQ.out.keep (grown_drewN' w6 m none))
  have G6 := hide (grown_none G5.out (grown_drewN' w6 m none))
  clear SM ZP ZQ G5
  go_wp2_with (first | refine wpList_load_arrG (by first | rfl | (simp [Region.wanted, yielded]; omega)) 23 _ rfl _ rfl _ ZP'.out _ Try.underlying23 rfl (by rw [hP]; exact size8') ?_ | refine wpList_load_arrG (by first | rfl | (simp [Region.wanted, yielded]; omega)) 23 _ rfl _ rfl _ ZQ'.out _ Try.underlying23 rfl (by rw [hP]; exact size8') ?_)
  go_ret
  exact ⟨rfl, below_of_grown G6.out⟩
theorem undo_one : (unL a4096 (zeros 8) [5]).length = 1 := by
  rw [unL_len _ _ _ (a4096_ok _ _ (by decide) (by decide))]; rfl
set_option maxRecDepth 100000 in
theorem law_undos (w : World) (a : List Int) (ha : a.length = 9) (ha64 : In64 a) (p : List Int) (hp : p.length = 8) (hp64 : In64 p) (v : Value) (l : List Int) (hi : Ints w v l) (hl : l.length * 8 ≤ 140737488351232) (hl64 : In64 l) (hsh : Shp v l) :
    Calls Try.prog 4 #[.agg (arrI a), .agg (arrI p), v] w fun e w' => e = .returned (.bool true) ∧ Below w.heap.size w w' := by
  have IN := hide (fun wr (g : w.grownBy wr none) => ints_any v l wr (Ints_keep hi g) (by omega))
  have HM := hide (fun wr vi (h : Ints wr vi l) (s : Shp vi l) => undo_any a p ha hp vi l wr h s hl)
  have HR := hide (fun wr (g : w.grownBy wr none) => refUndo_any a p ha hp v l wr (Ints_keep hi g) hsh hl)
  have HC := hide (fun wr vi (h : Ints wr vi [5]) (s : Shp vi [5]) => undo_any a4096 (zeros 8) rfl (zeros_len 8) vi [5] wr h s (by simp))
  have L0 := hide (laid2 w 22 23 a p)
  have h1 := undo_one
  have hP := unP_len a p l
  have hPZ := unP_len a4096 (zeros 8) [5]
  have hL := unL_le a p l
  generalize unL a4096 (zeros 8) [5] = Z at *
  generalize unP a4096 (zeros 8) [5] = PZ at *
  generalize fiE a4096 (zeros 8) [5] = ez at *
  generalize unL a p l = L at *
  generalize unP a p l = P at *
  generalize fiE a p l = en at *
  have heq := eq_arr P Try.underlying23 hP 9998
  have hb9 := build9_4096'
  have hb8 := build8
  clear ha64 hp64 hl64 hi hsh
  go_enter Try.func4, Try.ntmps4
  go_wp2_with fail
  have BA := hide L0.out.1
  have BP := hide L0.out.2.1
  have G0 := hide L0.out.2.2
  clear L0
  generalize (w.alloc (.cells (arrI a) 22)).alloc _ = W0 at *
  go_cut [7, 8, 9] from 16 (fun s7 s8 s9 wx => FiR W0 L P en s7 s8 s9 wx)
  case first =>
    refine wp_region_held_drew (S := GrownW W0) (by kernel_rfl) (gw_start _) (fun hHeld => ?_)
    refine wpAnyH_take (i := 0) (v := .agg (arrI a)) rfl (by kernel_rfl) (by kernel_rfl) (by kernel_rfl) (fun _ _ _ h => h) (Or.inl ⟨by rfl, ?yqu1⟩) hHeld ?rqu1
    case yqu1 => (intro w' hSw; exact yields_load_arr rfl rfl (BA.out.keep hSw) _ Try.underlying22 rfl (by rw [ha]; exact size9'))
    (try simp only [Act.put, List.setIfInBounds_toArray, List.set_cons_zero, List.set_cons_succ, List.getElem_toArray, List.getElem_cons_zero, List.getElem_cons_succ])
    refine wpAnyH_take (i := 1) (v := .agg (arrI p)) rfl (by kernel_rfl) (by kernel_rfl) (by kernel_rfl) (fun _ _ _ h => h) (Or.inl ⟨by rfl, ?yqu2⟩) hHeld ?rqu2
    case yqu2 => (intro w' hSw; exact yields_load_arr rfl rfl (BP.out.keep hSw) _ Try.underlying23 rfl (by rw [hp]; exact size8'))
    (try simp only [Act.put, List.setIfInBounds_toArray, List.set_cons_zero, List.set_cons_succ, List.getElem_toArray, List.getElem_cons_zero, List.getElem_cons_succ])
    refine wpAnyH_take (i := 2) (v := ?vqu3) rfl (by kernel_rfl) (by kernel_rfl) (by kernel_rfl) (fun _ _ _ h => h) (Or.inl ⟨by rfl, ?yqu3⟩) hHeld ?rqu3
    case yqu3 => (intro w' hSw; go_simp; (try with_reducible rfl))
    (try simp only [Act.put, List.setIfInBounds_toArray, List.set_cons_zero, List.set_cons_succ, List.getElem_toArray, List.getElem_cons_zero, List.getElem_cons_succ])
    refine wpAnyH_ready (rs := [3, 9]) (by kernel_rfl) (by simp) (AllReadyH.cons rfl (fun K hK => ?gqu4) (AllReadyH.cons rfl (fun K hK => ?gqu5) AllReadyH.nil))
    case gqu4 =>
      (try simp only [Act.put, List.setIfInBounds_toArray, List.set_cons_zero, List.set_cons_succ, List.getElem_toArray, List.getElem_cons_zero, List.getElem_cons_succ])
      go_simp
      refine (IN.out _ (grown_none G0.out hHeld)).mono ?_
      rintro e wqu6 ⟨vi, rfl, oi, gqu6⟩
      have Gqu6 := hide gqu6
      have OI := hide (show Own _ wqu6 vi l from oi)
      clear gqu6 oi
      go_wp2_with fail
      refine hK.out _ _ (gw_trans hHeld Gqu6.out) (fun hHeld => ?_)
      clear hK
      (try simp only [Act.put, List.setIfInBounds_toArray, List.set_cons_zero, List.set_cons_succ, List.getElem_toArray, List.getElem_cons_zero, List.getElem_cons_succ])
      refine wpAnyH_ready (rs := [4, 9]) (by kernel_rfl) (by simp) (AllReadyH.cons rfl (fun K hK => ?gqu7) (AllReadyH.cons rfl (fun K hK => ?gqu8) AllReadyH.nil))
      case gqu7 =>
        (try simp only [Act.put, List.setIfInBounds_toArray, List.set_cons_zero, List.set_cons_succ, List.getElem_toArray, List.getElem_cons_zero, List.getElem_cons_succ])
        go_simp
        refine (HM.out _ vi OI.out.ints OI.out.shp).mono ?_
        rintro e wqu9 ⟨vx, rfl, ox, gqu9⟩
        have Gqu9 := hide gqu9
        have OX := hide (ox.base (b' := W0.heap.size) (World.grownBy.size hHeld))
        clear gqu9 ox
        go_wp2_with fail
        refine hK.out _ _ (gw_trans hHeld Gqu9.out) (fun hHeld => ?_)
        clear hK
        have OI := hide (OI.out.keep Gqu9.out)
        (try simp only [Act.put, List.setIfInBounds_toArray, List.set_cons_zero, List.set_cons_succ, List.getElem_toArray, List.getElem_cons_zero, List.getElem_cons_succ])
        refine wpAnyH_take (i := 5) (v := ?vqu10) rfl (by kernel_rfl) (by kernel_rfl) (by kernel_rfl) (fun _ _ _ h => h) (Or.inl ⟨by rfl, ?yqu10⟩) hHeld ?rqu10
        case yqu10 => (intro w' hSw; go_simp; (try with_reducible rfl))
        (try simp only [Act.put, List.setIfInBounds_toArray, List.set_cons_zero, List.set_cons_succ, List.getElem_toArray, List.getElem_cons_zero, List.getElem_cons_succ])
        refine wpAnyH_take (i := 6) (v := ?vqu11) rfl (by kernel_rfl) (by kernel_rfl) (by kernel_rfl) (fun _ _ _ h => h) (Or.inl ⟨by rfl, ?yqu11⟩) hHeld ?rqu11
        case yqu11 => (intro w' hSw; go_simp; (try with_reducible rfl))
        (try simp only [Act.put, List.setIfInBounds_toArray, List.set_cons_zero, List.set_cons_succ, List.getElem_toArray, List.getElem_cons_zero, List.getElem_cons_succ])
        refine wpAnyH_take (i := 7) (v := ?vqu12) rfl (by kernel_rfl) (by kernel_rfl) (by kernel_rfl) (fun _ _ _ h => h) (Or.inl ⟨by rfl, ?yqu12⟩) hHeld ?rqu12
        case yqu12 => (intro w' hSw; go_simp; (try with_reducible rfl))
        (try simp only [Act.put, List.setIfInBounds_toArray, List.set_cons_zero, List.set_cons_succ, List.getElem_toArray, List.getElem_cons_zero, List.getElem_cons_succ])
        refine wpAnyH_take (i := 8) (v := ?vqu13) rfl (by kernel_rfl) (by kernel_rfl) (by kernel_rfl) (fun _ _ _ h => h) (Or.inl ⟨by rfl, ?yqu13⟩) hHeld ?rqu13
        case yqu13 => (intro w' hSw; go_simp; (try with_reducible rfl))
        (try simp only [Act.put, List.setIfInBounds_toArray, List.set_cons_zero, List.set_cons_succ, List.getElem_toArray, List.getElem_cons_zero, List.getElem_cons_succ])
        refine wpAnyH_ready (rs := [9]) (by kernel_rfl) (by simp) (AllReadyH.cons rfl (fun K hK => ?_) AllReadyH.nil)
        (try simp only [Act.put, List.setIfInBounds_toArray, List.set_cons_zero, List.set_cons_succ, List.getElem_toArray, List.getElem_cons_zero, List.getElem_cons_succ])
        go_simp
        go_wp2_with fail
        have HB := hide (show W0.heap.size ≤ wqu9.heap.size from by first | exact Nat.le_refl _ | exact World.grownBy.size hHeld)
        refine hK.out _ _ (gw_alloc hHeld (.cells #[.int .i64 0, .int .i64 0, .int .i64 0, .int .i64 0, .int .i64 0, .int .i64 0, .int .i64 0, .int .i64 0] 23)) (fun hHeld => ?_)
        clear hK
        have HZ := hide (show Blk (wqu9.alloc (.cells #[.int .i64 0, .int .i64 0, .int .i64 0, .int .i64 0, .int .i64 0, .int .i64 0, .int .i64 0, .int .i64 0] 23)) wqu9.heap.size 23 (zeros 8) from Blk.new wqu9 23 (zeros 8))
        have OI := hide (OI.out.keep (grown_alloc wqu9 (.cells #[.int .i64 0, .int .i64 0, .int .i64 0, .int .i64 0, .int .i64 0, .int .i64 0, .int .i64 0, .int .i64 0] 23) none))
        have OX := hide (OX.out.keep (grown_alloc wqu9 (.cells #[.int .i64 0, .int .i64 0, .int .i64 0, .int .i64 0, .int .i64 0, .int .i64 0, .int .i64 0, .int .i64 0] 23) none))
        (try simp only [Act.put, List.setIfInBounds_toArray, List.set_cons_zero, List.set_cons_succ, List.getElem_toArray, List.getElem_cons_zero, List.getElem_cons_succ])
        refine wpAnyH_take (i := 10) (v := ?vqu15) rfl (by kernel_rfl) (by kernel_rfl) (by kernel_rfl) (fun _ _ _ h => h) (Or.inl ⟨by rfl, ?yqu15⟩) hHeld ?rqu15
        case yqu15 => (intro w' hSw; go_simp; (try with_reducible rfl))
        (try simp only [Act.put, List.setIfInBounds_toArray, List.set_cons_zero, List.set_cons_succ, List.getElem_toArray, List.getElem_cons_zero, List.getElem_cons_succ])
        refine wpAnyH_ready (rs := [11]) (by kernel_rfl) (by simp) (AllReadyH.cons rfl (fun K hK => ?_) AllReadyH.nil)
        (try simp only [Act.put, List.setIfInBounds_toArray, List.set_cons_zero, List.set_cons_succ, List.getElem_toArray, List.getElem_cons_zero, List.getElem_cons_succ])
        refine step_store_arr rfl 23 _ _ rfl (wqu9.heap.size) (zeros 8) P rfl rfl HZ.out (by rw [hP, zeros_len]) (by rw [zeros_len]; exact size8') ?_
        have PU := put_arr (rs' := P) HZ.out (by rw [hP, zeros_len])
        refine hK.out _ _ (gw_own hHeld PU.2 HB.out) (fun hHeld => ?_)
        clear hK
        have OI := hide (OI.out.keepBut PU.2 HZ.out (by decide))
        have OX := hide (OX.out.keepBut PU.2 HZ.out (by decide))
        (try simp only [Act.put, List.setIfInBounds_toArray, List.set_cons_zero, List.set_cons_succ, List.getElem_toArray, List.getElem_cons_zero, List.getElem_cons_succ])
        refine wpAnyH_take (i := 12) (v := ?vqu17) rfl (by kernel_rfl) (by kernel_rfl) (by kernel_rfl) (fun _ _ _ h => h) (Or.inl ⟨by rfl, ?yqu17⟩) hHeld ?rqu17
        case yqu17 => (intro w' hSw; go_simp; (try with_reducible rfl))
        (try simp only [Act.put, List.setIfInBounds_toArray, List.set_cons_zero, List.set_cons_succ, List.getElem_toArray, List.getElem_cons_zero, List.getElem_cons_succ])
        refine wpAnyH_done (by kernel_rfl) ?_ _
        go_wp2_with fail
        go_meet
        exact ⟨wqu9.heap.size, rfl, rfl, OX.out, PU.1, HB.out, hHeld⟩
      case gqu8 =>
        (try simp only [Act.put, List.setIfInBounds_toArray, List.set_cons_zero, List.set_cons_succ, List.getElem_toArray, List.getElem_cons_zero, List.getElem_cons_succ])
        go_simp
        go_wp2_with fail
        have HB := hide (show W0.heap.size ≤ wqu6.heap.size from by first | exact Nat.le_refl _ | exact World.grownBy.size hHeld)
        refine hK.out _ _ (gw_alloc hHeld (.cells #[.int .i64 0, .int .i64 0, .int .i64 0, .int .i64 0, .int .i64 0, .int .i64 0, .int .i64 0, .int .i64 0] 23)) (fun hHeld => ?_)
        clear hK
        have HZ := hide (show Blk (wqu6.alloc (.cells #[.int .i64 0, .int .i64 0, .int .i64 0, .int .i64 0, .int .i64 0, .int .i64 0, .int .i64 0, .int .i64 0] 23)) wqu6.heap.size 23 (zeros 8) from Blk.new wqu6 23 (zeros 8))
        have OI := hide (OI.out.keep (grown_alloc wqu6 (.cells #[.int .i64 0, .int .i64 0, .int .i64 0, .int .i64 0, .int .i64 0, .int .i64 0, .int .i64 0, .int .i64 0] 23) none))
        (try simp only [Act.put, List.setIfInBounds_toArray, List.set_cons_zero, List.set_cons_succ, List.getElem_toArray, List.getElem_cons_zero, List.getElem_cons_succ])
        refine wpAnyH_ready (rs := [4]) (by kernel_rfl) (by simp) (AllReadyH.cons rfl (fun K hK => ?_) AllReadyH.nil)
        (try simp only [Act.put, List.setIfInBounds_toArray, List.set_cons_zero, List.set_cons_succ, List.getElem_toArray, List.getElem_cons_zero, List.getElem_cons_succ])
        go_simp
        refine (HM.out _ vi OI.out.ints OI.out.shp).mono ?_
        rintro e wqu19 ⟨vx, rfl, ox, gqu19⟩
        have Gqu19 := hide gqu19
        have OX := hide (ox.base (b' := W0.heap.size) (World.grownBy.size hHeld))
        clear gqu19 ox
        go_wp2_with fail
        refine hK.out _ _ (gw_trans hHeld Gqu19.out) (fun hHeld => ?_)
        clear hK
        have HZ := hide (HZ.out.keep Gqu19.out)
        have OI := hide (OI.out.keep Gqu19.out)
        (try simp only [Act.put, List.setIfInBounds_toArray, List.set_cons_zero, List.set_cons_succ, List.getElem_toArray, List.getElem_cons_zero, List.getElem_cons_succ])
        refine wpAnyH_take (i := 5) (v := ?vqu20) rfl (by kernel_rfl) (by kernel_rfl) (by kernel_rfl) (fun _ _ _ h => h) (Or.inl ⟨by rfl, ?yqu20⟩) hHeld ?rqu20
        case yqu20 => (intro w' hSw; go_simp; (try with_reducible rfl))
        (try simp only [Act.put, List.setIfInBounds_toArray, List.set_cons_zero, List.set_cons_succ, List.getElem_toArray, List.getElem_cons_zero, List.getElem_cons_succ])
        refine wpAnyH_take (i := 6) (v := ?vqu21) rfl (by kernel_rfl) (by kernel_rfl) (by kernel_rfl) (fun _ _ _ h => h) (Or.inl ⟨by rfl, ?yqu21⟩) hHeld ?rqu21
        case yqu21 => (intro w' hSw; go_simp; (try with_reducible rfl))
        (try simp only [Act.put, List.setIfInBounds_toArray, List.set_cons_zero, List.set_cons_succ, List.getElem_toArray, List.getElem_cons_zero, List.getElem_cons_succ])
        refine wpAnyH_take (i := 7) (v := ?vqu22) rfl (by kernel_rfl) (by kernel_rfl) (by kernel_rfl) (fun _ _ _ h => h) (Or.inl ⟨by rfl, ?yqu22⟩) hHeld ?rqu22
        case yqu22 => (intro w' hSw; go_simp; (try with_reducible rfl))
        (try simp only [Act.put, List.setIfInBounds_toArray, List.set_cons_zero, List.set_cons_succ, List.getElem_toArray, List.getElem_cons_zero, List.getElem_cons_succ])
        refine wpAnyH_take (i := 8) (v := ?vqu23) rfl (by kernel_rfl) (by kernel_rfl) (by kernel_rfl) (fun _ _ _ h => h) (Or.inl ⟨by rfl, ?yqu23⟩) hHeld ?rqu23
        case yqu23 => (intro w' hSw; go_simp; (try with_reducible rfl))
        (try simp only [Act.put, List.setIfInBounds_toArray, List.set_cons_zero, List.set_cons_succ, List.getElem_toArray, List.getElem_cons_zero, List.getElem_cons_succ])
        refine wpAnyH_take (i := 10) (v := ?vqu24) rfl (by kernel_rfl) (by kernel_rfl) (by kernel_rfl) (fun _ _ _ h => h) (Or.inl ⟨by rfl, ?yqu24⟩) hHeld ?rqu24
        case yqu24 => (intro w' hSw; go_simp; (try with_reducible rfl))
        (try simp only [Act.put, List.setIfInBounds_toArray, List.set_cons_zero, List.set_cons_succ, List.getElem_toArray, List.getElem_cons_zero, List.getElem_cons_succ])
        refine wpAnyH_ready (rs := [11]) (by kernel_rfl) (by simp) (AllReadyH.cons rfl (fun K hK => ?_) AllReadyH.nil)
        (try simp only [Act.put, List.setIfInBounds_toArray, List.set_cons_zero, List.set_cons_succ, List.getElem_toArray, List.getElem_cons_zero, List.getElem_cons_succ])
        refine step_store_arr rfl 23 _ _ rfl (wqu6.heap.size) (zeros 8) P rfl rfl HZ.out (by rw [hP, zeros_len]) (by rw [zeros_len]; exact size8') ?_
        have PU := put_arr (rs' := P) HZ.out (by rw [hP, zeros_len])
        refine hK.out _ _ (gw_own hHeld PU.2 HB.out) (fun hHeld => ?_)
        clear hK
        have OI := hide (OI.out.keepBut PU.2 HZ.out (by decide))
        have OX := hide (OX.out.keepBut PU.2 HZ.out (by decide))
        (try simp only [Act.put, List.setIfInBounds_toArray, List.set_cons_zero, List.set_cons_succ, List.getElem_toArray, List.getElem_cons_zero, List.getElem_cons_succ])
        refine wpAnyH_take (i := 12) (v := ?vqu26) rfl (by kernel_rfl) (by kernel_rfl) (by kernel_rfl) (fun _ _ _ h => h) (Or.inl ⟨by rfl, ?yqu26⟩) hHeld ?rqu26
        case yqu26 => (intro w' hSw; go_simp; (try with_reducible rfl))
        (try simp only [Act.put, List.setIfInBounds_toArray, List.set_cons_zero, List.set_cons_succ, List.getElem_toArray, List.getElem_cons_zero, List.getElem_cons_succ])
        refine wpAnyH_done (by kernel_rfl) ?_ _
        go_wp2_with fail
        go_meet
        exact ⟨wqu6.heap.size, rfl, rfl, OX.out, PU.1, HB.out, hHeld⟩
    case gqu5 =>
      (try simp only [Act.put, List.setIfInBounds_toArray, List.set_cons_zero, List.set_cons_succ, List.getElem_toArray, List.getElem_cons_zero, List.getElem_cons_succ])
      go_simp
      go_wp2_with fail
      have HB := hide (show W0.heap.size ≤ W0.heap.size from by first | exact Nat.le_refl _ | exact World.grownBy.size hHeld)
      refine hK.out _ _ (gw_alloc hHeld (.cells #[.int .i64 0, .int .i64 0, .int .i64 0, .int .i64 0, .int .i64 0, .int .i64 0, .int .i64 0, .int .i64 0] 23)) (fun hHeld => ?_)
      clear hK
      have HZ := hide (show Blk (W0.drew.alloc (.cells #[.int .i64 0, .int .i64 0, .int .i64 0, .int .i64 0, .int .i64 0, .int .i64 0, .int .i64 0, .int .i64 0] 23)) W0.heap.size 23 (zeros 8) from Blk.new W0.drew 23 (zeros 8))
      (try simp only [Act.put, List.setIfInBounds_toArray, List.set_cons_zero, List.set_cons_succ, List.getElem_toArray, List.getElem_cons_zero, List.getElem_cons_succ])
      refine wpAnyH_ready (rs := [3]) (by kernel_rfl) (by simp) (AllReadyH.cons rfl (fun K hK => ?_) AllReadyH.nil)
      (try simp only [Act.put, List.setIfInBounds_toArray, List.set_cons_zero, List.set_cons_succ, List.getElem_toArray, List.getElem_cons_zero, List.getElem_cons_succ])
      go_simp
      refine (IN.out _ (grown_none G0.out hHeld)).mono ?_
      rintro e wqu28 ⟨vi, rfl, oi, gqu28⟩
      have Gqu28 := hide gqu28
      have OI := hide (show Own _ wqu28 vi l from oi)
      clear gqu28 oi
      go_wp2_with fail
      refine hK.out _ _ (gw_trans hHeld Gqu28.out) (fun hHeld => ?_)
      clear hK
      have HZ := hide (HZ.out.keep Gqu28.out)
      (try simp only [Act.put, List.setIfInBounds_toArray, List.set_cons_zero, List.set_cons_succ, List.getElem_toArray, List.getElem_cons_zero, List.getElem_cons_succ])
      refine wpAnyH_ready (rs := [4]) (by kernel_rfl) (by simp) (AllReadyH.cons rfl (fun K hK => ?_) AllReadyH.nil)
      (try simp only [Act.put, List.setIfInBounds_toArray, List.set_cons_zero, List.set_cons_succ, List.getElem_toArray, List.getElem_cons_zero, List.getElem_cons_succ])
      go_simp
      refine (HM.out _ vi OI.out.ints OI.out.shp).mono ?_
      rintro e wqu29 ⟨vx, rfl, ox, gqu29⟩
      have Gqu29 := hide gqu29
      have OX := hide (ox.base (b' := W0.heap.size) (World.grownBy.size hHeld))
      clear gqu29 ox
      go_wp2_with fail
      refine hK.out _ _ (gw_trans hHeld Gqu29.out) (fun hHeld => ?_)
      clear hK
      have HZ := hide (HZ.out.keep Gqu29.out)
      have OI := hide (OI.out.keep Gqu29.out)
      (try simp only [Act.put, List.setIfInBounds_toArray, List.set_cons_zero, List.set_cons_succ, List.getElem_toArray, List.getElem_cons_zero, List.getElem_cons_succ])
      refine wpAnyH_take (i := 5) (v := ?vqu30) rfl (by kernel_rfl) (by kernel_rfl) (by kernel_rfl) (fun _ _ _ h => h) (Or.inl ⟨by rfl, ?yqu30⟩) hHeld ?rqu30
      case yqu30 => (intro w' hSw; go_simp; (try with_reducible rfl))
      (try simp only [Act.put, List.setIfInBounds_toArray, List.set_cons_zero, List.set_cons_succ, List.getElem_toArray, List.getElem_cons_zero, List.getElem_cons_succ])
      refine wpAnyH_take (i := 6) (v := ?vqu31) rfl (by kernel_rfl) (by kernel_rfl) (by kernel_rfl) (fun _ _ _ h => h) (Or.inl ⟨by rfl, ?yqu31⟩) hHeld ?rqu31
      case yqu31 => (intro w' hSw; go_simp; (try with_reducible rfl))
      (try simp only [Act.put, List.setIfInBounds_toArray, List.set_cons_zero, List.set_cons_succ, List.getElem_toArray, List.getElem_cons_zero, List.getElem_cons_succ])
      refine wpAnyH_take (i := 7) (v := ?vqu32) rfl (by kernel_rfl) (by kernel_rfl) (by kernel_rfl) (fun _ _ _ h => h) (Or.inl ⟨by rfl, ?yqu32⟩) hHeld ?rqu32
      case yqu32 => (intro w' hSw; go_simp; (try with_reducible rfl))
      (try simp only [Act.put, List.setIfInBounds_toArray, List.set_cons_zero, List.set_cons_succ, List.getElem_toArray, List.getElem_cons_zero, List.getElem_cons_succ])
      refine wpAnyH_take (i := 8) (v := ?vqu33) rfl (by kernel_rfl) (by kernel_rfl) (by kernel_rfl) (fun _ _ _ h => h) (Or.inl ⟨by rfl, ?yqu33⟩) hHeld ?rqu33
      case yqu33 => (intro w' hSw; go_simp; (try with_reducible rfl))
      (try simp only [Act.put, List.setIfInBounds_toArray, List.set_cons_zero, List.set_cons_succ, List.getElem_toArray, List.getElem_cons_zero, List.getElem_cons_succ])
      refine wpAnyH_take (i := 10) (v := ?vqu34) rfl (by kernel_rfl) (by kernel_rfl) (by kernel_rfl) (fun _ _ _ h => h) (Or.inl ⟨by rfl, ?yqu34⟩) hHeld ?rqu34
      case yqu34 => (intro w' hSw; go_simp; (try with_reducible rfl))
      (try simp only [Act.put, List.setIfInBounds_toArray, List.set_cons_zero, List.set_cons_succ, List.getElem_toArray, List.getElem_cons_zero, List.getElem_cons_succ])
      refine wpAnyH_ready (rs := [11]) (by kernel_rfl) (by simp) (AllReadyH.cons rfl (fun K hK => ?_) AllReadyH.nil)
      (try simp only [Act.put, List.setIfInBounds_toArray, List.set_cons_zero, List.set_cons_succ, List.getElem_toArray, List.getElem_cons_zero, List.getElem_cons_succ])
      refine step_store_arr rfl 23 _ _ rfl (W0.heap.size) (zeros 8) P rfl rfl HZ.out (by rw [hP, zeros_len]) (by rw [zeros_len]; exact size8') ?_
      have PU := put_arr (rs' := P) HZ.out (by rw [hP, zeros_len])
      refine hK.out _ _ (gw_own hHeld PU.2 HB.out) (fun hHeld => ?_)
      clear hK
      have OI := hide (OI.out.keepBut PU.2 HZ.out (by decide))
      have OX := hide (OX.out.keepBut PU.2 HZ.out (by decide))
      (try simp only [Act.put, List.setIfInBounds_toArray, List.set_cons_zero, List.set_cons_succ, List.getElem_toArray, List.getElem_cons_zero, List.getElem_cons_succ])
      refine wpAnyH_take (i := 12) (v := ?vqu36) rfl (by kernel_rfl) (by kernel_rfl) (by kernel_rfl) (fun _ _ _ h => h) (Or.inl ⟨by rfl, ?yqu36⟩) hHeld ?rqu36
      case yqu36 => (intro w' hSw; go_simp; (try with_reducible rfl))
      (try simp only [Act.put, List.setIfInBounds_toArray, List.set_cons_zero, List.set_cons_succ, List.getElem_toArray, List.getElem_cons_zero, List.getElem_cons_succ])
      refine wpAnyH_done (by kernel_rfl) ?_ _
      go_wp2_with fail
      go_meet
      exact ⟨W0.heap.size, rfl, rfl, OX.out, PU.1, HB.out, hHeld⟩
  case rest =>
  obtain ⟨b8, rfl, rfl, o7, z8, hb8', g8⟩ := hcut
  have O7 := hide o7
  have Z8 := hide z8
  have BA1 := hide (BA.out.keep g8)
  have BP1 := hide (BP.out.keep g8)
  have G1 := hide (grown_none G0.out g8)
  clear o7 z8 g8 hb8' BA BP G0 IN HM
  go_wp2_with (first | refine wpList_load_arr rfl 22 _ rfl _ rfl _ BA1.out _ Try.underlying22 rfl (by rw [ha]; exact size9') ?_ | refine wpList_load_arr rfl 23 _ rfl _ rfl _ BP1.out _ Try.underlying23 rfl (by rw [hp]; exact size8') ?_)
  refine (HR.out _ G1.out).mono ?_
  rintro e w2 ⟨v2, rfl, o2, g2⟩
  obtain ⟨b1, b2, b3⟩ := fresh_arr w2 23 8 P hP
  have NW := hide b1
  have ZQ := hide b2
  have g3 := grown_none g2 b3
  have O2 := hide (o2.keep b3)
  have O7' := hide (O7.out.keep g3)
  have Z8' := hide (Z8.out.keep g3)
  have G3 := hide (grown_none G1.out g3)
  rw [z8'] at NW ZQ O2 O7' Z8' G3
  clear b1 b2 b3 o2 g2 g3 O7 Z8 G1 BA1 BP1 HR
  go_wp2_with (first | refine wpList_store_arr rfl 23 _ _ rfl _ (zeros 8) P rfl rfl NW.out (by rw [hP, zeros_len]) (by rw [zeros_len]; exact size8') ?_)
  clear NW hb9 hb8
  generalize putArr _ w2.heap.size P = w3 at *
  generalize w2.heap.size = p3 at *
  have J := hide (ints_lit w3 5)
  have ga := grown_alloc w3 (.cells #[.int .i64 5] 3) none
  have O2' := hide (O2.out.keep ga)
  have O7 := hide (O7'.out.keep ga)
  have Z8 := hide (Z8'.out.keep ga)
  have ZQ' := hide (ZQ.out.keep ga)
  have G4 := hide (grown_none G3.out ga)
  clear ga O2 O7' Z8' ZQ G3
  refine (HC.out _ _ J.out (.inr ⟨_, _, rfl⟩)).mono ?_
  rintro e w5 ⟨v5, rfl, o5, g5⟩
  obtain ⟨b1, b2, b3⟩ := fresh_arr w5 23 8 PZ hPZ
  have NW := hide b1
  have g6 := grown_none g5 b3
  have I7 := hide (O7.out.keep g6).ints
  have I2 := hide (O2'.out.keep g6).ints
  have ZP := hide (Z8.out.keep g6)
  have ZQ := hide (ZQ'.out.keep g6)
  have G5 := hide (grown_none G4.out g6)
  obtain ⟨b5, c5, rfl, _, _, _⟩ := o5.form (by omega)
  rw [h1]
  rw [z8'] at NW I7 I2 ZP ZQ G5
  clear b1 b2 b3 g5 g6 o5 O7 O2' Z8 ZQ' G4 HC J
  go_wp2_with (first | refine wpList_store_arr rfl 23 _ _ rfl _ (zeros 8) PZ rfl rfl NW.out (by rw [hPZ, zeros_len]) (by rw [zeros_len]; exact size8') ?_)
  clear NW
  generalize putArr _ w5.heap.size PZ = w6 at *
  generalize w5.heap.size = p6 at *
  have SM := hide (refSames_any _ _ L L w6 I7.out I2.out (by omega) (by omega))
  rw [show decide (L = L) = true by simp] at SM
  clear I7 I2
  refine SM.out.mono ?_
  rintro e w7 ⟨rfl, m, rfl⟩
  have ZP' := hide (ZP.out.keep (grown_drewN' w6 m none))
  have ZQ' := hide (ZQ.out.keep (grown_drewN' w6 m none))
  have G6 := hide (grown_none G5.out (grown_drewN' w6 m none))
  clear SM ZP ZQ G5
  go_wp2_with (first | refine wpList_load_arrG (by first | rfl | (simp [Region.wanted, yielded]; omega)) 23 _ rfl _ rfl _ ZP'.out _ Try.underlying23 rfl (by rw [hP]; exact size8') ?_ | refine wpList_load_arrG (by first | rfl | (simp [Region.wanted, yielded]; omega)) 23 _ rfl _ rfl _ ZQ'.out _ Try.underlying23 rfl (by rw [hP]; exact size8') ?_)
  go_ret
  exact ⟨rfl, below_of_grown G6.out⟩
end Go.Proofs.Ytkkalbogcnojmaa
