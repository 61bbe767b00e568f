/- Texts put together: LConM, LpcA, CnpA, PitA, AppL, PartL, CnpB, BigM, BigN, RefPit, BigQ, BigR, BigU, BigZ, GaiF, RefFad, RefMemB, LCnM, Opens. -/
import Derived.Test.YtekdgohomaeeeaaBun1
import Derived.BigQuiet
import Derived.Deep.QuietTactic
import Derived.Deep.Cut
import Derived.OwnWalk
import Derived.Laws.CopyOwn
import Derived.Deep.RegionHeld3
import Derived.WalkKit
import Derived.WalkSpells
import Derived.WalkLawsBesides
import Derived.OpenShut
import Derived.ProofKit
import Derived.SizedLaws
import Derived.Carry
/- LConM -/
namespace Go.Proofs.Ytekdgohomaeeeaa
open Go.RowKit
set_option linter.unusedVariables false
set_option linter.unusedSimpArgs false
set_option maxHeartbeats 2000000
theorem z80m : (Try.prog.info? 23).bind (·.zero) = some (.agg (arrI (zeros 80))) := by kernel_rfl
def KeR (W0 : World) (R8 : List Int) (en : Int) (s1 s2 : Value) (wx : World) : Prop := ∃ b, s1 = .pointer (some ⟨b, 0, none⟩) ∧ s2 = .int .i64 en ∧ Blk wx b 23 R8 ∧ W0.heap.size ≤ b ∧ W0.grownBy wx none
theorem zeros_in (n : Nat) : In64 (zeros n) := fun i => by rw [zeros_nth]; omega
theorem mx_zero : (mxL (zeros 80) 20 0 (zeros 40)).length = 40 := by
  have k : mxO 20 0 (zeros 40) := ⟨zeros_len _, by omega, by omega⟩
  rw [(mxL_yes k).1, mxA_len]
theorem mxL_len (h : List Int) (lag g : Int) (b : List Int) : (mxL h lag g b).length ≤ 40 := by
  unfold mxL
  split
  · rw [mxA_len]; omega
  · simp
set_option maxRecDepth 100000 in
theorem law_conMixes (w : World) (pm : CMx 13 w) (rm : CMx 15 w) (pk : CKp 16 w) (rk : CKp 17 w) (h : List Int) (hh : h.length = 80) (h64 : In64 h) (lag : Int) (wl : In1 lag) (g : Int) (wg : In1 g) (v : Value) (b : List Int) (hi : Ints w v b) (hl : b.length * 8 ≤ 140737488351232) (hb64 : In64 b) (hsh : Shp v b) :
    Calls Try.prog 4 #[.agg (arrI h), .int .i64 lag, .int .i64 g, v] w fun e w' => e = .returned (.bool true) ∧ Below w.heap.size w w' := by
  have IN := hide (fun wr (q : w.grownBy wr none) => ints_any v b wr (Ints_keep hi q) (by omega))
  have PM := hide (fun vi wr (q : w.grownBy wr none) (k : Ints wr vi b) => pm h lag g vi b wr hh h64 wl wg hb64 q k (by omega))
  have RM := hide (fun wr (q : w.grownBy wr none) => rm h lag g v b wr hh h64 wl wg hb64 q (Ints_keep hi q) (by omega))
  have PK := hide (fun vi wr (q : w.grownBy wr none) (k : Ints wr vi b) => pk h vi b wr hh h64 hb64 q k (by omega))
  have RK := hide (fun wr (q : w.grownBy wr none) => rk h v b wr hh h64 hb64 q (Ints_keep hi q) (by omega))
  have PZ := hide (fun vi wr (q : w.grownBy wr none) (k : Ints wr vi (zeros 40)) => pm (zeros 80) 20 0 vi (zeros 40) wr (zeros_len 80) (zeros_in 80) ⟨by omega, by omega⟩ ⟨by omega, by omega⟩ (zeros_in 40) q k (by rw [zeros_len]; omega))
  have M40 := hide mx_zero
  have LL := hide (mxL_len h lag g b)
  have KL := hide (kpL_len h b)
  have HH := hide hh
  have S80 := hide (show (Try.prog.info? 23).map (·.size) = some h.length by rw [hh]; exact size80c)
  have BH := hide (Blk.new w 23 h)
  have G0 := hide (grown_alloc w (.cells (arrI h) 23) none)
  have hz := zero_arr z80m
  have hmk := make_zeros 40 (by omega)
  rw [show ((40 : Nat) : Int) = 40 from rfl] at hmk
  have heq := eq_arr (kpL h b) Try.underlying23 (kpL_len h b) 9998
  clear pm rm pk rk h64 hb64 hi hsh hh wl wg
  generalize mxL (zeros 80) 20 0 (zeros 40) = Z at *
  generalize mxE 20 0 (zeros 40) = ez at *
  generalize mxL h lag g b = L at *
  generalize mxE lag g b = en at *
  generalize kpL h b = R8 at *
  generalize kpE b = ek at *
  go_enter Try.func4, Try.ntmps4
  go_upto_region 1 with fail
  generalize w.alloc (.cells (arrI h) 23) = W0 at *
  refine wp_region_held_drew (S := GrownW W0) (by kernel_rfl) (gw_start _) (fun hHeld => ?_)
  refine wpAnyH_take (i := 0) (v := .agg (arrI h)) rfl (by kernel_rfl) (by kernel_rfl) (by kernel_rfl) (fun _ _ _ h => h) (Or.inl ⟨by rfl, ?yma0⟩) hHeld ?rma0
  case yma0 => (intro w' hSw; exact yields_load_arr rfl rfl (BH.out.keep hSw) _ Try.underlying23 rfl S80.out)
  (try simp only [Act.put, sL])
  refine wpAnyH_take (i := 1) (v := ?vma1) rfl (by kernel_rfl) (by kernel_rfl) (by kernel_rfl) (fun _ _ _ h => h) (Or.inl ⟨by rfl, ?yma1⟩) hHeld ?rma1
  case yma1 => (intro w' hSw; go_simp; (try with_reducible rfl))
  (try simp only [Act.put, sL])
  refine wpAnyH_take (i := 2) (v := ?vma2) rfl (by kernel_rfl) (by kernel_rfl) (by kernel_rfl) (fun _ _ _ h => h) (Or.inl ⟨by rfl, ?yma2⟩) hHeld ?rma2
  case yma2 => (intro w' hSw; go_simp; (try with_reducible rfl))
  (try simp only [Act.put, sL])
  refine wpAnyH_take (i := 3) (v := ?vma3) rfl (by kernel_rfl) (by kernel_rfl) (by kernel_rfl) (fun _ _ _ h => h) (Or.inl ⟨by rfl, ?yma3⟩) hHeld ?rma3
  case yma3 => (intro w' hSw; go_simp; (try with_reducible rfl))
  (try simp only [Act.put, sL])
  refine wpAnyH_ready (rs := [4]) (by kernel_rfl) (by simp) (AllReadyH.cons rfl (fun K hK => ?_) AllReadyH.nil)
  (try simp only [Act.put, sL])
  go_simp
  refine (IN.out _ (grown_none G0.out hHeld)).mono ?_
  rintro e w1 ⟨vi, rfl, oi, g1⟩
  have OI := hide (show Own _ w1 vi b from oi)
  clear oi
  go_wp2_with fail
  refine hK.out _ _ (gw_trans hHeld g1) (fun hHeld => ?_)
  clear hK
  (try simp only [Act.put, sL])
  clear g1
  refine wpAnyH_ready (rs := [5]) (by kernel_rfl) (by simp) (AllReadyH.cons rfl (fun K hK => ?_) AllReadyH.nil)
  (try simp only [Act.put, sL])
  go_simp
  refine (PM.out _ _ (grown_none G0.out hHeld) OI.out.ints).mono ?_
  rintro e w2 ⟨va, rfl, oa, g2⟩
  have OA := hide (oa.base (b' := w.heap.size) (Nat.le_trans G0.out.size hHeld.size))
  clear oa
  go_wp2_with fail
  refine hK.out _ _ (gw_trans hHeld g2) (fun hHeld => ?_)
  clear hK
  (try simp only [Act.put, sL])
  clear g2 OI
  refine wpAnyH_take (i := 6) (v := ?vma6) rfl (by kernel_rfl) (by kernel_rfl) (by kernel_rfl) (fun _ _ _ h => h) (Or.inl ⟨by rfl, ?yma6⟩) hHeld ?rma6
  case yma6 => (intro w' hSw; go_simp; (try with_reducible rfl))
  (try simp only [Act.put, sL])
  refine wpAnyH_take (i := 7) (v := ?vma7) rfl (by kernel_rfl) (by kernel_rfl) (by kernel_rfl) (fun _ _ _ h => h) (Or.inl ⟨by rfl, ?yma7⟩) hHeld ?rma7
  case yma7 => (intro w' hSw; go_simp; (try with_reducible rfl))
  (try simp only [Act.put, sL])
  refine wpAnyH_take (i := 8) (v := ?vma8) rfl (by kernel_rfl) (by kernel_rfl) (by kernel_rfl) (fun _ _ _ h => h) (Or.inl ⟨by rfl, ?yma8⟩) hHeld ?rma8
  case yma8 => (intro w' hSw; go_simp; (try with_reducible rfl))
  (try simp only [Act.put, sL])
  refine wpAnyH_take (i := 9) (v := ?vma9) rfl (by kernel_rfl) (by kernel_rfl) (by kernel_rfl) (fun _ _ _ h => h) (Or.inl ⟨by rfl, ?yma9⟩) hHeld ?rma9
  case yma9 => (intro w' hSw; go_simp; (try with_reducible rfl))
  (try simp only [Act.put, sL])
  refine wpAnyH_take (i := 10) (v := ?vma10) rfl (by kernel_rfl) (by kernel_rfl) (by kernel_rfl) (fun _ _ _ h => h) (Or.inl ⟨by rfl, ?yma10⟩) hHeld ?rma10
  case yma10 => (intro w' hSw; go_simp; (try with_reducible rfl))
  (try simp only [Act.put, sL])
  refine wpAnyH_done (by kernel_rfl) ?_ _
  have G1 := hide (grown_none G0.out hHeld)
  replace BH := hide (BH.out.keep hHeld)
  clear hHeld G0 PM
  go_wp2_with (refine wpList_load_arr rfl 23 _ rfl w.heap.size rfl h BH.out _ Try.underlying23 rfl S80.out ?_)
  refine (RM.out _ G1.out).mono ?_
  rintro e W2 ⟨vb, rfl, ob, g2⟩
  have OB := hide (ob.base (b' := w.heap.size) G1.out.size)
  replace OA := hide (OA.out.keep g2)
  replace BH := hide (BH.out.keep g2)
  have G2 := hide (grown_none G1.out g2)
  clear ob g2 G1 RM
  go_upto_region 3 with fail
  have G0 := hide G2.out
  go_cut [13, 14] from 19 (fun s13 s14 wx => KeR W2 R8 ek s13 s14 wx)
  case first =>
    refine wp_region_held_drew (S := GrownW W2) (by kernel_rfl) (gw_start _) (fun hHeld => ?_)
    refine wpAnyH_take (i := 0) (v := .agg (arrI h)) rfl (by kernel_rfl) (by kernel_rfl) (by kernel_rfl) (fun _ _ _ h => h) (Or.inl ⟨by rfl, ?ymb1⟩) hHeld ?rmb1
    case ymb1 => (intro w' hSw; exact yields_load_arr rfl rfl (BH.out.keep hSw) _ Try.underlying23 rfl (by rw [HH.out]; exact size80c))
    (try simp only [Act.put, sL])
    refine wpAnyH_take (i := 1) (v := ?vmb2) rfl (by kernel_rfl) (by kernel_rfl) (by kernel_rfl) (fun _ _ _ h => h) (Or.inl ⟨by rfl, ?ymb2⟩) hHeld ?rmb2
    case ymb2 => (intro w' hSw; go_simp; (try with_reducible rfl))
    (try simp only [Act.put, sL])
    refine wpAnyH_ready (rs := [2, 7]) (by kernel_rfl) (by simp) (AllReadyH.cons rfl (fun K hK => ?gmb3) (AllReadyH.cons rfl (fun K hK => ?gmb4) AllReadyH.nil))
    case gmb3 =>
      (try simp only [Act.put, sL])
      go_simp
      refine (IN.out _ (grown_none G0.out hHeld)).mono ?_
      rintro e wmb5 ⟨vi, rfl, oi, gmb5⟩
      have Gmb5 := hide gmb5
      have OI := hide (show Own _ wmb5 vi b from oi)
      clear gmb5 oi
      go_wp2_with fail
      refine hK.out _ _ (gw_trans hHeld Gmb5.out) (fun hHeld => ?_)
      clear hK
      (try simp only [Act.put, sL])
      refine wpAnyH_ready (rs := [3, 7]) (by kernel_rfl) (by simp) (AllReadyH.cons rfl (fun K hK => ?gmb6) (AllReadyH.cons rfl (fun K hK => ?gmb7) AllReadyH.nil))
      case gmb6 =>
        (try simp only [Act.put, sL])
        go_simp
        refine (PK.out _ _ (grown_none G0.out hHeld) OI.out.ints).mono ?_
        rintro e wmb8 ⟨rfl, gmb8⟩
        have Gmb8 := hide gmb8
        clear gmb8
        go_wp2_with fail
        refine hK.out _ _ (gw_trans hHeld Gmb8.out) (fun hHeld => ?_)
        clear hK
        have OI := hide (OI.out.keep Gmb8.out)
        (try simp only [Act.put, sL])
        refine wpAnyH_take (i := 4) (v := ?vmb9) rfl (by kernel_rfl) (by kernel_rfl) (by kernel_rfl) (fun _ _ _ h => h) (Or.inl ⟨by rfl, ?ymb9⟩) hHeld ?rmb9
        case ymb9 => (intro w' hSw; go_simp; (try with_reducible rfl))
        (try simp only [Act.put, sL])
        refine wpAnyH_take (i := 5) (v := ?vmb10) rfl (by kernel_rfl) (by kernel_rfl) (by kernel_rfl) (fun _ _ _ h => h) (Or.inl ⟨by rfl, ?ymb10⟩) hHeld ?rmb10
        case ymb10 => (intro w' hSw; go_simp; (try with_reducible rfl))
        (try simp only [Act.put, sL])
        refine wpAnyH_take (i := 6) (v := ?vmb11) rfl (by kernel_rfl) (by kernel_rfl) (by kernel_rfl) (fun _ _ _ h => h) (Or.inl ⟨by rfl, ?ymb11⟩) hHeld ?rmb11
        case ymb11 => (intro w' hSw; go_simp; (try with_reducible rfl))
        (try simp only [Act.put, sL])
        refine wpAnyH_ready (rs := [7]) (by kernel_rfl) (by simp) (AllReadyH.cons rfl (fun K hK => ?_) AllReadyH.nil)
        (try simp only [Act.put, sL])
        go_simp
        go_wp2_with fail
        have HB := hide (show W2.heap.size ≤ wmb8.heap.size from by first | exact Nat.le_refl _ | exact World.grownBy.size hHeld)
        refine hK.out _ _ (gw_alloc hHeld (.cells (arrI (zeros 80)) 23)) (fun hHeld => ?_)
        clear hK
        have HZ := hide (show Blk (wmb8.alloc (.cells (arrI (zeros 80)) 23)) wmb8.heap.size 23 (zeros 80) from Blk.new wmb8 23 (zeros 80))
        have OI := hide (OI.out.keep (grown_alloc wmb8 (.cells (arrI (zeros 80)) 23) none))
        (try simp only [Act.put, sL])
        refine wpAnyH_ready (rs := [8]) (by kernel_rfl) (by simp) (AllReadyH.cons rfl (fun K hK => ?_) AllReadyH.nil)
        (try simp only [Act.put, sL])
        refine step_store_arr rfl 23 _ _ rfl (wmb8.heap.size) (zeros 80) R8 rfl rfl HZ.out (by rw [KL.out, zeros_len]) (by rw [zeros_len]; exact size80c) ?_
        have PU := put_arr (rs' := R8) HZ.out (by rw [KL.out, zeros_len])
        refine hK.out _ _ (gw_own hHeld PU.2 HB.out) (fun hHeld => ?_)
        clear hK
        have OI := hide (OI.out.keepBut PU.2 HZ.out (by decide))
        (try simp only [Act.put, sL])
        refine wpAnyH_take (i := 9) (v := ?vmb14) rfl (by kernel_rfl) (by kernel_rfl) (by kernel_rfl) (fun _ _ _ h => h) (Or.inl ⟨by rfl, ?ymb14⟩) hHeld ?rmb14
        case ymb14 => (intro w' hSw; go_simp; (try with_reducible rfl))
        (try simp only [Act.put, sL])
        refine wpAnyH_done (by kernel_rfl) ?_ _
        go_wp2_with fail
        go_meet
        exact ⟨wmb8.heap.size, rfl, rfl, PU.1, HB.out, hHeld⟩
      case gmb7 =>
        (try simp only [Act.put, sL])
        go_simp
        go_wp2_with fail
        have HB := hide (show W2.heap.size ≤ wmb5.heap.size from by first | exact Nat.le_refl _ | exact World.grownBy.size hHeld)
        refine hK.out _ _ (gw_alloc hHeld (.cells (arrI (zeros 80)) 23)) (fun hHeld => ?_)
        clear hK
        have HZ := hide (show Blk (wmb5.alloc (.cells (arrI (zeros 80)) 23)) wmb5.heap.size 23 (zeros 80) from Blk.new wmb5 23 (zeros 80))
        have OI := hide (OI.out.keep (grown_alloc wmb5 (.cells (arrI (zeros 80)) 23) none))
        (try simp only [Act.put, sL])
        refine wpAnyH_ready (rs := [3]) (by kernel_rfl) (by simp) (AllReadyH.cons rfl (fun K hK => ?_) AllReadyH.nil)
        (try simp only [Act.put, sL])
        go_simp
        refine (PK.out _ _ (grown_none G0.out hHeld) OI.out.ints).mono ?_
        rintro e wmb16 ⟨rfl, gmb16⟩
        have Gmb16 := hide gmb16
        clear gmb16
        go_wp2_with fail
        refine hK.out _ _ (gw_trans hHeld Gmb16.out) (fun hHeld => ?_)
        clear hK
        have HZ := hide (HZ.out.keep Gmb16.out)
        have OI := hide (OI.out.keep Gmb16.out)
        (try simp only [Act.put, sL])
        refine wpAnyH_take (i := 4) (v := ?vmb17) rfl (by kernel_rfl) (by kernel_rfl) (by kernel_rfl) (fun _ _ _ h => h) (Or.inl ⟨by rfl, ?ymb17⟩) hHeld ?rmb17
        case ymb17 => (intro w' hSw; go_simp; (try with_reducible rfl))
        (try simp only [Act.put, sL])
        refine wpAnyH_take (i := 5) (v := ?vmb18) rfl (by kernel_rfl) (by kernel_rfl) (by kernel_rfl) (fun _ _ _ h => h) (Or.inl ⟨by rfl, ?ymb18⟩) hHeld ?rmb18
        case ymb18 => (intro w' hSw; go_simp; (try with_reducible rfl))
        (try simp only [Act.put, sL])
        refine wpAnyH_take (i := 6) (v := ?vmb19) rfl (by kernel_rfl) (by kernel_rfl) (by kernel_rfl) (fun _ _ _ h => h) (Or.inl ⟨by rfl, ?ymb19⟩) hHeld ?rmb19
        case ymb19 => (intro w' hSw; go_simp; (try with_reducible rfl))
        (try simp only [Act.put, sL])
        refine wpAnyH_ready (rs := [8]) (by kernel_rfl) (by simp) (AllReadyH.cons rfl (fun K hK => ?_) AllReadyH.nil)
        (try simp only [Act.put, sL])
        refine step_store_arr rfl 23 _ _ rfl (wmb5.heap.size) (zeros 80) R8 rfl rfl HZ.out (by rw [KL.out, zeros_len]) (by rw [zeros_len]; exact size80c) ?_
        have PU := put_arr (rs' := R8) HZ.out (by rw [KL.out, zeros_len])
        refine hK.out _ _ (gw_own hHeld PU.2 HB.out) (fun hHeld => ?_)
        clear hK
        have OI := hide (OI.out.keepBut PU.2 HZ.out (by decide))
        (try simp only [Act.put, sL])
        refine wpAnyH_take (i := 9) (v := ?vmb21) rfl (by kernel_rfl) (by kernel_rfl) (by kernel_rfl) (fun _ _ _ h => h) (Or.inl ⟨by rfl, ?ymb21⟩) hHeld ?rmb21
        case ymb21 => (intro w' hSw; go_simp; (try with_reducible rfl))
        (try simp only [Act.put, sL])
        refine wpAnyH_done (by kernel_rfl) ?_ _
        go_wp2_with fail
        go_meet
        exact ⟨wmb5.heap.size, rfl, rfl, PU.1, HB.out, hHeld⟩
    case gmb4 =>
      (try simp only [Act.put, sL])
      go_simp
      go_wp2_with fail
      have HB := hide (show W2.heap.size ≤ W2.heap.size from by first | exact Nat.le_refl _ | exact World.grownBy.size hHeld)
      refine hK.out _ _ (gw_alloc hHeld (.cells (arrI (zeros 80)) 23)) (fun hHeld => ?_)
      clear hK
      have HZ := hide (show Blk (W2.drew.alloc (.cells (arrI (zeros 80)) 23)) W2.heap.size 23 (zeros 80) from Blk.new W2.drew 23 (zeros 80))
      (try simp only [Act.put, sL])
      refine wpAnyH_ready (rs := [2]) (by kernel_rfl) (by simp) (AllReadyH.cons rfl (fun K hK => ?_) AllReadyH.nil)
      (try simp only [Act.put, sL])
      go_simp
      refine (IN.out _ (grown_none G0.out hHeld)).mono ?_
      rintro e wmb23 ⟨vi, rfl, oi, gmb23⟩
      have Gmb23 := hide gmb23
      have OI := hide (show Own _ wmb23 vi b from oi)
      clear gmb23 oi
      go_wp2_with fail
      refine hK.out _ _ (gw_trans hHeld Gmb23.out) (fun hHeld => ?_)
      clear hK
      have HZ := hide (HZ.out.keep Gmb23.out)
      (try simp only [Act.put, sL])
      refine wpAnyH_ready (rs := [3]) (by kernel_rfl) (by simp) (AllReadyH.cons rfl (fun K hK => ?_) AllReadyH.nil)
      (try simp only [Act.put, sL])
      go_simp
      refine (PK.out _ _ (grown_none G0.out hHeld) OI.out.ints).mono ?_
      rintro e wmb24 ⟨rfl, gmb24⟩
      have Gmb24 := hide gmb24
      clear gmb24
      go_wp2_with fail
      refine hK.out _ _ (gw_trans hHeld Gmb24.out) (fun hHeld => ?_)
      clear hK
      have HZ := hide (HZ.out.keep Gmb24.out)
      have OI := hide (OI.out.keep Gmb24.out)
      (try simp only [Act.put, sL])
      refine wpAnyH_take (i := 4) (v := ?vmb25) rfl (by kernel_rfl) (by kernel_rfl) (by kernel_rfl) (fun _ _ _ h => h) (Or.inl ⟨by rfl, ?ymb25⟩) hHeld ?rmb25
      case ymb25 => (intro w' hSw; go_simp; (try with_reducible rfl))
      (try simp only [Act.put, sL])
      refine wpAnyH_take (i := 5) (v := ?vmb26) rfl (by kernel_rfl) (by kernel_rfl) (by kernel_rfl) (fun _ _ _ h => h) (Or.inl ⟨by rfl, ?ymb26⟩) hHeld ?rmb26
      case ymb26 => (intro w' hSw; go_simp; (try with_reducible rfl))
      (try simp only [Act.put, sL])
      refine wpAnyH_take (i := 6) (v := ?vmb27) rfl (by kernel_rfl) (by kernel_rfl) (by kernel_rfl) (fun _ _ _ h => h) (Or.inl ⟨by rfl, ?ymb27⟩) hHeld ?rmb27
      case ymb27 => (intro w' hSw; go_simp; (try with_reducible rfl))
      (try simp only [Act.put, sL])
      refine wpAnyH_ready (rs := [8]) (by kernel_rfl) (by simp) (AllReadyH.cons rfl (fun K hK => ?_) AllReadyH.nil)
      (try simp only [Act.put, sL])
      refine step_store_arr rfl 23 _ _ rfl (W2.heap.size) (zeros 80) R8 rfl rfl HZ.out (by rw [KL.out, zeros_len]) (by rw [zeros_len]; exact size80c) ?_
      have PU := put_arr (rs' := R8) HZ.out (by rw [KL.out, zeros_len])
      refine hK.out _ _ (gw_own hHeld PU.2 HB.out) (fun hHeld => ?_)
      clear hK
      have OI := hide (OI.out.keepBut PU.2 HZ.out (by decide))
      (try simp only [Act.put, sL])
      refine wpAnyH_take (i := 9) (v := ?vmb29) rfl (by kernel_rfl) (by kernel_rfl) (by kernel_rfl) (fun _ _ _ h => h) (Or.inl ⟨by rfl, ?ymb29⟩) hHeld ?rmb29
      case ymb29 => (intro w' hSw; go_simp; (try with_reducible rfl))
      (try simp only [Act.put, sL])
      refine wpAnyH_done (by kernel_rfl) ?_ _
      go_wp2_with fail
      go_meet
      exact ⟨W2.heap.size, rfl, rfl, PU.1, HB.out, hHeld⟩
  case rest =>
  obtain ⟨b13, rfl, rfl, k13, hb13, g3⟩ := hcut
  replace OA := hide (OA.out.keep g3)
  replace OB := hide (OB.out.keep g3)
  replace BH := hide (BH.out.keep g3)
  replace G2 := hide (grown_none G2.out g3)
  have K13 := hide k13
  clear k13 g3 hb13 G0 IN PK
  go_wp2_with (refine wpList_load_arr rfl 23 _ rfl w.heap.size rfl h BH.out _ Try.underlying23 rfl S80.out ?_)
  refine (RK.out _ G2.out).mono ?_
  rintro e W4 ⟨rfl, g4⟩
  obtain ⟨b1, b2, b3⟩ := fresh_arr W4 23 80 R8 KL.out
  have NW := hide b1
  have K15 := hide b2
  have g5 := grown_none g4 b3
  replace OA := hide (OA.out.keep g5)
  replace OB := hide (OB.out.keep g5)
  replace K13 := hide (K13.out.keep g5)
  replace G2 := hide (grown_none G2.out g5)
  clear b1 b2 b3 g4 g5 BH RK
  go_upto_region 5 with (refine wpList_store_arr rfl 23 _ _ rfl _ (zeros 80) R8 rfl rfl NW.out (by rw [KL.out, zeros_len]) (by rw [zeros_len]; exact size80c) ?_)
  (try simp only [Act.put])
  clear NW
  generalize putArr (W4.alloc (.cells (arrI (zeros 80)) 23)) W4.heap.size R8 = W5 at *
  generalize W4.heap.size = b15 at *
  have IZ := hide (Ints_zeros W5 40)
  have ga := grown_alloc W5 (.cells (arrI (zeros 40)) 3) none
  replace OA := hide (OA.out.keep ga)
  replace OB := hide (OB.out.keep ga)
  replace K13 := hide (K13.out.keep ga)
  replace K15 := hide (K15.out.keep ga)
  replace G2 := hide (grown_none G2.out ga)
  clear ga
  go_wp2_with fail
  refine (PZ.out _ _ G2.out IZ.out).mono ?_
  rintro e W6 ⟨vz, rfl, oz, g6⟩
  obtain ⟨gz, cz, rfl, _⟩ := oz.form (by rw [M40.out]; omega)
  rw [M40.out]
  replace OA := hide (OA.out.keep g6)
  replace OB := hide (OB.out.keep g6)
  replace K13 := hide (K13.out.keep g6)
  replace K15 := hide (K15.out.keep g6)
  replace G2 := hide (grown_none G2.out g6)
  clear oz g6 PZ IZ hz hmk
  have SM := hide (refSames_any va vb L L W6 OA.out.ints OB.out.ints (by have := LL.out; omega) (by have := LL.out; omega))
  rw [show decide (L = L) = true from decide_eq_true rfl] at SM
  clear OA OB
  go_wp2_with fail
  refine SM.out.mono ?_
  rintro e W7 ⟨rfl, n, rfl⟩
  replace K13 := hide (K13.out.keep (grown_drewN' W6 n none))
  replace K15 := hide (K15.out.keep (grown_drewN' W6 n none))
  replace G2 := hide (grown_none G2.out (grown_drewN' W6 n none))
  clear SM
  have S8K := hide (show (Try.prog.info? 23).map (·.size) = some R8.length by rw [KL.out]; exact size80c)
  go_wp2_with (first | refine wpList_load_arrG (by first | rfl | (simp [Region.wanted, yielded]; omega)) 23 _ rfl b13 rfl R8 K13.out _ Try.underlying23 rfl S8K.out ?_ | refine wpList_load_arrG (by first | rfl | (simp [Region.wanted, yielded]; omega)) 23 _ rfl b15 rfl R8 K15.out _ Try.underlying23 rfl S8K.out ?_)
  go_ret
  exact ⟨rfl, below_of_grown G2.out⟩
end Go.Proofs.Ytekdgohomaeeeaa

/- LpcA -/
namespace Go.Proofs.Ytekdgohomaeeeaa
open Go.RowKit
set_option linter.unusedVariables false
set_option linter.unusedSimpArgs false
set_option maxHeartbeats 1000000
def Ans (w : World) (r : Value) (e : Ending) (w' : World) : Prop := e = .returned r ∧ w' = w
end Go.Proofs.Ytekdgohomaeeeaa

/- CnpA -/
namespace Go.Proofs.Ytekdgohomaeeeaa
open Go.RowKit
set_option linter.unusedVariables false
set_option linter.unusedSimpArgs false
set_option maxHeartbeats 2000000
theorem conWithin_any (x a b : Int) (w : World) : Calls Try.prog 28 #[.int .i64 x, .int .i64 a, .int .i64 b] w (Ans w (.bool (decide (a ≤ x ∧ x ≤ b)))) := by
  by_cases h1 : a ≤ x
  · by_cases h2 : x ≤ b
    · rw [decide_eq_true (show a ≤ x ∧ x ≤ b from ⟨h1, h2⟩)]
      go_enter Try.func28, Try.ntmps28
      go_wp2_with fail
      go_ret
      exact ⟨rfl, rfl⟩
    · rw [decide_eq_false (show ¬ (a ≤ x ∧ x ≤ b) from fun h => h2 h.2)]
      go_enter Try.func28, Try.ntmps28
      go_wp2_with fail
      go_ret
      exact ⟨rfl, rfl⟩
  · rw [decide_eq_false (show ¬ (a ≤ x ∧ x ≤ b) from fun h => h1 h.1)]
    go_enter Try.func28, Try.ntmps28
    go_wp2_with fail
    go_ret
    exact ⟨rfl, rfl⟩
theorem conStopped_any (x : Int) (w : World) : Calls Try.prog 32 #[.int .i64 x] w (Ans w (.int .i64 (c16 x))) := by
  have F := hide (show ∀ z, z = c16 x → Ans w (.int .i64 (c16 x)) (.returned (.int .i64 z)) w from fun z hz => ⟨by rw [hz], rfl⟩)
  generalize Ans w (.int .i64 (c16 x)) = T at *
  go_enter Try.func32, Try.ntmps32
  go_wp2_with fail
  all_goals (refine F.out _ ?_; unfold c16; (repeat' split) <;> omega)
theorem conScaled_any (x g : Int) (h1 : -4611686018427387904 ≤ x * g) (h2 : x * g ≤ 4611686018427387904) (w : World) : Calls Try.prog 33 #[.int .i64 x, .int .i64 g] w (Ans w (.int .i64 ((x * g + 8192) / 16384))) := by
  have F := hide (show Ans w (.int .i64 ((x * g + 8192) / 16384)) (.returned (.int .i64 ((x * g + 8192) / 16384))) w from ⟨rfl, rfl⟩)
  generalize Ans w (.int .i64 ((x * g + 8192) / 16384)) = T at *
  go_enter Try.func33, Try.ntmps33
  go_wp2_with fail
  exact F.out
end Go.Proofs.Ytekdgohomaeeeaa

/- PitA -/
namespace Go.Proofs.Ytekdgohomaeeeaa
open Go.RowKit
set_option linter.unusedVariables false
set_option linter.unusedSimpArgs false
set_option maxHeartbeats 1000000
theorem pitWithin_any (x a b : Int) (w : World) : Calls Try.prog 44 #[.int .i64 x, .int .i64 a, .int .i64 b] w (Ans w (.bool (decide (a ≤ x ∧ x ≤ b)))) := by
  by_cases h1 : a ≤ x
  · by_cases h2 : x ≤ b
    · rw [decide_eq_true (show a ≤ x ∧ x ≤ b from ⟨h1, h2⟩)]
      go_enter Try.func44, Try.ntmps44
      go_wp2_with fail
      go_ret
      exact ⟨rfl, rfl⟩
    · rw [decide_eq_false (show ¬ (a ≤ x ∧ x ≤ b) from fun h => h2 h.2)]
      go_enter Try.func44, Try.ntmps44
      go_wp2_with fail
      go_ret
      exact ⟨rfl, rfl⟩
  · rw [decide_eq_false (show ¬ (a ≤ x ∧ x ≤ b) from fun h => h1 h.1)]
    go_enter Try.func44, Try.ntmps44
    go_wp2_with fail
    go_ret
    exact ⟨rfl, rfl⟩
theorem ownP_any {w : World} {b base : Nat} {rs : List Int} (h : Blk w b 3 rs) (hb : base ≤ b) (hl : rs.length ≤ 35184372088832) : Own base w (.slice (some ⟨b, 0, none⟩) rs.length rs.length) rs :=
  ⟨by simp, .inr ⟨b, rs.length, arrI rs, rfl, hb, h, Nat.le_refl _, by unfold maxLen; omega, by simp [arrI], by simp [arrI, List.take_of_length_le]⟩⟩
theorem slice80 (b J : Nat) (hJ : J ≤ 79) (u : World) : Sem.run Try.prog (Instr.sliceAt 23 (.pointer (some ⟨b, 0, none⟩)) (some (.int .i64 (J : Int))) none none) u = .ok (.slice (some ⟨b, J, none⟩) (80 - J) (80 - J)) u := by
  have e : Try.prog.arrayLen 23 = 80 := by kernel_rfl
  obtain ⟨i0, hi, hz0, hz1, hz2⟩ := info_parts infoI64
  rw [run_sliceAt_array_l (P := Try.prog) u 23 _ (by kernel_rfl) .i64 J (by omega) (by omega), e]
  simp [go_sem, slicedAt]
  omega
theorem Mem2.set2 {w wr : World} {T1 T2 : TypeId} {a b : List Int} (h : Mem2 w wr T1 T2 a b) (k : Nat) (z : Int) : Mem2 w (wr.setCell ⟨w.heap.size + 1, k, none⟩ (.int .i64 z)) T1 T2 a (b.set k z) :=
  ⟨h.1.keepBut (grown_setCell wr ⟨w.heap.size + 1, k, none⟩ (.int .i64 z)) (by simp), h.2.1.set k z, grown_own h.2.2 (grown_setCell wr ⟨w.heap.size + 1, k, none⟩ (.int .i64 z)) (by simp)⟩
theorem tmod_nat (m L : Nat) : (m : Int).tmod (L : Int) = ((m % L : Nat) : Int) := by
  rw [Int.tmod_eq_emod_of_nonneg (by omega)]; exact (Int.natCast_emod m L).symm
set_option maxRecDepth 100000 in
theorem pitPast_any (h : List Int) (hh : h.length = 80) (lag : Int) (w : World) :
    Calls Try.prog 31 #[.agg (arrI h), .int .i64 lag] w (ListE w (pasL h lag) (pasE lag)) := by
  have WI := hide (fun w' => pitWithin_any lag 20 79 w')
  have G0 := hide (grown_alloc w (.cells (arrI h) 23) none)
  by_cases hlag : 20 ≤ lag ∧ lag ≤ 79
  · rw [decide_eq_true hlag] at WI
    obtain ⟨L, rfl⟩ : ∃ L : Nat, lag = (L : Int) := ⟨lag.toNat, by omega⟩
    obtain ⟨e1, e2⟩ := pasL_yes h L (by omega) (by omega)
    rw [e1, e2]
    obtain ⟨l1, l2⟩ := hlag
    have M0 := hide (show Mem2 w ((w.alloc (.cells (arrI h) 23)).alloc (.cells (arrI (zeros 40)) 3)) 23 3 h (zeros 40) from laid2 w 23 3 h (zeros 40))
    have hsl := slice80 w.heap.size (80 - L) (by omega)
    have hJ : (80 : Int) - (L : Int) = ((80 - L : Nat) : Int) := by omega
    have hJ2 : 80 - (80 - L) = L := by omega
    rw [hJ2] at hsl
    have hmk := make_zeros 40 (by omega)
    rw [show ((40 : Nat) : Int) = 40 from rfl] at hmk
    have BJ := hide (show ∀ i, 80 - L + i = (80 - L) + i from fun _ => rfl)
    clear e1 e2 G0
    generalize hj : 80 - L = J at *
    have HJ := hide hj
    have jb : J + L = 80 := by omega
    clear hj hJ2
    go_enter Try.func31, Try.ntmps31
    go_wp2_with fail
    refine (WI.out _).mono ?_
    rintro e w1 ⟨rfl, rfl⟩
    clear WI
    go_wp2_with fail
    clear hmk hsl
    generalize (w.alloc (.cells (arrI h) 23)).alloc _ = W0 at *
    go_loopw [18] (fun i wr => ∃ (m : Nat) (rs : List Int), i = .int .i64 m ∧ m ≤ 40 ∧ Hid (FillN 40 (pasN h L) m rs) ∧ Hid (Mem2 w wr 23 3 h rs)) (fun i _ => 40 - (intOf i).toNat)
    case atStart => exact ⟨0, zeros 40, rfl, Nat.zero_le _, fillN_start 40 _, M0.out⟩
    case round =>
      obtain ⟨m, rs, rfl, hm, hF, hM⟩ := hrel
      clear M0
      by_cases hm40 : m < 40
      · have hlen : rs.length = 40 := hF.out.1
        have hq : m % L < L := Nat.mod_lt m (by omega)
        have cx := hM.out.1.cell (J + m % L) (by omega)
        rw [show nth h (J + m % L) = pasN h L m by unfold pasN; rw [HJ.out]] at cx
        have cd := hM.out.2.1.cell m (by omega)
        have fd := hM.out.2.1.free m
        have NF := hide (fillN_step hF.out hm40)
        have NM := hide (hM.out.set2 m (pasN h L m))
        have tm := tmod_nat m L
        have i1 : (m : Int) < 40 := by omega
        have i2 : ¬ (L : Int) = 0 := by omega
        have i3 : ((m % L : Nat) : Int) < L := by omega
        clear hF hM hlen HJ BJ
        generalize pasN h L m = z at *
        generalize nth rs m = q at *
        generalize m % L = M at *
        go_wp2_with fail
        go_roundw
        case rel => exact ⟨m + 1, _, by go_num, by omega, NF.out, NM.out⟩
        case measure => simp [intOf]; omega
      · obtain rfl : m = 40 := by omega
        have EL := hide (show rs = pasV h L from fillN_all hF.out)
        have hlen : rs.length = 40 := hF.out.1
        have OF := ownP_any (base := w.heap.size) hM.out.2.1 (by omega) (by omega)
        rw [hlen] at OF
        have GF := hide hM.out.2.2
        have OO := hide OF
        clear hF hM OF HJ BJ
        go_wp2_with fail
        go_ret2
        rw [EL.out] at OO
        exact ⟨_, rfl, OO.out, GF.out⟩
  · rw [show pasL h lag = [] from if_neg hlag, show pasE lag = 2 from if_neg hlag]
    rw [decide_eq_false hlag] at WI
    clear hlag
    go_enter Try.func31, Try.ntmps31
    go_wp2_with fail
    refine (WI.out _).mono ?_
    rintro e w1 ⟨rfl, rfl⟩
    clear WI
    go_wp2_with fail
    go_ret2
    exact ⟨_, rfl, Own_nil _ _, G0.out⟩
end Go.Proofs.Ytekdgohomaeeeaa

/- AppL -/
namespace Go.Proofs.Ytekdgohomaeeeaa
open Go.RowKit
set_option linter.unusedVariables false
set_option linter.unusedSimpArgs false
set_option maxHeartbeats 1000000
theorem run_app {w : World} {base : Nat} {v vb : Value} {A B : List Int} (ha : Own base w v A) (hb : Ints w vb B) (hB : 0 < B.length) (hl : (A.length + B.length) * 8 ≤ 140737488355328) (hbase : base ≤ w.heap.size) (ty : TypeId) :
    ∃ v' w', Sem.run Try.prog (Builtin.append_ #[28, 28] ty #[v, vb]) w = .ok v' w' ∧ Own base w' v' (A ++ B) ∧ w.grownBy w' v.ownBlock ∧ ∀ g', v'.ownBlock = some g' → v.ownBlock = some g' ∨ w.heap.size ≤ g' := by
  obtain ⟨i0, hi, hz0, hz1, hz2⟩ := info_parts infoI64
  obtain ⟨ad, c, rfl, hc, hv⟩ := hb
  obtain ⟨ab, rfl, hcell⟩ := hv hB
  have hnews : ∀ j u, (B.map (Value.int .i64))[j]? = some u → w.cell? (ab.add j) = some u := fun j u hu => by
    have hj : j < B.length := by
      by_cases hj : j < B.length
      · exact hj
      · rw [List.getElem?_eq_none (by simp; omega)] at hu; cases hu
    rw [hcell j hj]
    simpa [nth, List.getD, hj] using hu
  have hone : ∀ u ∈ B.map (Value.int .i64), u.oneCell' = true := fun u hu => by
    obtain ⟨x, _, rfl⟩ := List.mem_map.1 hu
    rfl
  obtain ⟨v', w', hr, h2, h3, _⟩ := run_append_own (P := Try.prog) w base 28 ty 3 i0 (.int .i64 0) 1 8 Try.underlying28 hi hz0 hz1 hz2 rfl (by decide) v A.length _ ha ab B.length c (B.map (Value.int .i64)) (by simp) hnews hone (by unfold maxLen; omega) (by omega) hbase
  refine ⟨v', w', hr, by unfold Own; simpa using h2, h3, fun g' hg' => ?_⟩
  rcases ha.2 with ⟨rfl, hA⟩ | ⟨g, cap, cur, rfl, hbg, hg, hnc, hcm, hcs, htake⟩
  · have hA0 : A = [] := List.eq_nil_of_length_eq_zero hA
    subst hA0
    obtain ⟨v2, w2, hr2, o2, _, _⟩ := run_append_own (P := Try.prog) w w.heap.size 28 ty 3 i0 (.int .i64 0) 1 8 Try.underlying28 hi hz0 hz1 hz2 rfl (by decide) (.slice none 0 0) 0 [] (World.ownsRow_nil _ _ _ _) ab B.length c (B.map (Value.int .i64)) (by simp) hnews hone (by unfold maxLen; simp at hl; omega) (by simpa using hl) (Nat.le_refl _)
    rw [hr] at hr2
    cases hr2
    exact .inr (o2.lt g' hg').1
  · by_cases hroom : A.length + B.length ≤ cap
    · have hr2 := run_append_room (P := Try.prog) w 28 ty 3 i0 Try.underlying28 hi g A.length cap cur hg ab B.length c (B.map (Value.int .i64)) (by rw [hz1]; simp) hnews hone hroom (by rw [hz1, hcs]; simp; omega)
      rw [hr] at hr2
      cases hr2
      exact .inl hg'
    · have hr2 := run_append_grow (P := Try.prog) w 28 ty 3 i0 (.int .i64 0) Try.underlying28 hi hz0 ⟨g, 0, none⟩ A.length cap (A.map (Value.int .i64)) (by rw [hz1]; simp) (World.ownsRow.cells ha (g := g) rfl) ab B.length c (B.map (Value.int .i64)) (by rw [hz1]; simp) hnews (by omega) (by omega) (by rw [hz2]; exact growslice_fits (by omega) (by omega))
      rw [hr] at hr2
      cases hr2
      simp [Value.ownBlock] at hg'
      exact .inr (by omega)
def Fam (base : Nat) (w : World) (vs : List (Value × List Int)) : Prop :=
  (∀ (i : Nat) (v : Value) (A : List Int), vs[i]? = some (v, A) → Own base w v A) ∧ ∀ (i j : Nat) (v : Value) (A : List Int) (u : Value) (B : List Int), vs[i]? = some (v, A) → vs[j]? = some (u, B) → i ≠ j → ∀ g, v.ownBlock = some g → u.ownBlock ≠ some g
theorem Fam.get {base : Nat} {w : World} {vs : List (Value × List Int)} (h : Fam base w vs) (i : Nat) {v : Value} {A : List Int} (hi : vs[i]? = some (v, A)) : Own base w v A := h.1 i v A hi
theorem Fam.keep {base : Nat} {w w' : World} {vs : List (Value × List Int)} (h : Fam base w vs) (g : w.grownBy w' none) : Fam base w' vs := ⟨fun i v A hi => (h.1 i v A hi).keep g, h.2⟩
theorem Fam.upd {base : Nat} {w w' : World} {vs : List (Value × List Int)} (h : Fam base w vs) (i : Nat) (v v' : Value) (A A' : List Int) (hi : vs[i]? = some (v, A)) (g : w.grownBy w' v.ownBlock) (o : Own base w' v' A') (n : ∀ g', v'.ownBlock = some g' → v.ownBlock = some g' ∨ w.heap.size ≤ g') : Fam base w' (vs.set i (v', A')) := by
  have hlen : i < vs.length := by
    rcases Nat.lt_or_ge i vs.length with h | h
    · exact h
    · rw [List.getElem?_eq_none h] at hi; cases hi
  have get : ∀ (j : Nat) (u : Value) (B : List Int), (vs.set i (v', A'))[j]? = some (u, B) → (j = i ∧ u = v' ∧ B = A') ∨ (j ≠ i ∧ vs[j]? = some (u, B)) := fun j u B hj => by
    by_cases e : j = i
    · subst e
      rw [List.getElem?_set_self hlen] at hj
      cases hj
      exact .inl ⟨rfl, rfl, rfl⟩
    · rw [List.getElem?_set_ne (Ne.symm e)] at hj
      exact .inr ⟨e, hj⟩
  have old : ∀ (j : Nat) (u : Value) (B : List Int), j ≠ i → vs[j]? = some (u, B) → Own base w' u B := fun j u B hj hu => by
    refine (h.1 j u B hu).kept g ?_
    rcases e : u.ownBlock with _ | b
    · exact .inl rfl
    · right
      intro e'
      exact h.2 j i u B v A hu hi hj b e e'.symm
  have new : ∀ (j : Nat) (u : Value) (B : List Int), j ≠ i → vs[j]? = some (u, B) → ∀ g, u.ownBlock = some g → v'.ownBlock ≠ some g := fun j u B hj hu k hk e => by
    rcases n k e with q | q
    · exact h.2 j i u B v A hu hi hj k hk q
    · have := ((h.1 j u B hu).lt k hk).2
      omega
  refine ⟨fun j u B hj => ?_, fun j k u B u2 B2 hj hk hjk g hg => ?_⟩
  · rcases get j u B hj with ⟨_, rfl, rfl⟩ | ⟨e, hu⟩
    · exact o
    · exact old j u B e hu
  · rcases get j u B hj with ⟨rfl, rfl, rfl⟩ | ⟨e, hu⟩ <;> rcases get k u2 B2 hk with ⟨rfl, rfl, rfl⟩ | ⟨e2, hu2⟩
    · exact absurd rfl hjk
    · intro q
      exact new k u2 B2 e2 hu2 g q hg
    · exact new j u B e hu g hg
    · exact h.2 j k u B u2 B2 hu hu2 hjk g hg
theorem Fam.put {base : Nat} {w w' : World} {vs : List (Value × List Int)} (h : Fam base w vs) (i : Nat) (v' : Value) (A' : List Int) (hi : vs[i]? = some (.slice none 0 0, [])) (g : w.grownBy w' none) (o : Own base w' v' A') (n : ∀ g', v'.ownBlock = some g' → w.heap.size ≤ g') : Fam base w' (vs.set i (v', A')) :=
  h.upd i _ v' [] A' hi g o (fun g' hg' => .inr (n g' hg'))
theorem Fam.nil {base : Nat} {w : World} {n : Nat} : Fam base w (List.replicate n (.slice none 0 0, [])) :=
  ⟨fun i v A hi => by
    have := (List.mem_replicate.1 (List.mem_of_getElem? hi)).2
    cases this
    exact Own_nil _ _, fun i j v A u B hi _ _ g hg => by
    have := (List.mem_replicate.1 (List.mem_of_getElem? hi)).2
    cases this
    cases hg⟩
theorem step_app {y : Nat → Option Bool} {o : Oper} {a : Act} {w : World} {K : Act → World → Prop} {Q : Exit → Act → World → Prop} {E : Prop} (hg : o.guard = none) (s x : Operand)
    (hop : o.op = Op.call { callee := Callee.builtin Builtin.append, args := #[s, x], argTypes := #[28, 28] }) (base : Nat) (va vb : Value) (A B : List Int) (hs : a.eval s = va) (hx : a.eval x = vb) (ha : Own base w va A) (hb : Ints w vb B) (hB : 0 < B.length)
    (hl : (A.length + B.length) * 8 ≤ 140737488355328) (hbase : base ≤ w.heap.size)
    (h : ∀ v' w', Own base w' v' (A ++ B) → w.grownBy w' va.ownBlock → (∀ g', v'.ownBlock = some g' → va.ownBlock = some g' ∨ w.heap.size ≤ g') → K (a.put o.dst v') w') : if Region.wanted o y = true then Oper.wp Try.prog o a w K Q else E := by
  have hw : Region.wanted o y = true := by simp [Region.wanted, hg]
  rw [if_pos hw]
  obtain ⟨v', w', hr, h1, h2, h3⟩ := run_app ha hb hB hl hbase o.type
  unfold Oper.wp
  simp [execOp, hop, resolve, invoke, builtin, hs, hx, hr, Result.andThen]
  exact h v' w' h1 h2 h3
end Go.Proofs.Ytekdgohomaeeeaa

/- PartL -/
namespace Go.Proofs.Ytekdgohomaeeeaa
open Go.RowKit
set_option linter.unusedVariables false
set_option linter.unusedSimpArgs false
set_option maxHeartbeats 1000000
def splI (L : List Int) (off : Nat) (M : List Int) : List Int := L.take off ++ M ++ L.drop (off + M.length)
theorem splI_len (L : List Int) (off : Nat) (M : List Int) (h : off + M.length ≤ L.length) : (splI L off M).length = L.length := by simp [splI]; omega
theorem splI_nth (L : List Int) (off : Nat) (M : List Int) (h : off + M.length ≤ L.length) (k : Nat) : nth (splI L off M) k = if k < off then nth L k else if k < off + M.length then nth M (k - off) else nth L k := by
  unfold splI nth
  have e : min off L.length = off := by omega
  by_cases h1 : k < off
  · rw [if_pos h1]
    simp [List.getD, List.getElem?_append, h1, e, show k < L.length by omega, show k < off + M.length by omega]
  · rw [if_neg h1]
    by_cases h2 : k < off + M.length
    · rw [if_pos h2]
      simp [List.getD, List.getElem?_append, e, h1, h2]
      rw [if_pos (by omega)]
    · rw [if_neg h2]
      simp [List.getD, List.getElem?_append, e, h1, h2]
      rw [if_neg (by omega), show off + M.length + (k - off - M.length) = k by omega]
theorem grown_setRowI (w : World) (g : Nat) (cs : Array Value) : w.grownBy (w.setRow g cs) (some g) :=
  ⟨rfl, rfl, rfl, by simp, fun k _ h => setRow_other w g k cs (fun e => h (by rw [e]))⟩
end Go.Proofs.Ytekdgohomaeeeaa

/- CnpB -/
namespace Go.Proofs.Ytekdgohomaeeeaa
open Go.RowKit
set_option linter.unusedVariables false
set_option linter.unusedSimpArgs false
set_option maxHeartbeats 2000000
set_option maxRecDepth 100000 in
theorem conMix_size (h : List Int) (lag g : Int) (v : Value) (b : List Int) (w : World) (hv : Ints w v b) (hl : b.length ≠ 40) (hl2 : b.length ≤ 1000000000000000000) :
    Calls Try.prog 13 #[.agg (arrI h), .int .i64 lag, .int .i64 g, v] w (ListE w (mxL h lag g b) (mxE lag g b)) := by
  obtain ⟨ad, c, rfl, hc, _⟩ := hv
  have hne : ((b.length : Int) == 40) = false := beq_eq_false_iff_ne.2 (by omega)
  have F := hide (show ∀ w', w.grownBy w' none → ListE w (mxL h lag g b) (mxE lag g b) (.returned (.tuple #[.slice none 0 0, .int .i64 1])) w' from fun w' q => ⟨_, by rw [(mxL_size (h := h) hl).2], by rw [(mxL_size (h := h) hl).1]; exact Own_nil _ _, q⟩)
  have G0 := hide (grown_alloc w (.cells (arrI h) 23) none)
  clear hl
  generalize ListE w (mxL h lag g b) (mxE lag g b) = T at *
  go_enter Try.func13, Try.ntmps13
  go_upto_region 1 with fail
  generalize w.alloc (.cells (arrI h) 23) = W0 at *
  go_wp2_with fail
  exact F.out _ G0.out
set_option maxRecDepth 100000 in
theorem conMix_gain (h : List Int) (lag g : Int) (v : Value) (b : List Int) (w : World) (hv : Ints w v b) (hl : b.length = 40) (hr : ¬ (0 ≤ g ∧ g ≤ 32767)) :
    Calls Try.prog 13 #[.agg (arrI h), .int .i64 lag, .int .i64 g, v] w (ListE w (mxL h lag g b) (mxE lag g b)) := by
  obtain ⟨ad, c, rfl, hc, _⟩ := hv
  have q : ¬ mxO lag g b := by unfold mxO; omega
  have F := hide (show ∀ w', w.grownBy w' none → ListE w (mxL h lag g b) (mxE lag g b) (.returned (.tuple #[.slice none 0 0, .int .i64 2])) w' from fun w' k => ⟨_, by rw [(mxL_range (h := h) hl q).2], by rw [(mxL_range (h := h) hl q).1]; exact Own_nil _ _, k⟩)
  have G0 := hide (grown_alloc w (.cells (arrI h) 23) none)
  have WI := hide (fun u => conWithin_any g 0 32767 u)
  rw [decide_eq_false hr] at WI
  rw [hl] at hc ⊢
  clear hl q hr
  generalize ListE w (mxL h lag g b) (mxE lag g b) = T at *
  go_enter Try.func13, Try.ntmps13
  go_upto_region 1 with fail
  generalize w.alloc (.cells (arrI h) 23) = W0 at *
  go_wp2_with fail
  refine (WI.out _).mono ?_
  rintro e w1 ⟨rfl, rfl⟩
  go_wp2_with fail
  exact F.out _ G0.out
set_option maxRecDepth 100000 in
theorem conMix_lag (h : List Int) (lag g : Int) (v : Value) (b : List Int) (w : World) (hh : h.length = 80) (hv : Ints w v b) (hl : b.length = 40) (hg : 0 ≤ g ∧ g ≤ 32767) (hr : ¬ (20 ≤ lag ∧ lag ≤ 79)) :
    Calls Try.prog 13 #[.agg (arrI h), .int .i64 lag, .int .i64 g, v] w (ListE w (mxL h lag g b) (mxE lag g b)) := by
  obtain ⟨ad, c, rfl, hc, _⟩ := hv
  have q : ¬ mxO lag g b := by unfold mxO; omega
  have F := hide (show ∀ w', w.grownBy w' none → ListE w (mxL h lag g b) (mxE lag g b) (.returned (.tuple #[.slice none 0 0, .int .i64 2])) w' from fun w' k => ⟨_, by rw [(mxL_range (h := h) hl q).2], by rw [(mxL_range (h := h) hl q).1]; exact Own_nil _ _, k⟩)
  have B0 := hide (Blk.new w 23 h)
  have G0 := hide (grown_alloc w (.cells (arrI h) 23) none)
  have WI := hide (fun u => conWithin_any g 0 32767 u)
  rw [decide_eq_true hg] at WI
  have PS := hide (fun u => pitPast_any h hh lag u)
  rw [show pasL h lag = [] from if_neg hr, show pasE lag = 2 from if_neg hr] at PS
  have S80 := hide (show (Try.prog.info? 23).map (·.size) = some h.length by rw [hh]; exact size80c)
  rw [hl] at hc ⊢
  clear hl q hr hg hh
  generalize ListE w (mxL h lag g b) (mxE lag g b) = T at *
  go_enter Try.func13, Try.ntmps13
  go_upto_region 1 with fail
  generalize w.alloc (.cells (arrI h) 23) = W0 at *
  go_wp2_with fail
  refine (WI.out _).mono ?_
  rintro e w1 ⟨rfl, rfl⟩
  clear WI
  go_wp2_with (refine wpList_load_arr rfl 23 _ rfl w.heap.size rfl h B0.out _ Try.underlying23 rfl S80.out ?_)
  refine (PS.out _).mono ?_
  rintro e w2 ⟨v2, rfl, o2, g2⟩
  have FF := hide (F.out _ (grown_none G0.out g2))
  clear PS o2 g2 F
  go_wp2_with fail
  exact FF.out
set_option maxRecDepth 100000 in
theorem conMix_yes (h : List Int) (lag g : Int) (v : Value) (b : List Int) (w : World) (hh : h.length = 80) (hv : Ints w v b) (hk : mxO lag g b) :
    Calls Try.prog 13 #[.agg (arrI h), .int .i64 lag, .int .i64 g, v] w (ListE w (mxL h lag g b) (mxE lag g b)) := by
  have IV := hide (fun wr (g : w.grownBy wr none) => Ints_keep hv g)
  obtain ⟨ad, c, rfl, hc, _⟩ := hv
  have hl := hk.1
  rw [hl] at hc IV ⊢
  obtain ⟨_, ⟨l0, l9⟩, g0, g9⟩ := id hk
  have PS := hide (fun u => pitPast_any h hh lag u)
  have pl : (pasL h lag).length = 40 := by
    obtain ⟨L, rfl⟩ : ∃ L : Nat, lag = (L : Int) := ⟨lag.toNat, by omega⟩
    rw [(pasL_yes h L (by omega) (by omega)).1]; exact pasV_len _ _
  have pe : pasE lag = 0 := if_pos ⟨l0, l9⟩
  rw [pe] at PS
  have F := hide (show ∀ v' w', Own w.heap.size w' v' (mxA (pasL h lag) g b) → w.grownBy w' none → ListE w (mxL h lag g b) (mxE lag g b) (.returned (.tuple #[v', .int .i64 0])) w' from fun v' w' o q => ⟨v', by rw [(mxL_yes (h := h) hk).2], by rw [(mxL_yes (h := h) hk).1]; exact o, q⟩)
  have WI := hide (fun u => conWithin_any g 0 32767 u)
  rw [decide_eq_true (show 0 ≤ g ∧ g ≤ 32767 from ⟨g0, g9⟩)] at WI
  have B0 := hide (Blk.new w 23 h)
  have G0 := hide (grown_alloc w (.cells (arrI h) 23) none)
  have BL := hide hl
  have VL := hide pl
  have S80 := hide (show (Try.prog.info? 23).map (·.size) = some h.length by rw [hh]; exact size80c)
  have hmk := make_zeros 40 (by omega)
  rw [show ((40 : Nat) : Int) = 40 from rfl] at hmk
  clear hl hk hh pe pl
  generalize ListE w (mxL h lag g b) (mxE lag g b) = T at *
  generalize pasL h lag = V at *
  go_enter Try.func13, Try.ntmps13
  go_upto_region 1 with fail
  generalize w.alloc (.cells (arrI h) 23) = W0 at *
  go_wp2_with fail
  refine (WI.out _).mono ?_
  rintro e w1 ⟨rfl, rfl⟩
  clear WI
  go_wp2_with (refine wpList_load_arr rfl 23 _ rfl w.heap.size rfl h B0.out _ Try.underlying23 rfl S80.out ?_)
  refine (PS.out _).mono ?_
  rintro e W2 ⟨v2, rfl, o2, g2⟩
  obtain ⟨gv, cv', rfl, _, _, _⟩ := o2.form (by rw [VL.out]; omega)
  have G2 := hide (grown_none G0.out g2)
  have OV := hide o2
  clear o2 g2 PS B0 G0 S80
  rw [VL.out] at OV ⊢
  have M0 := hide (show Blk (W2.alloc (.cells (arrI (zeros 40)) 3)) W2.heap.size 3 (zeros 40) ∧ W2.grownBy (W2.alloc (.cells (arrI (zeros 40)) 3)) none from ⟨Blk.new W2 3 (zeros 40), grown_alloc _ _ none⟩)
  go_upto_region 9 with fail
  clear hmk
  generalize W2.alloc (.cells (arrI (zeros 40)) 3) = W3 at *
  go_wp2_with fail
  go_loopw [33] (fun i wr => ∃ (m : Nat) (rs : List Int), i = .int .i64 (m : Int) ∧ m ≤ 40 ∧ Hid (FillN 40 (mxN V g b) m rs) ∧ Hid (Blk wr W2.heap.size 3 rs ∧ W2.grownBy wr none)) (fun i _ => 40 - (intOf i).toNat)
  case atStart => exact ⟨0, zeros 40, rfl, Nat.zero_le _, fillN_start 40 _, M0.out⟩
  case round =>
    obtain ⟨m, rs, rfl, hm, hF, hM⟩ := hrel
    clear M0
    by_cases hm40 : m < 40
    · have i1 : (m : Int) < 40 := by omega
      have cv := (OV.out.keep hM.out.2).cell VL.out.symm m (by rw [VL.out]; exact hm40)
      obtain ⟨a, rfl, cb⟩ := Ints_cell (IV.out _ (grown_none G2.out hM.out.2)) m (by rw [BL.out]; exact hm40)
      have cd := hM.out.1.cell m (by rw [hF.out.1]; exact hm40)
      have fd := hM.out.1.free m
      have NF := hide (fillN_step hF.out hm40)
      have NM := hide (show Blk (wr.drew.setCell ⟨W2.heap.size, m, none⟩ (.int .i64 (mxN V g b m))) W2.heap.size 3 (rs.set m (mxN V g b m)) ∧ W2.grownBy (wr.drew.setCell ⟨W2.heap.size, m, none⟩ (.int .i64 (mxN V g b m))) none from ⟨(hM.out.1.keep (grown_drew (grown_refl wr none))).set m _, grown_own (grown_none hM.out.2 (grown_drew (grown_refl wr none))) (grown_setCell _ ⟨W2.heap.size, m, none⟩ _) (Nat.le_refl _)⟩)
      have EN := hide (show c16 ((c16 (nth V m) * g + 8192) / 16384 + c16 (nth b m)) = mxN V g b m from rfl)
      have bx := c16_bd (nth V m)
      have by' := c16_bd (nth b m)
      have bg : -1073709056 ≤ c16 (nth V m) * g ∧ c16 (nth V m) * g ≤ 1073741824 := mul16_bd _ _ bx.1 bx.2 (by omega) g9
      clear IV hF hM OV
      generalize mxN V g b m = R at *
      generalize nth V m = x at *
      generalize nth b m = y at *
      generalize nth rs m = q at *
      have W3 := wrapI ((c16 x * g + 8192) / 16384 + c16 y) (by omega) (by omega)
      go_upto_region 12 with fail
      refine wp_region_G 14 (fun w' => w' = wr.drew) 15 (by rfl) #[false, false, false, false, false, false, false, false, false, false, false, false, false, false, false] (by rfl) (by kernel_rfl) (fun hcl => ?_)
      refine wpAnyG_take (i := 0) (v := ?vmx0) rfl (by kernel_rfl) hcl (fun _ _ _ h => h) (Or.inl ⟨by rfl, ?ymx0⟩) rfl (fun hcl => ?rmx0)
      case ymx0 => (intro w' hSw; subst hSw; go_simp; try with_reducible rfl)
      (try simp only [Act.put, sL])
      refine wpAnyG_take (i := 1) (v := ?vmx1) rfl (by kernel_rfl) hcl (fun _ _ _ h => h) (Or.inl ⟨by rfl, ?ymx1⟩) rfl (fun hcl => ?rmx1)
      case ymx1 => (intro w' hSw; subst hSw; go_simp; try with_reducible rfl)
      (try simp only [Act.put, sL])
      refine wpAnyG_take (i := 2) (v := ?vmx2) rfl (by kernel_rfl) hcl (fun _ _ _ h => h) (Or.inl ⟨by rfl, ?ymx2⟩) rfl (fun hcl => ?rmx2)
      case ymx2 => (intro w' hSw; subst hSw; go_simp; try with_reducible rfl)
      (try simp only [Act.put, sL])
      refine wpAnyG_take (i := 4) (v := ?vmx4) rfl (by kernel_rfl) hcl (fun _ _ _ h => h) (Or.inl ⟨by rfl, ?ymx4⟩) rfl (fun hcl => ?rmx4)
      case ymx4 => (intro w' hSw; subst hSw; go_simp; try with_reducible rfl)
      (try simp only [Act.put, sL])
      refine wpAnyG_take (i := 6) (v := ?vmx6) rfl (by kernel_rfl) hcl (fun _ _ _ h => h) (Or.inl ⟨by rfl, ?ymx6⟩) rfl (fun hcl => ?rmx6)
      case ymx6 => (intro w' hSw; subst hSw; go_simp; try with_reducible rfl)
      (try simp only [Act.put, sL])
      refine wpAnyG_take (i := 7) (v := ?vmx7) rfl (by kernel_rfl) hcl (fun _ _ _ h => h) (Or.inl ⟨by rfl, ?ymx7⟩) rfl (fun hcl => ?rmx7)
      case ymx7 => (intro w' hSw; subst hSw; go_simp; try with_reducible rfl)
      (try simp only [Act.put, sL])
      refine wpAnyG_take (i := 8) (v := ?vmx8) rfl (by kernel_rfl) hcl (fun _ _ _ h => h) (Or.inl ⟨by rfl, ?ymx8⟩) rfl (fun hcl => ?rmx8)
      case ymx8 => (intro w' hSw; subst hSw; go_simp; try with_reducible rfl)
      (try simp only [Act.put, sL])
      refine wpAnyG_take (i := 9) (v := .int .i64 y) rfl (by kernel_rfl) hcl (fun _ _ _ h => h) (Or.inl ⟨by rfl, ?ymx9⟩) rfl (fun hcl => ?rmx9)
      case ymx9 => (intro w' hSw; subst hSw; go_simp; try with_reducible rfl)
      (try simp only [Act.put, sL])
      refine wpAnyG_exec (i := 3) rfl (by kernel_rfl) hcl (fun K hK => ?_)
      (try simp only [Act.put, sL])
      go_simp
      refine (conStopped_any x _).mono ?_
      rintro e w1 ⟨rfl, rfl⟩
      go_wp2_with fail
      refine hK.out _ _ (fun _ => rfl) (fun hcl => ?_)
      clear hK
      (try simp only [Act.put, sL])
      refine wpAnyG_exec (i := 5) rfl (by kernel_rfl) hcl (fun K hK => ?_)
      (try simp only [Act.put, sL])
      go_simp
      refine (conScaled_any (c16 x) g (by omega) (by omega) _).mono ?_
      rintro e w1 ⟨rfl, rfl⟩
      go_wp2_with fail
      refine hK.out _ _ (fun _ => rfl) (fun hcl => ?_)
      clear hK
      (try simp only [Act.put, sL])
      refine wpAnyG_exec (i := 10) rfl (by kernel_rfl) hcl (fun K hK => ?_)
      (try simp only [Act.put, sL])
      go_simp
      refine (conStopped_any y _).mono ?_
      rintro e w1 ⟨rfl, rfl⟩
      go_wp2_with fail
      refine hK.out _ _ (fun _ => rfl) (fun hcl => ?_)
      clear hK
      (try simp only [Act.put, sL])
      refine wpAnyG_take (i := 11) (v := .int .i64 ((c16 x * g + 8192) / 16384 + c16 y)) rfl (by kernel_rfl) hcl (fun _ _ _ h => h) (Or.inl ⟨by rfl, ?ymx11⟩) rfl (fun hcl => ?rmx11)
      case ymx11 => (intro w' hSw; subst hSw; go_simp; (try simp only [W3]))
      (try simp only [Act.put, sL])
      refine wpAnyG_exec (i := 12) rfl (by kernel_rfl) hcl (fun K hK => ?_)
      (try simp only [Act.put, sL])
      go_simp
      refine (conStopped_any ((c16 x * g + 8192) / 16384 + c16 y) _).mono ?_
      rintro e w1 ⟨rfl, rfl⟩
      rw [EN.out]
      go_wp2_with fail
      refine hK.out _ _ (fun _ => rfl) (fun hcl => ?_)
      clear hK
      (try simp only [Act.put, sL])
      refine wpAnyG_take (i := 13) (v := ?vmx13) rfl (by kernel_rfl) hcl (fun _ _ _ h => h) (Or.inl ⟨by rfl, ?ymx13⟩) rfl (fun hcl => ?rmx13)
      case ymx13 => (intro w' hSw; subst hSw; go_simp; try with_reducible rfl)
      (try simp only [Act.put, sL])
      refine wpAnyG_exec (i := 14) rfl (by kernel_rfl) hcl (fun K hK => ?_)
      (try simp only [Act.put, sL])
      go_simp
      go_wp2_with fail
      refine hK.out _ _ (fun h => by cases h) (fun hcl => ?_)
      clear hK
      (try simp only [Act.put, sL])
      refine wpAnyG_of_any _ _ _ _ (by rfl) ?_
      refine wpAny_done (by kernel_rfl) ?_ _
      go_wp2_with fail
      go_roundw
      case rel => exact ⟨m + 1, _, by go_num, by omega, NF.out, NM.out⟩
      case measure => first | (simp [intOf]; done) | (simp [intOf]; omega)
    · obtain rfl : m = 40 := by omega
      have EL := hide (show rs = mxA V g b from fillN_all hF.out)
      have hlen : rs.length = 40 := hF.out.1
      have OF := ownP_any (base := w.heap.size) hM.out.1 G2.out.size (by omega)
      rw [hlen] at OF
      have FF := hide (F.out _ _ (by rw [← EL.out]; exact OF) (grown_none G2.out hM.out.2))
      clear hF hM F IV OF OV
      rw [show ((40 : Nat) : Int) = 40 from rfl]
      go_wp2_with fail
      exact FF.out
theorem conMix_any (h : List Int) (lag g : Int) (v : Value) (b : List Int) (w : World) (hh : h.length = 80) (hv : Ints w v b) (hl2 : b.length ≤ 1000000000000000000) :
    Calls Try.prog 13 #[.agg (arrI h), .int .i64 lag, .int .i64 g, v] w (ListE w (mxL h lag g b) (mxE lag g b)) := by
  by_cases hl : b.length = 40
  · by_cases hg : 0 ≤ g ∧ g ≤ 32767
    · by_cases hr : 20 ≤ lag ∧ lag ≤ 79
      · exact conMix_yes h lag g v b w hh hv ⟨hl, hr, hg⟩
      · exact conMix_lag h lag g v b w hh hv hl hg hr
    · exact conMix_gain h lag g v b w hv hl hg
  · exact conMix_size h lag g v b w hv hl hl2
theorem step_copyK {y : Nat → Option Bool} {o : Oper} {a : Act} {w : World} {K : Act → World → Prop} {Q : Exit → Act → World → Prop} {E : Prop} (hg : o.guard = none) (d s : Operand)
    (hop : o.op = Op.call { callee := Callee.builtin Builtin.copy, args := #[d, s], argTypes := #[28, 28] }) (b off dn n dc sc : Nat) (T : TypeId) (p L : List Int) (ad : Addr) (hb : Blk w b T p)
    (hd : a.eval d = .slice (some ⟨b, off, none⟩) dn dc) (hs : a.eval s = .slice (some ad) n sc) (hL : L.length = n) (hdn : n ≤ dn) (hsrc : ∀ j, j < n → w.cell? (ad.add j) = some (.int .i64 (nth L j))) (hfit : off + n ≤ p.length)
    (hK : ∀ w', Blk w' b T (splI p off L) → w.grownBy w' (some b) → K (a.put o.dst (goInt n)) w') : if Region.wanted o y = true then Oper.wp Try.prog o a w K Q else E := by
  have hw : Region.wanted o y = true := by simp [Region.wanted, hg]
  rw [if_pos hw]
  have hsz : (Try.prog.info? 3).map (·.size) = some 1 := by kernel_rfl
  have hrun := run_copy_row (P := Try.prog) w 28 28 o.type 3 b off dn dc ad n sc (arrI p) T (L.map (Value.int .i64)) Try.underlying28 hsz hb (by rw [List.length_map, hL]; exact (Nat.min_eq_left hdn).symm)
    (fun j v hv => by
      have hj : j < L.length := by
        by_cases hj : j < L.length
        · exact hj
        · rw [List.getElem?_eq_none (by simp; omega)] at hv; cases hv
      rw [hsrc j (by omega)]
      simpa [nth, List.getD, hj] using hv)
    (by simp [arrI, hL]; omega) (fun v hv => by
      obtain ⟨x, _, rfl⟩ := List.mem_map.1 hv
      rfl)
  have e : ((arrI p).toList.take off ++ L.map (Value.int .i64) ++ (arrI p).toList.drop (off + (L.map (Value.int .i64)).length)).toArray = arrI (splI p off L) := by
    simp [arrI, splI, List.map_take, List.map_drop]
  rw [e, List.length_map, hL] at hrun
  unfold Oper.wp
  simp [execOp, hop, resolve, invoke, builtin, hd, hs, hrun, Result.andThen]
  exact hK _ (setRow_heap _ _ _ _ _ _ hb) (grown_setRowI _ _ _)
theorem Mem2.put2 {w wr : World} {T1 T2 : TypeId} {a b b' : List Int} (h : Mem2 w wr T1 T2 a b) (hl : b'.length = b.length) : Blk (putArr wr (w.heap.size + 1) b') (w.heap.size + 1) T2 b' ∧ w.grownBy (putArr wr (w.heap.size + 1) b') none := by
  have := put_arr (rs' := b') h.2.1 hl
  exact ⟨this.1, grown_own h.2.2 this.2 (by omega)⟩
theorem Mem2.set1 {w wr : World} {T1 T2 : TypeId} {a b : List Int} (h : Mem2 w wr T1 T2 a b) (k : Nat) (z : Int) : Mem2 w (wr.setCell ⟨w.heap.size, k, none⟩ (.int .i64 z)) T1 T2 (a.set k z) b :=
  ⟨h.1.set k z, h.2.1.keepBut (grown_setCell wr ⟨w.heap.size, k, none⟩ (.int .i64 z)) (by simp), grown_own h.2.2 (grown_setCell wr ⟨w.heap.size, k, none⟩ (.int .i64 z)) (Nat.le_refl _)⟩
set_option maxRecDepth 100000 in
theorem conKeep_no (h : List Int) (v : Value) (b : List Int) (w : World) (hh : h.length = 80) (hv : Ints w v b) (hl : b.length ≠ 40) (hl2 : b.length ≤ 1000000000000000000) :
    Calls Try.prog 16 #[.agg (arrI h), v] w (KepE w (kpL h b) (kpE b)) := by
  obtain ⟨ad, c, rfl, hc, _⟩ := hv
  have M0 := hide (show Mem2 w _ 23 23 h (zeros 80) from laid2 w 23 23 h (zeros 80))
  have PU := M0.out.put2 (b' := zeros 80) rfl
  have PB := hide PU.1
  have ZL := hide (zeros_len 80)
  have hz := zero_arr z80
  have hne : ((b.length : Int) == 40) = false := beq_eq_false_iff_ne.2 (by omega)
  have F := hide (show KepE w (kpL h b) (kpE b) (.returned (.tuple #[.agg (arrI (zeros 80)), .int .i64 1])) _ from ⟨by rw [(kpL_no (h := h) hl).1, (kpL_no (h := h) hl).2], PU.2⟩)
  clear PU hl hh
  generalize KepE w (kpL h b) (kpE b) = T at *
  generalize zeros 80 = Z at *
  go_enter Try.func16, Try.ntmps16
  go_upto_region 1 with fail
  generalize (w.alloc (.cells (arrI h) 23)).alloc (.cells (arrI Z) 23) = W0 at *
  go_wp2_with (first | refine wpList_store_arr rfl 23 _ _ rfl _ Z Z rfl rfl M0.out.2.1 rfl (by rw [ZL.out]; exact size80c) ?_)
  have hlv := loadVar_arr PB.out _ Try.underlying23 rfl (by rw [ZL.out]; exact size80c)
  refine bodyPost_ret (v := .tuple #[.agg (arrI Z), .int .i64 1]) ?_ rfl F.out
  simp [results, Try.results16, asAddr, Act.put, hlv]
theorem kpFill_start (h b : List Int) (hh : h.length = 80) : FillN 80 (kpN h b) (40 + 0) (splI h 0 (prt h 40 40)) := by
  refine ⟨by rw [splI_len _ _ _ (by rw [prt_len]; omega)]; exact hh, fun j hj => ?_⟩
  rw [splI_nth _ _ _ (by rw [prt_len]; omega), if_neg (by omega), prt_len, if_pos (by omega), prt_nth _ _ _ _ (by omega)]
  unfold kpN
  rw [if_pos (by omega), show 40 + (j - 0) = j + 40 by omega]
set_option maxRecDepth 100000 in
theorem conKeep_yes (h : List Int) (v : Value) (b : List Int) (w : World) (hh : h.length = 80) (hv : Ints w v b) (hl : b.length = 40) :
    Calls Try.prog 16 #[.agg (arrI h), v] w (KepE w (kpL h b) (kpE b)) := by
  have IV := hide (fun wr (g : w.grownBy wr none) => Ints_keep hv g)
  obtain ⟨ad, c, rfl, hc, _⟩ := hv
  rw [hl] at IV hc ⊢
  have M0 := hide (show Mem2 w _ 23 23 h (zeros 80) from laid2 w 23 23 h (zeros 80))
  have ZL := hide (zeros_len 80)
  have HH := hide hh
  have HL := hide hl
  have F_ := hide (kpFill_start h b hh)
  have hz := zero_arr z80
  have F := hide (show ∀ w', w.grownBy w' none → KepE w (kpL h b) (kpE b) (.returned (.tuple #[.agg (arrI (kpA h b)), .int .i64 0])) w' from fun w' g => ⟨by rw [(kpL_yes (h := h) hl).1, (kpL_yes (h := h) hl).2], g⟩)
  clear hl hh
  generalize KepE w (kpL h b) (kpE b) = T at *
  generalize zeros 80 = Z at *
  go_enter Try.func16, Try.ntmps16
  go_upto_region 3 with fail
  generalize (w.alloc (.cells (arrI h) 23)).alloc (.cells (arrI Z) 23) = W0 at *
  clear hz
  refine wp_region_held_drew (S := GrownW w) (by kernel_rfl) (grown_drew M0.out.2.2) (fun hHeld => ?_)
  refine wpAnyH_take (i := 0) (v := .slice (some ⟨w.heap.size, 0, none⟩) 80 80) rfl (by kernel_rfl) (by kernel_rfl) (by kernel_rfl) (fun _ _ _ h => h) (Or.inl ⟨by rfl, ?ykp0⟩) hHeld ?rkp0
  case ykp0 => (intro w' hSw; go_simp; (try with_reducible rfl))
  (try simp only [Act.put, sL])
  refine wpAnyH_take (i := 1) (v := .slice (some ⟨w.heap.size, 40, none⟩) 40 40) rfl (by kernel_rfl) (by kernel_rfl) (by kernel_rfl) (fun _ _ _ h => h) (Or.inl ⟨by rfl, ?ykp1⟩) hHeld ?rkp1
  case ykp1 => (intro w' hSw; go_simp; (try with_reducible rfl))
  (try simp only [Act.put, sL])
  refine wpAnyH_ready (rs := [2]) (by kernel_rfl) (by simp) (AllReadyH.cons rfl (fun K hK => ?_) AllReadyH.nil)
  (try simp only [Act.put, sL])
  refine step_copyK rfl _ _ rfl w.heap.size 0 80 40 80 40 23 h (prt h 40 40) ⟨w.heap.size, 40, none⟩ (M0.out.1.keep (gw_start W0)) rfl rfl (prt_len _ _ _) (by omega) (fun j hj => by rw [Addr.add_mid, prt_nth _ _ _ _ hj]; exact (M0.out.1.keep (gw_start W0)).cell (40 + j) (by rw [HH.out]; omega)) (by rw [HH.out]; omega) ?_
  intro w1 b1 g1
  have B1 := hide b1
  have BB := hide ((M0.out.2.1.keep (gw_start W0)).keepBut g1 (by omega))
  have GM := hide (grown_own hHeld g1 (Nat.le_refl _))
  clear b1 g1 M0 hHeld
  refine hK.out _ _ GM.out (fun hHeld => ?_)
  clear hK
  (try simp only [Act.put, sL])
  refine wpAnyH_take (i := 3) (v := ?vkp3) rfl (by kernel_rfl) (by kernel_rfl) (by kernel_rfl) (fun _ _ _ h => h) (Or.inl ⟨by rfl, ?ykp3⟩) hHeld ?rkp3
  case ykp3 => (intro w' hSw; go_simp; (try with_reducible rfl))
  (try simp only [Act.put, sL])
  refine wpAnyH_done (by kernel_rfl) ?_ _
  have M1 := hide (show Mem2 w w1 23 23 (splI h 0 (prt h 40 40)) Z from ⟨B1.out, BB.out, GM.out⟩)
  clear B1 BB GM hHeld
  generalize splI h 0 (prt h 40 40) = H0 at *
  rw [show goInt ((40 : Nat) : Int) = .int .i64 40 from rfl]
  go_wp2_with fail
  go_loopw [18] (fun i wr => ∃ (m : Nat) (rs : List Int), i = .int .i64 (m : Int) ∧ m ≤ 40 ∧ Hid (FillN 80 (kpN h b) (40 + m) rs) ∧ Hid (Mem2 w wr 23 23 rs Z)) (fun i _ => 40 - (intOf i).toNat)
  case atStart => exact ⟨0, H0, rfl, Nat.zero_le _, F_.out, M1.out⟩
  case round =>
    obtain ⟨m, rs, rfl, hm, hF, hM⟩ := hrel
    clear M1 F_
    by_cases hm40 : m < 40
    · have i1 : (m : Int) < 40 := by omega
      have rl := hF.out.1
      obtain ⟨a, rfl, cx⟩ := Ints_cell (IV.out wr hM.out.2.2) m (by rw [HL.out]; omega)
      have cd := hM.out.1.cell (40 + m) (by omega)
      have fd := hM.out.1.free (40 + m)
      have NF := hide (fillN_step hF.out (show 40 + m < 80 by omega))
      have EK : kpN h b (40 + m) = c16 (nth b m) := by unfold kpN; rw [if_neg (by omega), show 40 + m - 40 = m by omega]
      rw [EK] at NF
      have NM := hide (hM.out.set1 (40 + m) (c16 (nth b m)))
      have RS := hide (conStopped_any (nth b m) wr)
      clear hF hM IV EK rl
      generalize hk : 40 + m = k at *
      have i3 : (40 : Int) + (m : Int) = (k : Int) := by omega
      have i4 : (k : Int) < 80 := by omega
      have HK := hide hk
      clear hk
      generalize nth b m = x at *
      generalize c16 x = z at *
      generalize nth rs k = y at *
      go_wp2_with fail
      refine RS.out.mono ?_
      rintro e w1 ⟨rfl, rfl⟩
      clear RS
      go_wp2_with fail
      go_roundw
      case rel => exact ⟨m + 1, _, by go_num, by omega, by rw [show 40 + (m + 1) = k + 1 by have := HK.out; omega]; exact NF.out, NM.out⟩
      case measure => first | (simp [intOf]; done) | (simp [intOf]; omega)
    · obtain rfl : m = 40 := by omega
      rw [show ((40 : Nat) : Int) = 40 from rfl]
      have ers : rs = kpA h b := fillN_all hF.out
      subst ers
      have PU := hM.out.put2 (b' := kpA h b) (by rw [kpA_len, ZL.out])
      have PB := hide PU.1
      have FF := hide (F.out _ PU.2)
      have KL := hide (kpA_len h b)
      have HM := hide hM.out
      clear hF hM PU IV F
      generalize kpA h b = R at *
      go_wp2_with (first | refine wpList_load_arr rfl 23 _ rfl _ rfl _ HM.out.1 _ Try.underlying23 rfl (by rw [KL.out]; exact size80c) ?_ | refine wpList_store_arr rfl 23 _ _ rfl _ Z R rfl rfl HM.out.2.1 (by rw [KL.out, ZL.out]) (by rw [ZL.out]; exact size80c) ?_)
      have hlv := loadVar_arr PB.out _ Try.underlying23 rfl (by rw [KL.out]; exact size80c)
      refine bodyPost_ret (v := .tuple #[.agg (arrI R), .int .i64 0]) ?_ rfl FF.out
      simp [results, Try.results16, asAddr, Act.put, hlv]
theorem conKeep_any (h : List Int) (v : Value) (b : List Int) (w : World) (hh : h.length = 80) (hv : Ints w v b) (hl2 : b.length ≤ 1000000000000000000) :
    Calls Try.prog 16 #[.agg (arrI h), v] w (KepE w (kpL h b) (kpE b)) := by
  by_cases hl : b.length = 40
  · exact conKeep_yes h v b w hh hv hl
  · exact conKeep_no h v b w hh hv hl hl2
end Go.Proofs.Ytekdgohomaeeeaa

/- BigM -/
namespace Go.Proofs.Ytekdgohomaeeeaa

end Go.Proofs.Ytekdgohomaeeeaa

/- BigN -/
namespace Go.Proofs.Ytekdgohomaeeeaa

end Go.Proofs.Ytekdgohomaeeeaa

/- RefPit -/
namespace Go.Proofs.Ytekdgohomaeeeaa
open Go.RowKit
set_option linter.unusedVariables false
set_option linter.unusedSimpArgs false
set_option maxHeartbeats 1000000
set_option maxRecDepth 100000 in
theorem refPast_any (h : List Int) (hh : h.length = 80) (lag : Int) (w : World) :
    Calls Try.prog 34 #[.agg (arrI h), .int .i64 lag] w (ListE w (pasL h lag) (pasE lag)) := by
  have B0 := hide (Blk.new w 23 h)
  have G0 := hide (grown_alloc w (.cells (arrI h) 23) none)
  have N0 := hide (show w.heap.size + 1 ≤ (w.alloc (.cells (arrI h) 23)).heap.size by simp)
  by_cases hlag : 20 ≤ lag ∧ lag ≤ 79
  · obtain ⟨L, rfl⟩ : ∃ L : Nat, lag = (L : Int) := ⟨lag.toNat, by omega⟩
    obtain ⟨e1, e2⟩ := pasL_yes h L (by omega) (by omega)
    rw [e1, e2]
    obtain ⟨l1, l2⟩ := hlag
    clear e1 e2
    go_enter Try.func34, Try.ntmps34
    go_wp2_with fail
    generalize w.alloc (.cells (arrI h) 23) = W0 at *
    go_loopw [6, 7] (fun vo i wr => ∃ (m : Nat), i = .int .i64 m ∧ m ≤ 40 ∧ Hid (Own (w.heap.size + 1) wr vo (tab m (pasN h L))) ∧ Hid (Blk wr w.heap.size 23 h) ∧ Hid (w.grownBy wr none) ∧ Hid (w.heap.size + 1 ≤ wr.heap.size)) (fun _ i _ => 40 - (intOf i).toNat)
    case atStart => exact ⟨0, rfl, Nat.zero_le _, Own_nil _ _, B0.out, G0.out, N0.out⟩
    case round =>
      obtain ⟨m, rfl, hm, hO, hB, hG, hN⟩ := hrel
      clear B0 G0 N0
      by_cases hm40 : m < 40
      · have hj : 80 - L + m % L < 80 := by have := Nat.mod_lt m (show 0 < L by omega); omega
        have cx := hB.out.cell (80 - L + m % L) (by omega)
        rw [show nth h (80 - L + m % L) = pasN h L m from rfl] at cx
        have ES := hide (show tab (m + 1) (pasN h L) = tab m (pasN h L) ++ [pasN h L m] by unfold tab; rw [List.range_succ]; simp)
        have LN := hide (tab_len m (pasN h L))
        have i1 : (m : Int) < 40 := by omega
        generalize pasN h L m = z at *
        go_wp2_with (at_builtin; refine wpList_append_both (by rfl) _ _ rfl (w.heap.size + 1) _ (.slice (some ⟨wr.heap.size, 0, none⟩) 1 1) (tab m (pasN h L)) [z] rfl rfl (hO.out.keep (grown_alloc _ _ none)) (ints_lit wr z) (.inr ⟨_, _, rfl⟩) (by rw [LN.out]; simp; omega) (by have := hN.out; simp; omega) ?_)
        intro v5 w5 h5 g5
        rw [← ES.out] at h5
        have O5 := hide h5
        have ga := grown_alloc wr (.cells #[.int .i64 z] 3) none
        have hlt : ∀ b, u6.ownBlock = some b → w.heap.size + 1 ≤ b := fun b hb => (hO.out.lt b hb).1
        have B5 := hide (show Blk w5 w.heap.size 23 h from by
          have hB' := hB.out.keep ga
          rcases eb : u6.ownBlock with _ | b
          · rw [eb] at g5; exact hB'.keep g5
          · have := hlt b eb
            rw [eb] at g5; exact hB'.keepBut g5 (by omega))
        have G5 := hide (grown_own' (grown_none hG.out ga) g5 (fun b hb => by have := hlt b hb; omega))
        have N5 := hide (Nat.le_trans (Nat.le_trans hN.out ga.size) g5.size)
        clear h5 g5 ga hlt hO hB hG hN cx ES LN
        go_wp2_with fail
        go_roundw
        case rel => exact ⟨m + 1, by go_num, by omega, O5.out, B5.out, G5.out, N5.out⟩
        case measure => simp [intOf]; omega
      · obtain rfl : m = 40 := by omega
        have OF := hide (hO.out.base (b' := w.heap.size) (by omega))
        have GF := hG
        clear hO hB hG hN
        go_wp2_with fail
        go_ret2
        exact ⟨_, rfl, OF.out, GF.out⟩
  · rw [show pasL h lag = [] from if_neg hlag, show pasE lag = 2 from if_neg hlag]
    by_cases h1 : lag < 20
    · clear hlag
      go_enter Try.func34, Try.ntmps34
      go_wp2_with fail
      go_ret2
      exact ⟨_, rfl, Own_nil _ _, G0.out⟩
    · have h2 : 79 < lag := by omega
      clear hlag
      go_enter Try.func34, Try.ntmps34
      go_wp2_with fail
      go_ret2
      exact ⟨_, rfl, Own_nil _ _, G0.out⟩
end Go.Proofs.Ytekdgohomaeeeaa

/- BigQ -/
namespace Go.Proofs.Ytekdgohomaeeeaa

end Go.Proofs.Ytekdgohomaeeeaa

/- BigR -/
namespace Go.Proofs.Ytekdgohomaeeeaa
open Go.RowKit
set_option linter.unusedVariables false
set_option maxHeartbeats 1000000
structure Turns (f : Nat → Prop) (w w' : World) : Prop where
  os : w'.os = w.os
  tape : w'.tape = w.tape
  output : w'.output = w.output
  size : w.heap.size ≤ w'.heap.size
  block : ∀ k, k < w.heap.size → ¬ f k → w'.heap[k]? = w.heap[k]?
theorem Turns.of {w w' : World} {r : Option Nat} {f : Nat → Prop} (h : w.grownBy w' r) (hf : ∀ k, r = some k → k < w.heap.size → f k) : Turns f w w' :=
  ⟨h.os, h.tape, h.output, h.size, fun k hk hn => h.block k hk (fun e => hn (hf k e.symm hk))⟩
theorem Turns.then {a b c : World} {f g : Nat → Prop} (h : Turns f a b) (k : Turns g b c) (hg : ∀ i, i < a.heap.size → g i → f i) : Turns f a c :=
  ⟨k.os.trans h.os, k.tape.trans h.tape, k.output.trans h.output, Nat.le_trans h.size k.size, fun i hi hn => by
    rw [k.block i (Nat.lt_of_lt_of_le hi h.size) (fun e => hn (hg i hi e)), h.block i hi hn]⟩
end Go.Proofs.Ytekdgohomaeeeaa

/- BigU -/
namespace Go.Proofs.Ytekdgohomaeeeaa

end Go.Proofs.Ytekdgohomaeeeaa

/- BigZ -/
namespace Go.Proofs.Ytekdgohomaeeeaa

end Go.Proofs.Ytekdgohomaeeeaa

/- GaiF -/
namespace Go.Proofs.Ytekdgohomaeeeaa

end Go.Proofs.Ytekdgohomaeeeaa

/- RefFad -/
namespace Go.Proofs.Ytekdgohomaeeeaa

end Go.Proofs.Ytekdgohomaeeeaa

/- RefMemB -/
namespace Go.Proofs.Ytekdgohomaeeeaa
open Go.RowKit
set_option linter.unusedVariables false
set_option linter.unusedSimpArgs false
set_option maxHeartbeats 2000000
theorem Mem3.put2 {w wr : World} {T1 T2 T3 : TypeId} {a b c b' : List Int} (h : Mem3 w wr T1 T2 T3 a b c) (hl : b'.length = b.length) : Blk (putArr wr (w.heap.size + 1) b') (w.heap.size + 1) T2 b' ∧ w.grownBy (putArr wr (w.heap.size + 1) b') none := by
  have := put_arr (rs' := b') h.2.1 hl
  exact ⟨this.1, grown_own h.2.2.2 this.2 (by omega)⟩
theorem mem3_new (w : World) (T1 T2 T3 : TypeId) (a b c : List Int) : Mem3 w (((w.alloc (.cells (arrI a) T1)).alloc (.cells (arrI b) T2)).alloc (.cells (arrI c) T3)) T1 T2 T3 a b c := by
  refine ⟨((Blk.new w T1 a).keep (grown_alloc _ _ none)).keep (grown_alloc _ _ none), ?_, ?_, grown_none (grown_none (grown_alloc _ _ none) (grown_alloc _ _ none)) (grown_alloc _ _ none)⟩
  · have := (Blk.new (w.alloc (.cells (arrI a) T1)) T2 b).keep (grown_alloc _ (.cells (arrI c) T3) none)
    simpa using this
  · have := Blk.new ((w.alloc (.cells (arrI a) T1)).alloc (.cells (arrI b) T2)) T3 c
    simpa using this
set_option maxRecDepth 100000 in
theorem refKeep_no (h : List Int) (v : Value) (b : List Int) (w : World) (hh : h.length = 80) (hv : Ints w v b) (hl : b.length ≠ 40) (hl2 : b.length ≤ 1000000000000000000) :
    Calls Try.prog 17 #[.agg (arrI h), v] w (KepE w (kpL h b) (kpE b)) := by
  obtain ⟨ad, c, rfl, hc, _⟩ := hv
  have M0 := hide (mem3_new w 23 23 23 h (zeros 80) (zeros 80))
  have PU := M0.out.put2 (b' := zeros 80) rfl
  have PB := hide PU.1
  have ZL := hide (zeros_len 80)
  have hz := zero_arr z80
  have hne : ((b.length : Int) == 40) = false := beq_eq_false_iff_ne.2 (by omega)
  have F := hide (show KepE w (kpL h b) (kpE b) (.returned (.tuple #[.agg (arrI (zeros 80)), .int .i64 1])) _ from ⟨by rw [(kpL_no (h := h) hl).1, (kpL_no (h := h) hl).2], PU.2⟩)
  clear PU hl hh
  generalize KepE w (kpL h b) (kpE b) = T at *
  generalize zeros 80 = Z at *
  go_enter Try.func17, Try.ntmps17
  go_upto_region 2 with fail
  generalize ((w.alloc (.cells (arrI h) 23)).alloc (.cells (arrI Z) 23)).alloc (.cells (arrI Z) 23) = W0 at *
  go_wp2_with (first | refine wpList_load_arr rfl 23 _ rfl _ rfl _ M0.out.2.2.1 _ Try.underlying23 rfl (by rw [ZL.out]; exact size80c) ?_ | refine wpList_store_arr rfl 23 _ _ rfl _ Z Z rfl rfl M0.out.2.1 rfl (by rw [ZL.out]; exact size80c) ?_)
  have hlv := loadVar_arr PB.out _ Try.underlying23 rfl (by rw [ZL.out]; exact size80c)
  refine bodyPost_ret (v := .tuple #[.agg (arrI Z), .int .i64 1]) ?_ rfl F.out
  simp [results, Try.results17, asAddr, Act.put, hlv]
set_option maxRecDepth 100000 in
theorem refKeep_yes (h : List Int) (v : Value) (b : List Int) (w : World) (hh : h.length = 80) (hv : Ints w v b) (hl : b.length = 40) (h64 : In64 b) :
    Calls Try.prog 17 #[.agg (arrI h), v] w (KepE w (kpL h b) (kpE b)) := by
  have IV := hide (fun wr (g : w.grownBy wr none) => Ints_keep hv g)
  obtain ⟨ad, c, rfl, hc, _⟩ := hv
  rw [hl] at IV ⊢
  have M0 := hide (mem3_new w 23 23 23 h (zeros 80) (zeros 80))
  have ZL := hide (zeros_len 80)
  have HH := hide hh
  have HL := hide hl
  have H64 := hide h64
  have F_ := hide (fillN_start 80 (kpN h b))
  have hz := zero_arr z80
  have F := hide (show ∀ w', w.grownBy w' none → KepE w (kpL h b) (kpE b) (.returned (.tuple #[.agg (arrI (kpA h b)), .int .i64 0])) w' from fun w' g => ⟨by rw [(kpL_yes (h := h) hl).1, (kpL_yes (h := h) hl).2], g⟩)
  clear hl hh h64
  generalize KepE w (kpL h b) (kpE b) = T at *
  generalize zeros 80 = Z at *
  go_enter Try.func17, Try.ntmps17
  go_upto_region 2 with fail
  generalize ((w.alloc (.cells (arrI h) 23)).alloc (.cells (arrI Z) 23)).alloc (.cells (arrI Z) 23) = W0 at *
  go_wp2_with fail
  clear hz
  go_loopw [12] (fun i wr => ∃ (m : Nat) (rs : List Int), i = .int .i64 (m : Int) ∧ m ≤ 80 ∧ Hid (FillN 80 (kpN h b) m rs) ∧ Hid (Mem3 w wr 23 23 23 h Z rs)) (fun i _ => 80 - (intOf i).toNat)
  case atStart => exact ⟨0, Z, rfl, Nat.zero_le _, F_.out, M0.out⟩
  case round =>
    obtain ⟨m, rs, rfl, hm, hF, hM⟩ := hrel
    clear M0 F_
    by_cases hm80 : m < 80
    · have i1 : (m : Int) < 80 := by omega
      have rl := hF.out.1
      have cd := hM.out.2.2.1.cell m (by omega)
      have fd := hM.out.2.2.1.free m
      have NF := hide (fillN_step hF.out hm80)
      by_cases hm40 : m < 40
      · have i2 : (m : Int) < 40 := by omega
        have ch := hM.out.1.cell (m + 40) (by rw [HH.out]; omega)
        have EK : kpN h b m = nth h (m + 40) := if_pos hm40
        rw [EK] at NF
        have NM := hide (hM.out.set3 m (nth h (m + 40)))
        clear hF hM IV EK rl
        generalize nth h (m + 40) = x at *
        generalize nth rs m = y at *
        go_wp2_with fail
        go_roundw
        case rel => exact ⟨m + 1, _, by go_num, by omega, NF.out, NM.out⟩
        case measure => first | (simp [intOf]; done) | (simp [intOf]; omega)
      · obtain ⟨k, hk⟩ : ∃ k, m - 40 = k := ⟨_, rfl⟩
        obtain ⟨a, rfl, cx⟩ := Ints_cell (IV.out wr hM.out.2.2.2) k (by rw [HL.out]; omega)
        have x64 := H64.out k
        have EK : kpN h b m = c16 (nth b k) := by unfold kpN; rw [if_neg (by omega), hk]
        rw [EK] at NF
        have RS := hide (refS_any (nth b k) wr x64.1 x64.2)
        have HM := hide hM.out
        have i2 : ¬ (m : Int) < 40 := by omega
        have i3 : (m : Int) - 40 = (k : Int) := by omega
        have i4 : (k : Int) < 40 := by omega
        clear hF hM IV EK H64 hk
        generalize nth b k = x at *
        generalize c16 x = z at *
        go_wp2_with fail
        refine RS.out.mono ?_
        rintro e w1 ⟨rfl, g1⟩
        have M1 := hide (HM.out.keep g1)
        have cd1 := M1.out.2.2.1.cell m (by omega)
        have fd1 := M1.out.2.2.1.free m
        have NM := hide (M1.out.set3 m z)
        clear RS g1 HM M1 cd fd cx rl
        generalize nth rs m = y at *
        go_wp2_with fail
        go_roundw
        case rel => exact ⟨m + 1, _, by go_num, by omega, NF.out, NM.out⟩
        case measure => first | (simp [intOf]; done) | (simp [intOf]; omega)
    · obtain rfl : m = 80 := by omega
      rw [show ((80 : Nat) : Int) = 80 from rfl]
      have ers : rs = kpA h b := fillN_all hF.out
      subst ers
      have PU := hM.out.put2 (b' := kpA h b) (by rw [kpA_len, ZL.out])
      have PB := hide PU.1
      have FF := hide (F.out _ PU.2)
      have KL := hide (kpA_len h b)
      have HM := hide hM.out
      clear hF hM PU IV F
      generalize kpA h b = R at *
      go_wp2_with (first | refine wpList_load_arr rfl 23 _ rfl _ rfl _ HM.out.2.2.1 _ Try.underlying23 rfl (by rw [KL.out]; exact size80c) ?_ | refine wpList_store_arr rfl 23 _ _ rfl _ Z R rfl rfl HM.out.2.1 (by rw [KL.out, ZL.out]) (by rw [ZL.out]; exact size80c) ?_)
      have hlv := loadVar_arr PB.out _ Try.underlying23 rfl (by rw [KL.out]; exact size80c)
      refine bodyPost_ret (v := .tuple #[.agg (arrI R), .int .i64 0]) ?_ rfl FF.out
      simp [results, Try.results17, asAddr, Act.put, hlv]
theorem refKeep_any (h : List Int) (v : Value) (b : List Int) (w : World) (hh : h.length = 80) (h64 : In64 b) (hv : Ints w v b) (hl2 : b.length ≤ 1000000000000000000) :
    Calls Try.prog 17 #[.agg (arrI h), v] w (KepE w (kpL h b) (kpE b)) := by
  by_cases hl : b.length = 40
  · exact refKeep_yes h v b w hh hv hl h64
  · exact refKeep_no h v b w hh hv hl hl2
theorem take_next (l : List Int) (k : Nat) (h : k < l.length) : l.take (k + 1) = l.take k ++ [nth l k] := by
  rw [List.take_add_one, List.getElem?_eq_getElem h]
  simp [nth, List.getD, h]
set_option maxRecDepth 100000 in
theorem refMixE_size (h : List Int) (lag g : Int) (v : Value) (b : List Int) (w : World) (hv : Ints w v b) (hl : b.length ≠ 40) (hl2 : b.length ≤ 1000000000000000000) :
    Calls Try.prog 15 #[.agg (arrI h), .int .i64 lag, .int .i64 g, v] w (ListE w (mxL h lag g b) (mxE lag g b)) := by
  obtain ⟨ad, c, rfl, hc, _⟩ := hv
  have hne : ((b.length : Int) == 40) = false := beq_eq_false_iff_ne.2 (by omega)
  have F := hide (show ∀ w', w.grownBy w' none → ListE w (mxL h lag g b) (mxE lag g b) (.returned (.tuple #[.slice none 0 0, .int .i64 1])) w' from fun w' q => ⟨_, by rw [(mxL_size (h := h) hl).2], by rw [(mxL_size (h := h) hl).1]; exact Own_nil _ _, q⟩)
  have G0 := hide (grown_alloc w (.cells (arrI h) 23) none)
  clear hl
  generalize ListE w (mxL h lag g b) (mxE lag g b) = T at *
  go_enter Try.func15, Try.ntmps15
  go_upto_region 1 with fail
  generalize w.alloc (.cells (arrI h) 23) = W0 at *
  go_wp2_with fail
  exact F.out _ G0.out
set_option maxRecDepth 100000 in
theorem refMixE_range (h : List Int) (lag g : Int) (v : Value) (b : List Int) (w : World) (hv : Ints w v b) (hl : b.length = 40) (hr : lag < 20 ∨ 79 < lag ∨ g < 0 ∨ 32767 < g) :
    Calls Try.prog 15 #[.agg (arrI h), .int .i64 lag, .int .i64 g, v] w (ListE w (mxL h lag g b) (mxE lag g b)) := by
  obtain ⟨ad, c, rfl, hc, _⟩ := hv
  have q : ¬ mxO lag g b := by unfold mxO; omega
  have F := hide (show ∀ w', w.grownBy w' none → ListE w (mxL h lag g b) (mxE lag g b) (.returned (.tuple #[.slice none 0 0, .int .i64 2])) w' from fun w' k => ⟨_, by rw [(mxL_range (h := h) hl q).2], by rw [(mxL_range (h := h) hl q).1]; exact Own_nil _ _, k⟩)
  have G0 := hide (grown_alloc w (.cells (arrI h) 23) none)
  rw [hl] at hc ⊢
  clear hl q
  generalize ListE w (mxL h lag g b) (mxE lag g b) = T at *
  by_cases h1 : lag < 20
  · clear hr
    go_enter Try.func15, Try.ntmps15
    go_upto_region 1 with fail
    generalize w.alloc (.cells (arrI h) 23) = W0 at *
    go_wp2_with fail
    exact F.out _ G0.out
  · by_cases h2 : 79 < lag
    · clear hr
      go_enter Try.func15, Try.ntmps15
      go_upto_region 1 with fail
      generalize w.alloc (.cells (arrI h) 23) = W0 at *
      go_wp2_with fail
      exact F.out _ G0.out
    · by_cases h3 : g < 0
      · clear hr
        go_enter Try.func15, Try.ntmps15
        go_upto_region 1 with fail
        generalize w.alloc (.cells (arrI h) 23) = W0 at *
        go_wp2_with fail
        exact F.out _ G0.out
      · have h4 : 32767 < g := by omega
        clear hr
        go_enter Try.func15, Try.ntmps15
        go_upto_region 1 with fail
        generalize w.alloc (.cells (arrI h) 23) = W0 at *
        go_wp2_with fail
        exact F.out _ G0.out
set_option maxRecDepth 100000 in
theorem refMixE_yes (h : List Int) (lag g : Int) (v : Value) (b : List Int) (w : World) (hh : h.length = 80) (h64 : In64 h) (hv : Ints w v b) (hb64 : In64 b) (hk : mxO lag g b) :
    Calls Try.prog 15 #[.agg (arrI h), .int .i64 lag, .int .i64 g, v] w (ListE w (mxL h lag g b) (mxE lag g b)) := by
  obtain ⟨hl, ⟨l0, l9⟩, g0, g9⟩ := id hk
  have IV := hide (fun wr (q : w.grownBy wr none) => Ints_keep hv q)
  obtain ⟨ad, c, rfl, hc, _⟩ := hv
  rw [hl] at IV ⊢
  obtain ⟨pe, pl⟩ : pasE lag = 0 ∧ (pasL h lag).length = 40 := by
    unfold pasE pasL
    rw [if_pos ⟨l0, l9⟩, if_pos ⟨l0, l9⟩]
    exact ⟨rfl, pasV_len _ _⟩
  have PS := hide (fun w' => refPast_any h hh lag w')
  rw [pe] at PS
  have P64 := hide (show In64 (pasL h lag) from fun i => by
    unfold pasL
    rw [if_pos ⟨l0, l9⟩]
    by_cases hi : i < 40
    · rw [show nth (pasV h lag.toNat) i = pasN h lag.toNat i from tab_nth _ _ _ hi]; exact h64 _
    · rw [getD_out _ i (by rw [pasV_len]; omega)]; omega)
  have F := hide (show ∀ v' w', Own w.heap.size w' v' (mxA (pasL h lag) g b) → w.grownBy w' none → ListE w (mxL h lag g b) (mxE lag g b) (.returned (.tuple #[v', .int .i64 0])) w' from fun v' w' o q => ⟨v', by rw [(mxL_yes (h := h) hk).2], by rw [(mxL_yes (h := h) hk).1]; exact o, q⟩)
  have LL := hide (mxA_len (pasL h lag) g b)
  have LN := hide (fun m (hm : m < 40) => mxA_nth (pasL h lag) g b m hm)
  have B0 := hide (Blk.new w 23 h)
  have G0 := hide (grown_alloc w (.cells (arrI h) 23) none)
  have HB := hide hb64
  have BL := hide hl
  have VL := hide pl
  have S80 := hide (show (Try.prog.info? 23).map (·.size) = some h.length by rw [hh]; exact size80c)
  have RS := hide (fun (x : Int) (u : World) (p : -9223372036854775808 ≤ x) (q : x ≤ 9223372036854775807) => refS_any x u p q)
  clear hl hk hh h64 hb64 pe pl hc
  generalize ListE w (mxL h lag g b) (mxE lag g b) = T at *
  generalize hL : mxA (pasL h lag) g b = L at *
  clear hL
  generalize pasL h lag = V at *
  go_enter Try.func15, Try.ntmps15
  go_upto_region 1 with fail
  generalize w.alloc (.cells (arrI h) 23) = W0 at *
  go_wp2_with (refine wpList_load_arr rfl 23 _ rfl w.heap.size rfl h B0.out _ Try.underlying23 rfl S80.out ?_)
  refine (PS.out W0).mono ?_
  rintro e W2 ⟨v2, rfl, o2, g2⟩
  obtain ⟨gv, cv', rfl, _, _, _⟩ := o2.form (by rw [VL.out]; omega)
  have G2 := hide (grown_none G0.out g2)
  have OV := hide o2
  clear o2 g2 PS B0 G0 S80
  rw [VL.out] at OV ⊢
  go_wp2_with fail
  go_loopw [12, 39] (fun o i wr => ∃ m : Nat, i = .int .i64 (m : Int) ∧ m ≤ 40 ∧ Hid (Own W2.heap.size wr o (L.take m) ∧ W2.grownBy wr none)) (fun _ i _ => 40 - (intOf i).toNat)
  case atStart => exact ⟨0, rfl, Nat.zero_le _, by rw [List.take_zero]; exact Own_nil _ _, grown_refl _ _⟩
  case round =>
    obtain ⟨m, rfl, hm, hN⟩ := hrel
    by_cases hm40 : m < 40
    · have i1 : (m : Int) < 40 := by omega
      have cv := OV.out.cell VL.out.symm m (by rw [VL.out]; exact hm40)
      obtain ⟨a, rfl, cb⟩ := Ints_cell (IV.out W2 G2.out) m (by rw [BL.out]; exact hm40)
      obtain ⟨x1, x2⟩ := P64.out m
      obtain ⟨y1, y2⟩ := HB.out m
      have EN := hide (take_next L m (by rw [LL.out]; exact hm40))
      rw [LN.out m hm40] at EN
      unfold mxN at EN
      have bx := c16_bd (nth V m)
      have by' := c16_bd (nth b m)
      have bg : -1073709056 ≤ c16 (nth V m) * g ∧ c16 (nth V m) * g ≤ 1073741824 := mul16_bd _ _ bx.1 bx.2 (by omega) g9
      clear IV P64 HB LN
      generalize nth V m = x at *
      generalize nth b m = y at *
      have W1 := wrapI (c16 x * g) (by omega) (by omega)
      have W2' := wrapI (c16 x * g + 8192) (by omega) (by omega)
      have W3 := wrapI ((c16 x * g + 8192) / 16384 + c16 y) (by omega) (by omega)
      go_upto_region 10 with fail
      refine wp_region_held_drew (S := GrownW W2) (by kernel_rfl) (gw_trans hN.out.2 (grown_drew (grown_refl _ none))) (fun hHeld => ?_)
      have OA := hide (hN.out.1.keep (grown_drew (grown_refl wr none)))
      clear hN
      generalize wr.drew = wd at *
      refine wpAnyH_take (i := 0) (v := ?vmx0) rfl (by kernel_rfl) (by kernel_rfl) (by kernel_rfl) (fun _ _ _ h => h) (Or.inl ⟨by rfl, ?ymx0⟩) hHeld ?rmx0
      case ymx0 => (intro w' hSw; go_simp; (try with_reducible rfl))
      (try simp only [Act.put, sL])
      refine wpAnyH_take (i := 1) (v := ?vmx1) rfl (by kernel_rfl) (by kernel_rfl) (by kernel_rfl) (fun _ _ _ h => h) (Or.inl ⟨by rfl, ?ymx1⟩) hHeld ?rmx1
      case ymx1 => (intro w' hSw; go_simp; (try with_reducible rfl))
      (try simp only [Act.put, sL])
      refine wpAnyH_take (i := 2) (v := ?vmx2) rfl (by kernel_rfl) (by kernel_rfl) (by kernel_rfl) (fun _ _ _ h => h) (Or.inl ⟨by rfl, ?ymx2⟩) hHeld ?rmx2
      case ymx2 => (intro w' hSw; go_simp; (try with_reducible rfl))
      (try simp only [Act.put, sL])
      refine wpAnyH_take (i := 3) (v := ?vmx3) rfl (by kernel_rfl) (by kernel_rfl) (by kernel_rfl) (fun _ _ _ h => h) (Or.inl ⟨by rfl, ?ymx3⟩) hHeld ?rmx3
      case ymx3 => (intro w' hSw; go_simp; (try with_reducible rfl))
      (try simp only [Act.put, sL])
      refine wpAnyH_take (i := 4) (v := .int .i64 x) rfl (by kernel_rfl) (by kernel_rfl) (by kernel_rfl) (fun _ _ _ h => h) (Or.inl ⟨by rfl, ?ymx4⟩) hHeld ?rmx4
      case ymx4 => (intro w' hSw; have cc := grown_keep hSw cv; go_simp; (try with_reducible rfl))
      (try simp only [Act.put, sL])
      refine wpAnyH_take (i := 6) (v := ?vmx6) rfl (by kernel_rfl) (by kernel_rfl) (by kernel_rfl) (fun _ _ _ h => h) (Or.inl ⟨by rfl, ?ymx6⟩) hHeld ?rmx6
      case ymx6 => (intro w' hSw; go_simp; (try with_reducible rfl))
      (try simp only [Act.put, sL])
      refine wpAnyH_take (i := 10) (v := ?vmx10) rfl (by kernel_rfl) (by kernel_rfl) (by kernel_rfl) (fun _ _ _ h => h) (Or.inl ⟨by rfl, ?ymx10⟩) hHeld ?rmx10
      case ymx10 => (intro w' hSw; go_simp; (try with_reducible rfl))
      (try simp only [Act.put, sL])
      refine wpAnyH_take (i := 11) (v := ?vmx11) rfl (by kernel_rfl) (by kernel_rfl) (by kernel_rfl) (fun _ _ _ h => h) (Or.inl ⟨by rfl, ?ymx11⟩) hHeld ?rmx11
      case ymx11 => (intro w' hSw; go_simp; (try with_reducible rfl))
      (try simp only [Act.put, sL])
      refine wpAnyH_take (i := 12) (v := ?vmx12) rfl (by kernel_rfl) (by kernel_rfl) (by kernel_rfl) (fun _ _ _ h => h) (Or.inl ⟨by rfl, ?ymx12⟩) hHeld ?rmx12
      case ymx12 => (intro w' hSw; go_simp; (try with_reducible rfl))
      (try simp only [Act.put, sL])
      refine wpAnyH_take (i := 13) (v := .int .i64 y) rfl (by kernel_rfl) (by kernel_rfl) (by kernel_rfl) (fun _ _ _ h => h) (Or.inl ⟨by rfl, ?ymx13⟩) hHeld ?rmx13
      case ymx13 => (intro w' hSw; have cc := grown_keep hSw cb; go_simp; (try with_reducible rfl))
      (try simp only [Act.put, sL])
      refine wpAnyH_ready (rs := [5]) (by kernel_rfl) (by simp) (AllReadyH.cons rfl (fun K hK => ?_) AllReadyH.nil)
      (try simp only [Act.put, sL])
      go_simp
      refine (RS.out x _ x1 x2).mono ?_
      rintro e w1 ⟨rfl, g1⟩
      have G1 := hide g1
      clear g1
      go_wp2_with fail
      refine hK.out _ _ (gw_trans hHeld G1.out) (fun hHeld => ?_)
      clear hK
      (try simp only [Act.put, sL])
      replace OA := hide (OA.out.keep G1.out)
      clear G1
      refine wpAnyH_take (i := 7) (v := .int .i64 (c16 x * g)) rfl (by kernel_rfl) (by kernel_rfl) (by kernel_rfl) (fun _ _ _ h => h) (Or.inl ⟨by rfl, ?ymx7⟩) hHeld ?rmx7
      case ymx7 => (intro w' hSw; go_simp; (try simp only [W1]))
      (try simp only [Act.put, sL])
      refine wpAnyH_take (i := 8) (v := .int .i64 (c16 x * g + 8192)) rfl (by kernel_rfl) (by kernel_rfl) (by kernel_rfl) (fun _ _ _ h => h) (Or.inl ⟨by rfl, ?ymx8⟩) hHeld ?rmx8
      case ymx8 => (intro w' hSw; go_simp; (try simp only [W2']))
      (try simp only [Act.put, sL])
      refine wpAnyH_ready (rs := [9]) (by kernel_rfl) (by simp) (AllReadyH.cons rfl (fun K hK => ?_) AllReadyH.nil)
      (try simp only [Act.put, sL])
      go_simp
      refine (down_any (c16 x * g + 8192) 14 (by omega) (by omega) (by omega) _).mono ?_
      rintro e w2 ⟨rfl, g2⟩
      have G2 := hide g2
      clear g2
      rw [show ((2 : Int) ^ 14) = 16384 from rfl]
      go_wp2_with fail
      refine hK.out _ _ (gw_trans hHeld G2.out) (fun hHeld => ?_)
      clear hK
      (try simp only [Act.put, sL])
      replace OA := hide (OA.out.keep G2.out)
      clear G2
      refine wpAnyH_ready (rs := [14]) (by kernel_rfl) (by simp) (AllReadyH.cons rfl (fun K hK => ?_) AllReadyH.nil)
      (try simp only [Act.put, sL])
      go_simp
      refine (RS.out y _ y1 y2).mono ?_
      rintro e w3 ⟨rfl, g3⟩
      have G3 := hide g3
      clear g3
      go_wp2_with fail
      refine hK.out _ _ (gw_trans hHeld G3.out) (fun hHeld => ?_)
      clear hK
      (try simp only [Act.put, sL])
      replace OA := hide (OA.out.keep G3.out)
      clear G3
      refine wpAnyH_take (i := 15) (v := .int .i64 ((c16 x * g + 8192) / 16384 + c16 y)) rfl (by kernel_rfl) (by kernel_rfl) (by kernel_rfl) (fun _ _ _ h => h) (Or.inl ⟨by rfl, ?ymx15⟩) hHeld ?rmx15
      case ymx15 => (intro w' hSw; go_simp; (try simp only [W3]))
      (try simp only [Act.put, sL])
      refine wpAnyH_ready (rs := [16]) (by kernel_rfl) (by simp) (AllReadyH.cons rfl (fun K hK => ?_) AllReadyH.nil)
      (try simp only [Act.put, sL])
      go_simp
      refine (RS.out ((c16 x * g + 8192) / 16384 + c16 y) _ (by omega) (by omega)).mono ?_
      rintro e w4 ⟨rfl, g4⟩
      have G4 := hide g4
      clear g4
      go_wp2_with fail
      refine hK.out _ _ (gw_trans hHeld G4.out) (fun hHeld => ?_)
      clear hK
      (try simp only [Act.put, sL])
      replace OA := hide (OA.out.keep G4.out)
      clear G4
      refine wpAnyH_ready (rs := [17]) (by kernel_rfl) (by simp) (AllReadyH.cons rfl (fun K hK => ?_) AllReadyH.nil)
      (try simp only [Act.put, sL])
      go_simp
      go_wp2_with fail
      refine hK.out _ _ (gw_alloc hHeld _) (fun hHeld => ?_)
      clear hK
      (try simp only [Act.put, sL])
      replace OA := hide (OA.out.keep (grown_alloc w4 (.cells #[.int .i64 (c16 ((c16 x * g + 8192) / 16384 + c16 y))] 3) none))
      refine wpAnyH_ready (rs := [18]) (by kernel_rfl) (by simp) (AllReadyH.cons rfl (fun K hK => ?_) AllReadyH.nil)
      (try simp only [Act.put, sL])
      refine step_app rfl _ _ rfl W2.heap.size _ _ (L.take m) [c16 ((c16 x * g + 8192) / 16384 + c16 y)] rfl rfl OA.out (ints_lit w4 _) (by simp) (by have := LL.out; simp; omega) (by have := hHeld.size; simpa using this) ?_
      intro v5 w5 o5 g5 _
      have O5 := hide o5
      clear o5
      refine hK.out _ _ (grown_own' hHeld g5 (fun c hc => (OA.out.lt c hc).1)) (fun hHeld => ?_)
      clear hK
      (try simp only [Act.put, sL])
      clear g5 OA
      refine wpAnyH_take (i := 19) (v := ?vmx19) rfl (by kernel_rfl) (by kernel_rfl) (by kernel_rfl) (fun _ _ _ h => h) (Or.inl ⟨by rfl, ?ymx19⟩) hHeld ?rmx19
      case ymx19 => (intro w' hSw; go_simp; (try with_reducible rfl))
      (try simp only [Act.put, sL])
      refine wpAnyH_done (by kernel_rfl) ?_ _
      have NN := hide (show Own W2.heap.size w5 v5 (L.take (m + 1)) ∧ W2.grownBy w5 none from ⟨by rw [EN.out]; exact O5.out, hHeld⟩)
      clear O5 hHeld EN
      go_wp2_with fail
      go_roundw
      case rel => exact ⟨m + 1, by go_num, by omega, NN.out⟩
      case measure => first | (simp [intOf]; done) | (simp [intOf]; omega)
    · obtain rfl : m = 40 := by omega
      rw [show ((40 : Nat) : Int) = 40 from rfl]
      have FF := hide (F.out _ _ (by have := hN.out.1; rw [List.take_of_length_le (by rw [LL.out]; omega)] at this; exact this.base G2.out.size) (grown_none G2.out hN.out.2))
      clear hN F IV
      go_wp2_with fail
      exact FF.out
theorem refMixE_any (h : List Int) (lag g : Int) (v : Value) (b : List Int) (w : World) (hh : h.length = 80) (h64 : In64 h) (hb64 : In64 b) (hv : Ints w v b) (hl2 : b.length ≤ 1000000000000000000) :
    Calls Try.prog 15 #[.agg (arrI h), .int .i64 lag, .int .i64 g, v] w (ListE w (mxL h lag g b) (mxE lag g b)) := by
  by_cases hl : b.length = 40
  · by_cases hk : mxO lag g b
    · exact refMixE_yes h lag g v b w hh h64 hv hb64 hk
    · exact refMixE_range h lag g v b w hv hl (by unfold mxO at hk; omega)
  · exact refMixE_size h lag g v b w hv hl hl2
end Go.Proofs.Ytekdgohomaeeeaa

/- LCnM -/
namespace Go.Proofs.Ytekdgohomaeeeaa
open Go.RowKit
set_option linter.unusedVariables false
theorem win_conMixes (W : World) (h : List Int) (hh : h.length = 80) (h64 : In64 h) (lag : Int) (wl : (Lit.int .i64 lag).wf = true) (g : Int) (wg : (Lit.int .i64 g).wf = true) (v : Value) (b : List Int) (hi : Ints W v b) (hl : b.length * 8 ≤ 140737488351232) (hb64 : In64 b) (hsh : Shp v b) : Calls Try.prog 4 #[.agg (arrI h), .int .i64 lag, .int .i64 g, v] W fun e w' => e = .returned (.bool true) ∧ Below W.heap.size W w' :=
  law_conMixes W (fun h lag g v b wr hh h64 hl hg hb gr hv hs => conMix_any h lag g v b wr hh hv hs) (fun h lag g v b wr hh h64 hl hg hb gr hv hs => refMixE_any h lag g v b wr hh h64 hb hv hs) (fun h v b wr hh h64 hb gr hv hs => conKeep_any h v b wr hh hv hs) (fun h v b wr hh h64 hb gr hv hs => refKeep_any h v b wr hh hb hv hs) h hh h64 lag (bounds_i64 wl) g (bounds_i64 wg) v b hi hl hb64 hsh
end Go.Proofs.Ytekdgohomaeeeaa

/- Opens -/
namespace Go.Proofs.Ytekdgohomaeeeaa
set_option maxRecDepth 100000
open Go.ChangeShapes Go.WideShapes Go.ChangeAt Go.RowKit
set_option linter.unusedVariables false
set_option linter.unusedSimpArgs false
theorem o_own : ownKnob Try.prog.godebug = none := by kernel_rfl
theorem o_laidOut : laidOutB Try.prog = true := by kernel_rfl
theorem o_cellsInt : Try.prog.cellsOf 3 = 1 := by kernel_rfl
theorem o_bytesInt : Try.prog.bytesOf 3 = 8 := by kernel_rfl
theorem cell_int {W : World} {base : Nat} {v : Value} (h : Cell.okWide Try.prog W .any base 3 v) : ∃ n : Int, v = .int .i64 n ∧ -9223372036854775808 ≤ n ∧ n ≤ 9223372036854775807 := by
  simp only [Cell.okWide, Try.underlying3] at h
  cases v <;> simp_all [Cell.ok, Try.underlying3, IntKind.has, IntKind.min, IntKind.max, IntKind.signed, IntKind.bits]
theorem ints_of_cells : ∀ cs : List Value, (∀ v ∈ cs, ∃ n : Int, v = .int .i64 n ∧ -9223372036854775808 ≤ n ∧ n ≤ 9223372036854775807) → ∃ l : List Int, cs = l.map (Value.int .i64) ∧ In64 l
  | [], _ => ⟨[], rfl, fun i => by simp [nth]⟩
  | c :: cs, h => by
    obtain ⟨n, rfl, n1, n2⟩ := h c (List.mem_cons_self ..)
    obtain ⟨l, rfl, hl⟩ := ints_of_cells cs (fun v hv => h v (List.mem_cons_of_mem _ hv))
    refine ⟨n :: l, rfl, fun i => ?_⟩
    match i with
    | 0 => exact ⟨n1, n2⟩
    | i + 1 => exact hl i
theorem open_flat {W : World} {base : Nat} {t : TypeId} {v : Value} {n : Nat} (hu : (match Try.prog.underlying t with | some (.struct _) | some (.array _ _) => true | _ => false) = true)
    (hc : Try.prog.cellTypes Try.prog.depth t = some (List.replicate n 3)) (hn : Try.prog.cellsOf t = n) (h : Value.okWide Try.prog W .any base t v) : ∃ l : List Int, v = .agg (arrI l) ∧ l.length = n ∧ In64 l := by
  have hr : ∃ cs, v = .agg cs ∧ cs.size = Try.prog.cellsOf t ∧ Row.okWide Try.prog W .any base t cs := by
    unfold Value.okWide at h
    revert hu
    split at h
    · intro _; exact h
    · intro _; exact h
    · rename_i h1 h2
      intro hu
      split at hu
      · rename_i fs e; exact absurd e (h1 fs)
      · rename_i n e he; exact absurd he (h2 n e)
      · cases hu
  obtain ⟨cs, rfl, hs, ts, hts, _, hcell⟩ := hr
  rw [hc] at hts
  cases hts
  obtain ⟨l, hl, hb⟩ := ints_of_cells cs.toList (fun v hv => by
    obtain ⟨i, hi, rfl⟩ := List.getElem_of_mem hv
    obtain ⟨u, hu1, hu2⟩ := hcell i cs.toList[i] (by rw [← Array.getElem?_toList, List.getElem?_eq_getElem hi])
    have : u = 3 := by
      have := List.mem_of_getElem? hu1
      exact (List.mem_replicate.1 this).2
    subst this
    exact cell_int hu2)
  refine ⟨l, ?_, ?_, hb⟩
  · unfold arrI; rw [← hl]
  · have : cs.toList.length = l.length := by rw [hl]; simp
    rw [← this, Array.length_toList, hs, hn]
theorem open_list {H : Type} {enc : TypeId × Value → H} {W : World} {base : Nat} {v : Value} {d : DataW H} {p : List MemPlace} {ts : List TypeId} {ds : List (DataW H)} {j : Nat}
    (hv : Value.okWide Try.prog W .any base 28 v) (h : DataW.Trod enc Try.prog W 0 (fun _ => true) true 28 v d p) (hsz : (DataW.weightsEach Try.prog ts ds).all (· ≤ reachBytes) = true) (ht : ts[j]? = some 28) (hd : ds[j]? = some d) :
    ∃ l : List Int, Ints W v l ∧ l.length * 8 ≤ 140737488351232 ∧ In64 l ∧ (v = .slice none 0 0 ∨ ∃ a c, v = .slice (some a) l.length c) := by
  obtain ⟨a0, len, cap, rfl⟩ := okWide_slice Try.underlying28 hv
  obtain ⟨fuel, hf⟩ := h
  rcases open_ints Try.underlying28 Try.underlying3 o_cellsInt hf with ⟨hcs, hx⟩ | ⟨a, len', cap', zs, hcs, _, hl, hm, hz, hx, hcell, hwz⟩
  · simp [Value.cells] at hcs
    obtain ⟨rfl, rfl, rfl⟩ := hcs
    exact ⟨[], ⟨none, 0, rfl, Nat.le_refl _, fun h => by simp at h⟩, by simp, fun i => by simp [nth], .inl rfl⟩
  · simp [Value.cells] at hcs
    obtain ⟨rfl, rfl, rfl⟩ := hcs
    simp only [Prod.mk.injEq] at hx
    obtain ⟨rfl, rfl⟩ := hx
    simp at hz
    have hs := sized_slice hsz ht hd Try.underlying28
    rw [o_bytesInt] at hs
    simp only [lits, List.length_map, List.length_take, List.length_drop, reachBytes] at hs
    have e : (zs.take len).length = len := by simp; omega
    refine ⟨zs.take len, ⟨some a, cap, by rw [e], by rw [e]; exact hl, fun _ => ⟨a, rfl, fun i hi => ?_⟩⟩, by rw [e]; omega, fun i => ?_, .inr ⟨a, cap, by rw [e]⟩⟩
    · rw [e] at hi
      rw [hcell i (by omega)]
      simp [nth, List.getD, List.getElem?_take, hi]
    · by_cases hi : i < (zs.take len).length
      · have hw := hwz ((zs.take len)[i]) (List.mem_of_mem_take (List.getElem_mem hi))
        have := bounds_i64 hw
        rw [show nth (zs.take len) i = (zs.take len)[i] by unfold nth; rw [List.getD, List.getElem?_eq_getElem hi]; rfl]
        exact this
      · rw [getD_out _ i (by omega)]; omega
end Go.Proofs.Ytekdgohomaeeeaa
