/- The walks of SynthRest and FoldSwaps out of the contracts. -/
import Derived.Test.YtkkalbogcnojmabKeepL
import Derived.Test.YtkkalbogcnojmabRegA
import Derived.BigQuiet
import Derived.Deep.QuietTactic
namespace Go.Proofs.Ytkkalbogcnojmab
open Go.RowKit
set_option linter.unusedVariables false
set_option linter.unusedSimpArgs false
set_option maxHeartbeats 1000000

def FiS (W0 : World) (L P : List Int) (en : Int) (s7 s8 s9 : Value) (wx : World) : Prop :=
  ∃ b, s8 = .pointer (some ⟨b, 0, none⟩) ∧ s9 = .int .i64 en ∧ Own W0.heap.size wx s7 L ∧ Blk wx b 25 P ∧ W0.heap.size ≤ b ∧ W0.grownBy wx none
theorem zeros_right (n : Nat) : rightB (zeros n) = true := by
  rw [rightB_iff]
  intro i hi
  rw [zeros_nth]
  omega
set_option maxRecDepth 100000 in
theorem law_synRest (w : World) (a : List Int) (ha : a.length = 9) (ha64 : In64 a) (n : Int) (wf : (Lit.int .i64 n).wf = true) :
    Calls Try.prog 3 #[.agg (arrI a), .int .i64 n] w fun e w' => e = .returned (.bool true) ∧ Below w.heap.size w w' := by
  have n1 : 0 ≤ spotN n 200 := by unfold spotN; omega
  have n2 : spotN n 200 < 200 := by unfold spotN; omega
  obtain ⟨N, hN⟩ : ∃ N : Nat, spotN n 200 = (N : Int) := ⟨(spotN n 200).toNat, by omega⟩
  have SP := hide (spot_any n 200 (by omega) (by omega))
  rw [hN] at SP n1 n2
  have PR := hide (pred_any a ha)
  have okZ := pred_ok a (zeros 8) (zeros N) (zeros_right 8) (zeros_right N)
  have HM := hide (fun wr vi (h : Ints wr vi (zeros N)) (s : Shp vi (zeros N)) => make_any (predL a) (zeros 8) (predL_len a) (zeros_len 8) vi (zeros N) wr h s (by rw [zeros_len]; omega))
  rw [show mkL (predL a) (zeros 8) (zeros N) = zeros N by unfold mkL; rw [if_pos okZ, zeros_len, mk_rest], show mkP (predL a) (zeros 8) (zeros N) = zeros 8 by unfold mkP; rw [if_pos okZ, zeros_len, mk_rest, newL_rest], show fiE (predL a) (zeros 8) (zeros N) = 0 from if_pos okZ] at HM
  have IZ := hide (show ∀ (wr : World) (b : Nat), Blk wr b 3 (zeros N) → Ints wr (.slice (some ⟨b, 0, none⟩) N N) (zeros N) from fun wr b h => by have := Ints_of_blk h; rw [zeros_len] at this; exact this)
  have BA := hide (Blk.new w 22 a)
  have G0 := hide (grown_alloc w (.cells (arrI a) 22) none)
  have hmk := make_zeros N (by omega)
  have hbd := build8
  have heq : ∀ u, Sem.run Try.prog (Op.equalIn 10000 25 (.agg (arrI (zeros 8))) (.agg #[.int .i64 0, .int .i64 0, .int .i64 0, .int .i64 0, .int .i64 0, .int .i64 0, .int .i64 0, .int .i64 0])) u = .ok true u := eq_arr (zeros 8) Try.underlying25 (zeros_len 8) 9998
  clear ha64 wf okZ hN
  generalize predL a = A at *
  go_enter Try.func3, Try.ntmps3
  go_wp2_with fail
  refine (SP.out _).mono ?_
  rintro e wx ⟨rfl, rfl⟩
  clear SP
  go_upto_region 2 with fail
  generalize w.alloc (.cells (arrI a) 22) = W0 at *
  go_cut [5, 6, 7] from 10 (fun s5 s6 s7 wx => FiS W0 (zeros N) (zeros 8) 0 s5 s6 s7 wx)
  case first =>
    refine wp_region_held_drew (S := GrownW W0) (by kernel_rfl) (gw_start _) (fun hHeld => ?_)
    refine wpAnyH_take (i := 0) (v := .agg (arrI a)) rfl (by kernel_rfl) (by kernel_rfl) (by kernel_rfl) (fun _ _ _ h => h) (Or.inl ⟨by rfl, ?yrr1⟩) hHeld ?rrr1
    case yrr1 => (intro w' hSw; exact yields_load_arr rfl rfl (BA.out.keep hSw) _ Try.underlying22 rfl (by rw [ha]; exact size9'))
    (try simp only [Act.put, List.setIfInBounds_toArray, List.set_cons_zero, List.set_cons_succ, List.getElem_toArray, List.getElem_cons_zero, List.getElem_cons_succ])
    refine wpAnyH_take (i := 2) (v := ?vrr2) rfl (by kernel_rfl) (by kernel_rfl) (by kernel_rfl) (fun _ _ _ h => h) (Or.inl ⟨by rfl, ?yrr2⟩) hHeld ?rrr2
    case yrr2 => (intro w' hSw; go_simp; (try with_reducible rfl))
    (try simp only [Act.put, List.setIfInBounds_toArray, List.set_cons_zero, List.set_cons_succ, List.getElem_toArray, List.getElem_cons_zero, List.getElem_cons_succ])
    refine wpAnyH_take (i := 3) (v := ?vrr3) rfl (by kernel_rfl) (by kernel_rfl) (by kernel_rfl) (fun _ _ _ h => h) (Or.inl ⟨by rfl, ?yrr3⟩) hHeld ?rrr3
    case yrr3 => (intro w' hSw; go_simp; (try with_reducible rfl))
    (try simp only [Act.put, List.setIfInBounds_toArray, List.set_cons_zero, List.set_cons_succ, List.getElem_toArray, List.getElem_cons_zero, List.getElem_cons_succ])
    refine wpAnyH_ready (rs := [1, 4, 10]) (by kernel_rfl) (by simp) (AllReadyH.cons rfl (fun K hK => ?grr4) (AllReadyH.cons rfl (fun K hK => ?grr5) (AllReadyH.cons rfl (fun K hK => ?grr6) AllReadyH.nil)))
    case grr4 =>
      (try simp only [Act.put, List.setIfInBounds_toArray, List.set_cons_zero, List.set_cons_succ, List.getElem_toArray, List.getElem_cons_zero, List.getElem_cons_succ])
      go_simp
      refine (PR.out _).mono ?_
      rintro e wrr7 ⟨rfl, grr7⟩
      have Grr7 := hide grr7
      clear grr7
      go_wp2_with fail
      refine hK.out _ _ (gw_trans hHeld Grr7.out) (fun hHeld => ?_)
      clear hK
      (try simp only [Act.put, List.setIfInBounds_toArray, List.set_cons_zero, List.set_cons_succ, List.getElem_toArray, List.getElem_cons_zero, List.getElem_cons_succ])
      refine wpAnyH_ready (rs := [4, 10]) (by kernel_rfl) (by simp) (AllReadyH.cons rfl (fun K hK => ?grr8) (AllReadyH.cons rfl (fun K hK => ?grr9) AllReadyH.nil))
      case grr8 =>
        (try simp only [Act.put, List.setIfInBounds_toArray, List.set_cons_zero, List.set_cons_succ, List.getElem_toArray, List.getElem_cons_zero, List.getElem_cons_succ])
        go_simp
        go_wp2_with fail
        refine hK.out _ _ (gw_alloc hHeld (.cells (arrI (zeros N)) 3)) (fun hHeld => ?_)
        clear hK
        have OM := hide (show Blk (wrr7.alloc (.cells (arrI (zeros N)) 3)) wrr7.heap.size 3 (zeros N) from Blk.new wrr7 3 (zeros N))
        generalize wrr7.alloc (.cells (arrI (zeros N)) 3) = wzrr10 at *
        (try simp only [Act.put, List.setIfInBounds_toArray, List.set_cons_zero, List.set_cons_succ, List.getElem_toArray, List.getElem_cons_zero, List.getElem_cons_succ])
        refine wpAnyH_ready (rs := [5, 10]) (by kernel_rfl) (by simp) (AllReadyH.cons rfl (fun K hK => ?grr11) (AllReadyH.cons rfl (fun K hK => ?grr12) AllReadyH.nil))
        case grr11 =>
          (try simp only [Act.put, List.setIfInBounds_toArray, List.set_cons_zero, List.set_cons_succ, List.getElem_toArray, List.getElem_cons_zero, List.getElem_cons_succ])
          go_simp
          refine (HM.out _ _ (IZ.out _ _ OM.out) (.inr ⟨_, _, by rw [zeros_len]⟩)).mono ?_
          rintro e wrr13 ⟨vx, rfl, ox, grr13⟩
          have Grr13 := hide grr13
          have OX := hide (ox.base (b' := W0.heap.size) (World.grownBy.size hHeld))
          clear grr13 ox
          go_wp2_with fail
          refine hK.out _ _ (gw_trans hHeld Grr13.out) (fun hHeld => ?_)
          clear hK
          have OM := hide (OM.out.keep Grr13.out)
          (try simp only [Act.put, List.setIfInBounds_toArray, List.set_cons_zero, List.set_cons_succ, List.getElem_toArray, List.getElem_cons_zero, List.getElem_cons_succ])
          refine wpAnyH_take (i := 6) (v := ?vrr14) rfl (by kernel_rfl) (by kernel_rfl) (by kernel_rfl) (fun _ _ _ h => h) (Or.inl ⟨by rfl, ?yrr14⟩) hHeld ?rrr14
          case yrr14 => (intro w' hSw; go_simp; (try with_reducible rfl))
          (try simp only [Act.put, List.setIfInBounds_toArray, List.set_cons_zero, List.set_cons_succ, List.getElem_toArray, List.getElem_cons_zero, List.getElem_cons_succ])
          refine wpAnyH_take (i := 7) (v := ?vrr15) rfl (by kernel_rfl) (by kernel_rfl) (by kernel_rfl) (fun _ _ _ h => h) (Or.inl ⟨by rfl, ?yrr15⟩) hHeld ?rrr15
          case yrr15 => (intro w' hSw; go_simp; (try with_reducible rfl))
          (try simp only [Act.put, List.setIfInBounds_toArray, List.set_cons_zero, List.set_cons_succ, List.getElem_toArray, List.getElem_cons_zero, List.getElem_cons_succ])
          refine wpAnyH_take (i := 8) (v := ?vrr16) rfl (by kernel_rfl) (by kernel_rfl) (by kernel_rfl) (fun _ _ _ h => h) (Or.inl ⟨by rfl, ?yrr16⟩) hHeld ?rrr16
          case yrr16 => (intro w' hSw; go_simp; (try with_reducible rfl))
          (try simp only [Act.put, List.setIfInBounds_toArray, List.set_cons_zero, List.set_cons_succ, List.getElem_toArray, List.getElem_cons_zero, List.getElem_cons_succ])
          refine wpAnyH_take (i := 9) (v := ?vrr17) rfl (by kernel_rfl) (by kernel_rfl) (by kernel_rfl) (fun _ _ _ h => h) (Or.inl ⟨by rfl, ?yrr17⟩) hHeld ?rrr17
          case yrr17 => (intro w' hSw; go_simp; (try with_reducible rfl))
          (try simp only [Act.put, List.setIfInBounds_toArray, List.set_cons_zero, List.set_cons_succ, List.getElem_toArray, List.getElem_cons_zero, List.getElem_cons_succ])
          refine wpAnyH_ready (rs := [10]) (by kernel_rfl) (by simp) (AllReadyH.cons rfl (fun K hK => ?_) AllReadyH.nil)
          (try simp only [Act.put, List.setIfInBounds_toArray, List.set_cons_zero, List.set_cons_succ, List.getElem_toArray, List.getElem_cons_zero, List.getElem_cons_succ])
          go_simp
          go_wp2_with fail
          have HB := hide (show W0.heap.size ≤ wrr13.heap.size from by first | exact Nat.le_refl _ | exact World.grownBy.size hHeld)
          refine hK.out _ _ (gw_alloc hHeld (.cells #[.int .i64 0, .int .i64 0, .int .i64 0, .int .i64 0, .int .i64 0, .int .i64 0, .int .i64 0, .int .i64 0] 25)) (fun hHeld => ?_)
          clear hK
          have HZ := hide (show Blk (wrr13.alloc (.cells #[.int .i64 0, .int .i64 0, .int .i64 0, .int .i64 0, .int .i64 0, .int .i64 0, .int .i64 0, .int .i64 0] 25)) wrr13.heap.size 25 (zeros 8) from Blk.new wrr13 25 (zeros 8))
          have OM := hide (OM.out.keep (grown_alloc wrr13 (.cells #[.int .i64 0, .int .i64 0, .int .i64 0, .int .i64 0, .int .i64 0, .int .i64 0, .int .i64 0, .int .i64 0] 25) none))
          have OX := hide (OX.out.keep (grown_alloc wrr13 (.cells #[.int .i64 0, .int .i64 0, .int .i64 0, .int .i64 0, .int .i64 0, .int .i64 0, .int .i64 0, .int .i64 0] 25) none))
          generalize wrr13.alloc (.cells #[.int .i64 0, .int .i64 0, .int .i64 0, .int .i64 0, .int .i64 0, .int .i64 0, .int .i64 0, .int .i64 0] 25) = wzrr18 at *
          (try simp only [Act.put, List.setIfInBounds_toArray, List.set_cons_zero, List.set_cons_succ, List.getElem_toArray, List.getElem_cons_zero, List.getElem_cons_succ])
          refine wpAnyH_take (i := 11) (v := ?vrr19) rfl (by kernel_rfl) (by kernel_rfl) (by kernel_rfl) (fun _ _ _ h => h) (Or.inl ⟨by rfl, ?yrr19⟩) hHeld ?rrr19
          case yrr19 => (intro w' hSw; go_simp; (try with_reducible rfl))
          (try simp only [Act.put, List.setIfInBounds_toArray, List.set_cons_zero, List.set_cons_succ, List.getElem_toArray, List.getElem_cons_zero, List.getElem_cons_succ])
          refine wpAnyH_ready (rs := [12]) (by kernel_rfl) (by simp) (AllReadyH.cons rfl (fun K hK => ?_) AllReadyH.nil)
          (try simp only [Act.put, List.setIfInBounds_toArray, List.set_cons_zero, List.set_cons_succ, List.getElem_toArray, List.getElem_cons_zero, List.getElem_cons_succ])
          refine step_store_arr rfl 25 _ _ rfl (wrr13.heap.size) (zeros 8) (zeros 8) rfl rfl HZ.out rfl (by rw [zeros_len]; exact size8') ?_
          have PU := put_arr (rs' := (zeros 8)) HZ.out rfl
          refine hK.out _ _ (gw_own hHeld PU.2 HB.out) (fun hHeld => ?_)
          clear hK
          have OM := hide (OM.out)
          have OX := hide (OX.out.keepBut PU.2 HZ.out (by decide))
          (try simp only [Act.put, List.setIfInBounds_toArray, List.set_cons_zero, List.set_cons_succ, List.getElem_toArray, List.getElem_cons_zero, List.getElem_cons_succ])
          refine wpAnyH_take (i := 13) (v := ?vrr21) rfl (by kernel_rfl) (by kernel_rfl) (by kernel_rfl) (fun _ _ _ h => h) (Or.inl ⟨by rfl, ?yrr21⟩) hHeld ?rrr21
          case yrr21 => (intro w' hSw; go_simp; (try with_reducible rfl))
          (try simp only [Act.put, List.setIfInBounds_toArray, List.set_cons_zero, List.set_cons_succ, List.getElem_toArray, List.getElem_cons_zero, List.getElem_cons_succ])
          refine wpAnyH_done (by kernel_rfl) ?_ _
          go_wp2_with fail
          go_meet
          exact ⟨wrr13.heap.size, rfl, rfl, OX.out, PU.1, HB.out, hHeld⟩
        case grr12 =>
          (try simp only [Act.put, List.setIfInBounds_toArray, List.set_cons_zero, List.set_cons_succ, List.getElem_toArray, List.getElem_cons_zero, List.getElem_cons_succ])
          go_simp
          go_wp2_with fail
          have HB := hide (show W0.heap.size ≤ wzrr10.heap.size from by first | exact Nat.le_refl _ | exact World.grownBy.size hHeld)
          refine hK.out _ _ (gw_alloc hHeld (.cells #[.int .i64 0, .int .i64 0, .int .i64 0, .int .i64 0, .int .i64 0, .int .i64 0, .int .i64 0, .int .i64 0] 25)) (fun hHeld => ?_)
          clear hK
          have HZ := hide (show Blk (wzrr10.alloc (.cells #[.int .i64 0, .int .i64 0, .int .i64 0, .int .i64 0, .int .i64 0, .int .i64 0, .int .i64 0, .int .i64 0] 25)) wzrr10.heap.size 25 (zeros 8) from Blk.new wzrr10 25 (zeros 8))
          have OM := hide (OM.out.keep (grown_alloc wzrr10 (.cells #[.int .i64 0, .int .i64 0, .int .i64 0, .int .i64 0, .int .i64 0, .int .i64 0, .int .i64 0, .int .i64 0] 25) none))
          generalize wzrr10.alloc (.cells #[.int .i64 0, .int .i64 0, .int .i64 0, .int .i64 0, .int .i64 0, .int .i64 0, .int .i64 0, .int .i64 0] 25) = wzrr22 at *
          (try simp only [Act.put, List.setIfInBounds_toArray, List.set_cons_zero, List.set_cons_succ, List.getElem_toArray, List.getElem_cons_zero, List.getElem_cons_succ])
          refine wpAnyH_ready (rs := [5]) (by kernel_rfl) (by simp) (AllReadyH.cons rfl (fun K hK => ?_) AllReadyH.nil)
          (try simp only [Act.put, List.setIfInBounds_toArray, List.set_cons_zero, List.set_cons_succ, List.getElem_toArray, List.getElem_cons_zero, List.getElem_cons_succ])
          go_simp
          refine (HM.out _ _ (IZ.out _ _ OM.out) (.inr ⟨_, _, by rw [zeros_len]⟩)).mono ?_
          rintro e wrr23 ⟨vx, rfl, ox, grr23⟩
          have Grr23 := hide grr23
          have OX := hide (ox.base (b' := W0.heap.size) (World.grownBy.size hHeld))
          clear grr23 ox
          go_wp2_with fail
          refine hK.out _ _ (gw_trans hHeld Grr23.out) (fun hHeld => ?_)
          clear hK
          have HZ := hide (HZ.out.keep Grr23.out)
          have OM := hide (OM.out.keep Grr23.out)
          (try simp only [Act.put, List.setIfInBounds_toArray, List.set_cons_zero, List.set_cons_succ, List.getElem_toArray, List.getElem_cons_zero, List.getElem_cons_succ])
          refine wpAnyH_take (i := 6) (v := ?vrr24) rfl (by kernel_rfl) (by kernel_rfl) (by kernel_rfl) (fun _ _ _ h => h) (Or.inl ⟨by rfl, ?yrr24⟩) hHeld ?rrr24
          case yrr24 => (intro w' hSw; go_simp; (try with_reducible rfl))
          (try simp only [Act.put, List.setIfInBounds_toArray, List.set_cons_zero, List.set_cons_succ, List.getElem_toArray, List.getElem_cons_zero, List.getElem_cons_succ])
          refine wpAnyH_take (i := 7) (v := ?vrr25) rfl (by kernel_rfl) (by kernel_rfl) (by kernel_rfl) (fun _ _ _ h => h) (Or.inl ⟨by rfl, ?yrr25⟩) hHeld ?rrr25
          case yrr25 => (intro w' hSw; go_simp; (try with_reducible rfl))
          (try simp only [Act.put, List.setIfInBounds_toArray, List.set_cons_zero, List.set_cons_succ, List.getElem_toArray, List.getElem_cons_zero, List.getElem_cons_succ])
          refine wpAnyH_take (i := 8) (v := ?vrr26) rfl (by kernel_rfl) (by kernel_rfl) (by kernel_rfl) (fun _ _ _ h => h) (Or.inl ⟨by rfl, ?yrr26⟩) hHeld ?rrr26
          case yrr26 => (intro w' hSw; go_simp; (try with_reducible rfl))
          (try simp only [Act.put, List.setIfInBounds_toArray, List.set_cons_zero, List.set_cons_succ, List.getElem_toArray, List.getElem_cons_zero, List.getElem_cons_succ])
          refine wpAnyH_take (i := 9) (v := ?vrr27) rfl (by kernel_rfl) (by kernel_rfl) (by kernel_rfl) (fun _ _ _ h => h) (Or.inl ⟨by rfl, ?yrr27⟩) hHeld ?rrr27
          case yrr27 => (intro w' hSw; go_simp; (try with_reducible rfl))
          (try simp only [Act.put, List.setIfInBounds_toArray, List.set_cons_zero, List.set_cons_succ, List.getElem_toArray, List.getElem_cons_zero, List.getElem_cons_succ])
          refine wpAnyH_take (i := 11) (v := ?vrr28) rfl (by kernel_rfl) (by kernel_rfl) (by kernel_rfl) (fun _ _ _ h => h) (Or.inl ⟨by rfl, ?yrr28⟩) hHeld ?rrr28
          case yrr28 => (intro w' hSw; go_simp; (try with_reducible rfl))
          (try simp only [Act.put, List.setIfInBounds_toArray, List.set_cons_zero, List.set_cons_succ, List.getElem_toArray, List.getElem_cons_zero, List.getElem_cons_succ])
          refine wpAnyH_ready (rs := [12]) (by kernel_rfl) (by simp) (AllReadyH.cons rfl (fun K hK => ?_) AllReadyH.nil)
          (try simp only [Act.put, List.setIfInBounds_toArray, List.set_cons_zero, List.set_cons_succ, List.getElem_toArray, List.getElem_cons_zero, List.getElem_cons_succ])
          refine step_store_arr rfl 25 _ _ rfl (wzrr10.heap.size) (zeros 8) (zeros 8) rfl rfl HZ.out rfl (by rw [zeros_len]; exact size8') ?_
          have PU := put_arr (rs' := (zeros 8)) HZ.out rfl
          refine hK.out _ _ (gw_own hHeld PU.2 HB.out) (fun hHeld => ?_)
          clear hK
          have OM := hide (OM.out)
          have OX := hide (OX.out.keepBut PU.2 HZ.out (by decide))
          (try simp only [Act.put, List.setIfInBounds_toArray, List.set_cons_zero, List.set_cons_succ, List.getElem_toArray, List.getElem_cons_zero, List.getElem_cons_succ])
          refine wpAnyH_take (i := 13) (v := ?vrr30) rfl (by kernel_rfl) (by kernel_rfl) (by kernel_rfl) (fun _ _ _ h => h) (Or.inl ⟨by rfl, ?yrr30⟩) hHeld ?rrr30
          case yrr30 => (intro w' hSw; go_simp; (try with_reducible rfl))
          (try simp only [Act.put, List.setIfInBounds_toArray, List.set_cons_zero, List.set_cons_succ, List.getElem_toArray, List.getElem_cons_zero, List.getElem_cons_succ])
          refine wpAnyH_done (by kernel_rfl) ?_ _
          go_wp2_with fail
          go_meet
          exact ⟨wzrr10.heap.size, rfl, rfl, OX.out, PU.1, HB.out, hHeld⟩
      case grr9 =>
        (try simp only [Act.put, List.setIfInBounds_toArray, List.set_cons_zero, List.set_cons_succ, List.getElem_toArray, List.getElem_cons_zero, List.getElem_cons_succ])
        go_simp
        go_wp2_with fail
        have HB := hide (show W0.heap.size ≤ wrr7.heap.size from by first | exact Nat.le_refl _ | exact World.grownBy.size hHeld)
        refine hK.out _ _ (gw_alloc hHeld (.cells #[.int .i64 0, .int .i64 0, .int .i64 0, .int .i64 0, .int .i64 0, .int .i64 0, .int .i64 0, .int .i64 0] 25)) (fun hHeld => ?_)
        clear hK
        have HZ := hide (show Blk (wrr7.alloc (.cells #[.int .i64 0, .int .i64 0, .int .i64 0, .int .i64 0, .int .i64 0, .int .i64 0, .int .i64 0, .int .i64 0] 25)) wrr7.heap.size 25 (zeros 8) from Blk.new wrr7 25 (zeros 8))
        generalize wrr7.alloc (.cells #[.int .i64 0, .int .i64 0, .int .i64 0, .int .i64 0, .int .i64 0, .int .i64 0, .int .i64 0, .int .i64 0] 25) = wzrr31 at *
        (try simp only [Act.put, List.setIfInBounds_toArray, List.set_cons_zero, List.set_cons_succ, List.getElem_toArray, List.getElem_cons_zero, List.getElem_cons_succ])
        refine wpAnyH_ready (rs := [4]) (by kernel_rfl) (by simp) (AllReadyH.cons rfl (fun K hK => ?_) AllReadyH.nil)
        (try simp only [Act.put, List.setIfInBounds_toArray, List.set_cons_zero, List.set_cons_succ, List.getElem_toArray, List.getElem_cons_zero, List.getElem_cons_succ])
        go_simp
        go_wp2_with fail
        refine hK.out _ _ (gw_alloc hHeld (.cells (arrI (zeros N)) 3)) (fun hHeld => ?_)
        clear hK
        have OM := hide (show Blk (wzrr31.alloc (.cells (arrI (zeros N)) 3)) wzrr31.heap.size 3 (zeros N) from Blk.new wzrr31 3 (zeros N))
        have HZ := hide (HZ.out.keep (grown_alloc wzrr31 (.cells (arrI (zeros N)) 3) none))
        generalize wzrr31.alloc (.cells (arrI (zeros N)) 3) = wzrr32 at *
        (try simp only [Act.put, List.setIfInBounds_toArray, List.set_cons_zero, List.set_cons_succ, List.getElem_toArray, List.getElem_cons_zero, List.getElem_cons_succ])
        refine wpAnyH_ready (rs := [5]) (by kernel_rfl) (by simp) (AllReadyH.cons rfl (fun K hK => ?_) AllReadyH.nil)
        (try simp only [Act.put, List.setIfInBounds_toArray, List.set_cons_zero, List.set_cons_succ, List.getElem_toArray, List.getElem_cons_zero, List.getElem_cons_succ])
        go_simp
        refine (HM.out _ _ (IZ.out _ _ OM.out) (.inr ⟨_, _, by rw [zeros_len]⟩)).mono ?_
        rintro e wrr33 ⟨vx, rfl, ox, grr33⟩
        have Grr33 := hide grr33
        have OX := hide (ox.base (b' := W0.heap.size) (World.grownBy.size hHeld))
        clear grr33 ox
        go_wp2_with fail
        refine hK.out _ _ (gw_trans hHeld Grr33.out) (fun hHeld => ?_)
        clear hK
        have HZ := hide (HZ.out.keep Grr33.out)
        have OM := hide (OM.out.keep Grr33.out)
        (try simp only [Act.put, List.setIfInBounds_toArray, List.set_cons_zero, List.set_cons_succ, List.getElem_toArray, List.getElem_cons_zero, List.getElem_cons_succ])
        refine wpAnyH_take (i := 6) (v := ?vrr34) rfl (by kernel_rfl) (by kernel_rfl) (by kernel_rfl) (fun _ _ _ h => h) (Or.inl ⟨by rfl, ?yrr34⟩) hHeld ?rrr34
        case yrr34 => (intro w' hSw; go_simp; (try with_reducible rfl))
        (try simp only [Act.put, List.setIfInBounds_toArray, List.set_cons_zero, List.set_cons_succ, List.getElem_toArray, List.getElem_cons_zero, List.getElem_cons_succ])
        refine wpAnyH_take (i := 7) (v := ?vrr35) rfl (by kernel_rfl) (by kernel_rfl) (by kernel_rfl) (fun _ _ _ h => h) (Or.inl ⟨by rfl, ?yrr35⟩) hHeld ?rrr35
        case yrr35 => (intro w' hSw; go_simp; (try with_reducible rfl))
        (try simp only [Act.put, List.setIfInBounds_toArray, List.set_cons_zero, List.set_cons_succ, List.getElem_toArray, List.getElem_cons_zero, List.getElem_cons_succ])
        refine wpAnyH_take (i := 8) (v := ?vrr36) rfl (by kernel_rfl) (by kernel_rfl) (by kernel_rfl) (fun _ _ _ h => h) (Or.inl ⟨by rfl, ?yrr36⟩) hHeld ?rrr36
        case yrr36 => (intro w' hSw; go_simp; (try with_reducible rfl))
        (try simp only [Act.put, List.setIfInBounds_toArray, List.set_cons_zero, List.set_cons_succ, List.getElem_toArray, List.getElem_cons_zero, List.getElem_cons_succ])
        refine wpAnyH_take (i := 9) (v := ?vrr37) rfl (by kernel_rfl) (by kernel_rfl) (by kernel_rfl) (fun _ _ _ h => h) (Or.inl ⟨by rfl, ?yrr37⟩) hHeld ?rrr37
        case yrr37 => (intro w' hSw; go_simp; (try with_reducible rfl))
        (try simp only [Act.put, List.setIfInBounds_toArray, List.set_cons_zero, List.set_cons_succ, List.getElem_toArray, List.getElem_cons_zero, List.getElem_cons_succ])
        refine wpAnyH_take (i := 11) (v := ?vrr38) rfl (by kernel_rfl) (by kernel_rfl) (by kernel_rfl) (fun _ _ _ h => h) (Or.inl ⟨by rfl, ?yrr38⟩) hHeld ?rrr38
        case yrr38 => (intro w' hSw; go_simp; (try with_reducible rfl))
        (try simp only [Act.put, List.setIfInBounds_toArray, List.set_cons_zero, List.set_cons_succ, List.getElem_toArray, List.getElem_cons_zero, List.getElem_cons_succ])
        refine wpAnyH_ready (rs := [12]) (by kernel_rfl) (by simp) (AllReadyH.cons rfl (fun K hK => ?_) AllReadyH.nil)
        (try simp only [Act.put, List.setIfInBounds_toArray, List.set_cons_zero, List.set_cons_succ, List.getElem_toArray, List.getElem_cons_zero, List.getElem_cons_succ])
        refine step_store_arr rfl 25 _ _ rfl (wrr7.heap.size) (zeros 8) (zeros 8) rfl rfl HZ.out rfl (by rw [zeros_len]; exact size8') ?_
        have PU := put_arr (rs' := (zeros 8)) HZ.out rfl
        refine hK.out _ _ (gw_own hHeld PU.2 HB.out) (fun hHeld => ?_)
        clear hK
        have OM := hide (OM.out)
        have OX := hide (OX.out.keepBut PU.2 HZ.out (by decide))
        (try simp only [Act.put, List.setIfInBounds_toArray, List.set_cons_zero, List.set_cons_succ, List.getElem_toArray, List.getElem_cons_zero, List.getElem_cons_succ])
        refine wpAnyH_take (i := 13) (v := ?vrr40) rfl (by kernel_rfl) (by kernel_rfl) (by kernel_rfl) (fun _ _ _ h => h) (Or.inl ⟨by rfl, ?yrr40⟩) hHeld ?rrr40
        case yrr40 => (intro w' hSw; go_simp; (try with_reducible rfl))
        (try simp only [Act.put, List.setIfInBounds_toArray, List.set_cons_zero, List.set_cons_succ, List.getElem_toArray, List.getElem_cons_zero, List.getElem_cons_succ])
        refine wpAnyH_done (by kernel_rfl) ?_ _
        go_wp2_with fail
        go_meet
        exact ⟨wrr7.heap.size, rfl, rfl, OX.out, PU.1, HB.out, hHeld⟩
    case grr5 =>
      (try simp only [Act.put, List.setIfInBounds_toArray, List.set_cons_zero, List.set_cons_succ, List.getElem_toArray, List.getElem_cons_zero, List.getElem_cons_succ])
      go_simp
      go_wp2_with fail
      refine hK.out _ _ (gw_alloc hHeld (.cells (arrI (zeros N)) 3)) (fun hHeld => ?_)
      clear hK
      have OM := hide (show Blk ((W0.alloc (.cells (arrI (zeros N)) 3)).drew) W0.heap.size 3 (zeros N) from Blk.new W0.drew 3 (zeros N))
      generalize (W0.alloc (.cells (arrI (zeros N)) 3)).drew = wzrr41 at *
      (try simp only [Act.put, List.setIfInBounds_toArray, List.set_cons_zero, List.set_cons_succ, List.getElem_toArray, List.getElem_cons_zero, List.getElem_cons_succ])
      refine wpAnyH_ready (rs := [1, 10]) (by kernel_rfl) (by simp) (AllReadyH.cons rfl (fun K hK => ?grr42) (AllReadyH.cons rfl (fun K hK => ?grr43) AllReadyH.nil))
      case grr42 =>
        (try simp only [Act.put, List.setIfInBounds_toArray, List.set_cons_zero, List.set_cons_succ, List.getElem_toArray, List.getElem_cons_zero, List.getElem_cons_succ])
        go_simp
        refine (PR.out _).mono ?_
        rintro e wrr44 ⟨rfl, grr44⟩
        have Grr44 := hide grr44
        clear grr44
        go_wp2_with fail
        refine hK.out _ _ (gw_trans hHeld Grr44.out) (fun hHeld => ?_)
        clear hK
        have OM := hide (OM.out.keep Grr44.out)
        (try simp only [Act.put, List.setIfInBounds_toArray, List.set_cons_zero, List.set_cons_succ, List.getElem_toArray, List.getElem_cons_zero, List.getElem_cons_succ])
        refine wpAnyH_ready (rs := [5, 10]) (by kernel_rfl) (by simp) (AllReadyH.cons rfl (fun K hK => ?grr45) (AllReadyH.cons rfl (fun K hK => ?grr46) AllReadyH.nil))
        case grr45 =>
          (try simp only [Act.put, List.setIfInBounds_toArray, List.set_cons_zero, List.set_cons_succ, List.getElem_toArray, List.getElem_cons_zero, List.getElem_cons_succ])
          go_simp
          refine (HM.out _ _ (IZ.out _ _ OM.out) (.inr ⟨_, _, by rw [zeros_len]⟩)).mono ?_
          rintro e wrr47 ⟨vx, rfl, ox, grr47⟩
          have Grr47 := hide grr47
          have OX := hide (ox.base (b' := W0.heap.size) (World.grownBy.size hHeld))
          clear grr47 ox
          go_wp2_with fail
          refine hK.out _ _ (gw_trans hHeld Grr47.out) (fun hHeld => ?_)
          clear hK
          have OM := hide (OM.out.keep Grr47.out)
          (try simp only [Act.put, List.setIfInBounds_toArray, List.set_cons_zero, List.set_cons_succ, List.getElem_toArray, List.getElem_cons_zero, List.getElem_cons_succ])
          refine wpAnyH_take (i := 6) (v := ?vrr48) rfl (by kernel_rfl) (by kernel_rfl) (by kernel_rfl) (fun _ _ _ h => h) (Or.inl ⟨by rfl, ?yrr48⟩) hHeld ?rrr48
          case yrr48 => (intro w' hSw; go_simp; (try with_reducible rfl))
          (try simp only [Act.put, List.setIfInBounds_toArray, List.set_cons_zero, List.set_cons_succ, List.getElem_toArray, List.getElem_cons_zero, List.getElem_cons_succ])
          refine wpAnyH_take (i := 7) (v := ?vrr49) rfl (by kernel_rfl) (by kernel_rfl) (by kernel_rfl) (fun _ _ _ h => h) (Or.inl ⟨by rfl, ?yrr49⟩) hHeld ?rrr49
          case yrr49 => (intro w' hSw; go_simp; (try with_reducible rfl))
          (try simp only [Act.put, List.setIfInBounds_toArray, List.set_cons_zero, List.set_cons_succ, List.getElem_toArray, List.getElem_cons_zero, List.getElem_cons_succ])
          refine wpAnyH_take (i := 8) (v := ?vrr50) rfl (by kernel_rfl) (by kernel_rfl) (by kernel_rfl) (fun _ _ _ h => h) (Or.inl ⟨by rfl, ?yrr50⟩) hHeld ?rrr50
          case yrr50 => (intro w' hSw; go_simp; (try with_reducible rfl))
          (try simp only [Act.put, List.setIfInBounds_toArray, List.set_cons_zero, List.set_cons_succ, List.getElem_toArray, List.getElem_cons_zero, List.getElem_cons_succ])
          refine wpAnyH_take (i := 9) (v := ?vrr51) rfl (by kernel_rfl) (by kernel_rfl) (by kernel_rfl) (fun _ _ _ h => h) (Or.inl ⟨by rfl, ?yrr51⟩) hHeld ?rrr51
          case yrr51 => (intro w' hSw; go_simp; (try with_reducible rfl))
          (try simp only [Act.put, List.setIfInBounds_toArray, List.set_cons_zero, List.set_cons_succ, List.getElem_toArray, List.getElem_cons_zero, List.getElem_cons_succ])
          refine wpAnyH_ready (rs := [10]) (by kernel_rfl) (by simp) (AllReadyH.cons rfl (fun K hK => ?_) AllReadyH.nil)
          (try simp only [Act.put, List.setIfInBounds_toArray, List.set_cons_zero, List.set_cons_succ, List.getElem_toArray, List.getElem_cons_zero, List.getElem_cons_succ])
          go_simp
          go_wp2_with fail
          have HB := hide (show W0.heap.size ≤ wrr47.heap.size from by first | exact Nat.le_refl _ | exact World.grownBy.size hHeld)
          refine hK.out _ _ (gw_alloc hHeld (.cells #[.int .i64 0, .int .i64 0, .int .i64 0, .int .i64 0, .int .i64 0, .int .i64 0, .int .i64 0, .int .i64 0] 25)) (fun hHeld => ?_)
          clear hK
          have HZ := hide (show Blk (wrr47.alloc (.cells #[.int .i64 0, .int .i64 0, .int .i64 0, .int .i64 0, .int .i64 0, .int .i64 0, .int .i64 0, .int .i64 0] 25)) wrr47.heap.size 25 (zeros 8) from Blk.new wrr47 25 (zeros 8))
          have OM := hide (OM.out.keep (grown_alloc wrr47 (.cells #[.int .i64 0, .int .i64 0, .int .i64 0, .int .i64 0, .int .i64 0, .int .i64 0, .int .i64 0, .int .i64 0] 25) none))
          have OX := hide (OX.out.keep (grown_alloc wrr47 (.cells #[.int .i64 0, .int .i64 0, .int .i64 0, .int .i64 0, .int .i64 0, .int .i64 0, .int .i64 0, .int .i64 0] 25) none))
          generalize wrr47.alloc (.cells #[.int .i64 0, .int .i64 0, .int .i64 0, .int .i64 0, .int .i64 0, .int .i64 0, .int .i64 0, .int .i64 0] 25) = wzrr52 at *
          (try simp only [Act.put, List.setIfInBounds_toArray, List.set_cons_zero, List.set_cons_succ, List.getElem_toArray, List.getElem_cons_zero, List.getElem_cons_succ])
          refine wpAnyH_take (i := 11) (v := ?vrr53) rfl (by kernel_rfl) (by kernel_rfl) (by kernel_rfl) (fun _ _ _ h => h) (Or.inl ⟨by rfl, ?yrr53⟩) hHeld ?rrr53
          case yrr53 => (intro w' hSw; go_simp; (try with_reducible rfl))
          (try simp only [Act.put, List.setIfInBounds_toArray, List.set_cons_zero, List.set_cons_succ, List.getElem_toArray, List.getElem_cons_zero, List.getElem_cons_succ])
          refine wpAnyH_ready (rs := [12]) (by kernel_rfl) (by simp) (AllReadyH.cons rfl (fun K hK => ?_) AllReadyH.nil)
          (try simp only [Act.put, List.setIfInBounds_toArray, List.set_cons_zero, List.set_cons_succ, List.getElem_toArray, List.getElem_cons_zero, List.getElem_cons_succ])
          refine step_store_arr rfl 25 _ _ rfl (wrr47.heap.size) (zeros 8) (zeros 8) rfl rfl HZ.out rfl (by rw [zeros_len]; exact size8') ?_
          have PU := put_arr (rs' := (zeros 8)) HZ.out rfl
          refine hK.out _ _ (gw_own hHeld PU.2 HB.out) (fun hHeld => ?_)
          clear hK
          have OM := hide (OM.out)
          have OX := hide (OX.out.keepBut PU.2 HZ.out (by decide))
          (try simp only [Act.put, List.setIfInBounds_toArray, List.set_cons_zero, List.set_cons_succ, List.getElem_toArray, List.getElem_cons_zero, List.getElem_cons_succ])
          refine wpAnyH_take (i := 13) (v := ?vrr55) rfl (by kernel_rfl) (by kernel_rfl) (by kernel_rfl) (fun _ _ _ h => h) (Or.inl ⟨by rfl, ?yrr55⟩) hHeld ?rrr55
          case yrr55 => (intro w' hSw; go_simp; (try with_reducible rfl))
          (try simp only [Act.put, List.setIfInBounds_toArray, List.set_cons_zero, List.set_cons_succ, List.getElem_toArray, List.getElem_cons_zero, List.getElem_cons_succ])
          refine wpAnyH_done (by kernel_rfl) ?_ _
          go_wp2_with fail
          go_meet
          exact ⟨wrr47.heap.size, rfl, rfl, OX.out, PU.1, HB.out, hHeld⟩
        case grr46 =>
          (try simp only [Act.put, List.setIfInBounds_toArray, List.set_cons_zero, List.set_cons_succ, List.getElem_toArray, List.getElem_cons_zero, List.getElem_cons_succ])
          go_simp
          go_wp2_with fail
          have HB := hide (show W0.heap.size ≤ wrr44.heap.size from by first | exact Nat.le_refl _ | exact World.grownBy.size hHeld)
          refine hK.out _ _ (gw_alloc hHeld (.cells #[.int .i64 0, .int .i64 0, .int .i64 0, .int .i64 0, .int .i64 0, .int .i64 0, .int .i64 0, .int .i64 0] 25)) (fun hHeld => ?_)
          clear hK
          have HZ := hide (show Blk (wrr44.alloc (.cells #[.int .i64 0, .int .i64 0, .int .i64 0, .int .i64 0, .int .i64 0, .int .i64 0, .int .i64 0, .int .i64 0] 25)) wrr44.heap.size 25 (zeros 8) from Blk.new wrr44 25 (zeros 8))
          have OM := hide (OM.out.keep (grown_alloc wrr44 (.cells #[.int .i64 0, .int .i64 0, .int .i64 0, .int .i64 0, .int .i64 0, .int .i64 0, .int .i64 0, .int .i64 0] 25) none))
          generalize wrr44.alloc (.cells #[.int .i64 0, .int .i64 0, .int .i64 0, .int .i64 0, .int .i64 0, .int .i64 0, .int .i64 0, .int .i64 0] 25) = wzrr56 at *
          (try simp only [Act.put, List.setIfInBounds_toArray, List.set_cons_zero, List.set_cons_succ, List.getElem_toArray, List.getElem_cons_zero, List.getElem_cons_succ])
          refine wpAnyH_ready (rs := [5]) (by kernel_rfl) (by simp) (AllReadyH.cons rfl (fun K hK => ?_) AllReadyH.nil)
          (try simp only [Act.put, List.setIfInBounds_toArray, List.set_cons_zero, List.set_cons_succ, List.getElem_toArray, List.getElem_cons_zero, List.getElem_cons_succ])
          go_simp
          refine (HM.out _ _ (IZ.out _ _ OM.out) (.inr ⟨_, _, by rw [zeros_len]⟩)).mono ?_
          rintro e wrr57 ⟨vx, rfl, ox, grr57⟩
          have Grr57 := hide grr57
          have OX := hide (ox.base (b' := W0.heap.size) (World.grownBy.size hHeld))
          clear grr57 ox
          go_wp2_with fail
          refine hK.out _ _ (gw_trans hHeld Grr57.out) (fun hHeld => ?_)
          clear hK
          have HZ := hide (HZ.out.keep Grr57.out)
          have OM := hide (OM.out.keep Grr57.out)
          (try simp only [Act.put, List.setIfInBounds_toArray, List.set_cons_zero, List.set_cons_succ, List.getElem_toArray, List.getElem_cons_zero, List.getElem_cons_succ])
          refine wpAnyH_take (i := 6) (v := ?vrr58) rfl (by kernel_rfl) (by kernel_rfl) (by kernel_rfl) (fun _ _ _ h => h) (Or.inl ⟨by rfl, ?yrr58⟩) hHeld ?rrr58
          case yrr58 => (intro w' hSw; go_simp; (try with_reducible rfl))
          (try simp only [Act.put, List.setIfInBounds_toArray, List.set_cons_zero, List.set_cons_succ, List.getElem_toArray, List.getElem_cons_zero, List.getElem_cons_succ])
          refine wpAnyH_take (i := 7) (v := ?vrr59) rfl (by kernel_rfl) (by kernel_rfl) (by kernel_rfl) (fun _ _ _ h => h) (Or.inl ⟨by rfl, ?yrr59⟩) hHeld ?rrr59
          case yrr59 => (intro w' hSw; go_simp; (try with_reducible rfl))
          (try simp only [Act.put, List.setIfInBounds_toArray, List.set_cons_zero, List.set_cons_succ, List.getElem_toArray, List.getElem_cons_zero, List.getElem_cons_succ])
          refine wpAnyH_take (i := 8) (v := ?vrr60) rfl (by kernel_rfl) (by kernel_rfl) (by kernel_rfl) (fun _ _ _ h => h) (Or.inl ⟨by rfl, ?yrr60⟩) hHeld ?rrr60
          case yrr60 => (intro w' hSw; go_simp; (try with_reducible rfl))
          (try simp only [Act.put, List.setIfInBounds_toArray, List.set_cons_zero, List.set_cons_succ, List.getElem_toArray, List.getElem_cons_zero, List.getElem_cons_succ])
          refine wpAnyH_take (i := 9) (v := ?vrr61) rfl (by kernel_rfl) (by kernel_rfl) (by kernel_rfl) (fun _ _ _ h => h) (Or.inl ⟨by rfl, ?yrr61⟩) hHeld ?rrr61
          case yrr61 => (intro w' hSw; go_simp; (try with_reducible rfl))
          (try simp only [Act.put, List.setIfInBounds_toArray, List.set_cons_zero, List.set_cons_succ, List.getElem_toArray, List.getElem_cons_zero, List.getElem_cons_succ])
          refine wpAnyH_take (i := 11) (v := ?vrr62) rfl (by kernel_rfl) (by kernel_rfl) (by kernel_rfl) (fun _ _ _ h => h) (Or.inl ⟨by rfl, ?yrr62⟩) hHeld ?rrr62
          case yrr62 => (intro w' hSw; go_simp; (try with_reducible rfl))
          (try simp only [Act.put, List.setIfInBounds_toArray, List.set_cons_zero, List.set_cons_succ, List.getElem_toArray, List.getElem_cons_zero, List.getElem_cons_succ])
          refine wpAnyH_ready (rs := [12]) (by kernel_rfl) (by simp) (AllReadyH.cons rfl (fun K hK => ?_) AllReadyH.nil)
          (try simp only [Act.put, List.setIfInBounds_toArray, List.set_cons_zero, List.set_cons_succ, List.getElem_toArray, List.getElem_cons_zero, List.getElem_cons_succ])
          refine step_store_arr rfl 25 _ _ rfl (wrr44.heap.size) (zeros 8) (zeros 8) rfl rfl HZ.out rfl (by rw [zeros_len]; exact size8') ?_
          have PU := put_arr (rs' := (zeros 8)) HZ.out rfl
          refine hK.out _ _ (gw_own hHeld PU.2 HB.out) (fun hHeld => ?_)
          clear hK
          have OM := hide (OM.out)
          have OX := hide (OX.out.keepBut PU.2 HZ.out (by decide))
          (try simp only [Act.put, List.setIfInBounds_toArray, List.set_cons_zero, List.set_cons_succ, List.getElem_toArray, List.getElem_cons_zero, List.getElem_cons_succ])
          refine wpAnyH_take (i := 13) (v := ?vrr64) rfl (by kernel_rfl) (by kernel_rfl) (by kernel_rfl) (fun _ _ _ h => h) (Or.inl ⟨by rfl, ?yrr64⟩) hHeld ?rrr64
          case yrr64 => (intro w' hSw; go_simp; (try with_reducible rfl))
          (try simp only [Act.put, List.setIfInBounds_toArray, List.set_cons_zero, List.set_cons_succ, List.getElem_toArray, List.getElem_cons_zero, List.getElem_cons_succ])
          refine wpAnyH_done (by kernel_rfl) ?_ _
          go_wp2_with fail
          go_meet
          exact ⟨wrr44.heap.size, rfl, rfl, OX.out, PU.1, HB.out, hHeld⟩
      case grr43 =>
        (try simp only [Act.put, List.setIfInBounds_toArray, List.set_cons_zero, List.set_cons_succ, List.getElem_toArray, List.getElem_cons_zero, List.getElem_cons_succ])
        go_simp
        go_wp2_with fail
        have HB := hide (show W0.heap.size ≤ wzrr41.heap.size from by first | exact Nat.le_refl _ | exact World.grownBy.size hHeld)
        refine hK.out _ _ (gw_alloc hHeld (.cells #[.int .i64 0, .int .i64 0, .int .i64 0, .int .i64 0, .int .i64 0, .int .i64 0, .int .i64 0, .int .i64 0] 25)) (fun hHeld => ?_)
        clear hK
        have HZ := hide (show Blk (wzrr41.alloc (.cells #[.int .i64 0, .int .i64 0, .int .i64 0, .int .i64 0, .int .i64 0, .int .i64 0, .int .i64 0, .int .i64 0] 25)) wzrr41.heap.size 25 (zeros 8) from Blk.new wzrr41 25 (zeros 8))
        have OM := hide (OM.out.keep (grown_alloc wzrr41 (.cells #[.int .i64 0, .int .i64 0, .int .i64 0, .int .i64 0, .int .i64 0, .int .i64 0, .int .i64 0, .int .i64 0] 25) none))
        generalize wzrr41.alloc (.cells #[.int .i64 0, .int .i64 0, .int .i64 0, .int .i64 0, .int .i64 0, .int .i64 0, .int .i64 0, .int .i64 0] 25) = wzrr65 at *
        (try simp only [Act.put, List.setIfInBounds_toArray, List.set_cons_zero, List.set_cons_succ, List.getElem_toArray, List.getElem_cons_zero, List.getElem_cons_succ])
        refine wpAnyH_ready (rs := [1]) (by kernel_rfl) (by simp) (AllReadyH.cons rfl (fun K hK => ?_) AllReadyH.nil)
        (try simp only [Act.put, List.setIfInBounds_toArray, List.set_cons_zero, List.set_cons_succ, List.getElem_toArray, List.getElem_cons_zero, List.getElem_cons_succ])
        go_simp
        refine (PR.out _).mono ?_
        rintro e wrr66 ⟨rfl, grr66⟩
        have Grr66 := hide grr66
        clear grr66
        go_wp2_with fail
        refine hK.out _ _ (gw_trans hHeld Grr66.out) (fun hHeld => ?_)
        clear hK
        have HZ := hide (HZ.out.keep Grr66.out)
        have OM := hide (OM.out.keep Grr66.out)
        (try simp only [Act.put, List.setIfInBounds_toArray, List.set_cons_zero, List.set_cons_succ, List.getElem_toArray, List.getElem_cons_zero, List.getElem_cons_succ])
        refine wpAnyH_ready (rs := [5]) (by kernel_rfl) (by simp) (AllReadyH.cons rfl (fun K hK => ?_) AllReadyH.nil)
        (try simp only [Act.put, List.setIfInBounds_toArray, List.set_cons_zero, List.set_cons_succ, List.getElem_toArray, List.getElem_cons_zero, List.getElem_cons_succ])
        go_simp
        refine (HM.out _ _ (IZ.out _ _ OM.out) (.inr ⟨_, _, by rw [zeros_len]⟩)).mono ?_
        rintro e wrr67 ⟨vx, rfl, ox, grr67⟩
        have Grr67 := hide grr67
        have OX := hide (ox.base (b' := W0.heap.size) (World.grownBy.size hHeld))
        clear grr67 ox
        go_wp2_with fail
        refine hK.out _ _ (gw_trans hHeld Grr67.out) (fun hHeld => ?_)
        clear hK
        have HZ := hide (HZ.out.keep Grr67.out)
        have OM := hide (OM.out.keep Grr67.out)
        (try simp only [Act.put, List.setIfInBounds_toArray, List.set_cons_zero, List.set_cons_succ, List.getElem_toArray, List.getElem_cons_zero, List.getElem_cons_succ])
        refine wpAnyH_take (i := 6) (v := ?vrr68) rfl (by kernel_rfl) (by kernel_rfl) (by kernel_rfl) (fun _ _ _ h => h) (Or.inl ⟨by rfl, ?yrr68⟩) hHeld ?rrr68
        case yrr68 => (intro w' hSw; go_simp; (try with_reducible rfl))
        (try simp only [Act.put, List.setIfInBounds_toArray, List.set_cons_zero, List.set_cons_succ, List.getElem_toArray, List.getElem_cons_zero, List.getElem_cons_succ])
        refine wpAnyH_take (i := 7) (v := ?vrr69) rfl (by kernel_rfl) (by kernel_rfl) (by kernel_rfl) (fun _ _ _ h => h) (Or.inl ⟨by rfl, ?yrr69⟩) hHeld ?rrr69
        case yrr69 => (intro w' hSw; go_simp; (try with_reducible rfl))
        (try simp only [Act.put, List.setIfInBounds_toArray, List.set_cons_zero, List.set_cons_succ, List.getElem_toArray, List.getElem_cons_zero, List.getElem_cons_succ])
        refine wpAnyH_take (i := 8) (v := ?vrr70) rfl (by kernel_rfl) (by kernel_rfl) (by kernel_rfl) (fun _ _ _ h => h) (Or.inl ⟨by rfl, ?yrr70⟩) hHeld ?rrr70
        case yrr70 => (intro w' hSw; go_simp; (try with_reducible rfl))
        (try simp only [Act.put, List.setIfInBounds_toArray, List.set_cons_zero, List.set_cons_succ, List.getElem_toArray, List.getElem_cons_zero, List.getElem_cons_succ])
        refine wpAnyH_take (i := 9) (v := ?vrr71) rfl (by kernel_rfl) (by kernel_rfl) (by kernel_rfl) (fun _ _ _ h => h) (Or.inl ⟨by rfl, ?yrr71⟩) hHeld ?rrr71
        case yrr71 => (intro w' hSw; go_simp; (try with_reducible rfl))
        (try simp only [Act.put, List.setIfInBounds_toArray, List.set_cons_zero, List.set_cons_succ, List.getElem_toArray, List.getElem_cons_zero, List.getElem_cons_succ])
        refine wpAnyH_take (i := 11) (v := ?vrr72) rfl (by kernel_rfl) (by kernel_rfl) (by kernel_rfl) (fun _ _ _ h => h) (Or.inl ⟨by rfl, ?yrr72⟩) hHeld ?rrr72
        case yrr72 => (intro w' hSw; go_simp; (try with_reducible rfl))
        (try simp only [Act.put, List.setIfInBounds_toArray, List.set_cons_zero, List.set_cons_succ, List.getElem_toArray, List.getElem_cons_zero, List.getElem_cons_succ])
        refine wpAnyH_ready (rs := [12]) (by kernel_rfl) (by simp) (AllReadyH.cons rfl (fun K hK => ?_) AllReadyH.nil)
        (try simp only [Act.put, List.setIfInBounds_toArray, List.set_cons_zero, List.set_cons_succ, List.getElem_toArray, List.getElem_cons_zero, List.getElem_cons_succ])
        refine step_store_arr rfl 25 _ _ rfl (wzrr41.heap.size) (zeros 8) (zeros 8) rfl rfl HZ.out rfl (by rw [zeros_len]; exact size8') ?_
        have PU := put_arr (rs' := (zeros 8)) HZ.out rfl
        refine hK.out _ _ (gw_own hHeld PU.2 HB.out) (fun hHeld => ?_)
        clear hK
        have OM := hide (OM.out)
        have OX := hide (OX.out.keepBut PU.2 HZ.out (by decide))
        (try simp only [Act.put, List.setIfInBounds_toArray, List.set_cons_zero, List.set_cons_succ, List.getElem_toArray, List.getElem_cons_zero, List.getElem_cons_succ])
        refine wpAnyH_take (i := 13) (v := ?vrr74) rfl (by kernel_rfl) (by kernel_rfl) (by kernel_rfl) (fun _ _ _ h => h) (Or.inl ⟨by rfl, ?yrr74⟩) hHeld ?rrr74
        case yrr74 => (intro w' hSw; go_simp; (try with_reducible rfl))
        (try simp only [Act.put, List.setIfInBounds_toArray, List.set_cons_zero, List.set_cons_succ, List.getElem_toArray, List.getElem_cons_zero, List.getElem_cons_succ])
        refine wpAnyH_done (by kernel_rfl) ?_ _
        go_wp2_with fail
        go_meet
        exact ⟨wzrr41.heap.size, rfl, rfl, OX.out, PU.1, HB.out, hHeld⟩
    case grr6 =>
      (try simp only [Act.put, List.setIfInBounds_toArray, List.set_cons_zero, List.set_cons_succ, List.getElem_toArray, List.getElem_cons_zero, List.getElem_cons_succ])
      go_simp
      go_wp2_with fail
      have HB := hide (show W0.heap.size ≤ W0.heap.size from by first | exact Nat.le_refl _ | exact World.grownBy.size hHeld)
      refine hK.out _ _ (gw_alloc hHeld (.cells #[.int .i64 0, .int .i64 0, .int .i64 0, .int .i64 0, .int .i64 0, .int .i64 0, .int .i64 0, .int .i64 0] 25)) (fun hHeld => ?_)
      clear hK
      have HZ := hide (show Blk ((W0.alloc (.cells #[.int .i64 0, .int .i64 0, .int .i64 0, .int .i64 0, .int .i64 0, .int .i64 0, .int .i64 0, .int .i64 0] 25)).drew) W0.heap.size 25 (zeros 8) from Blk.new W0.drew 25 (zeros 8))
      generalize (W0.alloc (.cells #[.int .i64 0, .int .i64 0, .int .i64 0, .int .i64 0, .int .i64 0, .int .i64 0, .int .i64 0, .int .i64 0] 25)).drew = wzrr75 at *
      (try simp only [Act.put, List.setIfInBounds_toArray, List.set_cons_zero, List.set_cons_succ, List.getElem_toArray, List.getElem_cons_zero, List.getElem_cons_succ])
      refine wpAnyH_ready (rs := [1, 4]) (by kernel_rfl) (by simp) (AllReadyH.cons rfl (fun K hK => ?grr76) (AllReadyH.cons rfl (fun K hK => ?grr77) AllReadyH.nil))
      case grr76 =>
        (try simp only [Act.put, List.setIfInBounds_toArray, List.set_cons_zero, List.set_cons_succ, List.getElem_toArray, List.getElem_cons_zero, List.getElem_cons_succ])
        go_simp
        refine (PR.out _).mono ?_
        rintro e wrr78 ⟨rfl, grr78⟩
        have Grr78 := hide grr78
        clear grr78
        go_wp2_with fail
        refine hK.out _ _ (gw_trans hHeld Grr78.out) (fun hHeld => ?_)
        clear hK
        have HZ := hide (HZ.out.keep Grr78.out)
        (try simp only [Act.put, List.setIfInBounds_toArray, List.set_cons_zero, List.set_cons_succ, List.getElem_toArray, List.getElem_cons_zero, List.getElem_cons_succ])
        refine wpAnyH_ready (rs := [4]) (by kernel_rfl) (by simp) (AllReadyH.cons rfl (fun K hK => ?_) AllReadyH.nil)
        (try simp only [Act.put, List.setIfInBounds_toArray, List.set_cons_zero, List.set_cons_succ, List.getElem_toArray, List.getElem_cons_zero, List.getElem_cons_succ])
        go_simp
        go_wp2_with fail
        refine hK.out _ _ (gw_alloc hHeld (.cells (arrI (zeros N)) 3)) (fun hHeld => ?_)
        clear hK
        have OM := hide (show Blk (wrr78.alloc (.cells (arrI (zeros N)) 3)) wrr78.heap.size 3 (zeros N) from Blk.new wrr78 3 (zeros N))
        have HZ := hide (HZ.out.keep (grown_alloc wrr78 (.cells (arrI (zeros N)) 3) none))
        generalize wrr78.alloc (.cells (arrI (zeros N)) 3) = wzrr79 at *
        (try simp only [Act.put, List.setIfInBounds_toArray, List.set_cons_zero, List.set_cons_succ, List.getElem_toArray, List.getElem_cons_zero, List.getElem_cons_succ])
        refine wpAnyH_ready (rs := [5]) (by kernel_rfl) (by simp) (AllReadyH.cons rfl (fun K hK => ?_) AllReadyH.nil)
        (try simp only [Act.put, List.setIfInBounds_toArray, List.set_cons_zero, List.set_cons_succ, List.getElem_toArray, List.getElem_cons_zero, List.getElem_cons_succ])
        go_simp
        refine (HM.out _ _ (IZ.out _ _ OM.out) (.inr ⟨_, _, by rw [zeros_len]⟩)).mono ?_
        rintro e wrr80 ⟨vx, rfl, ox, grr80⟩
        have Grr80 := hide grr80
        have OX := hide (ox.base (b' := W0.heap.size) (World.grownBy.size hHeld))
        clear grr80 ox
        go_wp2_with fail
        refine hK.out _ _ (gw_trans hHeld Grr80.out) (fun hHeld => ?_)
        clear hK
        have HZ := hide (HZ.out.keep Grr80.out)
        have OM := hide (OM.out.keep Grr80.out)
        (try simp only [Act.put, List.setIfInBounds_toArray, List.set_cons_zero, List.set_cons_succ, List.getElem_toArray, List.getElem_cons_zero, List.getElem_cons_succ])
        refine wpAnyH_take (i := 6) (v := ?vrr81) rfl (by kernel_rfl) (by kernel_rfl) (by kernel_rfl) (fun _ _ _ h => h) (Or.inl ⟨by rfl, ?yrr81⟩) hHeld ?rrr81
        case yrr81 => (intro w' hSw; go_simp; (try with_reducible rfl))
        (try simp only [Act.put, List.setIfInBounds_toArray, List.set_cons_zero, List.set_cons_succ, List.getElem_toArray, List.getElem_cons_zero, List.getElem_cons_succ])
        refine wpAnyH_take (i := 7) (v := ?vrr82) rfl (by kernel_rfl) (by kernel_rfl) (by kernel_rfl) (fun _ _ _ h => h) (Or.inl ⟨by rfl, ?yrr82⟩) hHeld ?rrr82
        case yrr82 => (intro w' hSw; go_simp; (try with_reducible rfl))
        (try simp only [Act.put, List.setIfInBounds_toArray, List.set_cons_zero, List.set_cons_succ, List.getElem_toArray, List.getElem_cons_zero, List.getElem_cons_succ])
        refine wpAnyH_take (i := 8) (v := ?vrr83) rfl (by kernel_rfl) (by kernel_rfl) (by kernel_rfl) (fun _ _ _ h => h) (Or.inl ⟨by rfl, ?yrr83⟩) hHeld ?rrr83
        case yrr83 => (intro w' hSw; go_simp; (try with_reducible rfl))
        (try simp only [Act.put, List.setIfInBounds_toArray, List.set_cons_zero, List.set_cons_succ, List.getElem_toArray, List.getElem_cons_zero, List.getElem_cons_succ])
        refine wpAnyH_take (i := 9) (v := ?vrr84) rfl (by kernel_rfl) (by kernel_rfl) (by kernel_rfl) (fun _ _ _ h => h) (Or.inl ⟨by rfl, ?yrr84⟩) hHeld ?rrr84
        case yrr84 => (intro w' hSw; go_simp; (try with_reducible rfl))
        (try simp only [Act.put, List.setIfInBounds_toArray, List.set_cons_zero, List.set_cons_succ, List.getElem_toArray, List.getElem_cons_zero, List.getElem_cons_succ])
        refine wpAnyH_take (i := 11) (v := ?vrr85) rfl (by kernel_rfl) (by kernel_rfl) (by kernel_rfl) (fun _ _ _ h => h) (Or.inl ⟨by rfl, ?yrr85⟩) hHeld ?rrr85
        case yrr85 => (intro w' hSw; go_simp; (try with_reducible rfl))
        (try simp only [Act.put, List.setIfInBounds_toArray, List.set_cons_zero, List.set_cons_succ, List.getElem_toArray, List.getElem_cons_zero, List.getElem_cons_succ])
        refine wpAnyH_ready (rs := [12]) (by kernel_rfl) (by simp) (AllReadyH.cons rfl (fun K hK => ?_) AllReadyH.nil)
        (try simp only [Act.put, List.setIfInBounds_toArray, List.set_cons_zero, List.set_cons_succ, List.getElem_toArray, List.getElem_cons_zero, List.getElem_cons_succ])
        refine step_store_arr rfl 25 _ _ rfl (W0.heap.size) (zeros 8) (zeros 8) rfl rfl HZ.out rfl (by rw [zeros_len]; exact size8') ?_
        have PU := put_arr (rs' := (zeros 8)) HZ.out rfl
        refine hK.out _ _ (gw_own hHeld PU.2 HB.out) (fun hHeld => ?_)
        clear hK
        have OM := hide (OM.out)
        have OX := hide (OX.out.keepBut PU.2 HZ.out (by decide))
        (try simp only [Act.put, List.setIfInBounds_toArray, List.set_cons_zero, List.set_cons_succ, List.getElem_toArray, List.getElem_cons_zero, List.getElem_cons_succ])
        refine wpAnyH_take (i := 13) (v := ?vrr87) rfl (by kernel_rfl) (by kernel_rfl) (by kernel_rfl) (fun _ _ _ h => h) (Or.inl ⟨by rfl, ?yrr87⟩) hHeld ?rrr87
        case yrr87 => (intro w' hSw; go_simp; (try with_reducible rfl))
        (try simp only [Act.put, List.setIfInBounds_toArray, List.set_cons_zero, List.set_cons_succ, List.getElem_toArray, List.getElem_cons_zero, List.getElem_cons_succ])
        refine wpAnyH_done (by kernel_rfl) ?_ _
        go_wp2_with fail
        go_meet
        exact ⟨W0.heap.size, rfl, rfl, OX.out, PU.1, HB.out, hHeld⟩
      case grr77 =>
        (try simp only [Act.put, List.setIfInBounds_toArray, List.set_cons_zero, List.set_cons_succ, List.getElem_toArray, List.getElem_cons_zero, List.getElem_cons_succ])
        go_simp
        go_wp2_with fail
        refine hK.out _ _ (gw_alloc hHeld (.cells (arrI (zeros N)) 3)) (fun hHeld => ?_)
        clear hK
        have OM := hide (show Blk (wzrr75.alloc (.cells (arrI (zeros N)) 3)) wzrr75.heap.size 3 (zeros N) from Blk.new wzrr75 3 (zeros N))
        have HZ := hide (HZ.out.keep (grown_alloc wzrr75 (.cells (arrI (zeros N)) 3) none))
        generalize wzrr75.alloc (.cells (arrI (zeros N)) 3) = wzrr88 at *
        (try simp only [Act.put, List.setIfInBounds_toArray, List.set_cons_zero, List.set_cons_succ, List.getElem_toArray, List.getElem_cons_zero, List.getElem_cons_succ])
        refine wpAnyH_ready (rs := [1]) (by kernel_rfl) (by simp) (AllReadyH.cons rfl (fun K hK => ?_) AllReadyH.nil)
        (try simp only [Act.put, List.setIfInBounds_toArray, List.set_cons_zero, List.set_cons_succ, List.getElem_toArray, List.getElem_cons_zero, List.getElem_cons_succ])
        go_simp
        refine (PR.out _).mono ?_
        rintro e wrr89 ⟨rfl, grr89⟩
        have Grr89 := hide grr89
        clear grr89
        go_wp2_with fail
        refine hK.out _ _ (gw_trans hHeld Grr89.out) (fun hHeld => ?_)
        clear hK
        have HZ := hide (HZ.out.keep Grr89.out)
        have OM := hide (OM.out.keep Grr89.out)
        (try simp only [Act.put, List.setIfInBounds_toArray, List.set_cons_zero, List.set_cons_succ, List.getElem_toArray, List.getElem_cons_zero, List.getElem_cons_succ])
        refine wpAnyH_ready (rs := [5]) (by kernel_rfl) (by simp) (AllReadyH.cons rfl (fun K hK => ?_) AllReadyH.nil)
        (try simp only [Act.put, List.setIfInBounds_toArray, List.set_cons_zero, List.set_cons_succ, List.getElem_toArray, List.getElem_cons_zero, List.getElem_cons_succ])
        go_simp
        refine (HM.out _ _ (IZ.out _ _ OM.out) (.inr ⟨_, _, by rw [zeros_len]⟩)).mono ?_
        rintro e wrr90 ⟨vx, rfl, ox, grr90⟩
        have Grr90 := hide grr90
        have OX := hide (ox.base (b' := W0.heap.size) (World.grownBy.size hHeld))
        clear grr90 ox
        go_wp2_with fail
        refine hK.out _ _ (gw_trans hHeld Grr90.out) (fun hHeld => ?_)
        clear hK
        have HZ := hide (HZ.out.keep Grr90.out)
        have OM := hide (OM.out.keep Grr90.out)
        (try simp only [Act.put, List.setIfInBounds_toArray, List.set_cons_zero, List.set_cons_succ, List.getElem_toArray, List.getElem_cons_zero, List.getElem_cons_succ])
        refine wpAnyH_take (i := 6) (v := ?vrr91) rfl (by kernel_rfl) (by kernel_rfl) (by kernel_rfl) (fun _ _ _ h => h) (Or.inl ⟨by rfl, ?yrr91⟩) hHeld ?rrr91
        case yrr91 => (intro w' hSw; go_simp; (try with_reducible rfl))
        (try simp only [Act.put, List.setIfInBounds_toArray, List.set_cons_zero, List.set_cons_succ, List.getElem_toArray, List.getElem_cons_zero, List.getElem_cons_succ])
        refine wpAnyH_take (i := 7) (v := ?vrr92) rfl (by kernel_rfl) (by kernel_rfl) (by kernel_rfl) (fun _ _ _ h => h) (Or.inl ⟨by rfl, ?yrr92⟩) hHeld ?rrr92
        case yrr92 => (intro w' hSw; go_simp; (try with_reducible rfl))
        (try simp only [Act.put, List.setIfInBounds_toArray, List.set_cons_zero, List.set_cons_succ, List.getElem_toArray, List.getElem_cons_zero, List.getElem_cons_succ])
        refine wpAnyH_take (i := 8) (v := ?vrr93) rfl (by kernel_rfl) (by kernel_rfl) (by kernel_rfl) (fun _ _ _ h => h) (Or.inl ⟨by rfl, ?yrr93⟩) hHeld ?rrr93
        case yrr93 => (intro w' hSw; go_simp; (try with_reducible rfl))
        (try simp only [Act.put, List.setIfInBounds_toArray, List.set_cons_zero, List.set_cons_succ, List.getElem_toArray, List.getElem_cons_zero, List.getElem_cons_succ])
        refine wpAnyH_take (i := 9) (v := ?vrr94) rfl (by kernel_rfl) (by kernel_rfl) (by kernel_rfl) (fun _ _ _ h => h) (Or.inl ⟨by rfl, ?yrr94⟩) hHeld ?rrr94
        case yrr94 => (intro w' hSw; go_simp; (try with_reducible rfl))
        (try simp only [Act.put, List.setIfInBounds_toArray, List.set_cons_zero, List.set_cons_succ, List.getElem_toArray, List.getElem_cons_zero, List.getElem_cons_succ])
        refine wpAnyH_take (i := 11) (v := ?vrr95) rfl (by kernel_rfl) (by kernel_rfl) (by kernel_rfl) (fun _ _ _ h => h) (Or.inl ⟨by rfl, ?yrr95⟩) hHeld ?rrr95
        case yrr95 => (intro w' hSw; go_simp; (try with_reducible rfl))
        (try simp only [Act.put, List.setIfInBounds_toArray, List.set_cons_zero, List.set_cons_succ, List.getElem_toArray, List.getElem_cons_zero, List.getElem_cons_succ])
        refine wpAnyH_ready (rs := [12]) (by kernel_rfl) (by simp) (AllReadyH.cons rfl (fun K hK => ?_) AllReadyH.nil)
        (try simp only [Act.put, List.setIfInBounds_toArray, List.set_cons_zero, List.set_cons_succ, List.getElem_toArray, List.getElem_cons_zero, List.getElem_cons_succ])
        refine step_store_arr rfl 25 _ _ rfl (W0.heap.size) (zeros 8) (zeros 8) rfl rfl HZ.out rfl (by rw [zeros_len]; exact size8') ?_
        have PU := put_arr (rs' := (zeros 8)) HZ.out rfl
        refine hK.out _ _ (gw_own hHeld PU.2 HB.out) (fun hHeld => ?_)
        clear hK
        have OM := hide (OM.out)
        have OX := hide (OX.out.keepBut PU.2 HZ.out (by decide))
        (try simp only [Act.put, List.setIfInBounds_toArray, List.set_cons_zero, List.set_cons_succ, List.getElem_toArray, List.getElem_cons_zero, List.getElem_cons_succ])
        refine wpAnyH_take (i := 13) (v := ?vrr97) rfl (by kernel_rfl) (by kernel_rfl) (by kernel_rfl) (fun _ _ _ h => h) (Or.inl ⟨by rfl, ?yrr97⟩) hHeld ?rrr97
        case yrr97 => (intro w' hSw; go_simp; (try with_reducible rfl))
        (try simp only [Act.put, List.setIfInBounds_toArray, List.set_cons_zero, List.set_cons_succ, List.getElem_toArray, List.getElem_cons_zero, List.getElem_cons_succ])
        refine wpAnyH_done (by kernel_rfl) ?_ _
        go_wp2_with fail
        go_meet
        exact ⟨W0.heap.size, rfl, rfl, OX.out, PU.1, HB.out, hHeld⟩
  case rest =>
  obtain ⟨b6, rfl, rfl, o5, z6, hb6, g6⟩ := hcut
  have O5 := hide o5
  have Z6 := hide z6
  have G1 := hide (grown_none G0.out g6)
  clear o5 z6 hb6 g6 G0 BA PR HM
  go_wp2_with fail
  refine (filters_any _).mono ?_
  rintro e w9 ⟨rfl, g9⟩
  have ga := grown_none g9 (grown_alloc w9 (.cells (arrI (zeros N)) 3) none)
  have I5 := hide (O5.out.keep ga).ints
  have IM := hide (IZ.out _ _ (Blk.new w9 3 (zeros N)))
  have Z7 := hide (Z6.out.keep ga)
  have G2 := hide (grown_none G1.out ga)
  clear g9 ga O5 Z6 G1 IZ
  have SM := hide (keepSame_any _ _ (zeros N) (zeros N) _ I5.out IM.out (by rw [zeros_len]; omega) (by rw [zeros_len]; omega))
  rw [show decide (zeros N = zeros N) = true by simp] at SM
  clear I5 IM
  go_wp2_with fail
  refine SM.out.mono ?_
  rintro e w10 ⟨rfl, m, rfl⟩
  have Z8 := hide (Z7.out.keep (grown_drewN' _ m none))
  have G3 := hide (grown_none G2.out (grown_drewN' _ m none))
  clear SM Z7 G2 hmk
  go_wp2_with (first | refine wpList_load_arrG (by first | rfl | (simp [Region.wanted, yielded]; omega)) 25 _ rfl _ rfl _ Z8.out _ Try.underlying25 rfl (by rw [zeros_len]; exact size8') ?_)
  go_ret
  exact ⟨rfl, below_of_grown G3.out⟩
theorem fold_swap (r l : List Int) (h : r.length = l.length) : foL r l = foL l r ∧ foE r l = foE l r := by
  have e1 : sizeO r l = sizeO l r := by unfold sizeO; rw [h]
  have e2 : okO r l = okO l r := by unfold okO; rw [Bool.and_comm]
  constructor
  · unfold foL
    rw [e1, e2, h]
    split
    · apply tab_ext (tab_len _ _)
      intro i hi
      rw [tab_nth _ _ _ hi, foV_swap]
    · rfl
  · unfold foE; rw [e1, e2]
theorem fold_ok (r l : List Int) (h : r.length = l.length) (hl : l.length ≤ 80) (hr : rightB r = true) (hk : rightB l = true) : foL r l = tab l.length (foV r l) ∧ foE r l = 0 := by
  have s : sizeO r l = true := by unfold sizeO; simp [h, hl]
  have k : okO r l = true := by unfold okO; simp [hr, hk]
  exact ⟨by unfold foL; rw [if_pos ⟨s, k⟩], by unfold foE; rw [if_pos s, if_pos k]⟩
theorem fold_unit (l : List Int) (hr : rightB l = true) : tab l.length (foV l (oneL l.length)) = l := by
  symm
  apply tab_ext rfl
  intro i hi
  rw [foV_one l l.length i hi ((rightB_iff l).1 hr i hi)]
theorem oneL_r (n : Nat) : rightB (oneL n) = true := by
  rw [rightB_iff]
  intro i hi
  unfold oneL at *
  rw [tab_len] at hi
  rw [tab_nth _ _ _ hi]
  split <;> omega
theorem one_st (n : Nat) (h : 0 < n) : (zeros n).set 0 4096 = oneL n := by
  apply tab_ext (by simp [zeros])
  intro i hi
  by_cases h0 : i = 0
  · subst h0; simp [nth, List.getD, zeros, h]
  · rw [if_neg h0, nth_set_ne _ _ _ _ (by omega), zeros_nth]
set_option maxRecDepth 100000 in
theorem law_foldSwaps (w : World) (v : Value) (r : List Int) (hi : Ints w v r) (hl : r.length * 8 ≤ 140737488351232) (hl64 : In64 r) (hsh : Shp v r) (u : Value) (l : List Int) (hj : Ints w u l) (hk : l.length * 8 ≤ 140737488351232) (hk64 : In64 l) (hsu : Shp u l) :
    Calls Try.prog 4 #[v, u] w fun e w' => e = .returned (.bool true) ∧ Below w.heap.size w w' := by
  by_cases h80 : 80 < r.length ∧ 80 < l.length
  · have q1 : (80 : Int) < r.length := by omega
    have q2 : (80 : Int) < l.length := by omega
    have LA := hide (lists_any v r w hi hl 80 (by omega))
    have LB := hide (fun wr (g : w.grownBy wr none) => lists_any u l wr (Ints_keep hj g) hk 80 (by omega))
    have hmk := make_zeros 80 (by omega)
    rw [show ((80 : Nat) : Int) = 80 from rfl] at LA LB hmk
    obtain ⟨ad, c, rfl, hc, _⟩ := hi
    obtain ⟨ad', c', rfl, hc', _⟩ := hj
    clear hl64 hk64 hsh hsu
    go_enter Try.func4, Try.ntmps4
    go_wp2_with fail
    refine LA.out.mono ?_
    rintro e w1 ⟨b1, A, rfl, hA, lA, rA, hb1, g1⟩
    have BA := hide hA
    have RA := hide (right_of_all rA)
    have G1 := hide g1
    clear hA rA g1 hb1 LA
    go_wp2_with fail
    refine (LB.out w1 G1.out).mono ?_
    rintro e w2 ⟨b2, B, rfl, hB, lB, rB, hb2, g2⟩
    have BB := hide hB
    have RB := hide (right_of_all rB)
    have BA := hide (BA.out.keep g2)
    have G2 := hide (grown_none G1.out g2)
    clear hB rB g2 hb2 LB G1
    have F1 := fold_ok A B (by omega) (by omega) RA.out RB.out
    have F2 := fold_swap B A (by omega)
    have F3 := fold_ok A (oneL A.length) (by unfold oneL; rw [tab_len]) (by unfold oneL; rw [tab_len]; omega) RA.out (oneL_r _)
    have F4 := fold_unit A RA.out
    have h1l : (oneL A.length).length = A.length := tab_len _ _
    rw [h1l, F4] at F3
    have HX := hide (fun wr v' u' (h1 : Ints wr v' A) (h2 : Ints wr u' B) => fold_any v' u' A B wr h1 h2 (by omega) (by omega))
    have HY := hide (fun wr v' u' (h1 : Ints wr v' B) (h2 : Ints wr u' A) => fold_any v' u' B A wr h1 h2 (by omega) (by omega))
    have HZ := hide (fun wr v' u' (h1 : Ints wr v' A) (h2 : Ints wr u' (oneL A.length)) => fold_any v' u' A (oneL A.length) wr h1 h2 (by omega) (by rw [h1l]; omega))
    rw [F2.1, F2.2, F1.2] at HY
    rw [F1.2] at HX
    rw [F3.1, F3.2] at HZ
    have hF : (foL A B).length = B.length := by rw [F1.1, tab_len]
    generalize foL A B = X at *
    have IA := hide (show ∀ wr, Blk wr b1 3 A → Ints wr (.slice (some ⟨b1, 0, none⟩) 80 80) A from fun wr h => by have := Ints_of_blk h; rw [lA] at this; exact this)
    have IB := hide (show ∀ wr, Blk wr b2 3 B → Ints wr (.slice (some ⟨b2, 0, none⟩) 80 80) B from fun wr h => by have := Ints_of_blk h; rw [lB] at this; exact this)
    clear F1 F2 F3 F4
    go_wp2_with fail
    refine (HX.out _ _ _ (IA.out _ BA.out) (IB.out _ BB.out)).mono ?_
    rintro e w3 ⟨v3, rfl, o3, g3⟩
    have O3 := hide o3
    have BA := hide (BA.out.keep g3)
    have BB := hide (BB.out.keep g3)
    have G3 := hide (grown_none G2.out g3)
    clear o3 g3 HX G2
    go_wp2_with fail
    refine (HY.out _ _ _ (IB.out _ BB.out) (IA.out _ BA.out)).mono ?_
    rintro e w4 ⟨v4, rfl, o4, g4⟩
    have O4 := hide o4
    have O3 := hide (O3.out.keep g4)
    have BA := hide (BA.out.keep g4)
    have G4 := hide (grown_none G3.out g4)
    clear o4 g4 HY G3 BB IB
    go_upto_region 6 with fail
    have BM := hide (Blk.new w4 3 (zeros 80))
    have gm := grown_alloc w4 (.cells (arrI (zeros 80)) 3) none
    have L3 := hide (show v3.ownBlock ≠ some w4.heap.size from fun e => by have := (O3.out.lt _ e).2; omega)
    have L4 := hide (show v4.ownBlock ≠ some w4.heap.size from fun e => by have := (O4.out.lt _ e).2; omega)
    have LA := hide (show b1 ≠ w4.heap.size from by have := BA.out.lt; omega)
    have NW := hide (World.grownBy.size G4.out)
    have O3 := hide (O3.out.keep gm)
    have O4 := hide (O4.out.keep gm)
    have BA := hide (BA.out.keep gm)
    have G5 := hide (grown_none G4.out gm)
    clear gm G4 hmk
    generalize w4.alloc (.cells (arrI (zeros 80)) 3) = w5 at *
    generalize w4.heap.size = p5 at *
    have cm := BM.out.cell 0 (by rw [zeros_len]; omega)
    have fm := BM.out.free 0
    rw [zeros_nth] at cm
    have BN := hide (BM.out.set 0 4096)
    rw [one_st _ (by omega)] at BN
    have gs' := grown_setCell w5 ⟨p5, 0, none⟩ (.int .i64 4096)
    have O3 := hide (show Own _ _ v3 X from O3.out.kept gs' (.inr L3.out))
    have O4 := hide (show Own _ _ v4 X from O4.out.kept gs' (.inr L4.out))
    have BA := hide (BA.out.keepBut gs' LA.out)
    have G5 := hide (grown_own G5.out gs' NW.out)
    have IM := hide (show Ints _ (.slice (some ⟨p5, 0, none⟩) 80 80) (oneL A.length) from by have := Ints_of_blk BN.out; rw [show (oneL 80).length = 80 from tab_len _ _] at this; rw [lA]; exact this)
    clear BM BN gs' L3 L4 LA NW
    go_wp2_with fail
    clear cm fm
    refine (HZ.out _ _ _ (IA.out _ BA.out) IM.out).mono ?_
    rintro e w6 ⟨v6, rfl, o6, g6⟩
    have O6 := hide o6
    have O3 := hide (O3.out.keep g6)
    have O4 := hide (O4.out.keep g6)
    have BA := hide (BA.out.keep g6)
    have G6 := hide (grown_none G5.out g6)
    clear o6 g6 HZ IM G5
    go_wp2_with fail
    refine (filters_any _).mono ?_
    rintro e w7 ⟨rfl, g7⟩
    have S1 := hide (keepSame_any v3 v4 X X w7 (O3.out.keep g7).ints (O4.out.keep g7).ints (by omega) (by omega))
    have S2 := hide (fun k => keepSame_any v6 _ A A (w7.drewN k) (Ints_keep (O6.out.keep g7).ints (grown_drewN' _ k none)) (Ints_keep (IA.out _ (BA.out.keep g7)) (grown_drewN' _ k none)) (by omega) (by omega))
    rw [show decide (X = X) = true by simp] at S1
    rw [show decide (A = A) = true by simp] at S2
    have G7 := hide (grown_none G6.out g7)
    clear g7 O3 O4 O6 BA IA G6
    go_wp2_with fail
    refine S1.out.mono ?_
    rintro e w8 ⟨rfl, m, rfl⟩
    clear S1
    go_wp2_with fail
    refine (S2.out m).mono ?_
    rintro e w9 ⟨rfl, m2, rfl⟩
    clear S2
    go_wp2_with fail
    go_ret
    exact ⟨rfl, by first | exact below_of_grown (grown_none G7.out (grown_drewN' _ _ none)) | exact below_of_grown (grown_none (grown_none G7.out (grown_drewN' _ _ none)) (grown_drewN' _ _ none))⟩
  · by_cases hrl : r.length ≤ l.length
    · have q1 : (r.length : Int) ≤ l.length := by omega
      have q2 : (r.length : Int) ≤ 80 := by omega
      have LA := hide (lists_any v r w hi hl r.length (by omega))
      have LB := hide (fun wr (g : w.grownBy wr none) => lists_any u l wr (Ints_keep hj g) hk r.length (by omega))
      have hmk := make_zeros r.length (by omega)
      obtain ⟨ad, c, rfl, hc, _⟩ := hi
      obtain ⟨ad', c', rfl, hc', _⟩ := hj
      clear hl64 hk64 hsh hsu
      go_enter Try.func4, Try.ntmps4
      go_wp2_with fail
      refine LA.out.mono ?_
      rintro e w1 ⟨b1, A, rfl, hA, lA, rA, hb1, g1⟩
      have BA := hide hA
      have RA := hide (right_of_all rA)
      have G1 := hide g1
      clear hA rA g1 hb1 LA
      go_wp2_with fail
      refine (LB.out w1 G1.out).mono ?_
      rintro e w2 ⟨b2, B, rfl, hB, lB, rB, hb2, g2⟩
      have BB := hide hB
      have RB := hide (right_of_all rB)
      have BA := hide (BA.out.keep g2)
      have G2 := hide (grown_none G1.out g2)
      clear hB rB g2 hb2 LB G1
      have F1 := fold_ok A B (by omega) (by omega) RA.out RB.out
      have F2 := fold_swap B A (by omega)
      have F3 := fold_ok A (oneL A.length) (by unfold oneL; rw [tab_len]) (by unfold oneL; rw [tab_len]; omega) RA.out (oneL_r _)
      have F4 := fold_unit A RA.out
      have h1l : (oneL A.length).length = A.length := tab_len _ _
      rw [h1l, F4] at F3
      have HX := hide (fun wr v' u' (h1 : Ints wr v' A) (h2 : Ints wr u' B) => fold_any v' u' A B wr h1 h2 (by omega) (by omega))
      have HY := hide (fun wr v' u' (h1 : Ints wr v' B) (h2 : Ints wr u' A) => fold_any v' u' B A wr h1 h2 (by omega) (by omega))
      have HZ := hide (fun wr v' u' (h1 : Ints wr v' A) (h2 : Ints wr u' (oneL A.length)) => fold_any v' u' A (oneL A.length) wr h1 h2 (by omega) (by rw [h1l]; omega))
      rw [F2.1, F2.2, F1.2] at HY
      rw [F1.2] at HX
      rw [F3.1, F3.2] at HZ
      have hF : (foL A B).length = B.length := by rw [F1.1, tab_len]
      generalize foL A B = X at *
      have IA := hide (show ∀ wr, Blk wr b1 3 A → Ints wr (.slice (some ⟨b1, 0, none⟩) r.length r.length) A from fun wr h => by have := Ints_of_blk h; rw [lA] at this; exact this)
      have IB := hide (show ∀ wr, Blk wr b2 3 B → Ints wr (.slice (some ⟨b2, 0, none⟩) r.length r.length) B from fun wr h => by have := Ints_of_blk h; rw [lB] at this; exact this)
      clear F1 F2 F3 F4
      go_wp2_with fail
      refine (HX.out _ _ _ (IA.out _ BA.out) (IB.out _ BB.out)).mono ?_
      rintro e w3 ⟨v3, rfl, o3, g3⟩
      have O3 := hide o3
      have BA := hide (BA.out.keep g3)
      have BB := hide (BB.out.keep g3)
      have G3 := hide (grown_none G2.out g3)
      clear o3 g3 HX G2
      go_wp2_with fail
      refine (HY.out _ _ _ (IB.out _ BB.out) (IA.out _ BA.out)).mono ?_
      rintro e w4 ⟨v4, rfl, o4, g4⟩
      have O4 := hide o4
      have O3 := hide (O3.out.keep g4)
      have BA := hide (BA.out.keep g4)
      have G4 := hide (grown_none G3.out g4)
      clear o4 g4 HY G3 BB IB
      go_upto_region 6 with fail
      have BM := hide (Blk.new w4 3 (zeros r.length))
      have gm := grown_alloc w4 (.cells (arrI (zeros r.length)) 3) none
      have L3 := hide (show v3.ownBlock ≠ some w4.heap.size from fun e => by have := (O3.out.lt _ e).2; omega)
      have L4 := hide (show v4.ownBlock ≠ some w4.heap.size from fun e => by have := (O4.out.lt _ e).2; omega)
      have LA := hide (show b1 ≠ w4.heap.size from by have := BA.out.lt; omega)
      have NW := hide (World.grownBy.size G4.out)
      have O3 := hide (O3.out.keep gm)
      have O4 := hide (O4.out.keep gm)
      have BA := hide (BA.out.keep gm)
      have G5 := hide (grown_none G4.out gm)
      clear gm G4 hmk
      generalize w4.alloc (.cells (arrI (zeros r.length)) 3) = w5 at *
      generalize w4.heap.size = p5 at *
      by_cases hz : r.length = 0
      · have hz' : ¬ (0 : Int) < (r.length : Int) := by omega
        have HZ0 := hide hz
        clear hz
        have IM := hide (show Ints w5 (.slice (some ⟨p5, 0, none⟩) r.length r.length) (oneL A.length) from by
          have := Ints_of_blk BM.out
          rw [zeros_len] at this
          rw [lA, show oneL r.length = zeros r.length by rw [HZ0.out]; rfl]
          exact this)
        clear BM HZ0 L3 L4 LA NW
        go_wp2_with fail
        refine (HZ.out _ _ _ (IA.out _ BA.out) IM.out).mono ?_
        rintro e w6 ⟨v6, rfl, o6, g6⟩
        have O6 := hide o6
        have O3 := hide (O3.out.keep g6)
        have O4 := hide (O4.out.keep g6)
        have BA := hide (BA.out.keep g6)
        have G6 := hide (grown_none G5.out g6)
        clear o6 g6 HZ IM G5
        go_wp2_with fail
        refine (filters_any _).mono ?_
        rintro e w7 ⟨rfl, g7⟩
        have S1 := hide (keepSame_any v3 v4 X X w7 (O3.out.keep g7).ints (O4.out.keep g7).ints (by omega) (by omega))
        have S2 := hide (fun k => keepSame_any v6 _ A A (w7.drewN k) (Ints_keep (O6.out.keep g7).ints (grown_drewN' _ k none)) (Ints_keep (IA.out _ (BA.out.keep g7)) (grown_drewN' _ k none)) (by omega) (by omega))
        rw [show decide (X = X) = true by simp] at S1
        rw [show decide (A = A) = true by simp] at S2
        have G7 := hide (grown_none G6.out g7)
        clear g7 O3 O4 O6 BA IA G6
        go_wp2_with fail
        refine S1.out.mono ?_
        rintro e w8 ⟨rfl, m, rfl⟩
        clear S1
        go_wp2_with fail
        refine (S2.out m).mono ?_
        rintro e w9 ⟨rfl, m2, rfl⟩
        clear S2
        go_wp2_with fail
        go_ret
        exact ⟨rfl, by first | exact below_of_grown (grown_none G7.out (grown_drewN' _ _ none)) | exact below_of_grown (grown_none (grown_none G7.out (grown_drewN' _ _ none)) (grown_drewN' _ _ none))⟩
      · have hz' : (0 : Int) < (r.length : Int) := by omega
        have cm := BM.out.cell 0 (by rw [zeros_len]; omega)
        have fm := BM.out.free 0
        rw [zeros_nth] at cm
        have BN := hide (BM.out.set 0 4096)
        rw [one_st _ (by omega)] at BN
        have gs' := grown_setCell w5 ⟨p5, 0, none⟩ (.int .i64 4096)
        have O3 := hide (show Own _ _ v3 X from O3.out.kept gs' (.inr L3.out))
        have O4 := hide (show Own _ _ v4 X from O4.out.kept gs' (.inr L4.out))
        have BA := hide (BA.out.keepBut gs' LA.out)
        have G5 := hide (grown_own G5.out gs' NW.out)
        have IM := hide (show Ints _ (.slice (some ⟨p5, 0, none⟩) r.length r.length) (oneL A.length) from by have := Ints_of_blk BN.out; rw [show (oneL r.length).length = r.length from tab_len _ _] at this; rw [lA]; exact this)
        clear BM BN gs' L3 L4 LA NW
        go_wp2_with fail
        clear cm fm
        refine (HZ.out _ _ _ (IA.out _ BA.out) IM.out).mono ?_
        rintro e w6 ⟨v6, rfl, o6, g6⟩
        have O6 := hide o6
        have O3 := hide (O3.out.keep g6)
        have O4 := hide (O4.out.keep g6)
        have BA := hide (BA.out.keep g6)
        have G6 := hide (grown_none G5.out g6)
        clear o6 g6 HZ IM G5
        go_wp2_with fail
        refine (filters_any _).mono ?_
        rintro e w7 ⟨rfl, g7⟩
        have S1 := hide (keepSame_any v3 v4 X X w7 (O3.out.keep g7).ints (O4.out.keep g7).ints (by omega) (by omega))
        have S2 := hide (fun k => keepSame_any v6 _ A A (w7.drewN k) (Ints_keep (O6.out.keep g7).ints (grown_drewN' _ k none)) (Ints_keep (IA.out _ (BA.out.keep g7)) (grown_drewN' _ k none)) (by omega) (by omega))
        rw [show decide (X = X) = true by simp] at S1
        rw [show decide (A = A) = true by simp] at S2
        have G7 := hide (grown_none G6.out g7)
        clear g7 O3 O4 O6 BA IA G6
        go_wp2_with fail
        refine S1.out.mono ?_
        rintro e w8 ⟨rfl, m, rfl⟩
        clear S1
        go_wp2_with fail
        refine (S2.out m).mono ?_
        rintro e w9 ⟨rfl, m2, rfl⟩
        clear S2
        go_wp2_with fail
        go_ret
        exact ⟨rfl, by first | exact below_of_grown (grown_none G7.out (grown_drewN' _ _ none)) | exact below_of_grown (grown_none (grown_none G7.out (grown_drewN' _ _ none)) (grown_drewN' _ _ none))⟩
    · have q1 : (l.length : Int) < r.length := by omega
      have q2 : (l.length : Int) ≤ 80 := by omega
      have LA := hide (lists_any v r w hi hl l.length (by omega))
      have LB := hide (fun wr (g : w.grownBy wr none) => lists_any u l wr (Ints_keep hj g) hk l.length (by omega))
      have hmk := make_zeros l.length (by omega)
      obtain ⟨ad, c, rfl, hc, _⟩ := hi
      obtain ⟨ad', c', rfl, hc', _⟩ := hj
      clear hl64 hk64 hsh hsu
      go_enter Try.func4, Try.ntmps4
      go_wp2_with fail
      refine LA.out.mono ?_
      rintro e w1 ⟨b1, A, rfl, hA, lA, rA, hb1, g1⟩
      have BA := hide hA
      have RA := hide (right_of_all rA)
      have G1 := hide g1
      clear hA rA g1 hb1 LA
      go_wp2_with fail
      refine (LB.out w1 G1.out).mono ?_
      rintro e w2 ⟨b2, B, rfl, hB, lB, rB, hb2, g2⟩
      have BB := hide hB
      have RB := hide (right_of_all rB)
      have BA := hide (BA.out.keep g2)
      have G2 := hide (grown_none G1.out g2)
      clear hB rB g2 hb2 LB G1
      have F1 := fold_ok A B (by omega) (by omega) RA.out RB.out
      have F2 := fold_swap B A (by omega)
      have F3 := fold_ok A (oneL A.length) (by unfold oneL; rw [tab_len]) (by unfold oneL; rw [tab_len]; omega) RA.out (oneL_r _)
      have F4 := fold_unit A RA.out
      have h1l : (oneL A.length).length = A.length := tab_len _ _
      rw [h1l, F4] at F3
      have HX := hide (fun wr v' u' (h1 : Ints wr v' A) (h2 : Ints wr u' B) => fold_any v' u' A B wr h1 h2 (by omega) (by omega))
      have HY := hide (fun wr v' u' (h1 : Ints wr v' B) (h2 : Ints wr u' A) => fold_any v' u' B A wr h1 h2 (by omega) (by omega))
      have HZ := hide (fun wr v' u' (h1 : Ints wr v' A) (h2 : Ints wr u' (oneL A.length)) => fold_any v' u' A (oneL A.length) wr h1 h2 (by omega) (by rw [h1l]; omega))
      rw [F2.1, F2.2, F1.2] at HY
      rw [F1.2] at HX
      rw [F3.1, F3.2] at HZ
      have hF : (foL A B).length = B.length := by rw [F1.1, tab_len]
      generalize foL A B = X at *
      have IA := hide (show ∀ wr, Blk wr b1 3 A → Ints wr (.slice (some ⟨b1, 0, none⟩) l.length l.length) A from fun wr h => by have := Ints_of_blk h; rw [lA] at this; exact this)
      have IB := hide (show ∀ wr, Blk wr b2 3 B → Ints wr (.slice (some ⟨b2, 0, none⟩) l.length l.length) B from fun wr h => by have := Ints_of_blk h; rw [lB] at this; exact this)
      clear F1 F2 F3 F4
      go_wp2_with fail
      refine (HX.out _ _ _ (IA.out _ BA.out) (IB.out _ BB.out)).mono ?_
      rintro e w3 ⟨v3, rfl, o3, g3⟩
      have O3 := hide o3
      have BA := hide (BA.out.keep g3)
      have BB := hide (BB.out.keep g3)
      have G3 := hide (grown_none G2.out g3)
      clear o3 g3 HX G2
      go_wp2_with fail
      refine (HY.out _ _ _ (IB.out _ BB.out) (IA.out _ BA.out)).mono ?_
      rintro e w4 ⟨v4, rfl, o4, g4⟩
      have O4 := hide o4
      have O3 := hide (O3.out.keep g4)
      have BA := hide (BA.out.keep g4)
      have G4 := hide (grown_none G3.out g4)
      clear o4 g4 HY G3 BB IB
      go_upto_region 6 with fail
      have BM := hide (Blk.new w4 3 (zeros l.length))
      have gm := grown_alloc w4 (.cells (arrI (zeros l.length)) 3) none
      have L3 := hide (show v3.ownBlock ≠ some w4.heap.size from fun e => by have := (O3.out.lt _ e).2; omega)
      have L4 := hide (show v4.ownBlock ≠ some w4.heap.size from fun e => by have := (O4.out.lt _ e).2; omega)
      have LA := hide (show b1 ≠ w4.heap.size from by have := BA.out.lt; omega)
      have NW := hide (World.grownBy.size G4.out)
      have O3 := hide (O3.out.keep gm)
      have O4 := hide (O4.out.keep gm)
      have BA := hide (BA.out.keep gm)
      have G5 := hide (grown_none G4.out gm)
      clear gm G4 hmk
      generalize w4.alloc (.cells (arrI (zeros l.length)) 3) = w5 at *
      generalize w4.heap.size = p5 at *
      by_cases hz : l.length = 0
      · have hz' : ¬ (0 : Int) < (l.length : Int) := by omega
        have HZ0 := hide hz
        clear hz
        have IM := hide (show Ints w5 (.slice (some ⟨p5, 0, none⟩) l.length l.length) (oneL A.length) from by
          have := Ints_of_blk BM.out
          rw [zeros_len] at this
          rw [lA, show oneL l.length = zeros l.length by rw [HZ0.out]; rfl]
          exact this)
        clear BM HZ0 L3 L4 LA NW
        go_wp2_with fail
        refine (HZ.out _ _ _ (IA.out _ BA.out) IM.out).mono ?_
        rintro e w6 ⟨v6, rfl, o6, g6⟩
        have O6 := hide o6
        have O3 := hide (O3.out.keep g6)
        have O4 := hide (O4.out.keep g6)
        have BA := hide (BA.out.keep g6)
        have G6 := hide (grown_none G5.out g6)
        clear o6 g6 HZ IM G5
        go_wp2_with fail
        refine (filters_any _).mono ?_
        rintro e w7 ⟨rfl, g7⟩
        have S1 := hide (keepSame_any v3 v4 X X w7 (O3.out.keep g7).ints (O4.out.keep g7).ints (by omega) (by omega))
        have S2 := hide (fun k => keepSame_any v6 _ A A (w7.drewN k) (Ints_keep (O6.out.keep g7).ints (grown_drewN' _ k none)) (Ints_keep (IA.out _ (BA.out.keep g7)) (grown_drewN' _ k none)) (by omega) (by omega))
        rw [show decide (X = X) = true by simp] at S1
        rw [show decide (A = A) = true by simp] at S2
        have G7 := hide (grown_none G6.out g7)
        clear g7 O3 O4 O6 BA IA G6
        go_wp2_with fail
        refine S1.out.mono ?_
        rintro e w8 ⟨rfl, m, rfl⟩
        clear S1
        go_wp2_with fail
        refine (S2.out m).mono ?_
        rintro e w9 ⟨rfl, m2, rfl⟩
        clear S2
        go_wp2_with fail
        go_ret
        exact ⟨rfl, by first | exact below_of_grown (grown_none G7.out (grown_drewN' _ _ none)) | exact below_of_grown (grown_none (grown_none G7.out (grown_drewN' _ _ none)) (grown_drewN' _ _ none))⟩
      · have hz' : (0 : Int) < (l.length : Int) := by omega
        have cm := BM.out.cell 0 (by rw [zeros_len]; omega)
        have fm := BM.out.free 0
        rw [zeros_nth] at cm
        have BN := hide (BM.out.set 0 4096)
        rw [one_st _ (by omega)] at BN
        have gs' := grown_setCell w5 ⟨p5, 0, none⟩ (.int .i64 4096)
        have O3 := hide (show Own _ _ v3 X from O3.out.kept gs' (.inr L3.out))
        have O4 := hide (show Own _ _ v4 X from O4.out.kept gs' (.inr L4.out))
        have BA := hide (BA.out.keepBut gs' LA.out)
        have G5 := hide (grown_own G5.out gs' NW.out)
        have IM := hide (show Ints _ (.slice (some ⟨p5, 0, none⟩) l.length l.length) (oneL A.length) from by have := Ints_of_blk BN.out; rw [show (oneL l.length).length = l.length from tab_len _ _] at this; rw [lA]; exact this)
        clear BM BN gs' L3 L4 LA NW
        go_wp2_with fail
        clear cm fm
        refine (HZ.out _ _ _ (IA.out _ BA.out) IM.out).mono ?_
        rintro e w6 ⟨v6, rfl, o6, g6⟩
        have O6 := hide o6
        have O3 := hide (O3.out.keep g6)
        have O4 := hide (O4.out.keep g6)
        have BA := hide (BA.out.keep g6)
        have G6 := hide (grown_none G5.out g6)
        clear o6 g6 HZ IM G5
        go_wp2_with fail
        refine (filters_any _).mono ?_
        rintro e w7 ⟨rfl, g7⟩
        have S1 := hide (keepSame_any v3 v4 X X w7 (O3.out.keep g7).ints (O4.out.keep g7).ints (by omega) (by omega))
        have S2 := hide (fun k => keepSame_any v6 _ A A (w7.drewN k) (Ints_keep (O6.out.keep g7).ints (grown_drewN' _ k none)) (Ints_keep (IA.out _ (BA.out.keep g7)) (grown_drewN' _ k none)) (by omega) (by omega))
        rw [show decide (X = X) = true by simp] at S1
        rw [show decide (A = A) = true by simp] at S2
        have G7 := hide (grown_none G6.out g7)
        clear g7 O3 O4 O6 BA IA G6
        go_wp2_with fail
        refine S1.out.mono ?_
        rintro e w8 ⟨rfl, m, rfl⟩
        clear S1
        go_wp2_with fail
        refine (S2.out m).mono ?_
        rintro e w9 ⟨rfl, m2, rfl⟩
        clear S2
        go_wp2_with fail
        go_ret
        exact ⟨rfl, by first | exact below_of_grown (grown_none G7.out (grown_drewN' _ _ none)) | exact below_of_grown (grown_none (grown_none G7.out (grown_drewN' _ _ none)) (grown_drewN' _ _ none))⟩
end Go.Proofs.Ytkkalbogcnojmab
