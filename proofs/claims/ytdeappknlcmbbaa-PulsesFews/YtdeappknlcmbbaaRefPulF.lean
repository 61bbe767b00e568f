/- Contracts of the reference's All and Few. -/
import Derived.Test.YtdeappknlcmbbaaRefPulE
import Derived.Test.YtdeappknlcmbbaaRegA
import Derived.BigQuiet
import Derived.Deep.QuietTactic
namespace Go.Proofs.Ytdeappknlcmbbaa
open Go.RowKit
set_option linter.unusedVariables false
set_option linter.unusedSimpArgs false
set_option maxHeartbeats 1000000

/-- What All and Few answer. -/
def SrcR (w : World) (X : List Int) (g en : Int) (e : Ending) (w' : World) : Prop := e = .returned (.tuple #[.agg (arrI X), .int .i64 g, .int .i64 en]) ∧ w.grownBy w' none
theorem build4r (u : World) : Sem.run Try.prog (Instr.build 22 #[]) u = .ok (.agg (arrI (zeros 4))) u := run_build u 22 #[] (arrI (zeros 4)) (by kernel_rfl)
theorem seE_good {d r : List Int} (h : seE d r = 0) : d.length = 40 ∧ r.length = 40 ∧ ok40 d = true := by
  unfold seE at h
  by_cases hl : d.length = 40 ∧ r.length = 40
  · rw [if_pos hl] at h
    rcases ho : ok40 d with _ | _
    · rw [ho] at h; simp at h
    · exact ⟨hl.1, hl.2, rfl⟩
  · rw [if_neg hl] at h; omega
theorem allX_goodR (d r : List Int) : (allX d r).length = 4 ∧ goodX (allX d r) = true := allX_good d r
theorem fewX_goodR (d r : List Int) : (fewX d r).length = 4 ∧ goodX (fewX d r) = true := fewN_good (cS d) (eS d r) 8
set_option maxRecDepth 100000 in
theorem refAll_any (vd vr : Value) (d r : List Int) (w : World) (hd : Ints w vd d) (hr : Ints w vr r) (hl : d.length ≤ 1000000000000000000) (hl2 : r.length ≤ 1000000000000000000) (h64 : In64 d) :
    Calls Try.prog 25 #[vd, vr] w (SrcR w (seX d r (allX d r)) (seG d r (allX d r)) (seE d r)) := by
  have hz4 := zero_arr zArr4r
  have hbd := build4r
  have BZ0 := hide (Blk.new w 22 (zeros 4))
  have G0 := hide (grown_alloc w (.cells (arrI (zeros 4)) 22) none)
  have WR := hide (fun W (g : w.grownBy W none) => refWrong_any vd vr d r W (Ints_keep hd g) (Ints_keep hr g) hl hl2)
  by_cases he : seE d r = 0
  · obtain ⟨h1, h2, ho⟩ := seE_good he
    have e2 : seX d r (allX d r) = allX d r := by unfold seX; rw [if_pos he]
    have e3 : seG d r (allX d r) = sgS d (allX d r) 4 := by unfold seG; rw [if_pos he]
    rw [e2, e3, he]
    rw [he] at WR
    have SG := hide (fun W (g : w.grownBy W none) => refSigns_any vd d (allX d r) W (Ints_keep hd g) h1 (allX_goodR d r).1 (allX_goodR d r).2)
    have BE := hide (fun W (g : w.grownBy W none) N ix vl (hN : 0 < N) (hN2 : N ≤ 100000) (hix : ∀ m, m < N → (ix m).length = 4 ∧ goodX (ix m) = true) (ha : Arr4 W vl N ix) => refBest_any vd vr vl d r N ix W (Ints_keep hd g) (Ints_keep hr g) h1 h2 h64 ha hN hN2 hix)
    have HX := hide (allX_goodR d r).1
    have FI := hide (show ∀ w', w.grownBy w' none → SrcR w (allX d r) (sgS d (allX d r) 4) 0 (.returned (.tuple #[.agg (arrI (allX d r)), .int .i64 (sgS d (allX d r) 4), .int .i64 0])) w' from fun w' g => ⟨rfl, g⟩)
    generalize SrcR w (allX d r) (sgS d (allX d r) 4) 0 = T at *
    obtain ⟨ad, cp, rfl, _, _⟩ := hd
    obtain ⟨ar, cr, rfl, _, _⟩ := hr
    clear h1 h2 ho e2 e3 he hl hl2 h64
    go_enter Try.func25, Try.ntmps25
    go_upto_region 1 with fail
    generalize hW1 : w.alloc (.cells (arrI (zeros 4)) 22) = W1 at *
    have S1 : W1.heap.size = w.heap.size + 1 := by rw [← hW1]; simp
    have HS1 := hide S1
    clear hW1 S1
    go_wp2_with fail
    refine (WR.out W1 G0.out).mono ?_
    rintro e w1 ⟨rfl, rfl⟩
    clear WR
    have BS := hide (show Own4 (w.heap.size + 1) w1 (.slice none 0 0) 0 dig ∧ Blk w1 w.heap.size 22 (zeros 4) ∧ w.grownBy w1 none ∧ w.heap.size + 1 ≤ w1.heap.size from ⟨Own4_nil _ _ _, BZ0.out, G0.out, by rw [HS1.out]; exact Nat.le_refl _⟩)
    clear BZ0 G0 HS1
    go_wp2_with fail
    go_loopw [8, 9] (fun vo i wr => ∃ m : Nat, i = .int .i64 m ∧ m ≤ 10000 ∧ Hid (Own4 (w.heap.size + 1) wr vo m dig ∧ Blk wr w.heap.size 22 (zeros 4) ∧ w.grownBy wr none ∧ w.heap.size + 1 ≤ wr.heap.size)) (fun _ i _ => 10000 - (intOf i).toNat)
    case atStart => exact ⟨0, rfl, Nat.zero_le _, BS.out⟩
    case round =>
      obtain ⟨m, rfl, hm, hM⟩ := hrel
      clear BS
      by_cases hm1 : m < 10000
      · have i1 : (m : Int) < 10000 := by omega
        have d1 : (m : Int) / 1000 = ((m / 1000 : Nat) : Int) := (Int.natCast_ediv m 1000).symm
        have d2 : (m : Int) / 100 = ((m / 100 : Nat) : Int) := (Int.natCast_ediv m 100).symm
        have d3 : (m : Int) / 10 = ((m / 10 : Nat) : Int) := (Int.natCast_ediv m 10).symm
        have m1 : (m : Int).tmod 10 = ((m % 10 : Nat) : Int) := by rw [Int.tmod_eq_emod_of_nonneg (by omega)]; exact (Int.natCast_emod m 10).symm
        have m2 : ((m / 100 : Nat) : Int).tmod 10 = ((m / 100 % 10 : Nat) : Int) := by rw [Int.tmod_eq_emod_of_nonneg (by omega)]; exact (Int.natCast_emod (m / 100) 10).symm
        have m3 : ((m / 10 : Nat) : Int).tmod 10 = ((m / 10 % 10 : Nat) : Int) := by rw [Int.tmod_eq_emod_of_nonneg (by omega)]; exact (Int.natCast_emod (m / 10) 10).symm
        have n1 : (m : Int) % 10 = ((m % 10 : Nat) : Int) := (Int.natCast_emod m 10).symm
        have n2 : ((m / 100 : Nat) : Int) % 10 = ((m / 100 % 10 : Nat) : Int) := (Int.natCast_emod (m / 100) 10).symm
        have n3 : ((m / 10 : Nat) : Int) % 10 = ((m / 10 % 10 : Nat) : Int) := (Int.natCast_emod (m / 10) 10).symm
        have DG := hide (show dig m = [((m / 1000 : Nat) : Int), ((m / 100 % 10 : Nat) : Int), ((m / 10 % 10 : Nat) : Int), ((m % 10 : Nat) : Int)] from rfl)
        generalize m / 100 % 10 = B2 at *
        generalize m / 10 % 10 = B3 at *
        generalize m % 10 = B4 at *
        generalize m / 1000 = B1 at *
        generalize m / 100 = Q2 at *
        generalize m / 10 = Q3 at *
        have ga := grown_alloc wr (.cells (arrI (dig m)) 22) none
        have OA := hide (hM.out.1.keep ga)
        have BA := hide (hM.out.2.1.keep ga)
        have GA := hide (grown_none hM.out.2.2.1 ga)
        have ZA := hide (Nat.le_trans hM.out.2.2.2 ga.size)
        have BL := hide (Blk.new wr 22 (dig m))
        rw [DG.out] at BL OA BA GA ZA
        clear ga
        go_wp2_with (first | refine wpList_lit4 rfl _ rfl [(B1 : Int), (B2 : Int), (B3 : Int), (B4 : Int)] rfl rfl ?_ | (at_builtin; refine wpList_app4 rfl _ _ rfl (w.heap.size + 1) m wr.heap.size _ dig [(B1 : Int), (B2 : Int), (B3 : Int), (B4 : Int)] rfl rfl OA.out BL.out rfl DG.out (by omega) ZA.out ?_))
        intro v5 w5 h5 g5
        have hlt : ∀ b, u8.ownBlock = some b → w.heap.size + 1 ≤ b := fun b hb => (World.ownsRow.lt OA.out b hb).1
        have N5 := hide (show Own4 (w.heap.size + 1) w5 v5 (m + 1) dig ∧ Blk w5 w.heap.size 22 (zeros 4) ∧ w.grownBy w5 none ∧ w.heap.size + 1 ≤ w5.heap.size from ⟨h5, by
          rcases eb : u8.ownBlock with _ | b
          · rw [eb] at g5; exact BA.out.keep g5
          · have := hlt b eb
            rw [eb] at g5; exact BA.out.keepBut g5 (by omega), grown_own' GA.out g5 (fun b hb => by have := hlt b hb; omega), Nat.le_trans ZA.out g5.size⟩)
        clear h5 g5 hlt OA BA GA ZA BL DG d1 d2 d3 m1 m2 m3 n1 n2 n3 hM
        go_wp2_with fail
        go_roundw
        case rel => exact ⟨m + 1, by go_num, by omega, N5.out⟩
        case measure => simp [intOf]; omega
      · obtain rfl : m = 10000 := by omega
        have B1 := hide (BE.out wr hM.out.2.2.1 10000 dig u8 (by omega) (by omega) (fun m hm => dig_good m hm) (hM.out.1.arr (by omega) (fun i hi => (dig_good i hi).1)))
        rw [show (bsS (cS d) (eS d r) dig 10000).1 = allX d r from rfl] at B1
        have BZ1 := hide hM.out.2.1
        have G1 := hide hM.out.2.2.1
        clear hM BE
        generalize hX : allX d r = X at *
        generalize sgS d X 4 = G at *
        clear hX
        rw [show ((10000 : Nat) : Int) = 10000 from rfl]
        go_wp2_with fail
        refine B1.out.mono ?_
        rintro e w3 ⟨rfl, g3⟩
        have FA := fresh_arr w3 22 4 X HX.out
        have BF := hide FA.1
        have BX := hide FA.2.1
        have BZ := hide ((BZ1.out.keep g3).keep FA.2.2)
        have GG := hide (grown_none (grown_none G1.out g3) FA.2.2)
        have NE := hide (show w3.heap.size ≠ w.heap.size from by have := (BZ1.out.keep g3).lt; omega)
        clear g3 FA B1 BZ1 G1
        go_upto_region 10 with (first | refine wpList_store_arr rfl 22 _ _ rfl _ (zeros 4) X rfl rfl BF.out (by rw [HX.out, zeros_len]) (by rw [zeros_len]; exact size4s) ?_)
        (try simp only [Act.put])
        clear BF hz4 hbd
        generalize putArr (w3.alloc _) w3.heap.size X = W4 at *
        generalize w3.heap.size = bX at *
        refine wp_region_held_drew (S := fun w' => Blk w' bX 22 X) (by kernel_rfl) (BX.out.keep (gw_start _)) (fun hHeld => ?_)
        refine wpAnyH_take (i := 0) (v := .agg (arrI X)) rfl (by kernel_rfl) (by kernel_rfl) (by kernel_rfl) (fun _ _ _ h => h) (Or.inl ⟨by rfl, ?yfa0⟩) hHeld ?rfa0
        case yfa0 => (intro w' hSw; exact yields_load_arr rfl rfl hSw _ Try.underlying22 rfl (by rw [HX.out]; exact size4s))
        (try simp only [Act.put, List.setIfInBounds_toArray, List.set_cons_zero, List.set_cons_succ, List.getElem_toArray, List.getElem_cons_zero, List.getElem_cons_succ])
        refine wpAnyH_take (i := 1) (v := ?vfa1) rfl (by kernel_rfl) (by kernel_rfl) (by kernel_rfl) (fun _ _ _ h => h) (Or.inl ⟨by rfl, ?yfa1⟩) hHeld ?rfa1
        case yfa1 => (intro w' hSw; go_simp; (try with_reducible rfl))
        (try simp only [Act.put, List.setIfInBounds_toArray, List.set_cons_zero, List.set_cons_succ, List.getElem_toArray, List.getElem_cons_zero, List.getElem_cons_succ])
        refine wpAnyH_take (i := 2) (v := .agg (arrI X)) rfl (by kernel_rfl) (by kernel_rfl) (by kernel_rfl) (fun _ _ _ h => h) (Or.inl ⟨by rfl, ?yfa2⟩) hHeld ?rfa2
        case yfa2 => (intro w' hSw; exact yields_load_arr rfl rfl hSw _ Try.underlying22 rfl (by rw [HX.out]; exact size4s))
        (try simp only [Act.put, List.setIfInBounds_toArray, List.set_cons_zero, List.set_cons_succ, List.getElem_toArray, List.getElem_cons_zero, List.getElem_cons_succ])
        refine wpAnyH_ready (rs := [3]) (by kernel_rfl) (by simp) (AllReadyH.cons rfl (fun K hK => ?_) AllReadyH.nil)
        (try simp only [Act.put, List.setIfInBounds_toArray, List.set_cons_zero, List.set_cons_succ, List.getElem_toArray, List.getElem_cons_zero, List.getElem_cons_succ])
        go_simp
        refine (SG.out _ (grown_none GG.out (gw_start W4))).mono ?_
        rintro e wk ⟨rfl, gk⟩
        have GK := hide gk
        clear gk
        go_wp2_with fail
        refine hK.out _ _ (hHeld.keep GK.out) (fun hHeld => ?_)
        clear hK
        (try simp only [Act.put, List.setIfInBounds_toArray, List.set_cons_zero, List.set_cons_succ, List.getElem_toArray, List.getElem_cons_zero, List.getElem_cons_succ])
        refine wpAnyH_ready (rs := [4]) (by kernel_rfl) (by simp) (AllReadyH.cons rfl (fun K hK => ?_) AllReadyH.nil)
        (try simp only [Act.put, List.setIfInBounds_toArray, List.set_cons_zero, List.set_cons_succ, List.getElem_toArray, List.getElem_cons_zero, List.getElem_cons_succ])
        have BZ6 := hide ((BZ.out.keep (gw_start W4)).keep GK.out)
        refine step_store_arr rfl 22 _ _ rfl w.heap.size (zeros 4) X rfl rfl BZ6.out (by rw [HX.out, zeros_len]) (by rw [zeros_len]; exact size4s) ?_
        have PU := put_arr (rs' := X) BZ6.out (by rw [HX.out, zeros_len])
        have hlv := hide (loadVar_arr PU.1 _ Try.underlying22 rfl (by rw [HX.out]; exact size4s))
        have FF := hide (FI.out _ (grown_own (grown_none (grown_none GG.out (gw_start W4)) GK.out) PU.2 (Nat.le_refl _)))
        have HH := hide (hHeld.keepBut PU.2 NE.out)
        clear PU BZ6
        generalize putArr wk w.heap.size X = w7 at *
        refine hK.out _ _ HH.out (fun hHeld => ?_)
        clear hK
        (try simp only [Act.put, List.setIfInBounds_toArray, List.set_cons_zero, List.set_cons_succ, List.getElem_toArray, List.getElem_cons_zero, List.getElem_cons_succ])
        refine wpAnyH_take (i := 5) (v := ?vfa5) rfl (by kernel_rfl) (by kernel_rfl) (by kernel_rfl) (fun _ _ _ h => h) (Or.inl ⟨by rfl, ?yfa5⟩) hHeld ?rfa5
        case yfa5 => (intro w' hSw; go_simp; (try with_reducible rfl))
        (try simp only [Act.put, List.setIfInBounds_toArray, List.set_cons_zero, List.set_cons_succ, List.getElem_toArray, List.getElem_cons_zero, List.getElem_cons_succ])
        refine wpAnyH_take (i := 6) (v := ?vfa6) rfl (by kernel_rfl) (by kernel_rfl) (by kernel_rfl) (fun _ _ _ h => h) (Or.inl ⟨by rfl, ?yfa6⟩) hHeld ?rfa6
        case yfa6 => (intro w' hSw; go_simp; (try with_reducible rfl))
        (try simp only [Act.put, List.setIfInBounds_toArray, List.set_cons_zero, List.set_cons_succ, List.getElem_toArray, List.getElem_cons_zero, List.getElem_cons_succ])
        refine wpAnyH_done (by kernel_rfl) ?_ _
        clear hHeld HH
        go_wp2_with fail
        refine bodyPost_ret (v := .tuple #[.agg (arrI X), .int .i64 G, .int .i64 0]) ?_ rfl FF.out
        simp [results, Try.results25, asAddr, Act.put, hlv.out]
  · have e2 : seX d r (allX d r) = zeros 4 := by unfold seX; rw [if_neg he]
    have e3 : seG d r (allX d r) = 0 := by unfold seG; rw [if_neg he]
    rw [e2, e3]
    have hb : (seE d r == 0) = false := by simp [he]
    obtain ⟨ad, cp, rfl, _, _⟩ := hd
    obtain ⟨ar, cr, rfl, _, _⟩ := hr
    clear e2 e3 he hl hl2 h64
    generalize seE d r = en at *
    go_enter Try.func25, Try.ntmps25
    go_upto_region 1 with fail
    generalize w.alloc (.cells (arrI (zeros 4)) 22) = W1 at *
    go_wp2_with fail
    refine (WR.out W1 G0.out).mono ?_
    rintro e w1 ⟨rfl, rfl⟩
    clear WR
    go_wp2_with (first | refine wpList_store_arr rfl 22 _ _ rfl _ (zeros 4) (zeros 4) rfl rfl BZ0.out rfl (by rw [zeros_len]; exact size4s) ?_)
    have PU := put_arr (rs' := zeros 4) BZ0.out rfl
    have hlv := loadVar_arr PU.1 _ Try.underlying22 rfl (by rw [zeros_len]; exact size4s)
    have GF := hide (grown_own G0.out PU.2 (Nat.le_refl _))
    refine bodyPost_ret (v := .tuple #[.agg (arrI (zeros 4)), .int .i64 0, .int .i64 en]) ?_ rfl ⟨rfl, GF.out⟩
    simp [results, Try.results25, asAddr, Act.put, hlv]
set_option maxRecDepth 100000 in
theorem refFew_any (vd vr : Value) (d r : List Int) (w : World) (hd : Ints w vd d) (hr : Ints w vr r) (hl : d.length ≤ 1000000000000000000) (hl2 : r.length ≤ 1000000000000000000) (h64 : In64 d) :
    Calls Try.prog 23 #[vd, vr] w (SrcR w (seX d r (fewX d r)) (seG d r (fewX d r)) (seE d r)) := by
  have hz4 := zero_arr zArr4r
  have hbd := build4r
  have BZ0 := hide (Blk.new w 22 (zeros 4))
  have G0 := hide (grown_alloc w (.cells (arrI (zeros 4)) 22) none)
  have WR := hide (fun W (g : w.grownBy W none) => refWrong_any vd vr d r W (Ints_keep hd g) (Ints_keep hr g) hl hl2)
  by_cases he : seE d r = 0
  · obtain ⟨h1, h2, ho⟩ := seE_good he
    have e2 : seX d r (fewX d r) = fewX d r := by unfold seX; rw [if_pos he]
    have e3 : seG d r (fewX d r) = sgS d (fewX d r) 4 := by unfold seG; rw [if_pos he]
    rw [e2, e3, he]
    rw [he] at WR
    have SG := hide (fun W (g : w.grownBy W none) => refSigns_any vd d (fewX d r) W (Ints_keep hd g) h1 (fewX_goodR d r).1 (fewX_goodR d r).2)
    have BE := hide (fun W (g : w.grownBy W none) N ix vl (hN : 0 < N) (hN2 : N ≤ 100000) (hix : ∀ m, m < N → (ix m).length = 4 ∧ goodX (ix m) = true) (ha : Arr4 W vl N ix) => refBest_any vd vr vl d r N ix W (Ints_keep hd g) (Ints_keep hr g) h1 h2 h64 ha hN hN2 hix)
    have HX := hide (fewX_goodR d r).1
    have FI := hide (show ∀ w', w.grownBy w' none → SrcR w (fewX d r) (sgS d (fewX d r) 4) 0 (.returned (.tuple #[.agg (arrI (fewX d r)), .int .i64 (sgS d (fewX d r) 4), .int .i64 0])) w' from fun w' g => ⟨rfl, g⟩)
    generalize SrcR w (fewX d r) (sgS d (fewX d r) 4) 0 = T at *
    obtain ⟨ad, cp, rfl, _, _⟩ := hd
    obtain ⟨ar, cr, rfl, _, _⟩ := hr
    clear h1 h2 ho e2 e3 he hl hl2 h64
    go_enter Try.func23, Try.ntmps23
    go_upto_region 1 with fail
    generalize hW1 : w.alloc (.cells (arrI (zeros 4)) 22) = W1 at *
    have S1 : W1.heap.size = w.heap.size + 1 := by rw [← hW1]; simp
    have HS1 := hide S1
    clear hW1 S1
    go_wp2_with fail
    refine (WR.out W1 G0.out).mono ?_
    rintro e w1 ⟨rfl, rfl⟩
    clear WR
    have BS := hide (show Mem2 w (w1.alloc (.cells (arrI (zeros 4)) 22)) 22 22 (zeros 4) (fewN (cS d) (eS d r) 0) from ⟨BZ0.out.keep (grown_alloc _ _ none), by have := Blk.new w1 22 (zeros 4); rw [HS1.out] at this; exact this, grown_none G0.out (grown_alloc _ _ none)⟩)
    have STEP := hide (fun k => (show fewN (cS d) (eS d r) (k + 1) = (bsS (cS d) (eS d r) (fun p => (fewN (cS d) (eS d r) k).set (k % 4) (p : Int)) 10).1 from rfl))
    have GD := hide (fewN_good (cS d) (eS d r))
    rw [show fewX d r = fewN (cS d) (eS d r) 8 from rfl] at *
    clear BZ0 G0
    go_wp2_with fail
    generalize w1.alloc (.cells (arrI (zeros 4)) 22) = W2 at *
    rw [HS1.out]
    clear HS1
    go_loopw [9] (fun i wr => ∃ k : Nat, i = .int .i64 k ∧ k ≤ 8 ∧ Hid (Mem2 w wr 22 22 (zeros 4) (fewN (cS d) (eS d r) k))) (fun i _ => 8 - (intOf i).toNat)
    case atStart => exact ⟨0, rfl, Nat.zero_le _, BS.out⟩
    case round =>
      obtain ⟨k, rfl, hk, hM⟩ := hrel
      clear BS
      by_cases hk8 : k < 8
      · have i1 : (k : Int) < 8 := by omega
        have M0 := hide (show Own4 (w.heap.size + 2) wr (.slice none 0 0) 0 (fun p => (fewN (cS d) (eS d r) k).set (k % 4) (p : Int)) ∧ Mem2 w wr 22 22 (zeros 4) (fewN (cS d) (eS d r) k) ∧ w.heap.size + 2 ≤ wr.heap.size from ⟨Own4_nil _ _ _, hM.out, by have := hM.out.2.1.lt; omega⟩)
        have km : (k : Int).tmod 4 = ((k % 4 : Nat) : Int) := by rw [Int.tmod_eq_emod_of_nonneg (by omega)]; exact (Int.natCast_emod k 4).symm
        have kn : (k : Int) % 4 = ((k % 4 : Nat) : Int) := (Int.natCast_emod k 4).symm
        have k4 : ((k % 4 : Nat) : Int) < 4 := by omega
        have kl : k % 4 < 4 := by omega
        obtain ⟨n1, n2⟩ := GD.out k
        have LN := hide n1
        have GN := hide n2
        have EN := STEP.out k
        have LY := hide (GD.out (k + 1)).1
        clear STEP GD hM n1 n2 FI SG HX
        generalize hY : fewN (cS d) (eS d r) (k + 1) = Y at *
        have HY := hide hY
        have HEN := hide EN
        clear hY EN
        generalize fewN (cS d) (eS d r) k = N at *
        generalize k % 4 = T4 at *
        go_wp2_with fail
        go_loopw [10, 11] (fun vo i wr => ∃ p : Nat, i = .int .i64 p ∧ p ≤ 10 ∧ Hid (Own4 (w.heap.size + 2) wr vo p (fun p => N.set T4 (p : Int)) ∧ Mem2 w wr 22 22 (zeros 4) N ∧ w.heap.size + 2 ≤ wr.heap.size)) (fun _ i _ => 10 - (intOf i).toNat)
        case atStart => exact ⟨0, rfl, Nat.zero_le _, M0.out⟩
        case round =>
          obtain ⟨p, rfl, hp, hI⟩ := hrel
          clear M0
          by_cases hp10 : p < 10
          · have j1 : (p : Int) < 10 := by omega
            have BB := hide hI.out.2.1.2.1
            have FA := fresh_arr wr 22 4 N LN.out
            have BF := hide FA.1
            have BX := hide FA.2.1
            have OA := hide (hI.out.1.keep FA.2.2)
            have MA := hide (Mem2.keep hI.out.2.1 FA.2.2)
            have ZA := hide (Nat.le_trans hI.out.2.2 FA.2.2.size)
            have LZ := hide hI.out.2.2
            have LB := hide (fun g (h : u10.ownBlock = some g) => (World.ownsRow.lt hI.out.1 g h).2)
            clear FA hI
            go_upto_region 13 with (first | refine wpList_load_arr rfl 22 _ rfl _ rfl _ BB.out _ Try.underlying22 rfl (by rw [LN.out]; exact size4s) ?_ | refine wpList_store_arr rfl 22 _ _ rfl _ (zeros 4) N rfl rfl BF.out (by rw [LN.out, zeros_len]) (by rw [zeros_len]; exact size4s) ?_)
            (try simp only [Act.put])
            clear BF BB
            generalize putArr (wr.alloc _) wr.heap.size N = W3 at *
            generalize wr.heap.size = bt at *
            have ct := BX.out.cell T4 (by rw [LN.out]; exact kl)
            have ft := BX.out.free T4
            have gs := grown_setCell W3 ⟨bt, T4, none⟩ (.int .i64 (p : Int))
            have BS := hide (BX.out.set T4 (p : Int))
            have OS := hide (show Own4 (w.heap.size + 2) (W3.setCell ⟨bt, T4, none⟩ (.int .i64 (p : Int))) u10 p (fun p => N.set T4 (p : Int)) from by
              refine World.ownsRow.kept OA.out gs ?_
              rcases e : u10.ownBlock with _ | g
              · exact .inl rfl
              · right
                intro e'
                have h1 := LB.out g e
                have h2 : g = bt := Option.some.inj e'
                omega)
            have MS := hide (show Mem2 w (W3.setCell ⟨bt, T4, none⟩ (.int .i64 (p : Int))) 22 22 (zeros 4) N from ⟨MA.out.1.keepBut gs (by have := LZ.out; simp; omega), MA.out.2.1.keepBut gs (by have := LZ.out; simp; omega), grown_own MA.out.2.2 gs (by have := LZ.out; simp; omega)⟩)
            have ZS := hide (Nat.le_trans ZA.out gs.size)
            have LX := hide (show (N.set T4 (p : Int)).length = 4 by simpa using LN.out)
            clear gs OA MA ZA BX LB
            go_upto_region 14 with fail
            generalize W3.setCell ⟨bt, T4, none⟩ (.int .i64 (p : Int)) = W4 at *
            clear ct ft
            have ga := grown_alloc W4 (.cells (arrI (N.set T4 (p : Int))) 22) none
            have OA := hide (OS.out.keep ga)
            have MA := hide (Mem2.keep MS.out ga)
            have ZA := hide (Nat.le_trans ZS.out ga.size)
            have BL := hide (Blk.new W4 22 (N.set T4 (p : Int)))
            have HXE := hide (show (fun p : Nat => N.set T4 (p : Int)) p = N.set T4 (p : Int) from rfl)
            clear ga OS MS ZS
            generalize hX1 : N.set T4 (p : Int) = X1 at BS LX BL HXE
            rw [hX1] at OA MA ZA
            clear hX1
            go_wp2_with (first | refine wpList_load_arr rfl 22 _ rfl _ rfl _ BS.out _ Try.underlying22 rfl (by rw [LX.out]; exact size4s) ?_ | refine wpList_lit4 rfl _ rfl X1 LX.out rfl ?_ | (at_builtin; refine wpList_app4 rfl _ _ rfl (w.heap.size + 2) p W4.heap.size _ (fun p => N.set T4 (p : Int)) X1 rfl rfl OA.out BL.out LX.out HXE.out (by omega) ZA.out ?_))
            intro v5 w5 h5 g5
            have hlt : ∀ b, u10.ownBlock = some b → w.heap.size + 2 ≤ b := fun b hb => (World.ownsRow.lt OA.out b hb).1
            have N5 := hide (show Own4 (w.heap.size + 2) w5 v5 (p + 1) (fun p => N.set T4 (p : Int)) ∧ Mem2 w w5 22 22 (zeros 4) N ∧ w.heap.size + 2 ≤ w5.heap.size from ⟨h5, by
              rcases eb : u10.ownBlock with _ | b
              · rw [eb] at g5; exact Mem2.keep MA.out g5
              · have := hlt b eb
                rw [eb] at g5
                exact ⟨MA.out.1.keepBut g5 (by omega), MA.out.2.1.keepBut g5 (by omega), grown_own MA.out.2.2 g5 (by omega)⟩, Nat.le_trans ZA.out g5.size⟩)
            clear h5 g5 hlt OA MA ZA BL BS HXE
            go_wp2_with fail
            go_roundw
            case rel => exact ⟨p + 1, by go_num, by omega, N5.out⟩
            case measure => simp [intOf]; omega
          · obtain rfl : p = 10 := by omega
            have A1 := hide (hI.out.1.arr (by omega) (fun i hi => by simpa using LN.out))
            have B1 := hide (BE.out wr hI.out.2.1.2.2 10 _ u10 (by omega) (by omega) (fun m hm => ⟨by simpa using LN.out, goodX_set GN.out _ _ (by omega) (by omega)⟩) A1.out)
            rw [← HEN.out] at B1
            have MI := hide hI.out.2.1
            clear A1 hI BE HEN
            rw [show ((10 : Nat) : Int) = 10 from rfl]
            go_wp2_with fail
            refine B1.out.mono ?_
            rintro e w6 ⟨rfl, g6⟩
            have M6 := hide (Mem2.keep MI.out g6)
            have B6 := hide M6.out.2.1
            have PU := put_arr (rs' := Y) B6.out (by rw [LY.out, LN.out])
            have M7 := hide (show Mem2 w (putArr w6 (w.heap.size + 1) Y) 22 22 (zeros 4) Y from ⟨M6.out.1.keepBut PU.2 (by omega), PU.1, grown_own M6.out.2.2 PU.2 (by omega)⟩)
            clear PU g6 B1 MI M6
            go_upto_region 7 with (first | refine wpList_store_arr rfl 22 _ _ rfl _ N Y rfl rfl B6.out (by rw [LY.out, LN.out]) (by rw [LN.out]; exact size4s) ?_)
            (try simp only [Act.put])
            clear B6
            generalize putArr w6 (w.heap.size + 1) Y = W7 at *
            go_wp2_with fail
            go_roundw
            case rel => exact ⟨k + 1, by go_num, by omega, by rw [HY.out]; exact M7.out⟩
            case measure => simp [intOf]; omega
      · obtain rfl : k = 8 := by omega
        have BX := hide hM.out.2.1
        have BZ := hide hM.out.1
        have GG := hide hM.out.2.2
        have NE := hide (show w.heap.size + 1 ≠ w.heap.size from by omega)
        clear hM BE STEP GD hz4 hbd
        generalize fewN (cS d) (eS d r) 8 = X at *
        generalize sgS d X 4 = G at *
        rw [show ((8 : Nat) : Int) = 8 from rfl]
        go_wp2_with fail
        refine wp_region_held_drew (S := fun w' => Blk w' (w.heap.size + 1) 22 X) (by kernel_rfl) (BX.out.keep (gw_start _)) (fun hHeld => ?_)
        refine wpAnyH_take (i := 0) (v := .agg (arrI X)) rfl (by kernel_rfl) (by kernel_rfl) (by kernel_rfl) (fun _ _ _ h => h) (Or.inl ⟨by rfl, ?yfb0⟩) hHeld ?rfb0
        case yfb0 => (intro w' hSw; exact yields_load_arr rfl rfl hSw _ Try.underlying22 rfl (by rw [HX.out]; exact size4s))
        (try simp only [Act.put, List.setIfInBounds_toArray, List.set_cons_zero, List.set_cons_succ, List.getElem_toArray, List.getElem_cons_zero, List.getElem_cons_succ])
        refine wpAnyH_take (i := 1) (v := ?vfb1) rfl (by kernel_rfl) (by kernel_rfl) (by kernel_rfl) (fun _ _ _ h => h) (Or.inl ⟨by rfl, ?yfb1⟩) hHeld ?rfb1
        case yfb1 => (intro w' hSw; go_simp; (try with_reducible rfl))
        (try simp only [Act.put, List.setIfInBounds_toArray, List.set_cons_zero, List.set_cons_succ, List.getElem_toArray, List.getElem_cons_zero, List.getElem_cons_succ])
        refine wpAnyH_take (i := 2) (v := .agg (arrI X)) rfl (by kernel_rfl) (by kernel_rfl) (by kernel_rfl) (fun _ _ _ h => h) (Or.inl ⟨by rfl, ?yfb2⟩) hHeld ?rfb2
        case yfb2 => (intro w' hSw; exact yields_load_arr rfl rfl hSw _ Try.underlying22 rfl (by rw [HX.out]; exact size4s))
        (try simp only [Act.put, List.setIfInBounds_toArray, List.set_cons_zero, List.set_cons_succ, List.getElem_toArray, List.getElem_cons_zero, List.getElem_cons_succ])
        refine wpAnyH_ready (rs := [3]) (by kernel_rfl) (by simp) (AllReadyH.cons rfl (fun K hK => ?_) AllReadyH.nil)
        (try simp only [Act.put, List.setIfInBounds_toArray, List.set_cons_zero, List.set_cons_succ, List.getElem_toArray, List.getElem_cons_zero, List.getElem_cons_succ])
        go_simp
        refine (SG.out _ (grown_none GG.out (gw_start wr))).mono ?_
        rintro e wk ⟨rfl, gk⟩
        have GK := hide gk
        clear gk
        go_wp2_with fail
        refine hK.out _ _ (hHeld.keep GK.out) (fun hHeld => ?_)
        clear hK
        (try simp only [Act.put, List.setIfInBounds_toArray, List.set_cons_zero, List.set_cons_succ, List.getElem_toArray, List.getElem_cons_zero, List.getElem_cons_succ])
        refine wpAnyH_ready (rs := [4]) (by kernel_rfl) (by simp) (AllReadyH.cons rfl (fun K hK => ?_) AllReadyH.nil)
        (try simp only [Act.put, List.setIfInBounds_toArray, List.set_cons_zero, List.set_cons_succ, List.getElem_toArray, List.getElem_cons_zero, List.getElem_cons_succ])
        have BZ6 := hide ((BZ.out.keep (gw_start wr)).keep GK.out)
        refine step_store_arr rfl 22 _ _ rfl w.heap.size (zeros 4) X rfl rfl BZ6.out (by rw [HX.out, zeros_len]) (by rw [zeros_len]; exact size4s) ?_
        have PU := put_arr (rs' := X) BZ6.out (by rw [HX.out, zeros_len])
        have hlv := hide (loadVar_arr PU.1 _ Try.underlying22 rfl (by rw [HX.out]; exact size4s))
        have FF := hide (FI.out _ (grown_own (grown_none (grown_none GG.out (gw_start wr)) GK.out) PU.2 (Nat.le_refl _)))
        have HH := hide (hHeld.keepBut PU.2 NE.out)
        clear PU BZ6
        generalize putArr wk w.heap.size X = w7 at *
        refine hK.out _ _ HH.out (fun hHeld => ?_)
        clear hK
        (try simp only [Act.put, List.setIfInBounds_toArray, List.set_cons_zero, List.set_cons_succ, List.getElem_toArray, List.getElem_cons_zero, List.getElem_cons_succ])
        refine wpAnyH_take (i := 5) (v := ?vfb5) rfl (by kernel_rfl) (by kernel_rfl) (by kernel_rfl) (fun _ _ _ h => h) (Or.inl ⟨by rfl, ?yfb5⟩) hHeld ?rfb5
        case yfb5 => (intro w' hSw; go_simp; (try with_reducible rfl))
        (try simp only [Act.put, List.setIfInBounds_toArray, List.set_cons_zero, List.set_cons_succ, List.getElem_toArray, List.getElem_cons_zero, List.getElem_cons_succ])
        refine wpAnyH_take (i := 6) (v := ?vfb6) rfl (by kernel_rfl) (by kernel_rfl) (by kernel_rfl) (fun _ _ _ h => h) (Or.inl ⟨by rfl, ?yfb6⟩) hHeld ?rfb6
        case yfb6 => (intro w' hSw; go_simp; (try with_reducible rfl))
        (try simp only [Act.put, List.setIfInBounds_toArray, List.set_cons_zero, List.set_cons_succ, List.getElem_toArray, List.getElem_cons_zero, List.getElem_cons_succ])
        refine wpAnyH_done (by kernel_rfl) ?_ _
        clear hHeld HH
        go_wp2_with fail
        refine bodyPost_ret (v := .tuple #[.agg (arrI X), .int .i64 G, .int .i64 0]) ?_ rfl FF.out
        simp [results, Try.results23, asAddr, Act.put, hlv.out]
  · have e2 : seX d r (fewX d r) = zeros 4 := by unfold seX; rw [if_neg he]
    have e3 : seG d r (fewX d r) = 0 := by unfold seG; rw [if_neg he]
    rw [e2, e3]
    have hb : (seE d r == 0) = false := by simp [he]
    obtain ⟨ad, cp, rfl, _, _⟩ := hd
    obtain ⟨ar, cr, rfl, _, _⟩ := hr
    clear e2 e3 he hl hl2 h64
    generalize seE d r = en at *
    go_enter Try.func23, Try.ntmps23
    go_upto_region 1 with fail
    generalize w.alloc (.cells (arrI (zeros 4)) 22) = W1 at *
    go_wp2_with fail
    refine (WR.out W1 G0.out).mono ?_
    rintro e w1 ⟨rfl, rfl⟩
    clear WR
    go_wp2_with (first | refine wpList_store_arr rfl 22 _ _ rfl _ (zeros 4) (zeros 4) rfl rfl BZ0.out rfl (by rw [zeros_len]; exact size4s) ?_)
    have PU := put_arr (rs' := zeros 4) BZ0.out rfl
    have hlv := loadVar_arr PU.1 _ Try.underlying22 rfl (by rw [zeros_len]; exact size4s)
    have GF := hide (grown_own G0.out PU.2 (Nat.le_refl _))
    refine bodyPost_ret (v := .tuple #[.agg (arrI (zeros 4)), .int .i64 0, .int .i64 en]) ?_ rfl ⟨rfl, GF.out⟩
    simp [results, Try.results23, asAddr, Act.put, hlv]
end Go.Proofs.Ytdeappknlcmbbaa
